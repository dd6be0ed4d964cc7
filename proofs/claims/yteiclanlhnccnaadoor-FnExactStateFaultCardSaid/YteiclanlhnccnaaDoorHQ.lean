/-
  What is looked for, put, taken away and laid anew in the queue of a list, of the pure answers.
-/
import Derived.Test.YteiclanlhnccnaaDoorMapQ
namespace Go.Proofs.YteiclanlhnccnaaDoor
set_option maxRecDepth 20000
open Go.RowKit
set_option linter.unusedSimpArgs false
set_option linter.unusedVariables false

theorem find_congr {p q : Nat → Bool} : ∀ {l : List Nat}, (∀ x ∈ l, p x = q x) → l.find? p = l.find? q
  | [], _ => rfl
  | x :: l, h => by
    rw [List.find?_cons, List.find?_cons, h x (by simp), find_congr (fun y hy => h y (by simp [hy]))]
theorem zip_at {l : List Hnt} {k : Nat} {a : Hnt} (h : l[k]? = some a) : (zipQ l)[k]? = some ((k : Int), a) := by
  have hk := getElem?_some_lt h
  unfold zipQ
  rw [List.getElem?_map, List.getElem?_range hk, Option.map_some, h]
  rfl
theorem first_zip (l : List Hnt) (h : Hnt) : firstQ (zipQ l) h = (findH l h.1 (idH h)).map fun (k : Nat) => ((k : Int), (l[k]?).getD zeroH) := by
  unfold firstQ zipQ findH
  rw [List.find?_map]
  congr 1
  refine find_congr fun i hi => ?_
  have hi' := List.mem_range.1 hi
  rw [hitH_at (List.getElem?_eq_getElem hi')]
  simp only [Function.comp_def, List.getElem?_eq_getElem hi', Option.getD_some]
  show sameH h l[i] = _
  rw [sameH_comm]
  rfl
theorem zip_hit {l : List Hnt} {p i : Int} {k : Nat} (hk : findH l p i = some k) {h : Hnt} (h1 : h.1 = p) (h2 : idH h = i) : ∃ a, l[k]? = some a ∧ (zipQ l)[k]? = some ((k : Int), a) ∧ sameH h a = true ∧ ∀ j b, j < k → (zipQ l)[j]? = some b → sameH h b.2 = false := by
  obtain ⟨hlt, hh, hal⟩ := findH_is hk
  have ha : l[k]? = some l[k] := List.getElem?_eq_getElem hlt
  refine ⟨l[k], ha, zip_at ha, ?_, fun j b hj hb => ?_⟩
  · rw [hitH_at ha, ← h1, ← h2] at hh
    rw [sameH_comm]
    exact hh
  · have hjl : j < l.length := by omega
    have e := zip_at (List.getElem?_eq_getElem hjl)
    rw [e] at hb
    obtain rfl := Option.some.inj hb
    have := hal j hj
    rw [hitH_at (List.getElem?_eq_getElem hjl), ← h1, ← h2] at this
    rw [sameH_comm]
    exact this
theorem add_zip {l : List Hnt} {h : Hnt} (hf : findH l h.1 (idH h) = none) : putQ (l.length : Int) h (zipQ l) = zipQ (l ++ [h]) := by
  rw [putQ_new, zipQ_append]
  rw [first_zip, hf]
  rfl
theorem erase_zip {l : List Hnt} {p i : Int} {k : Nat} (hk : findH l p i = some k) {h : Hnt} (h1 : h.1 = p) (h2 : idH h = i) : (eraseQ h (zipQ l)).map Prod.snd = l.take k ++ l.drop (k + 1) ∧ Rises (eraseQ h (zipQ l)) := by
  obtain ⟨a, ha, hz, hs, hal⟩ := zip_hit hk h1 h2
  have e := (setQ_at (x := (0, h)) hz hs hal).2
  simp only at e
  rw [e]
  refine ⟨?_, (rises_zip l).sublist (List.eraseIdx_sublist _ _)⟩
  rw [erase_map, zipQ_snd, List.eraseIdx_eq_take_drop_succ]
theorem set_zip {l : List Hnt} {p i : Int} {k : Nat} (hk : findH l p i = some k) {h : Hnt} (h1 : h.1 = p) (h2 : idH h = i) (t : Int) : (putQ t h (zipQ l)).map Prod.snd = l.set k h ∧ Rises (putQ t h (zipQ l)) := by
  obtain ⟨a, ha, hz, hs, hal⟩ := zip_hit hk h1 h2
  have hfirst : firstQ (zipQ l) h = some ((k : Int), a) := by
    rw [first_zip, h1, h2, hk, Option.map_some, ha]
    rfl
  have hturn : turnQ t h (zipQ l) = (k : Int) := by
    unfold turnQ
    rw [hfirst]
  rw [putQ_set, hturn, (setQ_at (x := ((k : Int), h)) hz hs hal).1]
  refine ⟨?_, ?_⟩
  · rw [List.map_set, zipQ_snd]
  · have e : ∀ L : List Qd, Rises L ↔ (L.map Prod.fst).Pairwise (· < ·) := fun L => by unfold Rises; rw [List.pairwise_map]
    rw [e, List.map_set]
    have hset : ((zipQ l).map Prod.fst).set k (k : Int) = (zipQ l).map Prod.fst := by
      apply List.ext_getElem?
      intro j
      rw [List.getElem?_set]
      by_cases hj : k = j
      · subst hj
        have : k < ((zipQ l).map Prod.fst).length := by rw [List.length_map]; exact getElem?_some_lt hz
        rw [if_pos rfl, if_pos this, List.getElem?_map, hz]
        rfl
      · rw [if_neg hj]
    rw [hset, ← e]
    exact rises_zip l
theorem queue_zip {l : List Hnt} (h : hintsFaultM l = 0) : queueM l = zipQ l := (queue_all l).1 ((hintsFault_iff l).1 h).2.2
end Go.Proofs.YteiclanlhnccnaaDoor
