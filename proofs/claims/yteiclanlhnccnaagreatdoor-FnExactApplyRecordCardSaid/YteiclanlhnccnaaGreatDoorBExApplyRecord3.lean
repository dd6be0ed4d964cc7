/-
  Texts of one proof, joined: each has its own namespace.
-/
import Derived.Test.YteiclanlhnccnaaGreatDoorBExApplyRecord2
import Derived.Test.YteiclanlhnccnaaGreatDoorBExApplyRecord1
import Derived.Test.YteiclanlhnccnaaGreatDoorBExApplyRecord0
/-
  What is asked of hints, of the pure answers: faults, one looked for, put, done, due, sent; a queue of hints by their keys.
-/
namespace Go.Proofs.YteiclanlhnccnaaGreatDoor
set_option maxRecDepth 20000
open Go.RowKit
set_option linter.unusedSimpArgs false
set_option linter.unusedVariables false

abbrev idH (x : Hnt) : Int := x.2.1.2.2.1
def sameH (a b : Hnt) : Bool := decide (a.1 = b.1) && decide (idH a = idH b)
theorem sameH_iff (a b : Hnt) : sameH a b = true ↔ a.1 = b.1 ∧ idH a = idH b := by unfold sameH; simp
theorem sameH_self (a : Hnt) : sameH a a = true := (sameH_iff a a).2 ⟨rfl, rfl⟩
theorem sameH_comm (a b : Hnt) : sameH a b = sameH b a := by
  rw [Bool.eq_iff_iff, sameH_iff, sameH_iff]
  exact ⟨fun h => ⟨h.1.symm, h.2.symm⟩, fun h => ⟨h.1.symm, h.2.symm⟩⟩
theorem sameH_trans {a b c : Hnt} (h : sameH a b = true) : sameH a c = sameH b c := by
  obtain ⟨h1, h2⟩ := (sameH_iff a b).1 h
  rw [Bool.eq_iff_iff, sameH_iff, sameH_iff, h1, h2]

def rangeH (h : Hnt) : Bool := inB (h.1, 0, 3) && (inB (h.2.2.1, 0, 4) && inB (h.2.2.2, 0, 200000))
def hfaultM (h : Hnt) : Int := if faultM h.2.1 ≠ 0 then 3 else if rangeH h then 0 else 3
theorem hfault_or (h : Hnt) : hfaultM h = 0 ∨ hfaultM h = 3 := by
  unfold hfaultM
  split
  · exact .inr rfl
  · split
    · exact .inl rfl
    · exact .inr rfl
theorem hfault_smp {h : Hnt} (k : faultM h.2.1 = 3) : hfaultM h = 3 := by unfold hfaultM; rw [if_pos (by simp [k])]
theorem hfault_yes {h : Hnt} (k : faultM h.2.1 = 0) (r : rangeH h = true) : hfaultM h = 0 := by unfold hfaultM; rw [if_neg (by simp [k]), if_pos r]
theorem hfault_no {h : Hnt} (k : faultM h.2.1 = 0) (r : rangeH h = false) : hfaultM h = 3 := by unfold hfaultM; rw [if_neg (by simp [k]), if_neg (by simp [r])]
theorem hfault_zero {h : Hnt} (k : hfaultM h = 0) : faultM h.2.1 = 0 ∧ rangeH h = true := by
  rcases faultM_or h.2.1 with hf | hf
  · rcases hr : rangeH h
    · rw [hfault_no hf hr] at k
      cases k
    · exact ⟨hf, rfl⟩
  · rw [hfault_smp hf] at k
    cases k

def rightHM (l : List Hnt) : Bool := l.all fun x => decide (hfaultM x = 0)
/-- No two are for one node and have one Id. -/
def Dis (l : List Hnt) : Prop := l.Pairwise fun a b => sameH a b = false
instance (l : List Hnt) : Decidable (Dis l) := inferInstanceAs (Decidable (List.Pairwise _ l))
def hintsFaultM (l : List Hnt) : Int := if 8 < l.length then 2 else if rightHM l = false then 3 else if Dis l then 0 else 6
theorem hintsFault_many {l : List Hnt} (h : 8 < l.length) : hintsFaultM l = 2 := if_pos h
theorem hintsFault_wrong {l : List Hnt} {k : Nat} {x : Hnt} (h : ¬ 8 < l.length) (hx : l[k]? = some x) (hf : hfaultM x = 3) : hintsFaultM l = 3 := by
  have hr : rightHM l = false := by
    unfold rightHM
    rw [List.all_eq_false]
    exact ⟨x, List.mem_of_getElem? hx, by simp [hf]⟩
  unfold hintsFaultM
  rw [if_neg h, if_pos hr]
theorem rightHM_of {l : List Hnt} {n : Nat} (hn : l.length = n) (hal : ∀ j x, j < n → l[j]? = some x → hfaultM x = 0) : rightHM l = true := by
  unfold rightHM
  rw [List.all_eq_true]
  intro x hx
  obtain ⟨j, hj⟩ := List.mem_iff_getElem?.1 hx
  exact decide_eq_true (hal j x (by have := getElem?_some_lt hj; omega) hj)
theorem hintsFault_taken {l : List Hnt} (h : ¬ 8 < l.length) (hr : rightHM l = true) (hd : ¬ Dis l) : hintsFaultM l = 6 := by
  unfold hintsFaultM
  rw [if_neg h, if_neg (by simp [hr]), if_neg hd]
theorem hintsFault_ok {l : List Hnt} (h : ¬ 8 < l.length) (hr : rightHM l = true) (hd : Dis l) : hintsFaultM l = 0 := by
  unfold hintsFaultM
  rw [if_neg h, if_neg (by simp [hr]), if_pos hd]
theorem hintsFault_iff (l : List Hnt) : hintsFaultM l = 0 ↔ l.length ≤ 8 ∧ (∀ x ∈ l, hfaultM x = 0) ∧ Dis l := by
  constructor
  · intro h
    unfold hintsFaultM at h
    by_cases h1 : 8 < l.length
    · rw [if_pos h1] at h; cases h
    · rw [if_neg h1] at h
      by_cases h2 : rightHM l = false
      · rw [if_pos h2] at h; cases h
      · rw [if_neg h2] at h
        by_cases h3 : Dis l
        · refine ⟨by omega, fun x hx => ?_, h3⟩
          have : rightHM l = true := by simpa using h2
          unfold rightHM at this
          rw [List.all_eq_true] at this
          exact of_decide_eq_true (this x hx)
        · rw [if_neg h3] at h; cases h
  · rintro ⟨h1, h2, h3⟩
    refine hintsFault_ok (by omega) ?_ h3
    unfold rightHM
    rw [List.all_eq_true]
    exact fun x hx => decide_eq_true (h2 x hx)

/-- One is looked for. -/
def hitH (l : List Hnt) (p i : Int) (k : Nat) : Bool := match l[k]? with | some a => decide (a.1 = p) && decide (idH a = i) | none => false
theorem hitH_at {l : List Hnt} {p i : Int} {k : Nat} {a : Hnt} (h : l[k]? = some a) : hitH l p i k = (decide (a.1 = p) && decide (idH a = i)) := by
  unfold hitH
  rw [h]
def findH (l : List Hnt) (p i : Int) : Option Nat := (List.range l.length).find? (hitH l p i)
def findHI (l : List Hnt) (p i : Int) : Int := match findH l p i with | some k => (k : Int) | none => -1
theorem findH_some {l : List Hnt} {p i : Int} {k : Nat} (hk : k < l.length) (h : hitH l p i k = true) (hal : ∀ j, j < k → hitH l p i j = false) : findH l p i = some k := by
  unfold findH
  rw [List.find?_range_eq_some]
  exact ⟨h, by simpa using hk, fun j hj => by simp [hal j hj]⟩
theorem findH_none {l : List Hnt} {p i : Int} (hal : ∀ j, j < l.length → hitH l p i j = false) : findH l p i = none := by
  unfold findH
  rw [List.find?_range_eq_none]
  exact fun j hj => by simp [hal j hj]
theorem findH_is {l : List Hnt} {p i : Int} {k : Nat} (h : findH l p i = some k) : k < l.length ∧ hitH l p i k = true ∧ ∀ j, j < k → hitH l p i j = false := by
  unfold findH at h
  rw [List.find?_range_eq_some] at h
  refine ⟨by simpa using h.2.1, h.1, fun j hj => by simpa using h.2.2 j hj⟩
theorem findHI_some {l : List Hnt} {p i : Int} {k : Nat} (hk : k < l.length) (h : hitH l p i k = true) (hal : ∀ j, j < k → hitH l p i j = false) : findHI l p i = (k : Int) := by
  unfold findHI
  rw [findH_some hk h hal]
theorem findHI_none {l : List Hnt} {p i : Int} {n : Nat} (hn : l.length = n) (hal : ∀ j, j < n → hitH l p i j = false) : findHI l p i = -1 := by
  unfold findHI
  rw [findH_none (by rw [hn]; exact hal)]
theorem findHI_or (l : List Hnt) (p i : Int) : (findHI l p i = -1 ∧ findH l p i = none) ∨ ∃ k : Nat, findHI l p i = (k : Int) ∧ findH l p i = some k ∧ k < l.length := by
  unfold findHI
  rcases h : findH l p i with _ | k
  · exact .inl ⟨rfl, rfl⟩
  · exact .inr ⟨k, rfl, rfl, (findH_is h).1⟩
theorem findHI_self {l : List Hnt} (hd : Dis l) {k : Nat} {a : Hnt} (h : l[k]? = some a) : findHI l a.1 (idH a) = (k : Int) := by
  refine findHI_some (getElem?_some_lt h) (by rw [hitH_at h]; simp) fun j hj => ?_
  have hk := getElem?_some_lt h
  have hjl : j < l.length := by omega
  rw [hitH_at (List.getElem?_eq_getElem hjl)]
  have := (List.pairwise_iff_getElem.1 hd) j k hjl hk hj
  rw [List.getElem?_eq_getElem hk] at h
  rw [Option.some.inj h] at this
  exact this
/-- Whether each is found at its own place tells whether no two are alike. -/
theorem dis_of {l : List Hnt} (h : ∀ (k : Nat) (a : Hnt), l[k]? = some a → findHI l a.1 (idH a) = (k : Int)) : Dis l := by
  refine List.pairwise_iff_getElem.2 fun i j hi hj hij => ?_
  rcases hs : sameH l[i] l[j]
  · rfl
  · exfalso
    obtain ⟨h1, h2⟩ := (sameH_iff _ _).1 hs
    have hf := h j _ (List.getElem?_eq_getElem hj)
    rcases findHI_or l l[j].1 (idH l[j]) with ⟨h3, _⟩ | ⟨k, h3, h4, _⟩
    · omega
    · obtain rfl : k = j := by omega
      have := (findH_is h4).2.2 i hij
      rw [hitH_at (List.getElem?_eq_getElem hi), h1, h2] at this
      simp at this

/-- What AddHint, DoneHint, DueHints, SentHint answer. -/
def addM (l : List Hnt) (p : Int) (x : Smp) : Int × List Hnt :=
  if hintsFaultM l ≠ 0 then (hintsFaultM l, []) else if faultM x ≠ 0 then (3, []) else if inB (p, 0, 3) = false then (3, []) else if 0 ≤ findHI l p x.2.2.1 then (6, []) else if 8 ≤ l.length then (7, []) else (0, l ++ [(p, x, 0, 0)])
def doneM (l : List Hnt) (p i : Int) : Int × List Hnt :=
  if hintsFaultM l ≠ 0 then (hintsFaultM l, []) else match findH l p i with | none => (4, []) | some k => (0, l.take k ++ l.drop (k + 1))
def dueL (l : List Hnt) (now : Int) : List Hnt := l.filter fun h => decide (h.2.2.2 ≤ now)
def dueM (l : List Hnt) (now : Int) : Int × List Hnt :=
  if hintsFaultM l ≠ 0 then (hintsFaultM l, []) else (0, dueL l now)
def sentH (now : Int) (h : Hnt) : Hnt := (h.1, h.2.1, (if h.2.2.1 + 1 < 4 then h.2.2.1 + 1 else 4), now + pw h.2.2.1.toNat)
def sentM (l : List Hnt) (p i now : Int) : Int × List Hnt :=
  if hintsFaultM l ≠ 0 then (hintsFaultM l, []) else if inB (now, 0, 100000) = false then (3, []) else match findH l p i with | none => (4, []) | some k => (0, l.set k (sentH now (l[k]?.getD zeroH)))
theorem take_nextH {α : Type} {l : List α} {k : Nat} {a : α} (h : l[k]? = some a) : l.take (k + 1) = l.take k ++ [a] := by
  have hl := getElem?_some_lt h
  rw [List.take_succ_eq_append_getElem hl]
  rw [List.getElem?_eq_getElem hl] at h
  rw [Option.some.inj h]
theorem due_next {l : List Hnt} {k : Nat} {a : Hnt} (now : Int) (h : l[k]? = some a) : dueL (l.take (k + 1)) now = dueL (l.take k) now ++ (if a.2.2.2 ≤ now then [a] else []) := by
  unfold dueL
  rw [take_nextH h, List.filter_append]
  congr 1
  simp [List.filter_cons]
theorem due_le (l : List Hnt) (now : Int) : (dueL l now).length ≤ l.length := List.length_filter_le _ _
theorem dueM_le (l : List Hnt) (now : Int) : (dueM l now).2.length ≤ l.length := by
  unfold dueM
  split
  · simp
  · exact due_le l now
theorem doneM_le (l : List Hnt) (p i : Int) : (doneM l p i).2.length ≤ l.length := by
  unfold doneM
  split
  · simp
  · split
    · simp
    · simp only [List.length_append, List.length_take, List.length_drop]
      omega
theorem sentM_le (l : List Hnt) (p i now : Int) : (sentM l p i now).2.length ≤ l.length := by
  unfold sentM
  repeat (first | split | simp)
theorem addM_le (l : List Hnt) (p : Int) (x : Smp) : (addM l p x).2.length ≤ l.length + 1 := by
  unfold addM
  repeat (first | split | simp)

/-- A queue: hints with their turns. -/
abbrev Qd := Int × Hnt
def putQ (t : Int) (h : Hnt) : List Qd → List Qd
  | [] => [(t, h)]
  | x :: L => if sameH h x.2 then (x.1, h) :: L else x :: putQ t h L
def firstQ (L : List Qd) (h : Hnt) : Option Qd := L.find? fun x => sameH h x.2
def eraseQ (h : Hnt) : List Qd → List Qd
  | [] => []
  | x :: L => if sameH h x.2 then L else x :: eraseQ h L
theorem putQ_new (t : Int) (h : Hnt) : ∀ {L : List Qd}, firstQ L h = none → putQ t h L = L ++ [(t, h)]
  | [], _ => rfl
  | x :: L, hn => by
    unfold firstQ at hn
    rw [List.find?_cons] at hn
    rcases hs : sameH h x.2
    · rw [hs] at hn
      have := putQ_new t h (L := L) hn
      unfold putQ
      rw [hs, this]
      rfl
    · rw [hs] at hn
      cases hn
theorem putQ_len (t : Int) (h : Hnt) : ∀ L : List Qd, (putQ t h L).length = if (firstQ L h).isSome then L.length else L.length + 1
  | [] => rfl
  | x :: L => by
    have ih := putQ_len t h L
    rcases hs : sameH h x.2
    · have e1 : putQ t h (x :: L) = x :: putQ t h L := by rw [putQ, hs]; rfl
      have e2 : firstQ (x :: L) h = firstQ L h := by unfold firstQ; rw [List.find?_cons, hs]
      rw [e1, e2, List.length_cons, ih, List.length_cons]
      split <;> rfl
    · have e1 : putQ t h (x :: L) = (x.1, h) :: L := by rw [putQ, hs]; rfl
      have e2 : firstQ (x :: L) h = some x := by unfold firstQ; rw [List.find?_cons, hs]
      rw [e1, e2]
      simp
theorem firstQ_none {L : List Qd} {h : Hnt} : firstQ L h = none ↔ ∀ x ∈ L.map Prod.snd, sameH h x = false := by
  unfold firstQ
  rw [List.find?_eq_none]
  constructor
  · intro k x hx
    obtain ⟨y, hy, rfl⟩ := List.mem_map.1 hx
    simpa using k y hy
  · intro k x hx
    have := k x.2 (List.mem_map.2 ⟨x, hx, rfl⟩)
    simp [this]
/-- One is laid at its key. -/
def setQ (x : Qd) : List Qd → List Qd
  | [] => [x]
  | a :: L => if sameH x.2 a.2 then x :: L else a :: setQ x L
def turnQ (t : Int) (h : Hnt) (L : List Qd) : Int := match firstQ L h with | some x => x.1 | none => t
theorem putQ_set (t : Int) (h : Hnt) : ∀ L : List Qd, putQ t h L = setQ (turnQ t h L, h) L
  | [] => rfl
  | x :: L => by
    have ih := putQ_set t h L
    rcases hs : sameH h x.2
    · have e2 : firstQ (x :: L) h = firstQ L h := by unfold firstQ; rw [List.find?_cons, hs]
      have e3 : turnQ t h (x :: L) = turnQ t h L := by unfold turnQ; rw [e2]
      rw [e3, putQ, setQ, hs, ih]
      rfl
    · have e2 : firstQ (x :: L) h = some x := by unfold firstQ; rw [List.find?_cons, hs]
      have e3 : turnQ t h (x :: L) = x.1 := by unfold turnQ; rw [e2]
      rw [e3, putQ, setQ, hs]
      rfl
/-- The queue of a list, turn by turn. -/
def queueN (L : List Qd) (t : Nat) : List Hnt → List Qd
  | [] => L
  | h :: l => queueN (putQ (t : Int) h L) (t + 1) l
def queueM (l : List Hnt) : List Qd := queueN [] 0 l
theorem queueN_append (h : Hnt) : ∀ (l : List Hnt) (L : List Qd) (t : Nat), queueN L t (l ++ [h]) = putQ ((t + l.length : Nat) : Int) h (queueN L t l)
  | [], L, t => rfl
  | x :: l, L, t => by
    have := queueN_append h l (putQ (t : Int) x L) (t + 1)
    simp only [List.cons_append, queueN, List.length_cons]
    rw [this]
    congr 2
    omega
theorem queue_next {l : List Hnt} {k : Nat} {a : Hnt} (h : l[k]? = some a) : queueM (l.take (k + 1)) = putQ (k : Int) a (queueM (l.take k)) := by
  have hl := getElem?_some_lt h
  unfold queueM
  rw [take_nextH h, queueN_append, Nat.zero_add, List.length_take, Nat.min_eq_left (by omega)]
/-- A list turn by turn. -/
def zipQ (l : List Hnt) : List Qd := (List.range l.length).map fun (i : Nat) => ((i : Int), (l[i]?).getD zeroH)
theorem zipQ_append (l : List Hnt) (h : Hnt) : zipQ (l ++ [h]) = zipQ l ++ [((l.length : Int), h)] := by
  unfold zipQ
  rw [List.length_append, List.length_singleton, List.range_succ, List.map_append]
  congr 1
  · apply List.map_congr_left
    intro i hi
    have := List.mem_range.1 hi
    rw [List.getElem?_append_left this]
  · simp
theorem zipQ_snd (l : List Hnt) : (zipQ l).map Prod.snd = l := by
  apply List.ext_getElem?
  intro i
  unfold zipQ
  rw [List.map_map, List.getElem?_map]
  rcases Nat.lt_or_ge i l.length with h | h
  · rw [List.getElem?_range h, Option.map_some]
    simp [List.getElem?_eq_getElem h]
  · rw [List.getElem?_eq_none (by simpa using h), List.getElem?_eq_none h]
    rfl
theorem dis_append {l : List Hnt} {h : Hnt} : Dis (l ++ [h]) ↔ Dis l ∧ ∀ x ∈ l, sameH x h = false := by
  unfold Dis
  rw [List.pairwise_append]
  simp
theorem queue_all (l : List Hnt) : (Dis l → queueM l = zipQ l) ∧ (¬ Dis l → (queueM l).length < l.length) ∧ (queueM l).length ≤ l.length := by
  have step : ∀ k, k ≤ l.length → (Dis (l.take k) → queueM (l.take k) = zipQ (l.take k)) ∧ (¬ Dis (l.take k) → (queueM (l.take k)).length < k) ∧ (queueM (l.take k)).length ≤ k := by
    intro k
    induction k with
    | zero => intro _; exact ⟨fun _ => rfl, fun h => absurd List.Pairwise.nil h, Nat.le_refl _⟩
    | succ k ih =>
      intro hk
      obtain ⟨h1, h2, h3⟩ := ih (by omega)
      have ha : l[k]? = some l[k] := List.getElem?_eq_getElem (by omega)
      have hlen : (l.take k).length = k := by rw [List.length_take]; omega
      rw [queue_next ha, putQ_len]
      refine ⟨fun hd => ?_, fun hd => ?_, by split <;> omega⟩
      · rw [take_nextH ha, dis_append] at hd
        have hz := h1 hd.1
        have hf : firstQ (queueM (l.take k)) l[k] = none := by
          rw [firstQ_none, hz, zipQ_snd]
          exact fun x hx => by rw [sameH_comm]; exact hd.2 x hx
        rw [putQ_new _ _ hf, hz, take_nextH ha, zipQ_append, hlen]
      · by_cases hd' : Dis (l.take k)
        · have hz := h1 hd'
          have hf : (firstQ (queueM (l.take k)) l[k]).isSome = true := by
            rw [Option.isSome_iff_ne_none]
            intro hn
            refine hd ?_
            rw [take_nextH ha, dis_append]
            refine ⟨hd', fun x hx => ?_⟩
            rw [firstQ_none, hz, zipQ_snd] at hn
            rw [sameH_comm]
            exact hn x hx
          rw [if_pos hf]
          rw [hz] 
          unfold zipQ
          rw [List.length_map, List.length_range, hlen]
          omega
        · have := h2 hd'
          split <;> omega
  have := step l.length (Nat.le_refl _)
  rwa [List.take_length] at this
/-- Turns rise. -/
def Rises (L : List Qd) : Prop := L.Pairwise fun x y => x.1 < y.1
theorem rises_zip (l : List Hnt) : Rises (zipQ l) := by
  unfold Rises zipQ
  rw [List.pairwise_map]
  exact (List.pairwise_lt_range).imp fun {a b} h => by simpa using h
theorem zipQ_len (l : List Hnt) : (zipQ l).length = l.length := by simp [zipQ]
end Go.Proofs.YteiclanlhnccnaaGreatDoor
/-
  A store's bounds and order: the model's StoreFault.
-/
namespace Go.Proofs.YteiclanlhnccnaaGreatDoor
set_option maxRecDepth 20000
open Go.RowKit
set_option linter.unusedSimpArgs false

/-- The i-th is ahead of the next one. -/
def stepM (l : List Smp) (i : Nat) : Bool := match l[i]?, l[i + 1]? with | some a, some b => aheadM a b | _, _ => true
theorem stepM_at {l : List Smp} {i : Nat} {a b : Smp} (ha : l[i]? = some a) (hb : l[i + 1]? = some b) : stepM l i = aheadM a b := by
  unfold stepM
  rw [ha, hb]
def risesM (l : List Smp) : Bool := (List.range l.length).all (stepM l)
def rightM (l : List Smp) : Bool := l.all fun x => decide (faultM x = 0)
def storeFaultM (l : List Smp) : Int := if 160 < l.length then 2 else if rightM l = false then 3 else if risesM l = false then 1 else 0
theorem storeFault_many {l : List Smp} (h : 160 < l.length) : storeFaultM l = 2 := if_pos h
theorem storeFault_wrong {l : List Smp} {k : Nat} {x : Smp} (h : ¬ 160 < l.length) (hx : l[k]? = some x) (hf : faultM x = 3) : storeFaultM l = 3 := by
  have hr : rightM l = false := by
    unfold rightM
    rw [List.all_eq_false]
    exact ⟨x, List.mem_of_getElem? hx, by simp [hf]⟩
  unfold storeFaultM
  rw [if_neg h, if_pos hr]
theorem rightM_of {l : List Smp} {n : Nat} (hn : l.length = n) (hal : ∀ j x, j < n → l[j]? = some x → faultM x = 0) : rightM l = true := by
  unfold rightM
  rw [List.all_eq_true]
  intro x hx
  obtain ⟨j, hj⟩ := List.mem_iff_getElem?.1 hx
  exact decide_eq_true (hal j x (by have := getElem?_some_lt hj; omega) hj)
theorem storeFault_form {l : List Smp} {k : Nat} (h : ¬ 160 < l.length) (hr : rightM l = true) (hk : k < l.length) (hs : stepM l k = false) : storeFaultM l = 1 := by
  have hq : risesM l = false := by
    unfold risesM
    rw [List.all_eq_false]
    exact ⟨k, List.mem_range.2 hk, by simp [hs]⟩
  unfold storeFaultM
  rw [if_neg h, if_neg (by simp [hr]), if_pos hq]
theorem storeFault_ok {l : List Smp} {n : Nat} (hn : l.length = n) (h : ¬ 160 < l.length) (hr : rightM l = true) (hal : ∀ j, j + 1 < n → stepM l j = true) : storeFaultM l = 0 := by
  have hq : risesM l = true := by
    unfold risesM
    rw [List.all_eq_true]
    intro j hj
    have hj' := List.mem_range.1 hj
    rcases Nat.lt_or_ge (j + 1) n with h1 | h1
    · exact hal j h1
    · unfold stepM
      rw [List.getElem?_eq_none (l := l) (i := j + 1) (by omega)]
      cases l[j]? <;> rfl
  unfold storeFaultM
  rw [if_neg h, if_neg (by simp [hr]), if_neg (by simp [hq])]

def RightRel (w : World) (l : List Smp) (n : Nat) (i : Value) (wr : World) : Prop :=
  ∃ k : Nat, k ≤ n ∧ i = .int .i64 k ∧ (∀ j x, j < k → l[j]? = some x → faultM x = 0) ∧ Below w.heap.size w wr
def RiseRel (w : World) (l : List Smp) (n : Nat) (i : Value) (wr : World) : Prop :=
  ∃ k : Nat, (k + 1 ≤ n ∨ k = 0) ∧ i = .int .i64 ((k + 1 : Nat) : Int) ∧ (∀ j, j < k → stepM l j = true) ∧ Below w.heap.size w wr

set_option maxHeartbeats 2000000 in
theorem specStoreFault (A : Option Addr) (n c : Nat) (l : List Smp) (w : World) (ha : Rd eS w w.heap.size A l) (hn : l.length = n) :
    Calls Tryz.prog 74 #[.slice A n c] w fun e w' => e = .returned (.int .i64 (storeFaultM l)) ∧ Below w.heap.size w w' := by
  by_cases hbig : 160 < n
  · have hb : (160 : Int) < (n : Int) := by omega
    rw [storeFault_many (by omega)]
    go_enter Tryz.func74, Tryz.ntmps74
    go_wp2
    go_ret
    exact ⟨rfl, Below.refl _ _⟩
  have hb : (n : Int) ≤ 160 := by omega
  have Hbig := Lib.hid (show ¬ 160 < l.length by omega)
  have Hn := Lib.hid hn
  clear hn hbig
  go_enter Tryz.func74, Tryz.ntmps74
  go_wp2
  go_loopw [3] (fun i wr => RightRel w l n i wr) (fun i _ => n - (intOf i).toNat)
  case atStart => exact ⟨0, Nat.zero_le _, rfl, fun _ _ h => absurd h (by omega), Below.refl _ _⟩
  case round =>
    obtain ⟨k, hk, rfl, hal, hbel⟩ := hrel
    have Hal := Lib.hid hal
    clear hal
    by_cases hlt : k < n
    · obtain ⟨g, o, a0, a1, a2, a3, rfl, hg, hx, c0, c1, c2, c3⟩ := (ha.below hbel (Nat.le_refl _)).smp (k := k) (by rw [Hn.out]; exact hlt)
      rcases faultM_or (a0, a1, a2, a3) with hf | hf
      · have hq := specSampleFault a0 a1 a2 a3 wr
        rw [hf] at hq
        have Hx := Lib.hid hx
        have Hf := Lib.hid hf
        clear hx hf
        go_wp2_with fail
        refine hq.mono ?_
        rintro e w2 ⟨rfl, hb2⟩
        have hB2 := hbel.trans (hb2.mono hbel.size)
        go_wp2
        refine ⟨⟨k + 1, by omega, by go_num, fun j x hj hx => ?_, hB2⟩, by simp [intOf]; omega⟩
        rcases Nat.lt_or_ge j k with h | h
        · exact Hal.out j x h hx
        · obtain rfl : j = k := by omega
          obtain rfl := Option.some.inj (Hx.out.symm.trans hx)
          exact Hf.out
      · have hq := specSampleFault a0 a1 a2 a3 wr
        rw [hf] at hq
        have Hr := Lib.hid (storeFault_wrong Hbig.out hx hf)
        clear hx hf
        go_wp2_with fail
        refine hq.mono ?_
        rintro e w2 ⟨rfl, hb2⟩
        have hB2 := hbel.trans (hb2.mono hbel.size)
        go_wp2
        go_ret
        exact ⟨by rw [Hr.out]; rfl, hB2⟩
    · obtain rfl : n = k := by omega
      have Hright := Lib.hid (rightM_of Hn.out Hal.out)
      clear Hal
      go_wp2
      go_loopw [5] (fun i wr => RiseRel w l n i wr) (fun i _ => n - (intOf i).toNat)
      case atStart => exact ⟨0, .inr rfl, rfl, fun _ h => absurd h (by omega), hbel⟩
      case round =>
        obtain ⟨k, hk, rfl, hal, hbel⟩ := hrel
        have Hal := Lib.hid hal
        clear hal
        by_cases hlt : k + 1 < n
        · obtain ⟨g, o, a0, a1, a2, a3, rfl, hg, hx, ca⟩ := (ha.below hbel (Nat.le_refl _)).smp (k := k) (by rw [Hn.out]; omega)
          obtain ⟨g', o', b0, b1, b2, b3, e', hg', hy, cb⟩ := (ha.below hbel (Nat.le_refl _)).smp (k := k + 1) (by rw [Hn.out]; omega)
          obtain ⟨rfl, rfl⟩ : g = g' ∧ o = o' := by simpa using Option.some.inj e'
          have Hst := Lib.hid (stepM_at hx hy)
          clear hx hy e'
          have hbd := hbel.drew
          have hw : IntKind.i64.wrap (k : Int) = (k : Int) := IntWalk.i64_in _ (by omega)
          have i1 : (k : Int) < (n : Int) := by omega
          have i2 : (k : Int) + 1 < (n : Int) := by omega
          have i3 : (0 : Int) ≤ (k : Int) + 1 := by omega
          have i4 : ((k : Int) + 1).toNat = k + 1 := by omega
          go_wp2
          refine wp_region_mix [(0, false), (1, false), (2, false), (3, false), (4, false), (5, false), (6, false), (7, false), (8, false), (9, true), (10, false)] (fun u => S4 u g (o + k * 4) a0 a1 a2 a3 ∧ S4 u g (o + (k + 1) * 4) b0 b1 b2 b3) (by kernel_rfl) (by kernel_rfl) (fun _ _ _ _ _ h => h) ⟨ca.drew, cb.drew⟩ ?_
          simp only [mixOps, List.map_cons, List.map_nil, List.getElem?_cons_succ, List.getElem?_cons_zero, Option.getD_some]
          repeat (first
            | (refine mix_skip (by rfl) ?_
               (try simp only [Act.put, List.setIfInBounds_toArray, List.set_cons_zero, List.set_cons_succ]))
            | (refine mix_pure (v := ?_) (by rfl) (fun u hu => ?_) ?_
               rotate_left
               · obtain ⟨⟨_, _, _, _⟩, _, _, _, _⟩ := hu
                 go_simp
                 (with_reducible rfl)
               (try simp only [Act.put, List.setIfInBounds_toArray, List.set_cons_zero, List.set_cons_succ])))
          refine mix_call (by rfl) (fun K hK => ?_)
          go_simp
          refine (specIsAhead a0 a1 a2 a3 b0 b1 b2 b3 _).mono ?_
          rintro e w1 ⟨rfl, hb1⟩
          have hB1 := hbd.trans (hb1.mono hbd.size)
          refine hK _ _ _ (fun _ h => h) ⟨ca.drew.below hb1 (Nat.lt_of_lt_of_le hg hbd.size), cb.drew.below hb1 (Nat.lt_of_lt_of_le hg hbd.size)⟩ ?_
          (try simp only [Act.put, List.setIfInBounds_toArray, List.set_cons_zero, List.set_cons_succ])
          rw [← Hst.out]
          rcases hs : stepM l k
          · have Hf := Lib.hid (storeFault_form Hbig.out Hright.out (show k < l.length by rw [Hn.out]; omega) hs)
            clear hs
            refine mix_pure (v := ?_) (by rfl) (fun u hu => ?_) ?_
            rotate_left
            · go_simp
              (with_reducible rfl)
            (try simp only [Act.put, List.setIfInBounds_toArray, List.set_cons_zero, List.set_cons_succ])
            refine mix_nil ?_
            go_wp2
            go_ret
            exact ⟨by rw [Hf.out]; rfl, hB1⟩
          · have Hs := Lib.hid hs
            clear hs
            refine mix_pure (v := ?_) (by rfl) (fun u hu => ?_) ?_
            rotate_left
            · go_simp
              (with_reducible rfl)
            (try simp only [Act.put, List.setIfInBounds_toArray, List.set_cons_zero, List.set_cons_succ])
            refine mix_nil ?_
            go_wp2
            refine ⟨⟨k + 1, .inl (by omega), by go_num, fun j hj => ?_, hB1⟩, by simp [intOf]; omega⟩
            rcases Nat.lt_or_ge j k with h | h
            · exact Hal.out j h
            · obtain rfl : j = k := by omega
              exact Hs.out
        · have hq := storeFault_ok Hn.out Hbig.out Hright.out (fun j hj => Hal.out j (by omega))
          have Hq := Lib.hid hq
          clear hq
          have i5 : ¬ (k : Int) + 1 < (n : Int) := by omega
          go_wp2
          go_ret
          exact ⟨by rw [Hq.out]; rfl, hbel⟩
end Go.Proofs.YteiclanlhnccnaaGreatDoor
/-
  What is asked of records, of the pure answers: their form, their faults, their bytes.
-/
namespace Go.Proofs.YteiclanlhnccnaaGreatDoor
set_option maxRecDepth 20000
open Go.RowKit
set_option linter.unusedSimpArgs false
set_option linter.unusedVariables false

/-- What a record does not need is zero. -/
def formM (r : Rcd) (a b c : Bool) : Bool := (a || decide (r.2.1 = 0)) && ((b || decide (r.2.2.1 = (0, 0, 0, 0))) && (c || decide (r.2.2.2 = 0)))
def recFormM (r : Rcd) : Bool := if r.1 = 1 then formM r false true false else if r.1 = 2 then formM r true true false else if r.1 = 3 then formM r true false true else if r.1 = 4 then formM r false false true else false
def mostM (r : Rcd) : Int := if r.1 = 4 then 60000 else 9999
def rrangeM (r : Rcd) (m : Int) : Int := if (inB (r.2.1, 0, 3) && inB (r.2.2.2, 0, m)) = true then faultM r.2.2.1 else 3
def recFaultM (r : Rcd) : Int := if recFormM r = true then rrangeM r (mostM r) else 1
theorem recFault_form {r : Rcd} (h : recFormM r = false) : recFaultM r = 1 := by unfold recFaultM; rw [if_neg (by simp [h])]
theorem recFault_range {r : Rcd} (h : recFormM r = true) : recFaultM r = rrangeM r (mostM r) := by unfold recFaultM; rw [if_pos h]
/-- A store, hints, a life. -/
abbrev Sta := List Smp × List Hnt × Int
def stateFaultM (s : Sta) : Int := if storeFaultM s.1 ≠ 0 then storeFaultM s.1 else if hintsFaultM s.2.1 ≠ 0 then hintsFaultM s.2.1 else if inB (s.2.2, 0, 60000) = true then 0 else 3
end Go.Proofs.YteiclanlhnccnaaGreatDoor
/-
  A state: the law's own measuring and copying of it.
-/
namespace Go.Proofs.YteiclanlhnccnaaGreatDoor
set_option maxRecDepth 20000
open Go.RowKit
set_option linter.unusedSimpArgs false
set_option linter.unusedVariables false

set_option maxHeartbeats 1000000 in
theorem szState_no (A B : Option Addr) (n c m d : Nat) (life : Int) (w : World) (hn : n ≤ maxLen) (hm : m ≤ maxLen) (h : 1048576 < n + m) :
    Calls Tryz.prog 29 #[.agg #[.slice A n c, .slice B m d, .int .i64 life], .int .i64 1048576] w fun e w' => e = .returned (.int .i64 (-1)) ∧ Below w.heap.size w w' := by
  have hB0 : Below w.heap.size w (w.alloc (.cells #[.slice A n c, .slice B m d, .int .i64 life] 60)) := (Below.refl _ _).alloc (Nat.le_refl _) _
  have x0 := At.new w 60 #[.slice A n c, .slice B m d, .int .i64 life]
  obtain ⟨c0, c1, c2, _, _, _⟩ := x0.three
  by_cases hbig : 1048576 < n
  · clear h
    go_enter Tryz.func29, Tryz.ntmps29
    go_wp2_with fail
    refine (szSampleS A n c 1048576 _ (by omega) (by omega) hn).mono ?_
    rintro e w' ⟨rfl, rfl⟩
    rw [if_pos (by omega)]
    go_wp2
    go_ret
    exact ⟨rfl, hB0⟩
  · have hl : ¬ (1048576 : Int) - (n : Int) < 0 := by omega
    have h2 : (1048576 : Int) - (n : Int) < (m : Int) := by omega
    have h0 : (0 : Int) ≤ 1048576 - (n : Int) := by omega
    have h1 : (1048576 : Int) - (n : Int) ≤ 1048576 := by omega
    have hnb : ¬ ((1048576 : Int) < (n : Int)) := by omega
    have S1 := szSampleS A n c 1048576 (w.alloc (.cells #[.slice A n c, .slice B m d, .int .i64 life] 60)) (by omega) (by omega) hn
    rw [if_neg hnb] at S1
    have S2 := szHintS B m d (1048576 - (n : Int)) (w.alloc (.cells #[.slice A n c, .slice B m d, .int .i64 life] 60)) h0 h1 hm
    rw [if_pos h2] at S2
    clear h hbig hnb h2
    go_enter Tryz.func29, Tryz.ntmps29
    go_wp2_with fail
    refine S1.mono ?_
    rintro e w' ⟨rfl, rfl⟩
    go_wp2_with fail
    refine S2.mono ?_
    rintro e w' ⟨rfl, rfl⟩
    go_wp2
    go_ret
    exact ⟨rfl, hB0⟩
set_option maxHeartbeats 1000000 in
theorem szState_ok (A B : Option Addr) (n c m d : Nat) (life : Int) (w : World) (hn : n ≤ maxLen) (hm : m ≤ maxLen) (h : n + m ≤ 1048576) :
    Calls Tryz.prog 29 #[.agg #[.slice A n c, .slice B m d, .int .i64 life], .int .i64 1048576] w fun e w' => e = .returned (.int .i64 (1048576 - (n : Int) - (m : Int))) ∧ Below w.heap.size w w' := by
  have hB0 : Below w.heap.size w (w.alloc (.cells #[.slice A n c, .slice B m d, .int .i64 life] 60)) := (Below.refl _ _).alloc (Nat.le_refl _) _
  have x0 := At.new w 60 #[.slice A n c, .slice B m d, .int .i64 life]
  obtain ⟨c0, c1, c2, _, _, _⟩ := x0.three
  have hl : ¬ (1048576 : Int) - (n : Int) < 0 := by omega
  have hl2 : ¬ (1048576 : Int) - (n : Int) - (m : Int) < 0 := by omega
  have h0 : (0 : Int) ≤ 1048576 - (n : Int) := by omega
  have h1 : (1048576 : Int) - (n : Int) ≤ 1048576 := by omega
  have S1 := szSampleS A n c 1048576 (w.alloc (.cells #[.slice A n c, .slice B m d, .int .i64 life] 60)) (by omega) (by omega) hn
  rw [if_neg (by omega)] at S1
  have S2 := szHintS B m d (1048576 - (n : Int)) (w.alloc (.cells #[.slice A n c, .slice B m d, .int .i64 life] 60)) h0 h1 hm
  rw [if_neg (by omega)] at S2
  clear h
  go_enter Tryz.func29, Tryz.ntmps29
  go_wp2_with fail
  refine S1.mono ?_
  rintro e w' ⟨rfl, rfl⟩
  go_wp2_with fail
  refine S2.mono ?_
  rintro e w' ⟨rfl, rfl⟩
  go_wp2
  go_ret
  exact ⟨rfl, hB0⟩
set_option maxHeartbeats 1000000 in
theorem szState_gen (A B : Option Addr) (n c m d : Nat) (life left : Int) (w : World) (h0 : 0 ≤ left) (h1 : left ≤ 1048576) (hn : n ≤ maxLen) (hm : m ≤ maxLen) :
    Calls Tryz.prog 29 #[.agg #[.slice A n c, .slice B m d, .int .i64 life], .int .i64 left] w fun e w' => e = .returned (.int .i64 (if left < (n : Int) + m then -1 else left - n - m)) ∧ Below w.heap.size w w' := by
  have hB0 : Below w.heap.size w (w.alloc (.cells #[.slice A n c, .slice B m d, .int .i64 life] 60)) := (Below.refl _ _).alloc (Nat.le_refl _) _
  have x0 := At.new w 60 #[.slice A n c, .slice B m d, .int .i64 life]
  obtain ⟨c0, c1, c2, _, _, _⟩ := x0.three
  have S1 := szSampleS A n c left (w.alloc (.cells #[.slice A n c, .slice B m d, .int .i64 life] 60)) h0 h1 hn
  by_cases hbig : left < (n : Int)
  · rw [if_pos hbig] at S1
    rw [if_pos (by omega)]
    clear hbig
    go_enter Tryz.func29, Tryz.ntmps29
    go_wp2_with fail
    refine S1.mono ?_
    rintro e w' ⟨rfl, rfl⟩
    go_wp2
    go_ret
    exact ⟨rfl, hB0⟩
  rw [if_neg hbig] at S1
  have hl : ¬ left - (n : Int) < 0 := by omega
  have S2 := szHintS B m d (left - (n : Int)) (w.alloc (.cells #[.slice A n c, .slice B m d, .int .i64 life] 60)) (by omega) (by omega) hm
  by_cases hb2 : left - (n : Int) < (m : Int)
  · rw [if_pos hb2] at S2
    rw [if_pos (by omega)]
    clear hbig hb2
    go_enter Tryz.func29, Tryz.ntmps29
    go_wp2_with fail
    refine S1.mono ?_
    rintro e w' ⟨rfl, rfl⟩
    go_wp2_with fail
    refine S2.mono ?_
    rintro e w' ⟨rfl, rfl⟩
    go_wp2
    go_ret
    exact ⟨rfl, hB0⟩
  · rw [if_neg hb2] at S2
    rw [if_neg (by omega)]
    have hl2 : ¬ left - (n : Int) - (m : Int) < 0 := by omega
    clear hbig hb2
    go_enter Tryz.func29, Tryz.ntmps29
    go_wp2_with fail
    refine S1.mono ?_
    rintro e w' ⟨rfl, rfl⟩
    go_wp2_with fail
    refine S2.mono ?_
    rintro e w' ⟨rfl, rfl⟩
    go_wp2
    go_ret
    exact ⟨rfl, hB0⟩
set_option maxHeartbeats 2000000 in
theorem toState (A B : Option Addr) (n c m d : Nat) (l : List Smp) (h : List Hnt) (life : Int) (w : World) (ha : Rd eL w w.heap.size A l) (hb : Rd eM w w.heap.size B h) (hn : l.length = n) (hm : h.length = m) (hnm : n ≤ 1048576) (hmm : m ≤ 1048576) :
    Calls Tryz.prog 30 #[.agg #[.slice A n c, .slice B m d, .int .i64 life]] w fun e w' => ∃ A' c' B' d', e = .returned (.agg #[.slice A' n c', .slice B' m d', .int .i64 life]) ∧ Ow eS w' w.heap.size A' n c' l ∧ Ow eH w' w.heap.size B' m d' h ∧ Below w.heap.size w w' := by
  have hb3 : Below w.heap.size w (((w.alloc (.cells #[.slice A n c, .slice B m d, .int .i64 life] 60)).alloc (.cells #[.slice none 0 0, .slice none 0 0, .int .i64 0] 39)).alloc (.cells #[.slice none 0 0, .slice none 0 0, .int .i64 0] 39)) := (((Below.refl _ _).alloc (Nat.le_refl _) _).alloc (by simp) _).alloc (by simp; omega) _
  have x3 : At (((w.alloc (.cells #[.slice A n c, .slice B m d, .int .i64 life] 60)).alloc (.cells #[.slice none 0 0, .slice none 0 0, .int .i64 0] 39)).alloc (.cells #[.slice none 0 0, .slice none 0 0, .int .i64 0] 39)) w.heap.size 60 #[.slice A n c, .slice B m d, .int .i64 life] := ((At.new w 60 #[.slice A n c, .slice B m d, .int .i64 life]).alloc _).alloc _
  have r3 : At (((w.alloc (.cells #[.slice A n c, .slice B m d, .int .i64 life] 60)).alloc (.cells #[.slice none 0 0, .slice none 0 0, .int .i64 0] 39)).alloc (.cells #[.slice none 0 0, .slice none 0 0, .int .i64 0] 39)) (w.heap.size + 1) 39 #[.slice none 0 0, .slice none 0 0, .int .i64 0] := by
    have := (At.new (w.alloc (.cells #[.slice A n c, .slice B m d, .int .i64 life] 60)) 39 #[.slice none 0 0, .slice none 0 0, .int .i64 0]).alloc (.cells #[.slice none 0 0, .slice none 0 0, .int .i64 0] 39)
    simpa using this
  have o3 : At (((w.alloc (.cells #[.slice A n c, .slice B m d, .int .i64 life] 60)).alloc (.cells #[.slice none 0 0, .slice none 0 0, .int .i64 0] 39)).alloc (.cells #[.slice none 0 0, .slice none 0 0, .int .i64 0] 39)) (w.heap.size + 2) 39 #[.slice none 0 0, .slice none 0 0, .int .i64 0] := by
    have := At.new ((w.alloc (.cells #[.slice A n c, .slice B m d, .int .i64 life] 60)).alloc (.cells #[.slice none 0 0, .slice none 0 0, .int .i64 0] 39)) 39 #[.slice none 0 0, .slice none 0 0, .int .i64 0]
    simpa using this
  have hs3 : (((w.alloc (.cells #[.slice A n c, .slice B m d, .int .i64 life] 60)).alloc (.cells #[.slice none 0 0, .slice none 0 0, .int .i64 0] 39)).alloc (.cells #[.slice none 0 0, .slice none 0 0, .int .i64 0] 39)).heap.size = w.heap.size + 3 := by simp
  obtain ⟨c0, c1, c2, _, _, _⟩ := x3.three
  have Hn := Lib.hid hn
  have Hm := Lib.hid hm
  clear hn hm
  go_enter Tryz.func30, Tryz.ntmps30
  go_wp2_with fail
  refine (toSampleS A n c l _ (ha.lift hb3) Hn.out hnm).mono ?_
  rintro e w4 ⟨A', c', rfl, ox, hb4⟩
  have x4 := x3.below hb4 x3.lt
  have r4 := r3.below hb4 r3.lt
  have o4 := o3.below hb4 o3.lt
  have hB4 := hb3.trans (hb4.mono hb3.size)
  rw [hs3] at ox
  clear x3 r3 o3 c0 c1 c2 hb4 hb3 hs3
  obtain ⟨c0, c1, c2, _, _, _⟩ := x4.three
  obtain ⟨d0, d1, d2, f0, f1, f2⟩ := o4.three
  have hB5 : Below w.heap.size w (w4.setCell ⟨w.heap.size + 2, 0, none⟩ (.slice A' n c')) := hB4.setCell (by simp) _
  have x5 : At (w4.setCell ⟨w.heap.size + 2, 0, none⟩ (.slice A' n c')) w.heap.size 60 #[.slice A n c, .slice B m d, .int .i64 life] := x4.far (by simp) _
  have r5 : At (w4.setCell ⟨w.heap.size + 2, 0, none⟩ (.slice A' n c')) (w.heap.size + 1) 39 #[.slice none 0 0, .slice none 0 0, .int .i64 0] := r4.far (by simp) _
  have o5 : At (w4.setCell ⟨w.heap.size + 2, 0, none⟩ (.slice A' n c')) (w.heap.size + 2) 39 #[.slice A' n c', .slice none 0 0, .int .i64 0] := o4.set 0 _
  have ox5 : Ow eS (w4.setCell ⟨w.heap.size + 2, 0, none⟩ (.slice A' n c')) (w.heap.size + 3) A' n c' l := ox.under (by simp) _
  have hb5 := hb.lift hB5
  clear x4 r4 o4 ox
  go_wp2_with fail
  refine (toHintS B m d h _ hb5 Hm.out hmm).mono ?_
  rintro e w6 ⟨B', d', rfl, oy, hb6⟩
  have x6 := x5.below hb6 x5.lt
  have r6 := r5.below hb6 r5.lt
  have o6 := o5.below hb6 o5.lt
  have hB6 := hB5.trans (hb6.mono hB5.size)
  have ox6 := ox5.below hb6 (Nat.le_refl _)
  have hsz : w.heap.size + 3 ≤ (w4.setCell ⟨w.heap.size + 2, 0, none⟩ (.slice A' n c')).heap.size := by have := o5.lt; omega
  have oy6 := oy.from_ hsz
  clear x5 r5 o5 c0 c1 c2 d0 d1 d2 f0 f1 f2 hb6 hB5 hB4 hb5 ox5 oy hsz
  obtain ⟨c0, c1, c2, _, _, _⟩ := x6.three
  obtain ⟨d0, d1, d2, f0, f1, f2⟩ := o6.three
  obtain ⟨p0, p1, p2, q0, q1, q2⟩ := r6.three
  clear x6 o6 r6
  go_wp2
  refine bodyPost_ret (v := .agg #[.slice A' n c', .slice B' m d', .int .i64 life]) (by simp [results, Tryz.results30, go_sem, c0, c1, c2, d0, d1, d2, p0, p1, p2]) rfl ?_
  refine ⟨A', c', B', d', rfl, ?_, ?_, ?_⟩
  · refine Ow.from_ (base := w.heap.size + 3) ?_ (by omega)
    repeat (refine Ow.under ?_ (by simp) _)
    exact ox6
  · refine Ow.from_ (base := w.heap.size + 3) ?_ (by omega)
    repeat (refine Ow.under ?_ (by simp) _)
    exact oy6
  · repeat (refine Below.setCell ?_ (by simp <;> omega) _)
    exact hB6
/-- Two states are the same. -/
def staSame (s t : Sta) : Bool := decide (s.1 = t.1) && (decide (s.2.1 = t.2.1) && decide (s.2.2 = t.2.2))
theorem sta_no1 {l l' : List Smp} {h h' : List Hnt} {x x' : Int} (k : ¬ l = l') : staSame (l, h, x) (l', h', x') = false := by simp [staSame, k]
theorem sta_no2 {l l' : List Smp} {h h' : List Hnt} {x x' : Int} (k : ¬ h = h') : staSame (l, h, x) (l', h', x') = false := by simp [staSame, k]
theorem sta_no3 {l l' : List Smp} {h h' : List Hnt} {x x' : Int} (k : ¬ x = x') : staSame (l, h, x) (l', h', x') = false := by simp [staSame, k]
theorem sta_yes (s : Sta) : staSame s s = true := by simp [staSame]

set_option maxHeartbeats 2000000 in
theorem eqState (A B A' B' : Option Addr) (n c m d n' c' m' d' : Nat) (l l' : List Smp) (h h' : List Hnt) (x x' : Int) (w : World) (ha : Rd eS w w.heap.size A l) (hb : Rd eH w w.heap.size B h) (ha' : Rd eS w w.heap.size A' l') (hb' : Rd eH w w.heap.size B' h')
    (hn : l.length = n) (hm : h.length = m) (hn' : l'.length = n') (hm' : h'.length = m') (hnm : n ≤ maxLen) (hmm : m ≤ maxLen) :
    Calls Tryz.prog 33 #[.agg #[.slice A n c, .slice B m d, .int .i64 x], .agg #[.slice A' n' c', .slice B' m' d', .int .i64 x']] w fun e w' => e = .returned (.bool (staSame (l, h, x) (l', h', x'))) ∧ Below w.heap.size w w' := by
  have hb0 : Below w.heap.size w ((w.alloc (.cells #[.slice A n c, .slice B m d, .int .i64 x] 39)).alloc (.cells #[.slice A' n' c', .slice B' m' d', .int .i64 x'] 39)) := ((Below.refl _ _).alloc (Nat.le_refl _) _).alloc (by simp) _
  have x2 : At ((w.alloc (.cells #[.slice A n c, .slice B m d, .int .i64 x] 39)).alloc (.cells #[.slice A' n' c', .slice B' m' d', .int .i64 x'] 39)) w.heap.size 39 #[.slice A n c, .slice B m d, .int .i64 x] := (At.new w 39 #[.slice A n c, .slice B m d, .int .i64 x]).alloc _
  have y2 : At ((w.alloc (.cells #[.slice A n c, .slice B m d, .int .i64 x] 39)).alloc (.cells #[.slice A' n' c', .slice B' m' d', .int .i64 x'] 39)) (w.heap.size + 1) 39 #[.slice A' n' c', .slice B' m' d', .int .i64 x'] := by
    have := At.new (w.alloc (.cells #[.slice A n c, .slice B m d, .int .i64 x] 39)) 39 #[.slice A' n' c', .slice B' m' d', .int .i64 x']
    simpa using this
  obtain ⟨c0, c1, c2, _, _, _⟩ := x2.three
  obtain ⟨d0, d1, d2, _, _, _⟩ := y2.three
  have ES := eqSampleS A A' n n' c c' l l' ((w.alloc (.cells #[.slice A n c, .slice B m d, .int .i64 x] 39)).alloc (.cells #[.slice A' n' c', .slice B' m' d', .int .i64 x'] 39)) (ha.lift hb0) (ha'.lift hb0) hn hn' hnm
  by_cases k1 : l = l'
  rotate_left
  · rw [show decide (l = l') = false from decide_eq_false k1] at ES
    have Hr := Lib.hid (sta_no1 (h := h) (h' := h') (x := x) (x' := x') k1)
    clear k1 hn hm hn' hm' ha ha' hb hb'
    go_enter Tryz.func33, Tryz.ntmps33
    go_wp2_with fail
    refine ES.mono ?_
    rintro e w1 ⟨rfl, hb1⟩
    go_wp2
    go_ret
    exact ⟨by rw [Hr.out]; try rfl, hb0.trans (hb1.mono hb0.size)⟩
  rw [show decide (l = l') = true from decide_eq_true k1] at ES
  have EH := fun W (hW : Below w.heap.size w W) => eqHintS B B' m m' d d' h h' W (hb.lift hW) (hb'.lift hW) hm hm' hmm
  by_cases k2 : h = h'
  rotate_left
  · rw [show decide (h = h') = false from decide_eq_false k2] at EH
    have Hr := Lib.hid (sta_no2 (l := l) (l' := l') (x := x) (x' := x') k2)
    clear k1 k2 hn hm hn' hm' ha ha' hb hb'
    go_enter Tryz.func33, Tryz.ntmps33
    go_wp2_with fail
    refine ES.mono ?_
    rintro e w1 ⟨rfl, hb1⟩
    have hB1 := hb0.trans (hb1.mono hb0.size)
    obtain ⟨e0, e1, e2, _, _, _⟩ := (x2.below hb1 x2.lt).three
    obtain ⟨g0, g1, g2, _, _, _⟩ := (y2.below hb1 y2.lt).three
    go_wp2_with fail
    refine (EH _ hB1).mono ?_
    rintro e w2 ⟨rfl, hb2⟩
    go_wp2
    go_ret
    exact ⟨by rw [Hr.out]; try rfl, hB1.trans (hb2.mono hB1.size)⟩
  rw [show decide (h = h') = true from decide_eq_true k2] at EH
  by_cases k3 : x = x'
  rotate_left
  · have hne : (x != x') = true := by rw [bne_iff_ne]; exact k3
    have Hr := Lib.hid (sta_no3 (l := l) (l' := l') (h := h) (h' := h') k3)
    clear k1 k2 k3 hn hm hn' hm' ha ha' hb hb'
    go_enter Tryz.func33, Tryz.ntmps33
    go_wp2_with fail
    refine ES.mono ?_
    rintro e w1 ⟨rfl, hb1⟩
    have hB1 := hb0.trans (hb1.mono hb0.size)
    have x3 := x2.below hb1 x2.lt
    have y3 := y2.below hb1 y2.lt
    obtain ⟨e0, e1, e2, _, _, _⟩ := x3.three
    obtain ⟨g0, g1, g2, _, _, _⟩ := y3.three
    go_wp2_with fail
    refine (EH _ hB1).mono ?_
    rintro e w2 ⟨rfl, hb2⟩
    have hB2 := hB1.trans (hb2.mono hB1.size)
    obtain ⟨i0, i1, i2, _, _, _⟩ := (x3.below hb2 x3.lt).three
    obtain ⟨j0, j1, j2, _, _, _⟩ := (y3.below hb2 y3.lt).three
    go_wp2
    go_ret
    exact ⟨by rw [Hr.out]; try rfl, hB2⟩
  · have hne : (x != x') = false := by simpa using k3
    have Hr := Lib.hid (show staSame (l, h, x) (l', h', x') = true by rw [k1, k2, k3]; exact sta_yes _)
    clear k1 k2 k3 hn hm hn' hm' ha ha' hb hb'
    go_enter Tryz.func33, Tryz.ntmps33
    go_wp2_with fail
    refine ES.mono ?_
    rintro e w1 ⟨rfl, hb1⟩
    have hB1 := hb0.trans (hb1.mono hb0.size)
    have x3 := x2.below hb1 x2.lt
    have y3 := y2.below hb1 y2.lt
    obtain ⟨e0, e1, e2, _, _, _⟩ := x3.three
    obtain ⟨g0, g1, g2, _, _, _⟩ := y3.three
    go_wp2_with fail
    refine (EH _ hB1).mono ?_
    rintro e w2 ⟨rfl, hb2⟩
    have hB2 := hB1.trans (hb2.mono hB1.size)
    obtain ⟨i0, i1, i2, _, _, _⟩ := (x3.below hb2 x3.lt).three
    obtain ⟨j0, j1, j2, _, _, _⟩ := (y3.below hb2 y3.lt).three
    go_wp2
    go_ret
    exact ⟨by rw [Hr.out]; try rfl, hB2⟩
end Go.Proofs.YteiclanlhnccnaaGreatDoor
/-
  Rows of hints marked and held, as the law does it; answers that hold hints.
-/
namespace Go.Proofs.YteiclanlhnccnaaGreatDoor
set_option maxRecDepth 20000
open Go.RowKit
set_option linter.unusedSimpArgs false

def markH (k i : Nat) : Hnt := ((k : Int) + 7 * i, ((k : Int) + 7 * i + 1, (k : Int) + 7 * i + 2, (k : Int) + 7 * i + 3, (k : Int) + 7 * i + 4), (k : Int) + 7 * i + 5, (k : Int) + 7 * i + 6)
/-- What a mark lays: seven numbers a hint. -/
def marksH (k n : Nat) : List Hnt := (List.range n).map (markH k)
theorem marksH_len (k n : Nat) : (marksH k n).length = n := by simp [marksH]
theorem marksH_at {k n i : Nat} (h : i < n) : (marksH k n)[i]? = some (markH k i) := by simp [marksH, h]

set_option maxHeartbeats 4000000 in
theorem markHintS (A : Option Addr) (n c base : Nat) (l : List Hnt) (k : Nat) (w : World) (ha : Ow eH w base A n c l) (hm : n ≤ 4294967296) (hk : k ≤ 4294967296) :
    Calls Tryz.prog 92 #[.slice A n c, .int .i64 k] w fun e w' => e = .returned (.int .i64 ((k : Int) + 7 * n)) ∧ Ow eH w' base A n c (marksH k n) ∧ w.grownBy w' (A.map (·.block)) := by
  have Hn := Lib.hid (ha.len okH)
  go_enter Tryz.func92, Tryz.ntmps92
  go_wp2
  go_loopw [1, 5] (fun vk i wr => MarkRel eH (markH k) 7 w base A n c l k vk i wr) (fun _ i _ => n - (intOf i).toNat)
  case atStart => exact markRel_start _ _ _ ha
  case round =>
    obtain ⟨j, hj, rfl, rfl, hown, hgr⟩ := hrel
    rw [show (k : Int) + ((7 : Nat) : Int) * (j : Int) = (k : Int) + 7 * (j : Int) by omega]
    by_cases hlt : j < n
    · obtain ⟨g, rfl, hg, _⟩ := hown.form (by omega)
      obtain ⟨⟨a0, ⟨a1, a2, a3, a4⟩, a5, a6⟩, hz⟩ := markRel_at (markH k) l n j hlt Hn.out
      obtain ⟨d0, d1, d2, d3, d4, d5, d6⟩ := hown.hntAt hz
      have f0 := hown.frozenAt (j * 7)
      have f1 := hown.frozenAt (j * 7 + 1)
      have f2 := hown.frozenAt (j * 7 + 2)
      have f3 := hown.frozenAt (j * 7 + 3)
      have f4 := hown.frozenAt (j * 7 + 4)
      have f5 := hown.frozenAt (j * 7 + 5)
      have f6 := hown.frozenAt (j * 7 + 6)
      have hs := hown.hntSet (k := j) (getElem?_some_lt hz) ((k : Int) + 7 * j) ((k : Int) + 7 * j + 1) ((k : Int) + 7 * j + 2) ((k : Int) + 7 * j + 3) ((k : Int) + 7 * j + 4) ((k : Int) + 7 * j + 5) ((k : Int) + 7 * j + 6)
      have Hset := Lib.hid (laid_set (markH k) l n j hlt Hn.out)
      have Hgr := Lib.hid (grown_trans hgr hs.2)
      have Hst := Lib.hid hs.1
      clear hgr hs hz
      go_wp2
      exact ⟨⟨j + 1, by omega, by go_num, congrArg _ (by omega), by rw [← Hset.out]; exact Hst.out, Hgr.out⟩, by simp [intOf]; omega⟩
    · have hall := markRel_end hown (by omega) Hn.out
      obtain rfl : n = j := by omega
      clear hown
      go_wp2
      go_ret
      exact ⟨rfl, hall, hgr⟩
theorem markHintS1 (A : Option Addr) (n c base : Nat) (l : List Hnt) (w : World) (ha : Ow eH w base A n c l) (hm : n ≤ 4294967296) :
    Calls Tryz.prog 92 #[.slice A n c, .int .i64 1] w fun e w' => e = .returned (.int .i64 (1 + 7 * (n : Int))) ∧ Ow eH w' base A n c (marksH 1 n) ∧ w.grownBy w' (A.map (·.block)) :=
  markHintS A n c base l 1 w ha hm (by omega)

set_option maxHeartbeats 4000000 in
theorem heldHintS (A : Option Addr) (n c : Nat) (k : Nat) (w : World) (ha : Rd eH w w.heap.size A (marksH k n)) (hm : n ≤ 4294967296) (hk : k ≤ 4294967296) :
    Calls Tryz.prog 144 #[.slice A n c, .int .i64 k] w fun e w' => e = .returned (.int .i64 ((k : Int) + 7 * n)) ∧ Below w.heap.size w w' := by
  go_enter Tryz.func144, Tryz.ntmps144
  go_wp2
  go_loopw [1, 5] (fun vk i wr => HeldRel w n 7 k vk i wr) (fun _ i _ => n - (intOf i).toNat)
  case atStart => exact heldRel_start _ _ _ _
  case round =>
    obtain ⟨j, hj, rfl, rfl, hbel⟩ := hrel
    rw [show (k : Int) + ((7 : Nat) : Int) * (j : Int) = (k : Int) + 7 * (j : Int) by omega]
    by_cases hlt : j < n
    · obtain ⟨g, o, a0, a1, a2, a3, a4, a5, a6, rfl, hg, hx, c0, c1, c2, c3, c4, c5, c6⟩ := (ha.below hbel (Nat.le_refl _)).hnt (k := j) (by rw [marksH_len]; exact hlt)
      rw [marksH_at hlt] at hx
      simp only [markH, Option.some.injEq, Prod.mk.injEq] at hx
      obtain ⟨rfl, ⟨rfl, rfl, rfl, rfl⟩, rfl, rfl⟩ := hx
      go_wp2
      exact ⟨⟨j + 1, by omega, by go_num, congrArg _ (by omega), hbel⟩, by simp [intOf]; omega⟩
    · obtain rfl : n = j := by omega
      go_wp2
      go_ret
      exact ⟨rfl, hbel⟩

/-- A code and hints of the call's own. -/
def RetHs (r : Int × List Hnt) (w : World) (e : Ending) (w' : World) : Prop :=
  ∃ A n c, e = .returned (.agg #[.int .i64 r.1, .slice A n c]) ∧ Ow eH w' w.heap.size A n c r.2 ∧ Below w.heap.size w w'

end Go.Proofs.YteiclanlhnccnaaGreatDoor
/-
  A region in which a load may stand on either side of a call, and a store ends it: both orders are walked from there on.
-/
namespace Go.Proofs.YteiclanlhnccnaaGreatDoor
set_option maxRecDepth 20000
open Go.RowKit

section
variable {P : Program} {md : Region.Mode} {ops : Array Oper} {Q : Exit → Act → World → Prop}

/-- As 'mixW', nothing known of the worlds; behind it R. -/
def forkW (P : Program) (ops : Array Oper) (Q : Exit → Act → World → Prop) (R : Act → World → Prop) : List (Oper × Bool) → Act → World → Prop
  | [], a, w => R a w
  | (o, c) :: rest, a, w =>
    if Region.wanted o (yielded ops a.tmps) = true then
      if c = true then o.wp P a w (fun a' w' => forkW P ops Q R rest a' w') Q
      else ∃ v, (∀ x, (execOp a.eval o).run P x = .ok (.value v) x) ∧ forkW P ops Q R rest (a.put o.dst v) w
    else forkW P ops Q R rest (a.put o.dst undef) w

/-- The order fits the region. -/
def forkB (md : Region.Mode) (ops : Array Oper) : Array Bool → List (Nat × Bool) → Bool
  | _, [] => true
  | listed, (k, c) :: p => (if c then Region.ready md ops listed == [k] else (Region.ready md ops listed).contains k && Region.free md ops listed k) && forkB md ops (listed.setIfInBounds k true) p
def listedBy (listed : Array Bool) (p : List (Nat × Bool)) : Array Bool := p.foldl (fun t x => t.setIfInBounds x.1 true) listed

theorem any_of_fork {l : List Oper} {R : Act → World → Prop} (hsel : Region.noSelect l.toArray = true) (hQ : ∀ c a (d : Nat) v w, Q (.panic c) (Act.put a (some d) v) w → Q (.panic c) a w) (fuel : Nat) :
    ∀ (p : List (Nat × Bool)) (listed : Array Bool) (a : Act) (w : World), (∀ x ∈ p, x.1 < l.length) → forkB md l.toArray listed p = true →
      (∀ a w, R a w → wpAnyH P md l.toArray Q (fun _ => True) fuel (listedBy listed p) a w) → forkW P l.toArray Q R (mixOps l p) a w →
      wpAnyH P md l.toArray Q (fun _ => True) (p.length + fuel) listed a w
  | [], listed, a, w, _, _, hR, h => by
    rw [List.length_nil, Nat.zero_add]
    exact hR a w h
  | (k, c) :: p, listed, a, w, hl, hB, hR, h => by
    have hk : k < l.length := hl (k, c) (by simp)
    obtain ⟨o, ho⟩ : ∃ o, l[k]? = some o := ⟨_, List.getElem?_eq_getElem hk⟩
    have hoa : l.toArray[k]? = some o := by simpa using ho
    simp only [forkB, Bool.and_eq_true] at hB
    obtain ⟨hb, hB'⟩ := hB
    have hQ' : ∀ c a d v w, Q (.panic c) (Act.put a d v) w → Q (.panic c) a w := fun c a d v w h => by
      cases d with
      | none => exact h
      | some d => exact hQ c a d v w h
    have ih := fun a w => any_of_fork hsel hQ fuel p (listed.setIfInBounds k true) a w (fun x hx => hl x (by simp [hx])) hB' hR
    have e : ((k, c) :: p).length + fuel = p.length + fuel + 1 := by rw [List.length_cons]; omega
    rw [e]
    simp only [mixOps, List.map_cons, ho, Option.getD_some, forkW] at h
    cases c with
    | false =>
      simp only [Bool.false_eq_true, if_false, Bool.and_eq_true] at hb h
      by_cases hw : Region.wanted o (yielded l.toArray a.tmps) = true
      · rw [if_pos hw] at h
        obtain ⟨v, hv, h⟩ := h
        exact wpAnyH_take hoa hsel hb.2 hb.1 (fun c a w => hQ' c a _ _ w) (.inl ⟨hw, fun x _ => hv x⟩) trivial (ih _ w h)
      · rw [if_neg hw] at h
        exact wpAnyH_take hoa hsel hb.2 hb.1 (fun c a w => hQ' c a _ _ w) (.inr ⟨by simpa using hw, rfl⟩) trivial (ih _ w h)
    | true =>
      simp only [if_true] at hb h
      refine wpAnyH_all (rs := [k]) (by simpa using hb) (by simp) fun i hi => ?_
      obtain rfl : i = k := by simpa using hi
      unfold wpOp
      rw [hoa]
      simp only
      by_cases hw : Region.wanted o (yielded l.toArray a.tmps) = true
      · rw [if_pos hw] at h ⊢
        have h1 : wpOp P l.toArray Q i (fun a' w' => forkW P l.toArray Q R (mixOps l p) a' w') a w := by
          unfold wpOp
          rw [hoa]
          simp only
          rw [if_pos hw]
          exact .inl h
        have h2 := wpOp_mono (K' := fun a' w' => True ∧ wpAnyH P md l.toArray Q (fun _ => True) (p.length + fuel) (listed.setIfInBounds i true) a' w') (fun a' w' h3 => ⟨trivial, ih a' w' h3⟩) h1
        unfold wpOp at h2
        rw [hoa] at h2
        simp only at h2
        rwa [if_pos hw] at h2
      · rw [if_neg hw] at h ⊢
        exact ⟨trivial, ih _ w h⟩

/-- One that comes up beside another one. -/
theorem wpOp_of_fork {l : List Oper} {R : Act → World → Prop} {i : Nat} {o : Oper} {rest : List (Oper × Bool)} {a : Act} {w : World} (hoa : l.toArray[i]? = some o)
    (h : forkW P l.toArray Q R ((o, true) :: rest) a w) : wpOp P l.toArray Q i (fun a' w' => forkW P l.toArray Q R rest a' w') a w := by
  unfold wpOp
  rw [hoa]
  simp only
  unfold forkW at h
  by_cases hw : Region.wanted o (yielded l.toArray a.tmps) = true
  · rw [if_pos hw] at h ⊢
    rw [if_pos rfl] at h
    exact .inl h
  · rw [if_neg hw] at h ⊢
    exact h

/-- Both of two. -/
def forkAll (md : Region.Mode) (ops : Array Oper) (n : Nat) (p p1 p2 : List (Nat × Bool)) (i j : Nat) : Bool :=
  Region.noSelect ops && (forkB md ops (Array.replicate n false) p && ((Region.ready md ops (listedBy (Array.replicate n false) p) == [i, j]) &&
    ((forkB md ops ((listedBy (Array.replicate n false) p).setIfInBounds i true) p1 && (Region.ready md ops (listedBy ((listedBy (Array.replicate n false) p).setIfInBounds i true) p1)).isEmpty) &&
     (forkB md ops ((listedBy (Array.replicate n false) p).setIfInBounds j true) p2 && (Region.ready md ops (listedBy ((listedBy (Array.replicate n false) p).setIfInBounds j true) p2)).isEmpty)) &&
    (p.length + (p1.length + 1) == n && p1.length == p2.length && decide (i < n) && decide (j < n) && (p ++ p1 ++ p2).all fun x => decide (x.1 < n))))

theorem wp_region_fork {id : Nat} {l : List Oper} {a : Act} {w : World} (p p1 p2 : List (Nat × Bool)) (i j : Nat) (hm : P.follows .mixedOrders = true) (hB : forkAll .any l.toArray l.length p p1 p2 i j = true)
    (hQ : ∀ c a (d : Nat) v w, Q (.panic c) (Act.put a (some d) v) w → Q (.panic c) a w)
    (h : forkW P l.toArray Q (fun a w => forkW P l.toArray Q (Q .normal) (mixOps l ((i, true) :: p1)) a w ∧ forkW P l.toArray Q (Q .normal) (mixOps l ((j, true) :: p2)) a w) (mixOps l p) a w.drew) : (Code.region id l.toArray true).wp P Q a w := by
  unfold forkAll at hB
  simp only [Bool.and_eq_true, beq_iff_eq, List.all_eq_true, decide_eq_true_eq, List.mem_append] at hB
  obtain ⟨h1, h2, ⟨h3, ⟨h4, h5⟩, h6, h7⟩, ⟨⟨⟨h8, h9⟩, h10⟩, h11⟩, h12⟩ := hB
  refine wp_region_held (S := fun _ => True) hm ?_
  have hi : l[i]? = some l[i] := List.getElem?_eq_getElem h10
  have hj : l[j]? = some l[j] := List.getElem?_eq_getElem h11
  have go := any_of_fork (P := P) (md := .any) (R := fun a w => forkW P l.toArray Q (Q .normal) (mixOps l ((i, true) :: p1)) a w ∧ forkW P l.toArray Q (Q .normal) (mixOps l ((j, true) :: p2)) a w) h1 hQ (p1.length + 1) p
    (Array.replicate l.length false) a w.drew (fun x hx => h12 x (.inl (.inl hx))) h2 (fun a w hR => by
      refine wpAnyH_all (rs := [i, j]) h3 (by simp) fun k hk => ?_
      rcases (show k = i ∨ k = j by simpa using hk) with rfl | rfl
      · have hR1 := hR.1
        simp only [mixOps, List.map_cons, hi, Option.getD_some] at hR1
        refine wpOp_mono (fun a' w' h' => ⟨trivial, ?_⟩) (wpOp_of_fork (by simp) hR1)
        exact any_of_fork h1 hQ 0 p1 _ a' w' (fun x hx => h12 x (.inl (.inr hx))) h4 (fun a w hq => wpAnyH_done (by simpa using h5) hq 0) h'
      · have hR1 := hR.2
        simp only [mixOps, List.map_cons, hj, Option.getD_some] at hR1
        refine wpOp_mono (fun a' w' h' => ⟨trivial, ?_⟩) (wpOp_of_fork (by simp) hR1)
        have := any_of_fork h1 hQ 0 p2 _ a' w' (fun x hx => h12 x (.inr hx)) h6 (fun a w hq => wpAnyH_done (by simpa using h7) hq 0) h'
        rwa [← h9] at this) h
  rw [h8] at go
  simpa using go

theorem fork_pure {R : Act → World → Prop} {o : Oper} {rest : List (Oper × Bool)} {a : Act} {w : World} {v : Value} (hw : Region.wanted o (yielded ops a.tmps) = true)
    (hv : ∀ x, (execOp a.eval o).run P x = .ok (.value v) x) (h : forkW P ops Q R rest (a.put o.dst v) w) : forkW P ops Q R ((o, false) :: rest) a w := by
  unfold forkW
  rw [if_pos hw, if_neg (by simp)]
  exact ⟨v, hv, h⟩
theorem fork_skip {R : Act → World → Prop} {o : Oper} {c : Bool} {rest : List (Oper × Bool)} {a : Act} {w : World} (hw : Region.wanted o (yielded ops a.tmps) = false)
    (h : forkW P ops Q R rest (a.put o.dst undef) w) : forkW P ops Q R ((o, c) :: rest) a w := by
  unfold forkW
  rw [if_neg (by simp [hw])]
  exact h
/-- What is carried out: a call, a load, a store. -/
theorem fork_call {R : Act → World → Prop} {o : Oper} {rest : List (Oper × Bool)} {a : Act} {w : World} (hw : Region.wanted o (yielded ops a.tmps) = true)
    (h : ∀ K : Act → World → Prop, (∀ a' w', forkW P ops Q R rest a' w' → K a' w') → o.wp P a w K Q) : forkW P ops Q R ((o, true) :: rest) a w := by
  unfold forkW
  rw [if_pos hw, if_pos rfl]
  exact h _ fun a' w' h3 => h3
theorem fork_nil {R : Act → World → Prop} {a : Act} {w : World} (h : R a w) : forkW P ops Q R [] a w := h
end
end Go.Proofs.YteiclanlhnccnaaGreatDoor
