/-
  Texts of one proof, joined: each has its own namespace.
-/
import Derived.Test.YtmaillakhhdkfaaGreatDoorBFnRecovers6
import Derived.Test.YtmaillakhhdkfaaGreatDoorBFnRecovers5
import Derived.Test.YtmaillakhhdkfaaGreatDoorBFnRecovers1
import Derived.Test.YtmaillakhhdkfaaGreatDoorBFnRecovers0
import Derived.Maps.Own
/-
  What stores are, of the pure answers: in order, right, each key once; what is put in and merged.
-/
namespace Go.Proofs.YtmaillakhhdkfaaGreatDoor
set_option maxRecDepth 20000

theorem keyOrd (a b : Smp) : (aheadM a b = true ∧ aheadM b a = false ∧ sameKeyM a b = false) ∨ (aheadM a b = false ∧ aheadM b a = true ∧ sameKeyM a b = false) ∨ (aheadM a b = false ∧ aheadM b a = false ∧ sameKeyM a b = true) := by
  obtain ⟨a0, a1, a2, a3⟩ := a
  obtain ⟨b0, b1, b2, b3⟩ := b
  unfold aheadM sameKeyM
  simp only
  rcases Int.lt_trichotomy a0 b0 with h | h | h
  · have h1 : ¬ a0 = b0 := by omega
    have h2 : ¬ b0 = a0 := by omega
    have h3 : ¬ b0 < a0 := by omega
    exact .inl ⟨by simp [h1, h], by simp [h2, h3], by simp [h1]⟩
  · subst h
    rcases Int.lt_trichotomy a1 b1 with h | h | h
    · have h1 : ¬ a1 = b1 := by omega
      have h2 : ¬ b1 = a1 := by omega
      exact .inl ⟨by simp [h], by simp [h2]; omega, by simp [h1]⟩
    · subst h
      rcases Int.lt_trichotomy a2 b2 with h | h | h
      · exact .inl ⟨by simp [h], by simp; omega, by simp; omega⟩
      · subst h
        exact .inr (.inr ⟨by simp, by simp, by simp⟩)
      · exact .inr (.inl ⟨by simp; omega, by simp [h], by simp; omega⟩)
    · have h1 : ¬ a1 = b1 := by omega
      exact .inr (.inl ⟨by simp [h1]; omega, by simp [h], by simp [h1]⟩)
  · have h1 : ¬ a0 = b0 := by omega
    have h2 : ¬ b0 = a0 := by omega
    exact .inr (.inl ⟨by simp [h1]; omega, by simp [h2, h], by simp [h1]⟩)

theorem ahead_iff (a b : Smp) : aheadM a b = true ↔ a.1 < b.1 ∨ (a.1 = b.1 ∧ (a.2.1 < b.2.1 ∨ (a.2.1 = b.2.1 ∧ a.2.2.1 < b.2.2.1))) := by
  unfold aheadM
  by_cases h : a.1 = b.1
  · simp [h]
  · simp [h]

theorem same_iff (a b : Smp) : sameKeyM a b = true ↔ a.1 = b.1 ∧ a.2.1 = b.2.1 ∧ a.2.2.1 = b.2.2.1 := by
  unfold sameKeyM
  simp

theorem ahead_trans {a b c : Smp} (h : aheadM a b = true) (k : aheadM b c = true) : aheadM a c = true := by
  rw [ahead_iff] at *
  omega

theorem same_symm (a b : Smp) : sameKeyM a b = sameKeyM b a := by
  rw [Bool.eq_iff_iff, same_iff, same_iff]
  omega

theorem ahead_not_same {a b : Smp} (h : aheadM a b = true) : sameKeyM a b = false := by
  rcases keyOrd a b with ⟨_, _, k⟩ | ⟨k, _⟩ | ⟨k, _⟩
  · exact k
  · rw [h] at k; cases k
  · rw [h] at k; cases k

/-- A row in order: each ahead of each behind it. -/
def Asc (l : List Smp) : Prop := l.Pairwise fun a b => aheadM a b = true

theorem asc_of_steps : ∀ {l : List Smp}, (∀ j, j + 1 < l.length → stepM l j = true) → Asc l
  | [], _ => List.Pairwise.nil
  | a :: l, h => by
    have hl : Asc l := asc_of_steps fun j hj => by
      have := h (j + 1) (by simpa using hj)
      simpa [stepM] using this
    refine List.pairwise_cons.2 ⟨?_, hl⟩
    match l, h, hl with
    | [], _, _ => simp
    | b :: l, h, hl =>
      have h0 : aheadM a b = true := by simpa [stepM] using h 0 (by simp)
      intro y hy
      rcases List.mem_cons.1 hy with rfl | hy
      · exact h0
      · exact ahead_trans h0 ((List.pairwise_cons.1 hl).1 y hy)

theorem steps_of_asc {l : List Smp} (h : Asc l) (j : Nat) : stepM l j = true := by
  unfold stepM
  rcases ha : l[j]? with _ | a
  · simp
  rcases hb : l[j + 1]? with _ | b
  · simp
  simp only
  have h1 := getElem?_some_lt hb
  rw [List.getElem?_eq_getElem (by omega)] at ha hb
  cases ha
  cases hb
  exact List.pairwise_iff_getElem.1 h j (j + 1) (by omega) h1 (by omega)

def Right (l : List Smp) : Prop := ∀ x ∈ l, faultM x = 0

theorem storeFault_iff (l : List Smp) : storeFaultM l = 0 ↔ l.length ≤ 160 ∧ Right l ∧ Asc l := by
  unfold storeFaultM
  constructor
  · intro h
    split at h
    · cases h
    split at h
    · cases h
    split at h
    · cases h
    · rename_i h1 h2 h3
      refine ⟨by omega, fun x hx => ?_, asc_of_steps fun j hj => ?_⟩
      · have : rightM l = true := by simpa using h2
        unfold rightM at this
        rw [List.all_eq_true] at this
        simpa using this x hx
      · have : risesM l = true := by simpa using h3
        unfold risesM at this
        rw [List.all_eq_true] at this
        exact this j (by simp; omega)
  · rintro ⟨h1, h2, h3⟩
    have k2 : rightM l = true := by
      unfold rightM
      rw [List.all_eq_true]
      exact fun x hx => decide_eq_true (h2 x hx)
    have k3 : risesM l = true := by
      unfold risesM
      rw [List.all_eq_true]
      exact fun j _ => steps_of_asc h3 j
    rw [if_neg (by omega), k2, k3]
    simp

theorem findI_neg (l : List Smp) (x : Smp) : findI l x < 0 ↔ ∀ a ∈ l, sameKeyM a x = false := by
  unfold findI
  constructor
  · intro h a ha
    rcases hf : findM l x with _ | i
    · unfold findM at hf
      rw [List.find?_range_eq_none] at hf
      obtain ⟨k, hk⟩ := List.mem_iff_getElem?.1 ha
      have := hf k (getElem?_some_lt hk)
      rw [hitM_at hk] at this
      simpa using this
    · rw [hf] at h
      simp only at h
      omega
  · intro h
    have : findM l x = none := by
      unfold findM
      rw [List.find?_range_eq_none]
      intro j hj
      rw [hitM_at (List.getElem?_eq_getElem hj)]
      simp [h _ (List.getElem_mem hj)]
    rw [this]
    simp

theorem mem_insM (l : List Smp) (x y : Smp) : y ∈ insM l x ↔ y = x ∨ y ∈ l := by
  unfold insM
  split
  · rename_i p _
    rw [List.mem_append, List.mem_cons]
    constructor
    · rintro (h | h | h)
      · exact .inr (List.mem_of_mem_take h)
      · exact .inl h
      · exact .inr (List.mem_of_mem_drop h)
    · rintro (h | h)
      · exact .inr (.inl h)
      · rw [← List.take_append_drop p l, List.mem_append] at h
        rcases h with h | h
        · exact .inl h
        · exact .inr (.inr h)
  · simp [or_comm]

theorem asc_insM {l : List Smp} {x : Smp} (h : Asc l) (hx : ∀ a ∈ l, sameKeyM a x = false) : Asc (insM l x) := by
  have low : ∀ a ∈ l, aheadM x a = false → aheadM a x = true := fun a ha k => by
    rcases keyOrd x a with ⟨k1, _⟩ | ⟨_, k1, _⟩ | ⟨_, _, k1⟩
    · rw [k] at k1; cases k1
    · exact k1
    · rw [same_symm, hx a ha] at k1; cases k1
  unfold insM
  split
  · rename_i p hp
    unfold spotM at hp
    rw [List.find?_range_eq_some] at hp
    obtain ⟨hf, hlt, hal⟩ := hp
    have hlt : p < l.length := by simpa using hlt
    have hat : ∀ (j : Nat) (hj : j < l.length), frontOf l x j = aheadM x l[j] := fun j hj => frontOf_at (List.getElem?_eq_getElem hj)
    have hd : Asc (l.drop p) := List.Pairwise.sublist (List.drop_sublist p l) h
    have ht : Asc (l.take p) := List.Pairwise.sublist (List.take_sublist p l) h
    have hxp : aheadM x l[p] = true := by rw [← hat p hlt]; exact hf
    have hdc : l.drop p = l[p] :: l.drop (p + 1) := List.drop_eq_getElem_cons hlt
    have hxd : ∀ b ∈ l.drop p, aheadM x b = true := fun b hb => by
      rw [hdc] at hb hd
      rcases List.mem_cons.1 hb with rfl | hb
      · exact hxp
      · exact ahead_trans hxp ((List.pairwise_cons.1 hd).1 b hb)
    have htx : ∀ a ∈ l.take p, aheadM a x = true := fun a ha => by
      obtain ⟨j, hj, rfl⟩ := List.mem_take_iff_getElem.1 ha
      refine low _ (List.getElem_mem _) ?_
      have := hal j (by omega)
      rw [hat j (by omega)] at this
      simpa using this
    refine List.pairwise_append.2 ⟨ht, List.pairwise_cons.2 ⟨hxd, hd⟩, fun a ha b hb => ?_⟩
    rcases List.mem_cons.1 hb with rfl | hb
    · exact htx a ha
    · exact ahead_trans (htx a ha) (hxd b hb)
  · rename_i hp
    unfold spotM at hp
    rw [List.find?_range_eq_none] at hp
    refine List.pairwise_append.2 ⟨h, List.pairwise_singleton _ _, fun a ha b hb => ?_⟩
    rw [List.mem_singleton] at hb
    subst hb
    obtain ⟨j, hj, rfl⟩ := List.mem_iff_getElem.1 ha
    refine low _ ha ?_
    have := hp j hj
    rw [frontOf_at (List.getElem?_eq_getElem hj)] at this
    simpa using this

/-- What is merged: the first row, and what the second has besides, in order. -/
theorem merge_facts (a : List Smp) (ha : Asc a) (hr : Right a) : ∀ (b : List Smp), Asc b → Right b → ∀ out : List Smp, Asc out → Right out → (∀ y ∈ a, y ∈ out) → (∀ y ∈ out, (∃ z ∈ a, z = y) ∨ ∀ x ∈ b, aheadM y x = true) →
    Asc (b.foldl (mergeStep a) out) ∧ Right (b.foldl (mergeStep a) out) ∧ (∀ y ∈ out, y ∈ b.foldl (mergeStep a) out) ∧ (∀ x ∈ b, ∃ y ∈ b.foldl (mergeStep a) out, sameKeyM y x = true)
  | [], _, _, out, h1, h2, _, _ => ⟨h1, h2, fun _ h => h, fun _ h => by simp at h⟩
  | x :: b, hb, hbr, out, h1, h2, h3, h4 => by
    obtain ⟨hx, hb'⟩ := List.pairwise_cons.1 hb
    have hbr' : Right b := fun y hy => hbr y (List.mem_cons_of_mem _ hy)
    rw [List.foldl_cons]
    by_cases hf : findI a x < 0
    · have hs : mergeStep a out x = insM out x := if_pos hf
      rw [hs]
      have hno : ∀ y ∈ out, sameKeyM y x = false := fun y hy => by
        rcases h4 y hy with ⟨z, hz, rfl⟩ | h
        · exact (findI_neg a x).1 hf z hz
        · exact ahead_not_same (h x List.mem_cons_self)
      obtain ⟨k1, k2, k3, k4⟩ := merge_facts a ha hr b hb' hbr' (insM out x) (asc_insM h1 hno)
        (fun y hy => by
          rcases (mem_insM out x y).1 hy with rfl | hy
          · exact hbr y List.mem_cons_self
          · exact h2 y hy)
        (fun y hy => (mem_insM out x y).2 (.inr (h3 y hy)))
        (fun y hy => by
          rcases (mem_insM out x y).1 hy with rfl | hy
          · exact .inr hx
          · rcases h4 y hy with h | h
            · exact .inl h
            · exact .inr fun z hz => h z (List.mem_cons_of_mem _ hz))
      refine ⟨k1, k2, fun y hy => k3 y ((mem_insM out x y).2 (.inr hy)), fun z hz => ?_⟩
      rcases List.mem_cons.1 hz with rfl | hz
      · exact ⟨z, k3 z ((mem_insM out z z).2 (.inl rfl)), (same_iff z z).2 ⟨rfl, rfl, rfl⟩⟩
      · exact k4 z hz
    · have hs : mergeStep a out x = out := if_neg hf
      rw [hs]
      obtain ⟨k1, k2, k3, k4⟩ := merge_facts a ha hr b hb' hbr' out h1 h2 h3 (fun y hy => by
        rcases h4 y hy with h | h
        · exact .inl h
        · exact .inr fun z hz => h z (List.mem_cons_of_mem _ hz))
      refine ⟨k1, k2, k3, fun z hz => ?_⟩
      rcases List.mem_cons.1 hz with rfl | hz
      · obtain ⟨y, hy, he⟩ : ∃ y ∈ a, sameKeyM y z = true := by
          refine Classical.byContradiction fun hc => hf ((findI_neg a z).2 fun y hy => ?_)
          rcases he : sameKeyM y z with _ | _
          · rfl
          · exact absurd ⟨y, hy, he⟩ hc
        exact ⟨y, k3 y (h3 y hy), he⟩
      · exact k4 z hz

theorem findM_hit {l : List Smp} {x : Smp} (h : ¬ findI l x < 0) : ∃ (i : Nat) (a : Smp), findM l x = some i ∧ l[i]? = some a ∧ a ∈ l ∧ sameKeyM a x = true := by
  unfold findI at h
  rcases hf : findM l x with _ | i
  · rw [hf] at h
    simp at h
  · have h1 := hf
    unfold findM at h1
    rw [List.find?_range_eq_some] at h1
    obtain ⟨hh, hlt, _⟩ := h1
    have hlt : i < l.length := by simpa using hlt
    refine ⟨i, l[i], rfl, List.getElem?_eq_getElem hlt, List.getElem_mem hlt, ?_⟩
    rw [← hitM_at (List.getElem?_eq_getElem hlt)]
    exact hh

/-- In a row in order a key is there once. -/
theorem asc_one {l : List Smp} (h : Asc l) {a b : Smp} (ha : a ∈ l) (hb : b ∈ l) (hk : sameKeyM a b = true) : a = b := by
  obtain ⟨i, hi, rfl⟩ := List.mem_iff_getElem.1 ha
  obtain ⟨j, hj, rfl⟩ := List.mem_iff_getElem.1 hb
  rcases Nat.lt_trichotomy i j with h1 | h1 | h1
  · have := ahead_not_same (List.pairwise_iff_getElem.1 h i j hi hj h1)
    rw [hk] at this; cases this
  · subst h1; rfl
  · have := ahead_not_same (List.pairwise_iff_getElem.1 h j i hj hi h1)
    rw [same_symm, hk] at this; cases this

/-- What InsertSample answers with no fault: a right store that has the sample's key, put in again it stays, and a new one is found as it is. -/
theorem insert_said {l st : List Smp} {x : Smp} {new : Bool} (h : insertM l x = (0, new, st)) :
    storeFaultM st = 0 ∧ insertM st x = (0, false, st) ∧ (lookM st x).1 = 0 ∧ (new = true → (lookM st x).2 = x) := by
  have core : storeFaultM st = 0 → faultM x = 0 → ¬ findI st x < 0 → (new = true → x ∈ st) → storeFaultM st = 0 ∧ insertM st x = (0, false, st) ∧ (lookM st x).1 = 0 ∧ (new = true → (lookM st x).2 = x) := by
    intro fs fx hf hn
    obtain ⟨i, a, hi, ha, hal, hk⟩ := findM_hit hf
    refine ⟨fs, ?_, ?_, fun hnew => ?_⟩
    · unfold insertM
      rw [if_neg (by simpa using fs), if_neg (by simpa using fx), if_pos (by omega)]
    · unfold lookM
      rw [if_neg (by simpa using fs), hi]
    · unfold lookM
      rw [if_neg (by simpa using fs), hi]
      simp only [ha, Option.getD_some]
      exact asc_one ((storeFault_iff st).1 fs).2.2 hal (hn hnew) hk
  unfold insertM at h
  by_cases fl : storeFaultM l = 0
  · rw [if_neg (by simpa using fl)] at h
    by_cases fx : faultM x = 0
    · rw [if_neg (by simpa using fx)] at h
      by_cases hf : 0 ≤ findI l x
      · rw [if_pos hf] at h
        have e := Prod.mk.inj h
        have e2 := Prod.mk.inj e.2
        obtain rfl := e2.2
        exact core fl fx (by omega) (fun hn => by rw [← e2.1] at hn; cases hn)
      · rw [if_neg hf] at h
        by_cases hl : 160 ≤ l.length
        · rw [if_pos hl] at h
          simp at h
        · rw [if_neg hl] at h
          have e2 := Prod.mk.inj (Prod.mk.inj h).2
          obtain rfl := e2.2
          have hno := (findI_neg l x).1 (by omega)
          obtain ⟨_, rl, sl⟩ := (storeFault_iff l).1 fl
          have hx : x ∈ insM l x := (mem_insM l x x).2 (.inl rfl)
          refine core ((storeFault_iff _).2 ⟨by rw [insM_len]; omega, fun y hy => ?_, asc_insM sl hno⟩) fx (fun hc => ?_) (fun _ => hx)
          · rcases (mem_insM l x y).1 hy with rfl | hy
            · exact fx
            · exact rl y hy
          · have := (findI_neg _ x).1 hc x hx
            rw [(same_iff x x).2 ⟨rfl, rfl, rfl⟩] at this
            cases this
    · rw [if_pos fx] at h
      exact absurd (Prod.mk.inj h).1 fx
  · rw [if_pos fl] at h
    exact absurd (Prod.mk.inj h).1 fl

end Go.Proofs.YtmaillakhhdkfaaGreatDoor
/-
  What the law of hints says, of the pure answers.
-/
namespace Go.Proofs.YtmaillakhhdkfaaGreatDoor
set_option maxRecDepth 20000
open Go.RowKit
set_option linter.unusedSimpArgs false
set_option linter.unusedVariables false

theorem findH_none_iff {l : List Hnt} {p i : Int} : findH l p i = none ↔ ∀ a ∈ l, ¬ (a.1 = p ∧ idH a = i) := by
  constructor
  · intro h a ha hp
    unfold findH at h
    rw [List.find?_range_eq_none] at h
    obtain ⟨j, hj⟩ := List.mem_iff_getElem?.1 ha
    have := h j (getElem?_some_lt hj)
    rw [hitH_at hj] at this
    simp [hp.1, hp.2] at this
  · intro h
    refine findH_none fun j hj => ?_
    have hx : l[j]? = some l[j] := List.getElem?_eq_getElem hj
    rw [hitH_at hx]
    have := h _ (List.mem_of_getElem? hx)
    simp only [Bool.and_eq_false_iff, decide_eq_false_iff_not]
    by_cases h1 : l[j].1 = p
    · exact .inr fun h2 => this ⟨h1, h2⟩
    · exact .inl h1
theorem findHI_neg {l : List Hnt} {p i : Int} (h : ¬ 0 ≤ findHI l p i) : findH l p i = none := by
  rcases findHI_or l p i with ⟨_, h2⟩ | ⟨k, h1, _, _⟩
  · exact h2
  · omega
theorem findH_last {l : List Hnt} {h : Hnt} (hn : findH l h.1 (idH h) = none) : findH (l ++ [h]) h.1 (idH h) = some l.length := by
  refine findH_some (by simp) ?_ fun j hj => ?_
  · rw [hitH_at (a := h) (by simp)]
    simp
  · have hx : l[j]? = some l[j] := List.getElem?_eq_getElem hj
    rw [hitH_at (a := l[j]) (by rw [List.getElem?_append_left hj, hx])]
    have := findH_none_iff.1 hn _ (List.mem_of_getElem? hx)
    simp only [Bool.and_eq_false_iff, decide_eq_false_iff_not]
    by_cases h1 : l[j].1 = h.1
    · exact .inr fun h2 => this ⟨h1, h2⟩
    · exact .inl h1
/-- What is added is there, and gone again when it is done. -/
theorem add_said {h al : List Hnt} {p x1 x2 x3 x4 : Int} (k : addM h p (x1, x2, x3, x4) = (0, al)) : hintsFaultM al = 0 ∧ doneM al p x3 = (0, h) ∧ (addM al p (x1, x2, x3, x4)).1 = 6 := by
  unfold addM at k
  by_cases h0 : hintsFaultM h = 0
  rotate_left
  · rw [if_pos h0] at k
    exact absurd (Prod.mk.inj k).1 h0
  rw [if_neg (by simp [h0])] at k
  by_cases hf : faultM (x1, x2, x3, x4) = 0
  rotate_left
  · rw [if_pos hf] at k
    exact absurd (Prod.mk.inj k).1 (by decide)
  rw [if_neg (by simp [hf])] at k
  rcases hp : inB (p, 0, 3)
  · rw [if_pos hp] at k
    exact absurd (Prod.mk.inj k).1 (by decide)
  rw [if_neg (by simp [hp])] at k
  by_cases hi : 0 ≤ findHI h p x3
  · rw [if_pos hi] at k
    exact absurd (Prod.mk.inj k).1 (by decide)
  rw [if_neg hi] at k
  by_cases h8 : 8 ≤ h.length
  · rw [if_pos h8] at k
    exact absurd (Prod.mk.inj k).1 (by decide)
  rw [if_neg h8] at k
  obtain rfl := (Prod.mk.inj k).2
  have hn := findHI_neg hi
  obtain ⟨g1, g2, g3⟩ := (hintsFault_iff h).1 h0
  have hfn : hfaultM (p, (x1, x2, x3, x4), 0, 0) = 0 := hfault_yes hf (by unfold rangeH; rw [hp]; simp [inB])
  have hz : hintsFaultM (h ++ [(p, (x1, x2, x3, x4), 0, 0)]) = 0 := by
    refine (hintsFault_iff _).2 ⟨by simp; omega, fun y hy => ?_, dis_append.2 ⟨g3, fun y hy => ?_⟩⟩
    · rcases List.mem_append.1 hy with hy | hy
      · exact g2 y hy
      · obtain rfl := List.mem_singleton.1 hy
        exact hfn
    · have := findH_none_iff.1 hn y hy
      rcases hs : sameH y (p, (x1, x2, x3, x4), 0, 0)
      · rfl
      · exact absurd ((sameH_iff _ _).1 hs) this
  have hl := findH_last (h := (p, (x1, x2, x3, x4), 0, 0)) hn
  refine ⟨hz, ?_, ?_⟩
  · unfold doneM
    rw [if_neg (by simp [hz]), show findH (h ++ [(p, (x1, x2, x3, x4), 0, 0)]) p x3 = some h.length from hl]
    simp
  · unfold addM
    rw [if_neg (by simp [hz]), if_neg (by simp [hf]), if_neg (by simp [hp]), if_pos]
    unfold findHI
    rw [show findH (h ++ [(p, (x1, x2, x3, x4), 0, 0)]) p x3 = some h.length from hl]
    show (0 : Int) ≤ (h.length : Int)
    omega
end Go.Proofs.YtmaillakhhdkfaaGreatDoor
/-
  What a record does to a state, and what a disk says, of the pure answers.
-/
namespace Go.Proofs.YtmaillakhhdkfaaGreatDoor
set_option maxRecDepth 20000
open Go.RowKit
set_option linter.unusedSimpArgs false
set_option linter.unusedVariables false

abbrev zeroSta : Sta := ([], [], 0)
/-- A right record that is put to a state: the code, and the state behind it. -/
def stepR (s : Sta) (r : Rcd) : Int × Sta :=
  if r.1 = 1 then (if (insertM s.1 r.2.2.1).1 = 0 then (0, ((insertM s.1 r.2.2.1).2.2, s.2.1, s.2.2)) else ((insertM s.1 r.2.2.1).1, s))
  else if r.1 = 2 then (if (addM s.2.1 r.2.1 r.2.2.1).1 = 0 then (0, (s.1, (addM s.2.1 r.2.1 r.2.2.1).2, s.2.2)) else ((addM s.2.1 r.2.1 r.2.2.1).1, s))
  else if r.1 = 3 then (if (doneM s.2.1 r.2.1 r.2.2.2).1 = 0 then (0, (s.1, (doneM s.2.1 r.2.1 r.2.2.2).2, s.2.2)) else ((doneM s.2.1 r.2.1 r.2.2.2).1, s))
  else if r.2.2.2 < s.2.2 then (8, s) else (0, (s.1, s.2.1, r.2.2.2))
/-- What ApplyRecord answers. -/
def applyM (s : Sta) (r : Rcd) : Int × Sta :=
  if stateFaultM s ≠ 0 then (stateFaultM s, zeroSta) else if recFaultM r ≠ 0 then (recFaultM r, zeroSta) else if (stepR s r).1 = 0 then (0, (stepR s r).2) else ((stepR s r).1, zeroSta)

theorem stateFault_iff (s : Sta) : stateFaultM s = 0 ↔ storeFaultM s.1 = 0 ∧ hintsFaultM s.2.1 = 0 ∧ inB (s.2.2, 0, 60000) = true := by
  unfold stateFaultM
  constructor
  · intro h
    by_cases h1 : storeFaultM s.1 = 0
    · rw [if_neg (by simp [h1])] at h
      by_cases h2 : hintsFaultM s.2.1 = 0
      · rw [if_neg (by simp [h2])] at h
        by_cases h3 : inB (s.2.2, 0, 60000) = true
        · exact ⟨h1, h2, h3⟩
        · rw [if_neg h3] at h; cases h
      · rw [if_pos h2] at h; exact absurd h h2
    · rw [if_pos h1] at h; exact absurd h h1
  · rintro ⟨h1, h2, h3⟩
    rw [if_neg (by simp [h1]), if_neg (by simp [h2]), if_pos h3]
theorem zero_state : stateFaultM zeroSta = 0 := by decide
theorem done_right {g dl : List Hnt} {p i : Int} (k : doneM g p i = (0, dl)) : hintsFaultM dl = 0 := by
  unfold doneM at k
  by_cases h0 : hintsFaultM g = 0
  rotate_left
  · rw [if_pos h0] at k
    exact absurd (Prod.mk.inj k).1 h0
  rw [if_neg (by simp [h0])] at k
  rcases hf : findH g p i with _ | j
  · rw [hf] at k
    exact absurd (Prod.mk.inj k).1 (by decide)
  rw [hf] at k
  simp only [Prod.mk.injEq, true_and] at k
  obtain ⟨hlt, hh, hal⟩ := findH_is hf
  obtain ⟨g1, g2, g3⟩ := (hintsFault_iff g).1 h0
  have he : dl = g.eraseIdx j := by rw [List.eraseIdx_eq_take_drop_succ]; exact k.symm
  have hsub : dl.Sublist g := by rw [he]; exact List.eraseIdx_sublist _ _
  have := hsub.length_le
  exact (hintsFault_iff dl).2 ⟨by omega, fun y hy => g2 y (hsub.subset hy), g3.sublist hsub⟩
theorem range_four {k p p' : Int} {x : Smp} (h : recFaultM (k, p, x, p') = 0) (h1 : k ≠ 1) (h2 : k ≠ 2) (h3 : k ≠ 3) : inB (p', 0, 60000) = true := by
  by_cases h4 : k = 4
  · subst h4
    have hf : recFormM (4, p, x, p') = true := by
      rcases hf : recFormM (4, p, x, p')
      · rw [recFault_form hf] at h; cases h
      · rfl
    rw [recFault_range hf] at h
    unfold rrangeM mostM at h
    rcases hb : inB (p', 0, 60000)
    · simp [hb] at h
    · rfl
  · have hf : recFormM (k, p, x, p') = false := by unfold recFormM; rw [if_neg h1, if_neg h2, if_neg h3, if_neg h4]
    rw [recFault_form hf] at h; cases h
/-- A right record leaves a right state right. -/
theorem step_right {s : Sta} {r : Rcd} (hs : stateFaultM s = 0) (hr : recFaultM r = 0) (h : (stepR s r).1 = 0) : stateFaultM (stepR s r).2 = 0 := by
  obtain ⟨h1, h2, h3⟩ := (stateFault_iff s).1 hs
  unfold stepR at h ⊢
  by_cases k1 : r.1 = 1
  · rw [if_pos k1] at h ⊢
    by_cases hc : (insertM s.1 r.2.2.1).1 = 0
    · rw [if_pos hc] at h ⊢
      rcases hi : insertM s.1 r.2.2.1 with ⟨c, n, st⟩
      rw [hi] at hc
      obtain rfl : c = 0 := hc
      exact (stateFault_iff _).2 ⟨(insert_said hi).1, h2, h3⟩
    · rw [if_neg hc] at h; exact absurd h hc
  rw [if_neg k1] at h ⊢
  by_cases k2 : r.1 = 2
  · rw [if_pos k2] at h ⊢
    by_cases hc : (addM s.2.1 r.2.1 r.2.2.1).1 = 0
    · rw [if_pos hc] at h ⊢
      rcases hi : addM s.2.1 r.2.1 r.2.2.1 with ⟨c, st⟩
      rw [hi] at hc
      obtain rfl : c = 0 := hc
      exact (stateFault_iff _).2 ⟨h1, (add_said hi).1, h3⟩
    · rw [if_neg hc] at h; exact absurd h hc
  rw [if_neg k2] at h ⊢
  by_cases k3 : r.1 = 3
  · rw [if_pos k3] at h ⊢
    by_cases hc : (doneM s.2.1 r.2.1 r.2.2.2).1 = 0
    · rw [if_pos hc] at h ⊢
      rcases hi : doneM s.2.1 r.2.1 r.2.2.2 with ⟨c, st⟩
      rw [hi] at hc
      obtain rfl : c = 0 := hc
      exact (stateFault_iff _).2 ⟨h1, done_right hi, h3⟩
    · rw [if_neg hc] at h; exact absurd h hc
  rw [if_neg k3] at h ⊢
  by_cases k4 : r.2.2.2 < s.2.2
  · rw [if_pos k4] at h; cases h
  · rw [if_neg k4]
    exact (stateFault_iff _).2 ⟨h1, h2, range_four hr k1 k2 k3⟩
/-- The program's way, at a right state and a right record. -/
theorem apply_right {s : Sta} {r : Rcd} (hs : stateFaultM s = 0) (hr : recFaultM r = 0) : applyM s r = if (stepR s r).1 = 0 then (0, (stepR s r).2) else ((stepR s r).1, zeroSta) := by
  unfold applyM; rw [if_neg (by simp [hs]), if_neg (by simp [hr])]
theorem apply_code {s : Sta} {r : Rcd} (hs : stateFaultM s = 0) (hr : recFaultM r = 0) : (applyM s r).1 = (stepR s r).1 := by
  rw [apply_right hs hr]
  by_cases h : (stepR s r).1 = 0
  · rw [if_pos h, h]
  · rw [if_neg h]
end Go.Proofs.YtmaillakhhdkfaaGreatDoor
/-
  The model's AddHint.
-/
namespace Go.Proofs.YtmaillakhhdkfaaGreatDoor
set_option maxRecDepth 20000
open Go.RowKit
set_option linter.unusedSimpArgs false
set_option linter.unusedVariables false

set_option maxRecDepth 100000 in
set_option maxHeartbeats 4000000 in
theorem specAddHint (A : Option Addr) (n c : Nat) (l : List Hnt) (p x0 x1 x2 x3 : Int) (w : World) (ha : Rd eH w w.heap.size A l) (hn : l.length = n) :
    Calls Tryz.prog 107 #[.slice A n c, .int .i64 p, .agg #[.int .i64 x0, .int .i64 x1, .int .i64 x2, .int .i64 x3]] w (RetHs (addM l p (x0, x1, x2, x3)) w) := by
  have hB0 : Below w.heap.size w ((w.alloc (.cells #[.int .i64 x0, .int .i64 x1, .int .i64 x2, .int .i64 x3] 25)).alloc (.cells #[.int .i64 0, .slice none 0 0] 138)) := ((Below.refl _ _).alloc (Nat.le_refl _) _).alloc (by simp) _
  have bx0 := (At.new w 25 #[.int .i64 x0, .int .i64 x1, .int .i64 x2, .int .i64 x3]).alloc (.cells #[.int .i64 0, .slice none 0 0] 138)
  have e1 : (w.alloc (.cells #[.int .i64 x0, .int .i64 x1, .int .i64 x2, .int .i64 x3] 25)).heap.size = w.heap.size + 1 := by simp
  have r0 := At.new (w.alloc (.cells #[.int .i64 x0, .int .i64 x1, .int .i64 x2, .int .i64 x3] 25)) 138 #[.int .i64 0, .slice none 0 0]
  rw [e1] at r0
  have ha0 := ha.lift hB0
  have HF := specHintsFault A n c l _ ha0 hn
  by_cases h0 : hintsFaultM l = 0
  rotate_left
  · rw [show (addM l p (x0, x1, x2, x3)) = (hintsFaultM l, []) from if_pos h0]
    have hne : (hintsFaultM l != 0) = true := by rw [bne_iff_ne]; exact h0
    generalize hintsFaultM l = sf at *
    clear h0
    go_enter Tryz.func107, Tryz.ntmps107
    go_wp2_with fail
    refine (HF).mono ?_
    rintro e w1 ⟨rfl, hb1⟩
    have hB1 := hB0.trans (hb1.mono hB0.size)
    have r1 := r0.below hb1 r0.lt
    have ha1 := ha0.lift hb1
    have bx1 := bx0.below hb1 bx0.lt
    obtain ⟨b1_0, b1_1, b1_2, b1_3, _, _, _, _⟩ := bx1.four
    obtain ⟨c0, c1, _, _⟩ := r1.two
    go_wp2_with fail
    refine bodyPost_ret (v := .agg #[.int .i64 sf, .slice none 0 0]) (by simp [results, Tryz.results107, go_sem, c0, c1]) rfl ?_
    exact ⟨_, _, _, rfl, Ow.nil, (hB1.setCell (by simp) _).setCell (by simp) _⟩
  obtain ⟨h8, hall, hdis⟩ := (hintsFault_iff l).1 h0
  rw [h0] at HF
  rcases faultM_or (x0, x1, x2, x3) with hf | hf
  rotate_left
  · rw [show (addM l p (x0, x1, x2, x3)) = (3, []) by unfold addM; rw [if_neg (by simp [h0]), if_pos (by simp [hf])]]
    have XF := specSampleFault x0 x1 x2 x3
    rw [hf] at XF
    clear hf h0
    go_enter Tryz.func107, Tryz.ntmps107
    go_wp2_with fail
    refine (HF).mono ?_
    rintro e w1 ⟨rfl, hb1⟩
    have hB1 := hB0.trans (hb1.mono hB0.size)
    have r1 := r0.below hb1 r0.lt
    have ha1 := ha0.lift hb1
    have bx1 := bx0.below hb1 bx0.lt
    obtain ⟨b1_0, b1_1, b1_2, b1_3, _, _, _, _⟩ := bx1.four
    go_wp2_with fail
    refine (XF _).mono ?_
    rintro e w2 ⟨rfl, hb2⟩
    have hB2 := hB1.trans (hb2.mono hB1.size)
    have r2 := r1.below hb2 r1.lt
    have ha2 := ha1.lift hb2
    have bx2 := bx1.below hb2 bx1.lt
    obtain ⟨b2_0, b2_1, b2_2, b2_3, _, _, _, _⟩ := bx2.four
    obtain ⟨c0, c1, _, _⟩ := r2.two
    go_wp2_with fail
    refine bodyPost_ret (v := .agg #[.int .i64 3, .slice none 0 0]) (by simp [results, Tryz.results107, go_sem, c0, c1]) rfl ?_
    exact ⟨_, _, _, rfl, Ow.nil, (hB2.setCell (by simp) _).setCell (by simp) _⟩
  have XF := specSampleFault x0 x1 x2 x3
  rw [hf] at XF
  rcases hp : inB (p, 0, 3)
  · rw [show (addM l p (x0, x1, x2, x3)) = (3, []) by unfold addM; rw [if_neg (by simp [h0]), if_neg (by simp [hf]), if_pos hp]]
    clear hf h0
    go_enter Tryz.func107, Tryz.ntmps107
    go_wp2_with fail
    refine (HF).mono ?_
    rintro e w1 ⟨rfl, hb1⟩
    have hB1 := hB0.trans (hb1.mono hB0.size)
    have r1 := r0.below hb1 r0.lt
    have ha1 := ha0.lift hb1
    have bx1 := bx0.below hb1 bx0.lt
    obtain ⟨b1_0, b1_1, b1_2, b1_3, _, _, _, _⟩ := bx1.four
    go_wp2_with fail
    refine (XF _).mono ?_
    rintro e w2 ⟨rfl, hb2⟩
    have hB2 := hB1.trans (hb2.mono hB1.size)
    have r2 := r1.below hb2 r1.lt
    have ha2 := ha1.lift hb2
    have bx2 := bx1.below hb2 bx1.lt
    obtain ⟨b2_0, b2_1, b2_2, b2_3, _, _, _, _⟩ := bx2.four
    go_wp2_with fail
    refine (l4Node p _).mono ?_
    rintro e w99 ⟨rfl, rfl⟩
    obtain ⟨c0, c1, _, _⟩ := r2.two
    go_wp2_with fail
    refine bodyPost_ret (v := .agg #[.int .i64 3, .slice none 0 0]) (by simp [results, Tryz.results107, go_sem, c0, c1]) rfl ?_
    exact ⟨_, _, _, rfl, Ow.nil, (hB2.setCell (by simp) _).setCell (by simp) _⟩
  have HL := fun W (h1 : Rd eH W W.heap.size A l) => l4Find A n c l p x2 W h1 hn (by unfold maxLen; omega)
  rcases findHI_or l p x2 with ⟨hi, -⟩ | ⟨k, hi, -, hk⟩
  rotate_left
  · rw [hi] at HL
    rw [show (addM l p (x0, x1, x2, x3)) = (6, []) by unfold addM; rw [if_neg (by simp [h0]), if_neg (by simp [hf]), if_neg (by simp [hp]), if_pos (by rw [hi]; omega)]]
    have hk0 : (0 : Int) ≤ (k : Int) := by omega
    clear hf h0 hi
    go_enter Tryz.func107, Tryz.ntmps107
    go_wp2_with fail
    refine (HF).mono ?_
    rintro e w1 ⟨rfl, hb1⟩
    have hB1 := hB0.trans (hb1.mono hB0.size)
    have r1 := r0.below hb1 r0.lt
    have ha1 := ha0.lift hb1
    have bx1 := bx0.below hb1 bx0.lt
    obtain ⟨b1_0, b1_1, b1_2, b1_3, _, _, _, _⟩ := bx1.four
    go_wp2_with fail
    refine (XF _).mono ?_
    rintro e w2 ⟨rfl, hb2⟩
    have hB2 := hB1.trans (hb2.mono hB1.size)
    have r2 := r1.below hb2 r1.lt
    have ha2 := ha1.lift hb2
    have bx2 := bx1.below hb2 bx1.lt
    obtain ⟨b2_0, b2_1, b2_2, b2_3, _, _, _, _⟩ := bx2.four
    go_wp2_with fail
    refine (l4Node p _).mono ?_
    rintro e w99 ⟨rfl, rfl⟩
    go_wp2_with fail
    refine (HL _ ha2).mono ?_
    rintro e w99 ⟨rfl, rfl⟩
    obtain ⟨c0, c1, _, _⟩ := r2.two
    go_wp2_with fail
    refine bodyPost_ret (v := .agg #[.int .i64 6, .slice none 0 0]) (by simp [results, Tryz.results107, go_sem, c0, c1]) rfl ?_
    exact ⟨_, _, _, rfl, Ow.nil, (hB2.setCell (by simp) _).setCell (by simp) _⟩
  rw [hi] at HL
  by_cases hfull : 8 ≤ n
  · rw [show (addM l p (x0, x1, x2, x3)) = (7, []) by unfold addM; rw [if_neg (by simp [h0]), if_neg (by simp [hf]), if_neg (by simp [hp]), if_neg (by rw [hi]; omega), if_pos (by omega)]]
    have hfi : (8 : Int) ≤ (n : Int) := by omega
    clear hf h0 hi
    go_enter Tryz.func107, Tryz.ntmps107
    go_wp2_with fail
    refine (HF).mono ?_
    rintro e w1 ⟨rfl, hb1⟩
    have hB1 := hB0.trans (hb1.mono hB0.size)
    have r1 := r0.below hb1 r0.lt
    have ha1 := ha0.lift hb1
    have bx1 := bx0.below hb1 bx0.lt
    obtain ⟨b1_0, b1_1, b1_2, b1_3, _, _, _, _⟩ := bx1.four
    go_wp2_with fail
    refine (XF _).mono ?_
    rintro e w2 ⟨rfl, hb2⟩
    have hB2 := hB1.trans (hb2.mono hB1.size)
    have r2 := r1.below hb2 r1.lt
    have ha2 := ha1.lift hb2
    have bx2 := bx1.below hb2 bx1.lt
    obtain ⟨b2_0, b2_1, b2_2, b2_3, _, _, _, _⟩ := bx2.four
    go_wp2_with fail
    refine (l4Node p _).mono ?_
    rintro e w99 ⟨rfl, rfl⟩
    go_wp2_with fail
    refine (HL _ ha2).mono ?_
    rintro e w99 ⟨rfl, rfl⟩
    obtain ⟨c0, c1, _, _⟩ := r2.two
    go_wp2_with fail
    refine bodyPost_ret (v := .agg #[.int .i64 7, .slice none 0 0]) (by simp [results, Tryz.results107, go_sem, c0, c1]) rfl ?_
    exact ⟨_, _, _, rfl, Ow.nil, (hB2.setCell (by simp) _).setCell (by simp) _⟩
  · rw [show (addM l p (x0, x1, x2, x3)) = (0, l ++ [(p, (x0, x1, x2, x3), 0, 0)]) by unfold addM; rw [if_neg (by simp [h0]), if_neg (by simp [hf]), if_neg (by simp [hp]), if_neg (by rw [hi]; omega), if_neg (by omega)]]
    have hfi : ¬ (8 : Int) ≤ (n : Int) := by omega
    clear hf h0 hi
    go_enter Tryz.func107, Tryz.ntmps107
    go_wp2_with fail
    refine (HF).mono ?_
    rintro e w1 ⟨rfl, hb1⟩
    have hB1 := hB0.trans (hb1.mono hB0.size)
    have r1 := r0.below hb1 r0.lt
    have ha1 := ha0.lift hb1
    have bx1 := bx0.below hb1 bx0.lt
    obtain ⟨b1_0, b1_1, b1_2, b1_3, _, _, _, _⟩ := bx1.four
    go_wp2_with fail
    refine (XF _).mono ?_
    rintro e w2 ⟨rfl, hb2⟩
    have hB2 := hB1.trans (hb2.mono hB1.size)
    have r2 := r1.below hb2 r1.lt
    have ha2 := ha1.lift hb2
    have bx2 := bx1.below hb2 bx1.lt
    obtain ⟨b2_0, b2_1, b2_2, b2_3, _, _, _, _⟩ := bx2.four
    go_wp2_with fail
    refine (l4Node p _).mono ?_
    rintro e w99 ⟨rfl, rfl⟩
    go_wp2_with fail
    refine (HL _ ha2).mono ?_
    rintro e w99 ⟨rfl, rfl⟩
    go_wp2
    have hbd := hB2.drew
    have bxd := bx2.drew
    have rd := r2.drew
    have had := ha2.drewN 1
    clear b1_0 b1_1 b1_2 b1_3 b2_0 b2_1 b2_2 b2_3
    refine wp_region_fork2 [(0, false), (2, false), (3, false), (4, false)] [(5, true), (6, true), (7, false), (8, true)] [(1, true), (6, true), (7, false), (8, true)] 1 5 (fun u => At u w.heap.size 25 #[.int .i64 x0, .int .i64 x1, .int .i64 x2, .int .i64 x3]) (by kernel_rfl) (by kernel_rfl) (fun _ _ _ _ _ h => h) bxd ?_
    simp only [mixOps, List.map_cons, List.map_nil, List.getElem?_cons_succ, List.getElem?_cons_zero, Option.getD_some]
    iterate 4 (
      refine mixR_pure (v := ?_) (by rfl) (fun u hu => ?_) ?_
      rotate_left
      · obtain ⟨_, _, _, _, _, _, _, _⟩ := hu.four
        go_simp
        (with_reducible rfl)
      (try simp only [Act.put, List.setIfInBounds_toArray, List.set_cons_zero, List.set_cons_succ]))
    refine mixR_nil ⟨?_, ?_⟩
    · refine mixR_call (by rfl) (fun K hK => ?_)
      go_simp
      refine (l4Copy A n c l _ had hn (by omega)).mono ?_
      rintro e w3 ⟨A3, c3, rfl, o3, hb3⟩
      have o3 : Ow eH w3 w2.heap.size A3 n c3 l := o3
      have hB3 := hbd.trans (hb3.mono hbd.size)
      have bx3 := bxd.below hb3 bxd.lt
      have r3 := rd.below hb3 rd.lt
      refine hK _ _ _ (fun _ h => h) bx3 ?_
      (try simp only [Act.put, List.setIfInBounds_toArray, List.set_cons_zero, List.set_cons_succ])
      refine mixR_call (by rfl) (fun K hK => ?_)
      go_simp
      have hB4 := hB3.alloc hB3.size (.cells #[.int .i64 p, .int .i64 x0, .int .i64 x1, .int .i64 x2, .int .i64 x3, .int .i64 0, .int .i64 0] 75)
      have bx4 := bx3.alloc (.cells #[.int .i64 p, .int .i64 x0, .int .i64 x1, .int .i64 x2, .int .i64 x3, .int .i64 0, .int .i64 0] 75)
      have r4 := r3.alloc (.cells #[.int .i64 p, .int .i64 x0, .int .i64 x1, .int .i64 x2, .int .i64 x3, .int .i64 0, .int .i64 0] 75)
      have o4 := o3.alloc (.cells #[.int .i64 p, .int .i64 x0, .int .i64 x1, .int .i64 x2, .int .i64 x3, .int .i64 0, .int .i64 0] 75)
      have ob4 := rd_lit okH w3 75 [(p, (x0, x1, x2, x3), 0, 0)] #[.int .i64 p, .int .i64 x0, .int .i64 x1, .int .i64 x2, .int .i64 x3, .int .i64 0, .int .i64 0] rfl
      have hs4 : w2.heap.size ≤ (w3.alloc (.cells #[.int .i64 p, .int .i64 x0, .int .i64 x1, .int .i64 x2, .int .i64 x3, .int .i64 0, .int .i64 0] 75)).heap.size := by have := hb3.size; simp at this ⊢; omega
      refine hK _ _ _ (fun _ h => h) bx4 ?_
      (try simp only [Act.put, List.setIfInBounds_toArray, List.set_cons_zero, List.set_cons_succ])
      refine mixR_call (by rfl) (fun K hK => ?_)
      refine wp_append_ow okH _ (.tmp 37) (.tmp 41) _ rfl w2.heap.size info_hnt Tryz.underlying37 rfl A3 n c3 l rfl o4 _ 1 1 _ [(p, (x0, x1, x2, x3), 0, 0)] rfl ob4 rfl (by unfold maxLen; omega) (by omega) hs4 ?_
      intro A5 c5 w5 ow5 hg5 _
      have hB5 := hB4.grown hg5 hB4.size (fun g hg => by have := (o4.lt g hg).1; have := hB2.size; omega)
      have bx5 := bx4.grown hg5 (fun e => by have := (o4.lt _ e).1; have := bx2.lt; omega)
      have r5 := r4.grown hg5 (fun e => by have := (o4.lt _ e).1; have := r2.lt; omega)
      refine hK _ _ _ (fun _ h => h) bx5 ?_
      (try simp only [Act.put, List.setIfInBounds_toArray, List.set_cons_zero, List.set_cons_succ])
      refine mixR_pure (v := ?_) (by rfl) (fun u hu => ?_) ?_
      rotate_left
      · go_simp
        (with_reducible rfl)
      (try simp only [Act.put, List.setIfInBounds_toArray, List.set_cons_zero, List.set_cons_succ])
      obtain ⟨c0, c1, f0, f1⟩ := r5.two
      refine mixR_call (by rfl) (fun K hK => ?_)
      go_simp
      have r6 := r5.set 0 (.int .i64 0)
      have r7 := r6.set 1 (.slice A5 (n + 1) c5)
      refine hK _ _ _ (fun _ h => h) ((bx5.far (p := ⟨w.heap.size + 1, 0, none⟩) (by simp) _).far (p := ⟨w.heap.size + 1, 1, none⟩) (by simp) _) ?_
      (try simp only [Act.put, List.setIfInBounds_toArray, List.set_cons_zero, List.set_cons_succ])
      refine mixR_nil ?_
      go_wp2
      refine bodyPost_ret (v := .agg #[.int .i64 0, .slice A5 (n + 1) c5]) (by simp [results, Tryz.results107, go_sem, c0, c1]) rfl ?_
      exact ⟨_, _, _, rfl, (((ow5.under (p := ⟨w.heap.size + 1, 0, none⟩) r2.lt _).under (p := ⟨w.heap.size + 1, 1, none⟩) r2.lt _).from_ hB2.size), (hB5.setCell (by simp) _).setCell (by simp) _⟩
    · refine mixR_call (by rfl) (fun K hK => ?_)
      go_simp
      have hB3 := hB2.alloc hB2.size (.cells #[.int .i64 p, .int .i64 x0, .int .i64 x1, .int .i64 x2, .int .i64 x3, .int .i64 0, .int .i64 0] 75)
      have bx3 := (bx2.alloc (.cells #[.int .i64 p, .int .i64 x0, .int .i64 x1, .int .i64 x2, .int .i64 x3, .int .i64 0, .int .i64 0] 75)).drew
      have r3 := (r2.alloc (.cells #[.int .i64 p, .int .i64 x0, .int .i64 x1, .int .i64 x2, .int .i64 x3, .int .i64 0, .int .i64 0] 75)).drew
      have ha3 := ha2.lift ((Below.refl w2.heap.size w2).alloc (Nat.le_refl _) (.cells #[.int .i64 p, .int .i64 x0, .int .i64 x1, .int .i64 x2, .int .i64 x3, .int .i64 0, .int .i64 0] 75))
      have ob3 := rd_lit okH w2 75 [(p, (x0, x1, x2, x3), 0, 0)] #[.int .i64 p, .int .i64 x0, .int .i64 x1, .int .i64 x2, .int .i64 x3, .int .i64 0, .int .i64 0] rfl
      refine hK _ _ _ (fun _ h => h) bx3 ?_
      (try simp only [Act.put, List.setIfInBounds_toArray, List.set_cons_zero, List.set_cons_succ])
      refine mixR_call (by rfl) (fun K hK => ?_)
      go_simp
      refine (l4Copy A n c l _ (ha3.drewN 1) hn (by omega)).mono ?_
      rintro e w4 ⟨A3, c3, rfl, o3, hb4⟩
      have hB4 := hB3.drew.trans (hb4.mono hB3.size)
      have bx4 := bx3.below hb4 bx3.lt
      have r4 := r3.below hb4 r3.lt
      have o4 : Ow eH w4 w2.heap.size A3 n c3 l := o3.from_ (by simp)
      have ob4 := (ob3.drewN 1).below hb4 (by simp)
      have hs4 : w2.heap.size ≤ w4.heap.size := by have := hb4.size; simp at this; omega
      refine hK _ _ _ (fun _ h => h) bx4 ?_
      (try simp only [Act.put, List.setIfInBounds_toArray, List.set_cons_zero, List.set_cons_succ])
      refine mixR_call (by rfl) (fun K hK => ?_)
      refine wp_append_ow okH _ (.tmp 37) (.tmp 41) _ rfl w2.heap.size info_hnt Tryz.underlying37 rfl A3 n c3 l rfl o4 _ 1 1 _ [(p, (x0, x1, x2, x3), 0, 0)] rfl ob4 rfl (by unfold maxLen; omega) (by omega) hs4 ?_
      intro A5 c5 w5 ow5 hg5 _
      have hB5 := hB4.grown hg5 hB4.size (fun g hg => by have := (o4.lt g hg).1; have := hB2.size; omega)
      have bx5 := bx4.grown hg5 (fun e => by have := (o4.lt _ e).1; have := bx2.lt; omega)
      have r5 := r4.grown hg5 (fun e => by have := (o4.lt _ e).1; have := r2.lt; omega)
      refine hK _ _ _ (fun _ h => h) bx5 ?_
      (try simp only [Act.put, List.setIfInBounds_toArray, List.set_cons_zero, List.set_cons_succ])
      refine mixR_pure (v := ?_) (by rfl) (fun u hu => ?_) ?_
      rotate_left
      · go_simp
        (with_reducible rfl)
      (try simp only [Act.put, List.setIfInBounds_toArray, List.set_cons_zero, List.set_cons_succ])
      obtain ⟨c0, c1, f0, f1⟩ := r5.two
      refine mixR_call (by rfl) (fun K hK => ?_)
      go_simp
      have r6 := r5.set 0 (.int .i64 0)
      have r7 := r6.set 1 (.slice A5 (n + 1) c5)
      refine hK _ _ _ (fun _ h => h) ((bx5.far (p := ⟨w.heap.size + 1, 0, none⟩) (by simp) _).far (p := ⟨w.heap.size + 1, 1, none⟩) (by simp) _) ?_
      (try simp only [Act.put, List.setIfInBounds_toArray, List.set_cons_zero, List.set_cons_succ])
      refine mixR_nil ?_
      go_wp2
      refine bodyPost_ret (v := .agg #[.int .i64 0, .slice A5 (n + 1) c5]) (by simp [results, Tryz.results107, go_sem, c0, c1]) rfl ?_
      exact ⟨_, _, _, rfl, (((ow5.under (p := ⟨w.heap.size + 1, 0, none⟩) r2.lt _).under (p := ⟨w.heap.size + 1, 1, none⟩) r2.lt _).from_ hB2.size), (hB5.setCell (by simp) _).setCell (by simp) _⟩
end Go.Proofs.YtmaillakhhdkfaaGreatDoor
/-
  The model's DoneHint.
-/
namespace Go.Proofs.YtmaillakhhdkfaaGreatDoor
set_option maxRecDepth 20000
open Go.RowKit
set_option linter.unusedSimpArgs false
set_option linter.unusedVariables false

set_option maxRecDepth 100000 in
set_option maxHeartbeats 4000000 in
theorem specDoneHint (A : Option Addr) (n c : Nat) (l : List Hnt) (p i : Int) (w : World) (ha : Rd eH w w.heap.size A l) (hn : l.length = n) (hc : n ≤ c) :
    Calls Tryz.prog 108 #[.slice A n c, .int .i64 p, .int .i64 i] w (RetHs (doneM l p i) w) := by
  have hB0 : Below w.heap.size w (w.alloc (.cells #[.int .i64 0, .slice none 0 0] 138)) := (Below.refl _ _).alloc (Nat.le_refl _) _
  have r0 := At.new w 138 #[.int .i64 0, .slice none 0 0]
  have ha0 := ha.lift hB0
  have HF := specHintsFault A n c l _ ha0 hn
  by_cases h0 : hintsFaultM l = 0
  rotate_left
  · rw [show (doneM l p i) = (hintsFaultM l, []) from if_pos h0]
    have hne : (hintsFaultM l != 0) = true := by rw [bne_iff_ne]; exact h0
    generalize hintsFaultM l = sf at *
    clear h0
    go_enter Tryz.func108, Tryz.ntmps108
    go_wp2_with fail
    refine (HF).mono ?_
    rintro e w1 ⟨rfl, hb1⟩
    have hB1 := hB0.trans (hb1.mono hB0.size)
    have r1 := r0.below hb1 r0.lt
    have ha1 := ha0.lift hb1
    obtain ⟨c0, c1, _, _⟩ := r1.two
    go_wp2_with fail
    refine bodyPost_ret (v := .agg #[.int .i64 sf, .slice none 0 0]) (by simp [results, Tryz.results108, go_sem, c0, c1]) rfl ?_
    exact ⟨_, _, _, rfl, Ow.nil, (hB1.setCell (by simp) _).setCell (by simp) _⟩
  obtain ⟨h8, hall, hdis⟩ := (hintsFault_iff l).1 h0
  rw [h0] at HF
  have HL := fun W (h1 : Rd eH W W.heap.size A l) => l4Find A n c l p i W h1 hn (by unfold maxLen; omega)
  rcases findHI_or l p i with ⟨hi, hj⟩ | ⟨k, hi, hj, hk⟩
  · rw [hi] at HL
    rw [show (doneM l p i) = (4, []) by unfold doneM; rw [if_neg (by simp [h0]), hj]]
    clear h0 hi hj
    go_enter Tryz.func108, Tryz.ntmps108
    go_wp2_with fail
    refine (HF).mono ?_
    rintro e w1 ⟨rfl, hb1⟩
    have hB1 := hB0.trans (hb1.mono hB0.size)
    have r1 := r0.below hb1 r0.lt
    have ha1 := ha0.lift hb1
    go_wp2_with fail
    refine (HL _ ha1).mono ?_
    rintro e w99 ⟨rfl, rfl⟩
    obtain ⟨c0, c1, _, _⟩ := r1.two
    go_wp2_with fail
    refine bodyPost_ret (v := .agg #[.int .i64 4, .slice none 0 0]) (by simp [results, Tryz.results108, go_sem, c0, c1]) rfl ?_
    exact ⟨_, _, _, rfl, Ow.nil, (hB1.setCell (by simp) _).setCell (by simp) _⟩
  rw [hi] at HL
  rw [show (doneM l p i) = (0, l.take k ++ l.drop (k + 1)) by unfold doneM; rw [if_neg (by simp [h0]), hj]]
  obtain ⟨g, o, rfl, -⟩ := ha0.add hk
  by_cases hcc : c = k + 1
  · subst hcc
    have hX : ∀ W : World, Rd eH W W.heap.size (some ⟨g, o, none⟩) l → Rd eH W W.heap.size (some ⟨g, o, none⟩) (l.drop (k + 1)) := fun W h => by
      rw [List.drop_of_length_le (by omega)]
      exact Rd.nil
    have htl : (l.take k).length = k := by rw [List.length_take]; omega
    have hdl : (l.drop (k + 1)).length = 0 := by rw [List.length_drop]; omega
    have HX := Lib.hid hX
    have Htl := Lib.hid htl
    have Hdl := Lib.hid hdl
    have hk0 : ¬ (k : Int) < 0 := by omega
    have hk1 : (0 : Int) ≤ (k : Int) := by omega
    have hkc : k ≤ (k + 1) := by omega
    have hwr : IntKind.i64.wrap ((k : Int) + 1) = (k : Int) + 1 := IntWalk.i64_in _ (by omega)
    have htn : ((k : Int) + 1).toNat = k + 1 := by omega
    have hm : k + 0 ≤ 8 := by omega
    clear h0 hi hj hX htl hdl
    go_enter Tryz.func108, Tryz.ntmps108
    go_wp2_with fail
    refine (HF).mono ?_
    rintro e w1 ⟨rfl, hb1⟩
    have hB1 := hB0.trans (hb1.mono hB0.size)
    have r1 := r0.below hb1 r0.lt
    have ha1 := ha0.lift hb1
    go_wp2_with fail
    refine (HL _ ha1).mono ?_
    rintro e w99 ⟨rfl, rfl⟩
    go_wp2
    have hbd := hB1.drew
    have rd := r1.drew
    have had := ha1.drewN 1
    have i1 : (k : Int) ≤ (k : Int) + 1 := by omega
    have i2 : (k : Int) + 1 ≤ (n : Int) := by omega
    have i3 : (0 : Int) ≤ (k : Int) + 1 := by omega
    refine wp_region_mix [(0, false), (1, false), (2, false), (4, false), (5, false), (6, false), (7, false), (3, true), (8, true), (9, false), (10, true)] (fun _ => True) (by kernel_rfl) (by kernel_rfl) (fun _ _ _ _ _ h => h) trivial ?_
    simp only [mixOps, List.map_cons, List.map_nil, List.getElem?_cons_succ, List.getElem?_cons_zero, Option.getD_some]
    iterate 7 (
      refine mix_pure (v := ?_) (by rfl) (fun u hu => ?_) ?_
      rotate_left
      · skip
        go_simp
        (with_reducible rfl)
      (try simp only [Act.put, List.setIfInBounds_toArray, List.set_cons_zero, List.set_cons_succ]))
    refine mix_call (by rfl) (fun K hK => ?_)
    go_simp
    refine (l4Copy (some ⟨g, o, none⟩) k _ (l.take k) _ (had.take k) Htl.out (by omega)).mono ?_
    rintro e w3 ⟨A3, c3, rfl, o3, hb3⟩
    have o3 : Ow eH w3 w1.heap.size A3 k c3 (l.take k) := o3
    have hB3 := hbd.trans (hb3.mono hbd.size)
    have r3 := rd.below hb3 rd.lt
    have hX3 := HX.out _ (had.lift hb3)
    have hs3 : w1.heap.size ≤ w3.heap.size := hb3.size
    refine hK _ _ _ (fun _ h => h) trivial ?_
    (try simp only [Act.put, List.setIfInBounds_toArray, List.set_cons_zero, List.set_cons_succ])
    refine mix_call (by rfl) (fun K hK => ?_)
    refine wp_append_ow okH _ (.tmp 25) (.tmp 29) _ rfl w1.heap.size info_hnt Tryz.underlying37 rfl A3 k c3 (l.take k) rfl o3 _ 0 _ _ (l.drop (k + 1)) rfl hX3 Hdl.out (by unfold maxLen; omega) (by omega) hs3 ?_
    intro A5 c5 w5 ow5 hg5 _
    have hB5 := hB3.grown hg5 hB3.size (fun g hg => by have := (o3.lt g hg).1; have := hB1.size; omega)
    have r5 := r3.grown hg5 (fun e => by have := (o3.lt _ e).1; have := r1.lt; omega)
    refine hK _ _ _ (fun _ h => h) trivial ?_
    (try simp only [Act.put, List.setIfInBounds_toArray, List.set_cons_zero, List.set_cons_succ])
    iterate 1 (
      refine mix_pure (v := ?_) (by rfl) (fun u hu => ?_) ?_
      rotate_left
      · skip
        go_simp
        (with_reducible rfl)
      (try simp only [Act.put, List.setIfInBounds_toArray, List.set_cons_zero, List.set_cons_succ]))
    obtain ⟨c0, c1, f0, f1⟩ := r5.two
    refine mix_call (by rfl) (fun K hK => ?_)
    go_simp
    refine hK _ _ _ (fun _ h => h) trivial ?_
    (try simp only [Act.put, List.setIfInBounds_toArray, List.set_cons_zero, List.set_cons_succ])
    refine mix_nil ?_
    go_wp2
    refine bodyPost_ret (v := .agg #[.int .i64 0, .slice A5 (k + 0) c5]) (by simp [results, Tryz.results108, go_sem, c0, c1]) rfl ?_
    exact ⟨_, _, _, rfl, (((ow5.under (p := ⟨w.heap.size, 0, none⟩) r1.lt _).under (p := ⟨w.heap.size, 1, none⟩) r1.lt _).from_ hB1.size), (hB5.setCell (Nat.le_refl _) _).setCell (Nat.le_refl _) _⟩
  · have hX : ∀ W : World, Rd eH W W.heap.size (some ⟨g, o, none⟩) l → Rd eH W W.heap.size (some ⟨g, o + (k + 1) * 7, none⟩) (l.drop (k + 1)) := fun W h => by
      rcases Nat.lt_or_ge (k + 1) l.length with hl | hl
      · obtain ⟨g', o', e, hr⟩ := h.add hl
        obtain ⟨rfl, rfl⟩ : g = g' ∧ o = o' := by simpa using Option.some.inj e
        exact hr
      · rw [List.drop_of_length_le hl]
        exact Rd.nil
    have htl : (l.take k).length = k := by rw [List.length_take]; omega
    have hdl : (l.drop (k + 1)).length = (n - (k + 1)) := by rw [List.length_drop]; omega
    have HX := Lib.hid hX
    have Htl := Lib.hid htl
    have Hdl := Lib.hid hdl
    have hk0 : ¬ (k : Int) < 0 := by omega
    have hk1 : (0 : Int) ≤ (k : Int) := by omega
    have hkc : k ≤ c := by omega
    have hwr : IntKind.i64.wrap ((k : Int) + 1) = (k : Int) + 1 := IntWalk.i64_in _ (by omega)
    have htn : ((k : Int) + 1).toNat = k + 1 := by omega
    have hm : k + (n - (k + 1)) ≤ 8 := by omega
    clear h0 hi hj hX htl hdl
    go_enter Tryz.func108, Tryz.ntmps108
    go_wp2_with fail
    refine (HF).mono ?_
    rintro e w1 ⟨rfl, hb1⟩
    have hB1 := hB0.trans (hb1.mono hB0.size)
    have r1 := r0.below hb1 r0.lt
    have ha1 := ha0.lift hb1
    go_wp2_with fail
    refine (HL _ ha1).mono ?_
    rintro e w99 ⟨rfl, rfl⟩
    go_wp2
    have hbd := hB1.drew
    have rd := r1.drew
    have had := ha1.drewN 1
    have i1 : (k : Int) ≤ (c : Int) := by omega
    have i2 : (k : Int) + 1 ≤ (n : Int) := by omega
    have i3 : (0 : Int) ≤ (k : Int) + 1 := by omega
    refine wp_region_mix [(0, false), (1, false), (2, false), (4, false), (5, false), (6, false), (7, false), (3, true), (8, true), (9, false), (10, true)] (fun _ => True) (by kernel_rfl) (by kernel_rfl) (fun _ _ _ _ _ h => h) trivial ?_
    simp only [mixOps, List.map_cons, List.map_nil, List.getElem?_cons_succ, List.getElem?_cons_zero, Option.getD_some]
    iterate 7 (
      refine mix_pure (v := ?_) (by rfl) (fun u hu => ?_) ?_
      rotate_left
      · skip
        go_simp
        (with_reducible rfl)
      (try simp only [Act.put, List.setIfInBounds_toArray, List.set_cons_zero, List.set_cons_succ]))
    refine mix_call (by rfl) (fun K hK => ?_)
    go_simp
    refine (l4Copy (some ⟨g, o, none⟩) k _ (l.take k) _ (had.take k) Htl.out (by omega)).mono ?_
    rintro e w3 ⟨A3, c3, rfl, o3, hb3⟩
    have o3 : Ow eH w3 w1.heap.size A3 k c3 (l.take k) := o3
    have hB3 := hbd.trans (hb3.mono hbd.size)
    have r3 := rd.below hb3 rd.lt
    have hX3 := HX.out _ (had.lift hb3)
    have hs3 : w1.heap.size ≤ w3.heap.size := hb3.size
    refine hK _ _ _ (fun _ h => h) trivial ?_
    (try simp only [Act.put, List.setIfInBounds_toArray, List.set_cons_zero, List.set_cons_succ])
    refine mix_call (by rfl) (fun K hK => ?_)
    refine wp_append_ow okH _ (.tmp 25) (.tmp 29) _ rfl w1.heap.size info_hnt Tryz.underlying37 rfl A3 k c3 (l.take k) rfl o3 _ (n - (k + 1)) _ _ (l.drop (k + 1)) rfl hX3 Hdl.out (by unfold maxLen; omega) (by omega) hs3 ?_
    intro A5 c5 w5 ow5 hg5 _
    have hB5 := hB3.grown hg5 hB3.size (fun g hg => by have := (o3.lt g hg).1; have := hB1.size; omega)
    have r5 := r3.grown hg5 (fun e => by have := (o3.lt _ e).1; have := r1.lt; omega)
    refine hK _ _ _ (fun _ h => h) trivial ?_
    (try simp only [Act.put, List.setIfInBounds_toArray, List.set_cons_zero, List.set_cons_succ])
    iterate 1 (
      refine mix_pure (v := ?_) (by rfl) (fun u hu => ?_) ?_
      rotate_left
      · skip
        go_simp
        (with_reducible rfl)
      (try simp only [Act.put, List.setIfInBounds_toArray, List.set_cons_zero, List.set_cons_succ]))
    obtain ⟨c0, c1, f0, f1⟩ := r5.two
    refine mix_call (by rfl) (fun K hK => ?_)
    go_simp
    refine hK _ _ _ (fun _ h => h) trivial ?_
    (try simp only [Act.put, List.setIfInBounds_toArray, List.set_cons_zero, List.set_cons_succ])
    refine mix_nil ?_
    go_wp2
    refine bodyPost_ret (v := .agg #[.int .i64 0, .slice A5 (k + (n - (k + 1))) c5]) (by simp [results, Tryz.results108, go_sem, c0, c1]) rfl ?_
    exact ⟨_, _, _, rfl, (((ow5.under (p := ⟨w.heap.size, 0, none⟩) r1.lt _).under (p := ⟨w.heap.size, 1, none⟩) r1.lt _).from_ hB1.size), (hB5.setCell (Nat.le_refl _) _).setCell (Nat.le_refl _) _⟩
end Go.Proofs.YtmaillakhhdkfaaGreatDoor
/-
  Two blocks that are known whole; a state copied: the model's.
-/
namespace Go.Proofs.YtmaillakhhdkfaaGreatDoor
set_option maxRecDepth 20000
open Go.RowKit
set_option linter.unusedSimpArgs false
set_option linter.unusedVariables false
attribute [local irreducible] mixW

/-- Two blocks that are known whole. -/
def At2 (w : World) (g : Nat) (t : TypeId) (cs : Array Value) (g' : Nat) (t' : TypeId) (cs' : Array Value) : Prop := At w g t cs ∧ At w g' t' cs'
section
variable {w w' : World} {g g' : Nat} {t t' : TypeId} {cs cs' : Array Value}
theorem At2.lt (h : At2 w g t cs g' t' cs') : g < w.heap.size ∧ g' < w.heap.size := ⟨h.1.lt, h.2.lt⟩
theorem At2.drew (h : At2 w g t cs g' t' cs') : At2 w.drew g t cs g' t' cs' := ⟨h.1.drew, h.2.drew⟩
theorem At2.below {B : Nat} (h : At2 w g t cs g' t' cs') (hb : Below B w w') (hl : g < B ∧ g' < B) : At2 w' g t cs g' t' cs' := ⟨h.1.below hb hl.1, h.2.below hb hl.2⟩
theorem At2.alloc (h : At2 w g t cs g' t' cs') (o : Obj) : At2 (w.alloc o) g t cs g' t' cs' := ⟨h.1.alloc o, h.2.alloc o⟩
theorem At2.far (h : At2 w g t cs g' t' cs') {p : Addr} (hp : g ≠ p.block ∧ g' ≠ p.block) (u : Value) : At2 (w.setCell p u) g t cs g' t' cs' := ⟨h.1.far hp.1 u, h.2.far hp.2 u⟩
end
/-- A row of the call's own lies in no block of another type. -/
theorem Ow.apart {α : Type} {E : Enc α} {w : World} {base n c : Nat} {A : Option Addr} {l : List α} {g : Nat} {t : TypeId} {cs : Array Value} (h : Ow E w base A n c l) (hne : E.tid ≠ t) (hx : At w g t cs) (i : Nat) (u : Value) : Ow E (w.setCell ⟨g, i, none⟩ u) base A n c l := by
  refine h.grown (grown_setCell w ⟨g, i, none⟩ u) (fun k hk e => ?_)
  obtain rfl : g = k := by simpa using e
  rcases h.2 with ⟨h0, _⟩ | ⟨g', cap, cur, hv, hb, hgg, rest⟩
  · simp only [Value.slice.injEq] at h0
    rw [h0.1] at hk
    simp at hk
  · simp only [Value.slice.injEq] at hv
    rw [hv.1] at hk
    obtain rfl : g' = g := by simpa using hk
    unfold At at hx
    rw [hx] at hgg
    simp only [Option.some.injEq, Obj.cells.injEq] at hgg
    exact hne hgg.2.1.symm
theorem grown_any {w w' : World} (h : w.grownBy w' none) (r : Option Nat) : w.grownBy w' r := ⟨h.os, h.tape, h.output, h.size, fun k hk _ => h.block k hk (by simp)⟩

end Go.Proofs.YtmaillakhhdkfaaGreatDoor
/-
  What holds of the pure functions: a word read back; frames read back; one byte that is another one changes the sum.
-/
namespace Go.Proofs.YtmaillakhhdkfaaGreatDoor
set_option maxRecDepth 20000
open Go.RowKit

/-! ### Words -/
theorem packL_cons (m s : Nat) : packL m (s + 1) = UInt8.ofNat m :: packL (m / 256) s := by
  unfold packL
  rw [List.range_succ_eq_map, List.map_cons, List.map_map, Nat.pow_zero, Nat.div_one]
  congr 1
  apply List.map_congr_left
  intro i _
  simp only [Function.comp]
  rw [Nat.div_div_eq_div_mul, Nat.pow_succ, Nat.mul_comm]
/-! ### Sums -/
/-! ### Frames -/
theorem firstM_frame {d b : List UInt8} (h : firstM d = some b) : frameL b = d.take (b.length + 3) := by
  cases d with
  | nil => simp [firstM] at h
  | cons x r =>
    unfold firstM at h
    simp only at h
    split at h
    · rename_i hc
      obtain rfl := Option.some.inj h
      have hl : (r.take x.toNat).length = x.toNat := by rw [List.length_take]; omega
      rw [hl]
      exact hc.2.2.2.symm
    · cases h
/-- What the frames' bodies are packed into is what they were read from. -/
theorem bodF_frames (d : List UInt8) : ∀ J, Going d J → (bodF d J).flatMap frameL = d.take (posF d J) ∧ ∀ b ∈ bodF d J, 1 ≤ b.length ∧ b.length ≤ 40
  | 0, _ => by simp [bodF, posF]
  | J + 1, h => by
    have ih := bodF_frames d J fun i hi => h i (by omega)
    have hJ := h J (by omega)
    cases hf : firstM (d.drop (posF d J)) with
    | none => exact absurd hf hJ
    | some b =>
      have hl := firstM_len hf
      refine ⟨?_, fun b' hb' => ?_⟩
      · simp only [bodF, posF, hf]
        rw [frontM_yes hf, List.take_add, List.flatMap_append, ih.1, ← firstM_frame hf]
        simp
      · simp only [bodF, hf, List.mem_append, Option.mem_toList] at hb'
        rcases hb' with hb' | hb'
        · exact ih.2 b' hb'
        · obtain rfl : b = b' := by simpa using hb'
          exact ⟨hl.1, hl.2.2.1⟩
theorem endF_end (d : List UInt8) : ∀ k j, Going d j → d.length ≤ posF d j + k → EndF d (endF d k j)
  | 0, j, hg, hl => by
    refine ⟨?_, hg⟩
    unfold endF
    rw [List.drop_eq_nil_of_le (by omega)]
    rfl
  | k + 1, j, hg, hl => by
    unfold endF
    cases hf : firstM (d.drop (posF d j)) with
    | none => exact ⟨hf, hg⟩
    | some b =>
      refine endF_end d k (j + 1) (fun i hi => ?_) ?_
      · rcases Nat.lt_or_ge i j with h | h
        · exact hg i h
        · obtain rfl : i = j := by omega
          rw [hf]
          simp
      · have : posF d (j + 1) = posF d j + (b.length + 3) := by rw [← frontM_yes hf]; rfl
        omega
theorem frames_back {d : List UInt8} (hl : d.length ≤ 20000) : ∃ p : Nat, (framesM d).2.2 = (p : Int) ∧ p ≤ d.length ∧ (framesM d).2.1.flatMap frameL = d.take p ∧ ∀ b ∈ (framesM d).2.1, 1 ≤ b.length ∧ b.length ≤ 40 := by
  have hE := endF_end d d.length 0 (fun i hi => absurd hi (by omega)) (by omega)
  rw [framesM_ok hl hE]
  have := bodF_frames d _ hE.2
  exact ⟨_, rfl, posF_le d _, this.1, this.2⟩
end Go.Proofs.YtmaillakhhdkfaaGreatDoor
/-
  Two answers that hold a record, held against one another as the law does it.
-/
namespace Go.Proofs.YtmaillakhhdkfaaGreatDoor
set_option maxRecDepth 20000
open Go.RowKit
set_option linter.unusedSimpArgs false
set_option linter.unusedVariables false

theorem At.eightR {w : World} {g : Nat} {t : TypeId} {a b c d e f h i : Value} (k : At w g t #[a, b, c, d, e, f, h, i]) : w.cell? ⟨g, 0, none⟩ = some a ∧ w.cell? ⟨g, 1, none⟩ = some b ∧ w.cell? ⟨g, 2, none⟩ = some c ∧ w.cell? ⟨g, 3, none⟩ = some d ∧ w.cell? ⟨g, 4, none⟩ = some e ∧ w.cell? ⟨g, 5, none⟩ = some f ∧ w.cell? ⟨g, 6, none⟩ = some h ∧ w.cell? ⟨g, 7, none⟩ = some i :=
  ⟨k.cell 0, k.cell 1, k.cell 2, k.cell 3, k.cell 4, k.cell 5, k.cell 6, k.cell 7⟩
end Go.Proofs.YtmaillakhhdkfaaGreatDoor
/-
  The program's fault of one hint.
-/
namespace Go.Proofs.YtmaillakhhdkfaaGreatDoor
set_option maxRecDepth 20000
open Go.RowKit
set_option linter.unusedSimpArgs false
set_option linter.unusedVariables false

theorem bnds_three {w : World} {t : TypeId} {x lo hi x' lo' hi' x'' lo'' hi'' : Int} {g : Nat} (hg : w.heap.size = g) : Bnds (w.alloc (.cells #[.int .i64 x, .int .i64 lo, .int .i64 hi, .int .i64 x', .int .i64 lo', .int .i64 hi', .int .i64 x'', .int .i64 lo'', .int .i64 hi''] t)) g [(x, lo, hi), (x', lo', hi'), (x'', lo'', hi'')] := by
  subst hg
  intro k b hk
  match k, hk with
  | 0, hk =>
    obtain rfl : (x, lo, hi) = b := by simpa using hk
    refine ⟨?_, ?_, ?_⟩ <;> (rw [cell_of_row _ _ _ _ _ _ (heap_alloc_new w _)]; rfl)
  | 1, hk =>
    obtain rfl : (x', lo', hi') = b := by simpa using hk
    refine ⟨?_, ?_, ?_⟩ <;> (rw [cell_of_row _ _ _ _ _ _ (heap_alloc_new w _)]; rfl)
  | 2, hk =>
    obtain rfl : (x'', lo'', hi'') = b := by simpa using hk
    refine ⟨?_, ?_, ?_⟩ <;> (rw [cell_of_row _ _ _ _ _ _ (heap_alloc_new w _)]; rfl)
  | k + 3, hk => simp at hk

set_option maxHeartbeats 1000000 in
theorem implHintFault (a0 a1 a2 a3 a4 a5 a6 : Int) (w : World) (hF : Flds w) :
    Calls Tryz.prog 61 #[.agg #[.int .i64 a0, .int .i64 a1, .int .i64 a2, .int .i64 a3, .int .i64 a4, .int .i64 a5, .int .i64 a6]] w fun e w' => e = .returned (.int .i64 (hfaultM (a0, (a1, a2, a3, a4), a5, a6))) ∧ Below w.heap.size w w' := by
  have hB0 : Below w.heap.size w (w.alloc (.cells #[.int .i64 a0, .int .i64 a1, .int .i64 a2, .int .i64 a3, .int .i64 a4, .int .i64 a5, .int .i64 a6] 75)) := (Below.refl _ _).alloc (Nat.le_refl _) _
  have x0 := At.new w 75 #[.int .i64 a0, .int .i64 a1, .int .i64 a2, .int .i64 a3, .int .i64 a4, .int .i64 a5, .int .i64 a6]
  have HS := implSampleFault a1 a2 a3 a4 _ (hF.below hB0)
  rcases faultM_or (a1, a2, a3, a4) with hf | hf
  rotate_left
  · rw [hf] at HS
    have Hr := Lib.hid (hfault_smp (h := (a0, (a1, a2, a3, a4), a5, a6)) hf)
    clear hf
    go_enter Tryz.func61, Tryz.ntmps61
    go_wp2_with fail
    refine HS.mono ?_
    rintro e w1 ⟨rfl, hb1⟩
    have hB1 := hB0.trans (hb1.mono hB0.size)
    go_wp2
    go_ret
    exact ⟨by rw [Hr.out]; rfl, hB1⟩
  rw [hf] at HS
  obtain ⟨r, hr⟩ : ∃ r, rangeH (a0, (a1, a2, a3, a4), a5, a6) = r := ⟨_, rfl⟩
  have Hb := Lib.hid (show ([(a0, 0, 3), (a5, 0, 4), (a6, 0, 200000)] : List (Int × Int × Int)).all inB = r by rw [← hr]; simp [rangeH])
  have Hr := Lib.hid (show hfaultM (a0, (a1, a2, a3, a4), a5, a6) = if r then 0 else 3 by
    cases r
    · exact hfault_no hf hr
    · exact hfault_yes hf hr)
  clear hf hr
  go_enter Tryz.func61, Tryz.ntmps61
  go_wp2_with fail
  refine HS.mono ?_
  rintro e w1 ⟨rfl, hb1⟩
  have hB1 := hB0.trans (hb1.mono hB0.size)
  obtain ⟨c0, c1, c2, c3, c4, c5, c6⟩ := (x0.below hb1 x0.lt).seven
  go_wp2_with fail
  refine (areWithin_any _ 3 _ [(a0, 0, 3), (a5, 0, 4), (a6, 0, 200000)] _ (bnds_three (by simp)) (by simp) rfl (by simp)).mono ?_
  rintro e w2 ⟨rfl, hb2⟩
  have hBa := hB1.alloc hB1.size (.cells #[.int .i64 a0, .int .i64 0, .int .i64 3, .int .i64 a5, .int .i64 0, .int .i64 4, .int .i64 a6, .int .i64 0, .int .i64 200000] 99)
  have hB2 := hBa.trans (hb2.mono hBa.size)
  rw [Hb.out]
  cases r
  · go_wp2
    go_ret
    exact ⟨by rw [Hr.out]; rfl, hB2⟩
  · go_wp2
    go_ret
    exact ⟨by rw [Hr.out]; rfl, hB2⟩
end Go.Proofs.YtmaillakhhdkfaaGreatDoor
/-
  A map of samples by their keys, as it lies in memory: asked, filled, counted.
-/
namespace Go.Proofs.YtmaillakhhdkfaaGreatDoor
set_option maxRecDepth 20000
open Go.RowKit
open Go.ChangeMaps (setBlock heap_setBlock_same heap_setBlock_other)
set_option linter.unusedSimpArgs false
set_option linter.unusedVariables false

abbrev keyV (x : Smp) : Value := .agg #[.int .i64 x.1, .int .i64 x.2.1, .int .i64 x.2.2.1]
abbrev smpV (x : Smp) : Value := .agg #[.int .i64 x.1, .int .i64 x.2.1, .int .i64 x.2.2.1, .int .i64 x.2.2.2]
def firstS (L : List Smp) (y : Smp) : Option Smp := L.find? (fun x => sameKeyM y x)

theorem keyEqual (x y : Smp) (w : World) : (Op.equal 219 (keyV x) (keyV y)).run Tryz.prog w = .ok (sameKeyM x y) w := by
  show (Op.equalIn 10000 219 (keyV x) (keyV y)).run Tryz.prog w = _
  unfold sameKeyM
  go_simp
  by_cases h0 : x.1 = y.1 <;> by_cases h1 : x.2.1 = y.2.1 <;> by_cases h2 : x.2.2.1 = y.2.2.1 <;> simp [h0, h1, h2]
theorem keyChecks (e : Bool) (x : Smp) (w : World) : (Instr.checkKey e 10000 219 (keyV x)).run Tryz.prog w = .ok () w := by kernel_rfl
theorem zeroS (w : World) : (zeroValue 25).run Tryz.prog w = .ok (smpV (0, 0, 0, 0)) w := by kernel_rfl

theorem findAsk (y : Smp) (w : World) : ∀ (L : List Smp) (es : List MapEntry) (i : Nat), es.map (fun e => (e.key, e.val)) = L.map (fun x => (keyV x, smpV x)) →
    ∃ r, (Instr.findAsking 219 (keyV y) es i).run Tryz.prog w = .ok r w ∧ r.map (·.2) = (firstS L y).map smpV
  | [], es, i, h => by
    obtain rfl : es = [] := by simpa using h
    exact ⟨none, by simp [Instr.findAsking], rfl⟩
  | x :: L, es, i, h => by
    match es, h with
    | e :: es, h =>
      simp only [List.map_cons, List.cons.injEq, Prod.mk.injEq] at h
      obtain ⟨⟨hk, hv⟩, h⟩ := h
      have he : (Op.equal 219 (keyV y) e.key).run Tryz.prog w = .ok (sameKeyM y x) w := by rw [hk]; exact keyEqual y x w
      rcases hs : sameKeyM y x
      · obtain ⟨r, h1, h2⟩ := findAsk y w L es (i + 1) h
        refine ⟨r, by simp [Instr.findAsking, he, hs, h1, Result.andThen], ?_⟩
        rw [h2]
        simp [firstS, List.find?_cons, hs]
      · refine ⟨some (i, e.val), by simp [Instr.findAsking, he, hs, Result.andThen], ?_⟩
        simp [firstS, List.find?_cons, hs, hv]

theorem findKeyS (y : Smp) (w : World) (L : List Smp) (es : List MapEntry) (h : es.map (fun e => (e.key, e.val)) = L.map (fun x => (keyV x, smpV x))) :
    ∃ r, (Instr.findKey 219 (keyV y) es).run Tryz.prog w = .ok r w ∧ r.map (·.2) = (firstS L y).map smpV := by
  obtain ⟨r, h1, h2⟩ := findAsk y w L es 0 h
  match es, h with
  | [], h =>
    obtain rfl : L = [] := by simpa using h
    exact ⟨none, by simp [Instr.findKey, run_underlying Tryz.underlying219, Instr.findNow, Result.andThen], rfl⟩
  | e :: es, h =>
    refine ⟨r, ?_, h2⟩
    simp only [Instr.findKey, Sem.run_bind, run_underlying Tryz.underlying219, Result.andThen]
    exact h1

/-- Block b is a map that holds these samples by their keys, the eldest first. -/
def SMap (w : World) (b : Nat) (L : List Smp) : Prop :=
  ∃ es clock, w.heap[b]? = some (.map es clock) ∧ es.toList.map (fun e => (e.key, e.val)) = L.map (fun x => (keyV x, smpV x)) ∧ (∀ e ∈ es.toList, e.born < clock) ∧ (es.toList.map (·.born)).Nodup

section
variable {w w' : World} {b : Nat} {L : List Smp}
theorem SMap.lt (h : SMap w b L) : b < w.heap.size := by
  obtain ⟨es, clock, hb, _⟩ := h
  exact (Array.getElem?_eq_some_iff.1 hb).1
theorem SMap.kept {row : Option Nat} (h : SMap w b L) (hg : w.grownBy w' row) (hne : some b ≠ row) : SMap w' b L := by
  have hlt := h.lt
  obtain ⟨es, clock, hb, r⟩ := h
  exact ⟨es, clock, (hg.block b hlt hne).trans hb, r⟩
theorem SMap.below {B : Nat} (h : SMap w b L) (hb : Below B w w') (hB : b < B) : SMap w' b L := by
  obtain ⟨es, clock, h1, r⟩ := h
  exact ⟨es, clock, (hb.block b hB).trans h1, r⟩
theorem SMap.alloc (h : SMap w b L) (o : Obj) : SMap (w.alloc o) b L := h.kept (World.grownBy_alloc w o none) (by simp)
theorem SMap.drew (h : SMap w b L) : SMap w.drew b L := h
theorem SMap.made (w : World) : SMap (w.alloc (.map #[] 0)) w.heap.size [] := ⟨#[], 0, heap_alloc_new w _, rfl, by simp, by simp⟩
theorem SMap.size (h : SMap w b L) : ∃ es clock, w.heap[b]? = some (.map es clock) ∧ es.size = L.length := by
  obtain ⟨es, clock, hb, hm, _⟩ := h
  refine ⟨es, clock, hb, ?_⟩
  have := congrArg List.length hm
  simpa using this
theorem SMap.len (h : SMap w b L) (ty : TypeId) : (Builtin.len_ #[212] ty #[.map (some b)]).run Tryz.prog w = .ok (.int .i64 (L.length : Int)) w := by
  obtain ⟨es, clock, hb, hs⟩ := h.size
  rw [← hs]
  simp [Builtin.len_, run_underlying Tryz.underlying212, MapKept.run_getObj_map hb, Result.andThen]
  try rfl
theorem SMap.look (h : SMap w b L) (y : Smp) : (Instr.lookup 212 (.map (some b)) (keyV y) true).run Tryz.prog w = .ok (.tuple #[smpV ((firstS L y).getD (0, 0, 0, 0)), .bool (firstS L y).isSome]) w := by
  obtain ⟨es, clock, hb, hm, _⟩ := h
  obtain ⟨r, h1, h2⟩ := findKeyS y w L es.toList hm
  rcases hf : firstS L y with _ | x
  · rw [hf] at h2
    obtain rfl : r = none := by simpa using h2
    simp [Instr.lookup, run_underlying Tryz.underlying212, MapKept.run_getObj_map hb, keyChecks, h1, zeroS, Result.andThen]
  · rw [hf] at h2
    obtain ⟨⟨i, v⟩, rfl, hv⟩ := Option.map_eq_some_iff.1 h2
    simp only at hv
    subst hv
    simp [Instr.lookup, run_underlying Tryz.underlying212, MapKept.run_getObj_map hb, keyChecks, h1, Result.andThen]
theorem SMap.put (h : SMap w b L) (y : Smp) (hn : firstS L y = none) : ∃ w', (Instr.mapUpdate 212 (.map (some b)) (keyV y) (smpV y)).run Tryz.prog w = .ok () w' ∧ SMap w' b (L ++ [y]) ∧ w.grownBy w' (some b) := by
  obtain ⟨es, clock, hb, hm, hc, hd⟩ := h
  obtain ⟨r, h1, h2⟩ := findKeyS y w L es.toList hm
  rw [hn] at h2
  obtain rfl : r = none := by simpa using h2
  refine ⟨setBlock w b (.map (es.push ⟨keyV y, smpV y, clock⟩) (clock + 1)), ?_, ⟨_, _, heap_setBlock_same hb _, ?_, ?_, ?_⟩, ⟨rfl, rfl, rfl, by simp [setBlock], fun i _ hi => heap_setBlock_other hb _ (fun e => hi (by rw [e]))⟩⟩
  · simp [Instr.mapUpdate, run_underlying Tryz.underlying212, MapKept.run_getObj_map hb, keyChecks, h1, MapKept.run_setObj_map _ hb, Result.andThen, setBlock]
  · simp [hm]
  · intro e he
    simp only [Array.toList_push, List.mem_append, List.mem_singleton] at he
    rcases he with he | rfl
    · have := hc e he
      omega
    · simp
  · rw [Array.toList_push, List.map_append, List.nodup_append]
    refine ⟨hd, by simp, fun a ha c hc' => ?_⟩
    obtain ⟨e, he, rfl⟩ := List.mem_map.1 ha
    obtain rfl : c = clock := by simpa using hc'
    have := hc e he
    omega
end
end Go.Proofs.YtmaillakhhdkfaaGreatDoor
/-
  The program's StoreFault: a list held against what a store is.
-/
namespace Go.Proofs.YtmaillakhhdkfaaGreatDoor
set_option maxRecDepth 20000
open Go.RowKit
set_option linter.unusedSimpArgs false

theorem risesM_no {l : List Smp} {k : Nat} (hk : k < l.length) (hs : stepM l k = false) : risesM l = false := by
  unfold risesM
  rw [List.all_eq_false]
  exact ⟨k, List.mem_range.2 hk, by simp [hs]⟩
theorem risesM_yes {l : List Smp} {n : Nat} (hn : l.length = n) (hal : ∀ j, j + 1 < n → stepM l j = true) : risesM l = true := by
  unfold risesM
  rw [List.all_eq_true]
  intro j hj
  have hj' := List.mem_range.1 hj
  rcases Nat.lt_or_ge (j + 1) n with h1 | h1
  · exact hal j h1
  · unfold stepM
    rw [List.getElem?_eq_none (l := l) (i := j + 1) (by omega)]
    cases l[j]? <;> rfl

set_option maxHeartbeats 2000000 in
theorem implIsRising (A : Option Addr) (n c : Nat) (l : List Smp) (w : World) (ha : Rd eS w w.heap.size A l) (hn : l.length = n) (hm : n ≤ 1000) :
    Calls Tryz.prog 112 #[.slice A n c] w fun e w' => e = .returned (.bool (risesM l)) ∧ Below w.heap.size w w' := by
  have Hn := Lib.hid hn
  clear hn
  go_enter Tryz.func112, Tryz.ntmps112
  go_wp2
  go_loopw [3] (fun i wr => RiseRel w l n i wr) (fun i _ => n - (intOf i).toNat)
  case atStart => exact ⟨0, .inr rfl, rfl, fun _ h => absurd h (by omega), Below.refl _ _⟩
  case round =>
    obtain ⟨k, hk, rfl, hal, hbel⟩ := hrel
    have Hal := Lib.hid hal
    clear hal
    by_cases hlt : k + 1 < n
    · obtain ⟨g, o, a0, a1, a2, a3, rfl, hg, hx, ca⟩ := (ha.below hbel (Nat.le_refl _)).smp (k := k) (by rw [Hn.out]; omega)
      obtain ⟨g', o', b0, b1, b2, b3, e', hg', hy, cb⟩ := (ha.below hbel (Nat.le_refl _)).smp (k := k + 1) (by rw [Hn.out]; omega)
      obtain ⟨rfl, rfl⟩ : g = g' ∧ o = o' := by simpa using Option.some.inj e'
      have Hst := Lib.hid (stepM_at hx hy)
      clear hx hy e'
      have hbd := hbel.drew
      have hw : IntKind.i64.wrap (k : Int) = (k : Int) := IntWalk.i64_in _ (by omega)
      have i1 : (k : Int) < (n : Int) := by omega
      have i2 : (k : Int) + 1 < (n : Int) := by omega
      have i3 : (0 : Int) ≤ (k : Int) + 1 := by omega
      have i4 : ((k : Int) + 1).toNat = k + 1 := by omega
      go_wp2
      refine wp_region_mix [(0, false), (1, false), (2, false), (3, false), (4, false), (5, false), (6, false), (7, false), (8, false), (9, true), (10, false)] (fun u => S4 u g (o + k * 4) a0 a1 a2 a3 ∧ S4 u g (o + (k + 1) * 4) b0 b1 b2 b3) (by kernel_rfl) (by kernel_rfl) (fun _ _ _ _ _ h => h) ⟨ca.drew, cb.drew⟩ ?_
      simp only [mixOps, List.map_cons, List.map_nil, List.getElem?_cons_succ, List.getElem?_cons_zero, Option.getD_some]
      repeat (first
        | (refine mix_skip (by rfl) ?_
           (try simp only [Act.put, List.setIfInBounds_toArray, List.set_cons_zero, List.set_cons_succ]))
        | (refine mix_pure (v := ?_) (by rfl) (fun u hu => ?_) ?_
           rotate_left
           · obtain ⟨⟨_, _, _, _⟩, _, _, _, _⟩ := hu
             go_simp
             (with_reducible rfl)
           (try simp only [Act.put, List.setIfInBounds_toArray, List.set_cons_zero, List.set_cons_succ])))
      refine mix_call (by rfl) (fun K hK => ?_)
      go_simp
      refine (implIsAhead a0 a1 a2 a3 b0 b1 b2 b3 _).mono ?_
      rintro e w1 ⟨rfl, hb1⟩
      have hB1 := hbd.trans (hb1.mono hbd.size)
      refine hK _ _ _ (fun _ h => h) ⟨ca.drew.below hb1 (Nat.lt_of_lt_of_le hg hbd.size), cb.drew.below hb1 (Nat.lt_of_lt_of_le hg hbd.size)⟩ ?_
      (try simp only [Act.put, List.setIfInBounds_toArray, List.set_cons_zero, List.set_cons_succ])
      rw [← Hst.out]
      rcases hs : stepM l k
      · have Hf := Lib.hid (risesM_no (show k < l.length by rw [Hn.out]; omega) hs)
        clear hs
        refine mix_pure (v := ?_) (by rfl) (fun u hu => ?_) ?_
        rotate_left
        · go_simp
          (with_reducible rfl)
        (try simp only [Act.put, List.setIfInBounds_toArray, List.set_cons_zero, List.set_cons_succ])
        refine mix_nil ?_
        go_wp2
        go_ret
        exact ⟨by rw [Hf.out]; rfl, hB1⟩
      · have Hs := Lib.hid hs
        clear hs
        refine mix_pure (v := ?_) (by rfl) (fun u hu => ?_) ?_
        rotate_left
        · go_simp
          (with_reducible rfl)
        (try simp only [Act.put, List.setIfInBounds_toArray, List.set_cons_zero, List.set_cons_succ])
        refine mix_nil ?_
        go_wp2
        refine ⟨⟨k + 1, .inl (by omega), by go_num, fun j hj => ?_, hB1⟩, by simp [intOf]; omega⟩
        rcases Nat.lt_or_ge j k with h | h
        · exact Hal.out j h
        · obtain rfl : j = k := by omega
          exact Hs.out
    · have hq := risesM_yes Hn.out (fun j hj => Hal.out j (by omega))
      have Hq := Lib.hid hq
      clear hq
      have i5 : ¬ (k : Int) + 1 < (n : Int) := by omega
      go_wp2
      go_ret
      exact ⟨by rw [Hq.out]; rfl, hbel⟩

theorem storeFault_is {l : List Smp} (h : ¬ 160 < l.length) (hr : rightM l = true) : storeFaultM l = if risesM l = false then 1 else 0 := by
  unfold storeFaultM
  rw [if_neg h, if_neg (by simp [hr])]

set_option maxHeartbeats 2000000 in
theorem implStoreFault (A : Option Addr) (n c : Nat) (l : List Smp) (w : World) (ha : Rd eS w w.heap.size A l) (hn : l.length = n) (hF : Flds w) :
    Calls Tryz.prog 63 #[.slice A n c] w fun e w' => e = .returned (.int .i64 (storeFaultM l)) ∧ Below w.heap.size w w' := by
  by_cases hbig : 160 < n
  · have hb : (160 : Int) < (n : Int) := by omega
    rw [storeFault_many (by omega)]
    go_enter Tryz.func63, Tryz.ntmps63
    go_wp2
    go_ret
    exact ⟨rfl, Below.refl _ _⟩
  have hb : (n : Int) ≤ 160 := by omega
  have hn160 : n ≤ 160 := by omega
  have Hbig := Lib.hid (show ¬ 160 < l.length by omega)
  have Hn := Lib.hid hn
  clear hn hbig
  go_enter Tryz.func63, Tryz.ntmps63
  go_wp2
  go_loopw [11] (fun i wr => RightRel w l n i wr) (fun i _ => n - (intOf i).toNat)
  case atStart => exact ⟨0, Nat.zero_le _, rfl, fun _ _ h => absurd h (by omega), Below.refl _ _⟩
  case round =>
    obtain ⟨k, hk, rfl, hal, hbel⟩ := hrel
    have Hal := Lib.hid hal
    clear hal
    by_cases hlt : k < n
    · obtain ⟨g, o, a0, a1, a2, a3, rfl, hg, hx, c0, c1, c2, c3⟩ := (ha.below hbel (Nat.le_refl _)).smp (k := k) (by rw [Hn.out]; exact hlt)
      have hbA := hbel.alloc hbel.size (.cells #[.int .i64 a0, .int .i64 a1, .int .i64 a2, .int .i64 a3] 25)
      rcases faultM_or (a0, a1, a2, a3) with hf | hf
      · have hq := implSampleFault a0 a1 a2 a3 _ (hF.below hbA)
        rw [hf] at hq
        have Hx := Lib.hid hx
        have Hf := Lib.hid hf
        clear hx hf
        go_wp2_with fail
        refine hq.mono ?_
        rintro e w2 ⟨rfl, hb2⟩
        have hB2 := hbA.trans (hb2.mono hbA.size)
        go_wp2
        refine ⟨⟨k + 1, by omega, by go_num, fun j x hj hx => ?_, hB2⟩, by simp [intOf]; omega⟩
        rcases Nat.lt_or_ge j k with h | h
        · exact Hal.out j x h hx
        · obtain rfl : j = k := by omega
          obtain rfl := Option.some.inj (Hx.out.symm.trans hx)
          exact Hf.out
      · have hq := implSampleFault a0 a1 a2 a3 _ (hF.below hbA)
        rw [hf] at hq
        have Hr := Lib.hid (storeFault_wrong Hbig.out hx hf)
        clear hx hf
        go_wp2_with fail
        refine hq.mono ?_
        rintro e w2 ⟨rfl, hb2⟩
        have hB2 := hbA.trans (hb2.mono hbA.size)
        go_wp2
        go_ret
        exact ⟨by rw [Hr.out]; rfl, hB2⟩
    · obtain rfl : n = k := by omega
      have hright := rightM_of Hn.out Hal.out
      have Hq := Lib.hid (storeFault_is Hbig.out hright)
      have hq := implIsRising A n c l wr (ha.lift hbel) Hn.out (by omega)
      clear Hal hright
      go_wp2_with fail
      refine hq.mono ?_
      rintro e w2 ⟨rfl, hb2⟩
      have hB2 := hbel.trans (hb2.mono hbel.size)
      have Hs := Lib.hid Hq.out
      rcases hr : risesM l
      · have Hf := Lib.hid (show storeFaultM l = 1 by rw [Hq.out, hr]; rfl)
        clear hr
        go_wp2
        go_ret
        exact ⟨by rw [Hf.out]; rfl, hB2⟩
      · have Hf := Lib.hid (show storeFaultM l = 0 by rw [Hq.out, hr]; rfl)
        clear hr
        go_wp2
        go_ret
        exact ⟨by rw [Hf.out]; rfl, hB2⟩

end Go.Proofs.YtmaillakhhdkfaaGreatDoor
/-
  A map of queued hints by their keys, as it lies in memory: asked, filled, thinned, counted.
-/
namespace Go.Proofs.YtmaillakhhdkfaaGreatDoor
set_option maxRecDepth 20000
open Go.RowKit
open Go.ChangeMaps (setBlock heap_setBlock_same heap_setBlock_other)
set_option linter.unusedSimpArgs false
set_option linter.unusedVariables false

abbrev keyH (h : Hnt) : Value := .agg #[.int .i64 h.1, .int .i64 (idH h)]
abbrev qdV (x : Qd) : Value := .agg #[.int .i64 x.1, .int .i64 x.2.1, .int .i64 x.2.2.1.1, .int .i64 x.2.2.1.2.1, .int .i64 x.2.2.1.2.2.1, .int .i64 x.2.2.1.2.2.2, .int .i64 x.2.2.2.1, .int .i64 x.2.2.2.2]

theorem keyEqualH (x y : Hnt) (w : World) : (Op.equal 161 (keyH x) (keyH y)).run Tryz.prog w = .ok (sameH x y) w := by
  show (Op.equalIn 10000 161 (keyH x) (keyH y)).run Tryz.prog w = _
  unfold sameH
  go_simp
  by_cases h0 : x.1 = y.1 <;> by_cases h1 : idH x = idH y <;> simp [h0, h1]
theorem keyChecksH (e : Bool) (x : Hnt) (w : World) : (Instr.checkKey e 10000 161 (keyH x)).run Tryz.prog w = .ok () w := by kernel_rfl
theorem zeroQ (w : World) : (zeroValue 222).run Tryz.prog w = .ok (qdV (0, zeroH)) w := by kernel_rfl
theorem keyStaysH (x : Hnt) (w : World) : (Instr.keyThatStays (keyH x) (keyH x)).run Tryz.prog w = .ok (keyH x) w := by
  have h : Instr.sameBits 10000 (keyH x) (keyH x) = true := by
    show Instr.sameBits (9998 + 1 + 1) _ _ = true
    simp [Instr.sameBits]
  unfold Instr.keyThatStays
  rw [h]
  rfl
theorem key_of_same {x y : Hnt} (h : sameH x y = true) : keyH y = keyH x := by
  obtain ⟨h1, h2⟩ := (sameH_iff x y).1 h
  show Value.agg #[.int .i64 y.1, .int .i64 (idH y)] = Value.agg #[.int .i64 x.1, .int .i64 (idH x)]
  rw [h1, h2]

theorem findAskH (y : Hnt) (w : World) : ∀ (L : List Qd) (es : List MapEntry) (i : Nat), es.map (fun e => (e.key, e.val)) = L.map (fun x => (keyH x.2, qdV x)) →
    (firstQ L y = none ∧ (Instr.findAsking 161 (keyH y) es i).run Tryz.prog w = .ok none w) ∨
    ∃ (j : Nat) (a : Qd), L[j]? = some a ∧ firstQ L y = some a ∧ sameH y a.2 = true ∧ (∀ k b, k < j → L[k]? = some b → sameH y b.2 = false) ∧ (Instr.findAsking 161 (keyH y) es i).run Tryz.prog w = .ok (some (i + j, qdV a)) w
  | [], es, i, h => by
    obtain rfl : es = [] := by simpa using h
    exact .inl ⟨rfl, by simp [Instr.findAsking]⟩
  | x :: L, es, i, h => by
    match es, h with
    | e :: es, h =>
      simp only [List.map_cons, List.cons.injEq, Prod.mk.injEq] at h
      obtain ⟨⟨hk, hv⟩, h⟩ := h
      have he : (Op.equal 161 (keyH y) e.key).run Tryz.prog w = .ok (sameH y x.2) w := by rw [hk]; exact keyEqualH y x.2 w
      rcases hs : sameH y x.2
      · have e2 : firstQ (x :: L) y = firstQ L y := by unfold firstQ; rw [List.find?_cons, hs]
        rcases findAskH y w L es (i + 1) h with ⟨h1, h2⟩ | ⟨j, a, h1, h2, h3, h4, h5⟩
        · exact .inl ⟨by rw [e2, h1], by simp [Instr.findAsking, he, hs, h2, Result.andThen]⟩
        · refine .inr ⟨j + 1, a, by simpa using h1, by rw [e2, h2], h3, fun k b hk hb => ?_, ?_⟩
          · match k, hb with
            | 0, hb => obtain rfl : x = b := by simpa using hb
                       exact hs
            | k + 1, hb => exact h4 k b (by omega) (by simpa using hb)
          · simp [Instr.findAsking, he, hs, h5, Result.andThen]
            omega
      · exact .inr ⟨0, x, rfl, by unfold firstQ; rw [List.find?_cons, hs], hs, fun k b hk => absurd hk (by omega), by simp [Instr.findAsking, he, hs, Result.andThen, hv]⟩

theorem findKeyH (y : Hnt) (w : World) (L : List Qd) (es : List MapEntry) (h : es.map (fun e => (e.key, e.val)) = L.map (fun x => (keyH x.2, qdV x))) :
    (firstQ L y = none ∧ (Instr.findKey 161 (keyH y) es).run Tryz.prog w = .ok none w) ∨
    ∃ (j : Nat) (a : Qd), L[j]? = some a ∧ firstQ L y = some a ∧ sameH y a.2 = true ∧ (∀ k b, k < j → L[k]? = some b → sameH y b.2 = false) ∧ (Instr.findKey 161 (keyH y) es).run Tryz.prog w = .ok (some (j, qdV a)) w := by
  match es, h with
  | [], h =>
    obtain rfl : L = [] := by simpa using h
    exact .inl ⟨rfl, by simp [Instr.findKey, run_underlying Tryz.underlying161, Instr.findNow, Result.andThen]⟩
  | e :: es, h =>
    rcases findAskH y w L (e :: es) 0 h with ⟨h1, h2⟩ | ⟨j, a, h1, h2, h3, h4, h5⟩
    · refine .inl ⟨h1, ?_⟩
      simp only [Instr.findKey, Sem.run_bind, run_underlying Tryz.underlying161, Result.andThen]
      exact h2
    · refine .inr ⟨j, a, h1, h2, h3, h4, ?_⟩
      simp only [Instr.findKey, Sem.run_bind, run_underlying Tryz.underlying161, Result.andThen]
      rw [Nat.zero_add] at h5
      exact h5

theorem erase_map {α β : Type} (f : α → β) : ∀ (l : List α) (j : Nat), (l.eraseIdx j).map f = (l.map f).eraseIdx j
  | [], _ => rfl
  | _ :: _, 0 => rfl
  | x :: l, j + 1 => by
    simp only [List.eraseIdx_cons_succ, List.map_cons]
    rw [erase_map f l j]
theorem setQ_at {x : Qd} : ∀ {L : List Qd} {j : Nat} {a : Qd}, L[j]? = some a → sameH x.2 a.2 = true → (∀ k b, k < j → L[k]? = some b → sameH x.2 b.2 = false) → setQ x L = L.set j x ∧ eraseQ x.2 L = L.eraseIdx j
  | [], j, a, h, _, _ => by simp at h
  | y :: L, 0, a, h, hs, _ => by
    obtain rfl : y = a := by simpa using h
    rw [setQ, eraseQ, hs]
    simp
  | y :: L, j + 1, a, h, hs, hal => by
    have h0 := hal 0 y (by omega) rfl
    obtain ⟨h1, h2⟩ := setQ_at (x := x) (L := L) (j := j) (by simpa using h) hs (fun k b hk hb => hal (k + 1) b (by omega) (by simpa using hb))
    rw [setQ, eraseQ, h0]
    simp [h1, h2]
theorem setQ_new {x : Qd} : ∀ {L : List Qd}, firstQ L x.2 = none → setQ x L = L ++ [x] ∧ eraseQ x.2 L = L
  | [], _ => ⟨rfl, rfl⟩
  | y :: L, h => by
    unfold firstQ at h
    rw [List.find?_cons] at h
    rcases hs : sameH x.2 y.2
    · rw [hs] at h
      obtain ⟨h1, h2⟩ := setQ_new (x := x) (L := L) h
      rw [setQ, eraseQ, hs]
      simp [h1, h2]
    · rw [hs] at h
      cases h

/-- Block b is a map that holds these queued hints by their keys, the eldest first. -/
def QMap (w : World) (b : Nat) (L : List Qd) : Prop :=
  ∃ es clock, w.heap[b]? = some (.map es clock) ∧ es.toList.map (fun e => (e.key, e.val)) = L.map (fun x => (keyH x.2, qdV x)) ∧ (∀ e ∈ es.toList, e.born < clock) ∧ (es.toList.map (·.born)).Nodup

section
variable {w w' : World} {b : Nat} {L : List Qd}
theorem QMap.lt (h : QMap w b L) : b < w.heap.size := by
  obtain ⟨es, clock, hb, _⟩ := h
  exact (Array.getElem?_eq_some_iff.1 hb).1
theorem QMap.kept {row : Option Nat} (h : QMap w b L) (hg : w.grownBy w' row) (hne : some b ≠ row) : QMap w' b L := by
  have hlt := h.lt
  obtain ⟨es, clock, hb, r⟩ := h
  exact ⟨es, clock, (hg.block b hlt hne).trans hb, r⟩
theorem QMap.below {B : Nat} (h : QMap w b L) (hb : Below B w w') (hB : b < B) : QMap w' b L := by
  obtain ⟨es, clock, h1, r⟩ := h
  exact ⟨es, clock, (hb.block b hB).trans h1, r⟩
theorem QMap.alloc (h : QMap w b L) (o : Obj) : QMap (w.alloc o) b L := h.kept (World.grownBy_alloc w o none) (by simp)
theorem QMap.drew (h : QMap w b L) : QMap w.drew b L := h
theorem QMap.made (w : World) : QMap (w.alloc (.map #[] 0)) w.heap.size [] := ⟨#[], 0, heap_alloc_new w _, rfl, by simp, by simp⟩
theorem QMap.size (h : QMap w b L) : ∃ es clock, w.heap[b]? = some (.map es clock) ∧ es.size = L.length := by
  obtain ⟨es, clock, hb, hm, _⟩ := h
  refine ⟨es, clock, hb, ?_⟩
  have := congrArg List.length hm
  simpa using this
theorem QMap.len (h : QMap w b L) (ty : TypeId) : (Builtin.len_ #[194] ty #[.map (some b)]).run Tryz.prog w = .ok (.int .i64 (L.length : Int)) w := by
  obtain ⟨es, clock, hb, hs⟩ := h.size
  rw [← hs]
  simp [Builtin.len_, run_underlying Tryz.underlying194, MapKept.run_getObj_map hb, Result.andThen]
  try rfl
theorem QMap.look (h : QMap w b L) (y : Hnt) : (Instr.lookup 194 (.map (some b)) (keyH y) true).run Tryz.prog w = .ok (.tuple #[qdV ((firstQ L y).getD (0, zeroH)), .bool (firstQ L y).isSome]) w := by
  obtain ⟨es, clock, hb, hm, _⟩ := h
  rcases findKeyH y w L es.toList hm with ⟨hf, h1⟩ | ⟨j, a, _, hf, _, _, h1⟩
  · rw [hf]
    simp [Instr.lookup, run_underlying Tryz.underlying194, MapKept.run_getObj_map hb, keyChecksH, h1, zeroQ, Result.andThen]
  · rw [hf]
    simp [Instr.lookup, run_underlying Tryz.underlying194, MapKept.run_getObj_map hb, keyChecksH, h1, Result.andThen]
theorem QMap.put (h : QMap w b L) (x : Qd) : ∃ w', (Instr.mapUpdate 194 (.map (some b)) (keyH x.2) (qdV x)).run Tryz.prog w = .ok () w' ∧ QMap w' b (setQ x L) ∧ w.grownBy w' (some b) := by
  obtain ⟨es, clock, hb, hm, hc, hd⟩ := h
  rcases findKeyH x.2 w L es.toList hm with ⟨hf, h1⟩ | ⟨j, a, hj, hf, hs, hal, h1⟩
  · rw [(setQ_new hf).1]
    refine ⟨setBlock w b (.map (es.push ⟨keyH x.2, qdV x, clock⟩) (clock + 1)), ?_, ⟨_, _, heap_setBlock_same hb _, ?_, ?_, ?_⟩, ⟨rfl, rfl, rfl, by simp [setBlock], fun i _ hi => heap_setBlock_other hb _ (fun e => hi (by rw [e]))⟩⟩
    · simp [Instr.mapUpdate, run_underlying Tryz.underlying194, MapKept.run_getObj_map hb, keyChecksH, h1, MapKept.run_setObj_map _ hb, Result.andThen, setBlock]
    · simp [hm]
    · intro e he
      simp only [Array.toList_push, List.mem_append, List.mem_singleton] at he
      rcases he with he | rfl
      · have := hc e he
        omega
      · simp
    · rw [Array.toList_push, List.map_append, List.nodup_append]
      refine ⟨hd, by simp, fun a ha c hc' => ?_⟩
      obtain ⟨e, he, rfl⟩ := List.mem_map.1 ha
      obtain rfl : c = clock := by simpa using hc'
      have := hc e he
      omega
  · rw [(setQ_at hj hs hal).1]
    have hjm : (es.toList.map (fun e => (e.key, e.val)))[j]? = some (keyH a.2, qdV a) := by rw [hm, List.getElem?_map, hj]; rfl
    rw [List.getElem?_map] at hjm
    obtain ⟨e0, he0, hkv⟩ := Option.map_eq_some_iff.1 hjm
    simp only [Prod.mk.injEq] at hkv
    have hkey : e0.key = keyH x.2 := by rw [hkv.1]; exact key_of_same hs
    have hje : es[j]? = some e0 := by simpa using he0
    have hlist : (es.modify j (fun e' => { e' with key := keyH x.2, val := qdV x })).toList = es.toList.set j { e0 with key := keyH x.2, val := qdV x } := by
      rw [Array.toList_modify]
      apply List.ext_getElem?
      intro i
      rw [List.getElem?_modify, List.getElem?_set]
      by_cases hi : j = i
      · subst hi
        have : j < es.toList.length := getElem?_some_lt he0
        have h2 : j < es.size := by simpa using this
        have h3 : es[j] = e0 := Option.some.inj ((Array.getElem?_eq_getElem h2).symm.trans hje)
        simp [h2, h3]
      · simp [hi]
    refine ⟨setBlock w b (.map (es.modify j (fun e' => { e' with key := keyH x.2, val := qdV x })) clock), ?_, ⟨_, _, heap_setBlock_same hb _, ?_, ?_, ?_⟩, ⟨rfl, rfl, rfl, by simp [setBlock], fun i _ hi => heap_setBlock_other hb _ (fun e => hi (by rw [e]))⟩⟩
    · simp [Instr.mapUpdate, run_underlying Tryz.underlying194, MapKept.run_getObj_map hb, keyChecksH, h1, hje, hkey, keyStaysH, MapKept.run_setObj_map _ hb, Result.andThen, setBlock]
    · rw [hlist, List.map_set, hm, List.map_set]
    · intro e he
      rw [hlist] at he
      rcases List.mem_or_eq_of_mem_set he with h | rfl
      · exact hc e h
      · exact hc e0 (List.mem_of_getElem? he0)
    · rw [hlist, List.map_set]
      have : (es.toList.map (·.born)).set j e0.born = es.toList.map (·.born) := by
        apply List.ext_getElem?
        intro i
        rw [List.getElem?_set]
        by_cases hi : j = i
        · subst hi
          have : j < es.toList.length := getElem?_some_lt he0
          have h2 : j < es.size := by simpa using this
          have h3 : es[j] = e0 := Option.some.inj ((Array.getElem?_eq_getElem h2).symm.trans hje)
          simp [h2, h3]
        · simp [hi]
      rw [this]
      exact hd
theorem QMap.drop (h : QMap w b L) (y : Hnt) (ty : TypeId) : ∃ w', (Builtin.delete_ #[194, 161] ty #[.map (some b), keyH y]).run Tryz.prog w = .ok (.tuple #[]) w' ∧ QMap w' b (eraseQ y L) ∧ w.grownBy w' (some b) := by
  obtain ⟨es, clock, hb, hm, hc, hd⟩ := h
  rcases findKeyH y w L es.toList hm with ⟨hf, h1⟩ | ⟨j, a, hj, hf, hs, hal, h1⟩
  · rw [(setQ_new (x := (0, y)) hf).2]
    refine ⟨setBlock w b (.map es clock), ?_, ⟨_, _, heap_setBlock_same hb _, hm, hc, hd⟩, ⟨rfl, rfl, rfl, by simp [setBlock], fun i _ hi => heap_setBlock_other hb _ (fun e => hi (by rw [e]))⟩⟩
    simp [Builtin.delete_, run_underlying Tryz.underlying194, MapKept.run_getObj_map hb, keyChecksH, h1, MapKept.run_setObj_map _ hb, Result.andThen, setBlock]
  · rw [(setQ_at (x := (0, y)) hj hs hal).2]
    have hjl : j < es.size := by
      have h1 := getElem?_some_lt hj
      have h2 := congrArg List.length hm
      simp at h2
      omega
    have hsub : (es.eraseIdxIfInBounds j).toList = es.toList.eraseIdx j := by
      unfold Array.eraseIdxIfInBounds
      rw [dif_pos hjl]
      simp
    have hmap : ∀ {β : Type} (f : MapEntry → β), (es.toList.eraseIdx j).map f = (es.toList.map f).eraseIdx j := fun f => erase_map f _ _
    refine ⟨setBlock w b (.map (es.eraseIdxIfInBounds j) clock), ?_, ⟨_, _, heap_setBlock_same hb _, ?_, ?_, ?_⟩, ⟨rfl, rfl, rfl, by simp [setBlock], fun i _ hi => heap_setBlock_other hb _ (fun e => hi (by rw [e]))⟩⟩
    · simp [Builtin.delete_, run_underlying Tryz.underlying194, MapKept.run_getObj_map hb, keyChecksH, h1, MapKept.run_setObj_map _ hb, Result.andThen, setBlock]
    · rw [hsub, hmap, hm, ← erase_map]
    · intro e he
      rw [hsub] at he
      exact hc e ((List.eraseIdx_sublist _ _).subset he)
    · rw [hsub, hmap]
      exact hd.sublist (List.eraseIdx_sublist _ _)
end
end Go.Proofs.YtmaillakhhdkfaaGreatDoor
/-
  What is looked for, put, taken away and laid anew in the queue of a list, of the pure answers.
-/
namespace Go.Proofs.YtmaillakhhdkfaaGreatDoor
set_option maxRecDepth 20000
open Go.RowKit
set_option linter.unusedSimpArgs false
set_option linter.unusedVariables false

theorem find_congr {p q : Nat → Bool} : ∀ {l : List Nat}, (∀ x ∈ l, p x = q x) → l.find? p = l.find? q
  | [], _ => rfl
  | x :: l, h => by
    rw [List.find?_cons, List.find?_cons, h x (by simp), find_congr (fun y hy => h y (by simp [hy]))]
theorem zip_at {l : List Hnt} {k : Nat} {a : Hnt} (h : l[k]? = some a) : (zipQ l)[k]? = some ((k : Int), a) := by
  have hk := getElem?_some_lt h
  unfold zipQ
  rw [List.getElem?_map, List.getElem?_range hk, Option.map_some, h]
  rfl
theorem first_zip (l : List Hnt) (h : Hnt) : firstQ (zipQ l) h = (findH l h.1 (idH h)).map fun (k : Nat) => ((k : Int), (l[k]?).getD zeroH) := by
  unfold firstQ zipQ findH
  rw [List.find?_map]
  congr 1
  refine find_congr fun i hi => ?_
  have hi' := List.mem_range.1 hi
  rw [hitH_at (List.getElem?_eq_getElem hi')]
  simp only [Function.comp_def, List.getElem?_eq_getElem hi', Option.getD_some]
  show sameH h l[i] = _
  rw [sameH_comm]
  rfl
theorem zip_hit {l : List Hnt} {p i : Int} {k : Nat} (hk : findH l p i = some k) {h : Hnt} (h1 : h.1 = p) (h2 : idH h = i) : ∃ a, l[k]? = some a ∧ (zipQ l)[k]? = some ((k : Int), a) ∧ sameH h a = true ∧ ∀ j b, j < k → (zipQ l)[j]? = some b → sameH h b.2 = false := by
  obtain ⟨hlt, hh, hal⟩ := findH_is hk
  have ha : l[k]? = some l[k] := List.getElem?_eq_getElem hlt
  refine ⟨l[k], ha, zip_at ha, ?_, fun j b hj hb => ?_⟩
  · rw [hitH_at ha, ← h1, ← h2] at hh
    rw [sameH_comm]
    exact hh
  · have hjl : j < l.length := by omega
    have e := zip_at (List.getElem?_eq_getElem hjl)
    rw [e] at hb
    obtain rfl := Option.some.inj hb
    have := hal j hj
    rw [hitH_at (List.getElem?_eq_getElem hjl), ← h1, ← h2] at this
    rw [sameH_comm]
    exact this
theorem add_zip {l : List Hnt} {h : Hnt} (hf : findH l h.1 (idH h) = none) : putQ (l.length : Int) h (zipQ l) = zipQ (l ++ [h]) := by
  rw [putQ_new, zipQ_append]
  rw [first_zip, hf]
  rfl
theorem erase_zip {l : List Hnt} {p i : Int} {k : Nat} (hk : findH l p i = some k) {h : Hnt} (h1 : h.1 = p) (h2 : idH h = i) : (eraseQ h (zipQ l)).map Prod.snd = l.take k ++ l.drop (k + 1) ∧ Rises (eraseQ h (zipQ l)) := by
  obtain ⟨a, ha, hz, hs, hal⟩ := zip_hit hk h1 h2
  have e := (setQ_at (x := (0, h)) hz hs hal).2
  simp only at e
  rw [e]
  refine ⟨?_, (rises_zip l).sublist (List.eraseIdx_sublist _ _)⟩
  rw [erase_map, zipQ_snd, List.eraseIdx_eq_take_drop_succ]
theorem queue_zip {l : List Hnt} (h : hintsFaultM l = 0) : queueM l = zipQ l := (queue_all l).1 ((hintsFault_iff l).1 h).2.2
end Go.Proofs.YtmaillakhhdkfaaGreatDoor
/-
  A map's store and delete at one operation.
-/
namespace Go.Proofs.YtmaillakhhdkfaaGreatDoor
set_option maxRecDepth 20000
open Go.RowKit

theorem wp_mapPut' {P : Program} {o : Oper} {a : Act} {w w' : World} {K : Act → World → Prop} {Q : Exit → Act → World → Prop} (m k v : Operand) (t : TypeId) (hop : o.op = Op.mapUpdate t m k v) {mv kv vv : Value} (hm : a.eval m = mv) (hk : a.eval k = kv) (hv : a.eval v = vv)
    (hrun : (Instr.mapUpdate t mv kv vv).run P w = .ok () w') (h : K (a.put o.dst undef) w') : o.wp P a w K Q := by
  unfold Oper.wp
  simp [execOp, hop, hm, hk, hv, hrun, Result.andThen]
  exact h
theorem wp_mapDrop {P : Program} {o : Oper} {a : Act} {w w' : World} {K : Act → World → Prop} {Q : Exit → Act → World → Prop} (m k : Operand) (t kt : TypeId) (hop : o.op = .call { callee := .builtin .delete, args := #[m, k], argTypes := #[t, kt] }) {mv kv : Value} (hm : a.eval m = mv) (hk : a.eval k = kv)
    (hrun : (Builtin.delete_ #[t, kt] o.type #[mv, kv]).run P w = .ok (.tuple #[]) w') (h : K (a.put o.dst (.tuple #[])) w') : o.wp P a w K Q := by
  unfold Oper.wp execOp
  simp only [hop, resolve, invoke, builtin, Sem.run_bind, Sem.run_pure, Result.andThen_ok, List.map_toArray, List.map_cons, List.map_nil, hm, hk, hrun]
  exact h
end Go.Proofs.YtmaillakhhdkfaaGreatDoor
/-
  Two lists of samples held against one another: the model's.
-/
namespace Go.Proofs.YtmaillakhhdkfaaGreatDoor
set_option maxRecDepth 20000
open Go.RowKit
set_option linter.unusedSimpArgs false

end Go.Proofs.YtmaillakhhdkfaaGreatDoor
/-
  Two lists of samples held against one another: the program's.
-/
namespace Go.Proofs.YtmaillakhhdkfaaGreatDoor
set_option maxRecDepth 20000
open Go.RowKit
set_option linter.unusedSimpArgs false

theorem sliceEqual_no (A B : Option Addr) (n m c d : Nat) (w : World) (h : n ≠ m) :
    Calls Tryz.prog 109 #[.slice A n c, .slice B m d] w fun e w' => e = .returned (.bool false) ∧ Below w.heap.size w w' := by
  have hb : ((n : Int) != (m : Int)) = true := by simp; omega
  go_enter Tryz.func109, Tryz.ntmps109
  go_wp2
  go_ret
  exact ⟨rfl, Below.refl _ _⟩

set_option maxHeartbeats 1000000 in
theorem sliceEqual_any (A B : Option Addr) (n c d : Nat) (xs ys : List Smp) (w : World) (ha : Rd eS w w.heap.size A xs) (hb : Rd eS w w.heap.size B ys) (hx : xs.length = n) (hy : ys.length = n) (hm : n ≤ maxLen) :
    Calls Tryz.prog 109 #[.slice A n c, .slice B n d] w fun e w' => e = .returned (.bool (decide (xs = ys))) ∧ Below w.heap.size w w' := by
  have h0 : ((n : Int) != (n : Int)) = false := by simp
  have Hx := Lib.hid hx
  have Hy := Lib.hid hy
  clear hx hy
  unfold maxLen at hm
  go_enter Tryz.func109, Tryz.ntmps109
  go_wp2
  go_loopw [13] (fun i wr => EqRelS xs ys w n i wr) (fun i _ => n - (intOf i).toNat)
  case atStart => exact ⟨0, Nat.zero_le _, rfl, fun _ h => absurd h (by omega), Below.refl _ _⟩
  case round =>
    obtain ⟨k, hk, rfl, hal, hbel⟩ := hrel
    have Hal := Lib.hid hal
    clear hal
    by_cases hlt : k < n
    · obtain ⟨g, o, a0, a1, a2, a3, rfl, hg, hxk, ca⟩ := (ha.below hbel (Nat.le_refl _)).smp (k := k) (by rw [Hx.out]; exact hlt)
      obtain ⟨g', o', b0, b1, b2, b3, rfl, hg', hyk, cb⟩ := (hb.below hbel (Nat.le_refl _)).smp (k := k) (by rw [Hy.out]; exact hlt)
      have Hxk := Lib.hid hxk
      have Hyk := Lib.hid hyk
      clear hxk hyk
      have hbd := hbel.drew
      go_wp2
      refine wp_region_mix [(0, false), (1, false), (2, false), (3, false), (4, false), (5, false), (6, false), (7, false), (8, false)] (fun u => S4 u g (o + k * 4) a0 a1 a2 a3 ∧ S4 u g' (o' + k * 4) b0 b1 b2 b3) (by kernel_rfl) (by kernel_rfl) (fun _ _ _ _ _ h => h) ⟨ca.drew, cb.drew⟩ ?_
      simp only [mixOps, List.map_cons, List.map_nil, List.getElem?_cons_succ, List.getElem?_cons_zero, Option.getD_some]
      iterate 8 (
        refine mix_pure (v := ?_) (by rfl) (fun u hu => ?_) ?_
        rotate_left
        · obtain ⟨⟨_, _, _, _⟩, _, _, _, _⟩ := hu
          go_simp
          (with_reducible rfl)
        (try simp only [Act.put, List.setIfInBounds_toArray, List.set_cons_zero, List.set_cons_succ]))
      refine mix_pure (v := .bool (decide (¬ (a0, a1, a2, a3) = (b0, b1, b2, b3)))) (by rfl) (fun u _ => by
        go_simp
        by_cases h0 : a0 = b0 <;> by_cases h1 : a1 = b1 <;> by_cases h2 : a2 = b2 <;> by_cases h3 : a3 = b3 <;> simp [h0, h1, h2, h3]) ?_
      (try simp only [Act.put, List.setIfInBounds_toArray, List.set_cons_zero, List.set_cons_succ])
      refine mix_nil ?_
      by_cases he : (a0, a1, a2, a3) = (b0, b1, b2, b3)
      · rw [show decide (¬ (a0, a1, a2, a3) = (b0, b1, b2, b3)) = false by simpa using he]
        have He := Lib.hid he
        clear he
        go_wp2
        refine ⟨⟨k + 1, by omega, by go_num, fun i hi => ?_, hbd⟩, by simp [intOf]; omega⟩
        rcases Nat.lt_or_ge i k with h | h
        · exact Hal.out i h
        · obtain rfl : i = k := by omega
          rw [Hxk.out, Hyk.out, He.out]
      · rw [show decide (¬ (a0, a1, a2, a3) = (b0, b1, b2, b3)) = true from decide_eq_true he]
        have hfin : decide (xs = ys) = false := by
          simp only [decide_eq_false_iff_not]
          rintro rfl
          exact he (Option.some.inj (Hxk.out.symm.trans Hyk.out))
        have Hf := Lib.hid hfin
        clear he hfin
        go_wp2
        go_ret
        exact ⟨by rw [Hf.out]; rfl, hbd⟩
    · have hfin : decide (xs = ys) = true := by
        obtain rfl : k = n := by omega
        simp only [decide_eq_true_eq]
        exact alike_all' Hx.out Hy.out Hal.out
      have Hf := Lib.hid hfin
      clear hfin
      go_wp2
      go_ret
      exact ⟨by rw [Hf.out]; rfl, hbel⟩

/-- The model's two lists of samples held against one another, whatever their lengths. -/
theorem sliceEqual (A B : Option Addr) (n m c d : Nat) (xs ys : List Smp) (w : World) (ha : Rd eS w w.heap.size A xs) (hb : Rd eS w w.heap.size B ys) (hx : xs.length = n) (hy : ys.length = m) (hm : n ≤ maxLen) :
    Calls Tryz.prog 109 #[.slice A n c, .slice B m d] w fun e w' => e = .returned (.bool (decide (xs = ys))) ∧ Below w.heap.size w w' := by
  by_cases h : n = m
  · subst h
    exact sliceEqual_any A B n c d xs ys w ha hb hx hy hm
  · have hd : decide (xs = ys) = false := by
      simp only [decide_eq_false_iff_not]
      rintro rfl
      exact h (hx.symm.trans hy)
    rw [hd]
    exact sliceEqual_no A B n m c d w h

theorem implSameSamples (A B : Option Addr) (n m c d : Nat) (xs ys : List Smp) (w : World) (ha : Rd eS w w.heap.size A xs) (hb : Rd eS w w.heap.size B ys) (hx : xs.length = n) (hy : ys.length = m) (hm : n ≤ maxLen) :
    Calls Tryz.prog 56 #[.slice A n c, .slice B m d] w fun e w' => e = .returned (.bool (decide (xs = ys))) ∧ Below w.heap.size w w' := by
  have h1 := sliceEqual A B n m c d xs ys w ha hb hx hy hm
  clear ha hb hx hy
  go_enter Tryz.func56, Tryz.ntmps56
  go_wp2_with (go_at_call 109; refine h1.mono ?_; rintro e w1 ⟨rfl, hb1⟩)
  go_ret
  exact ⟨rfl, hb1⟩
end Go.Proofs.YtmaillakhhdkfaaGreatDoor
/-
  Two lists of hints held against one another: the model's and the program's.
-/
namespace Go.Proofs.YtmaillakhhdkfaaGreatDoor
set_option maxRecDepth 20000
open Go.RowKit
set_option linter.unusedSimpArgs false

theorem sliceEqualH_no (A B : Option Addr) (n m c d : Nat) (w : World) (h : n ≠ m) :
    Calls Tryz.prog 110 #[.slice A n c, .slice B m d] w fun e w' => e = .returned (.bool false) ∧ Below w.heap.size w w' := by
  have hb : ((n : Int) != (m : Int)) = true := by simp; omega
  go_enter Tryz.func110, Tryz.ntmps110
  go_wp2
  go_ret
  exact ⟨rfl, Below.refl _ _⟩

set_option maxHeartbeats 2000000 in
theorem sliceEqualH_any (A B : Option Addr) (n c d : Nat) (xs ys : List Hnt) (w : World) (ha : Rd eH w w.heap.size A xs) (hb : Rd eH w w.heap.size B ys) (hx : xs.length = n) (hy : ys.length = n) (hm : n ≤ maxLen) :
    Calls Tryz.prog 110 #[.slice A n c, .slice B n d] w fun e w' => e = .returned (.bool (decide (xs = ys))) ∧ Below w.heap.size w w' := by
  have h0 : ((n : Int) != (n : Int)) = false := by simp
  have Hx := Lib.hid hx
  have Hy := Lib.hid hy
  clear hx hy
  unfold maxLen at hm
  go_enter Tryz.func110, Tryz.ntmps110
  go_wp2
  go_loopw [13] (fun i wr => EqRelH xs ys w n i wr) (fun i _ => n - (intOf i).toNat)
  case atStart => exact ⟨0, Nat.zero_le _, rfl, fun _ h => absurd h (by omega), Below.refl _ _⟩
  case round =>
    obtain ⟨k, hk, rfl, hal, hbel⟩ := hrel
    have Hal := Lib.hid hal
    clear hal
    by_cases hlt : k < n
    · obtain ⟨g, o, a0, a1, a2, a3, a4, a5, a6, rfl, hg, hxk, ca⟩ := (ha.below hbel (Nat.le_refl _)).hnt (k := k) (by rw [Hx.out]; exact hlt)
      obtain ⟨g', o', b0, b1, b2, b3, b4, b5, b6, rfl, hg', hyk, cb⟩ := (hb.below hbel (Nat.le_refl _)).hnt (k := k) (by rw [Hy.out]; exact hlt)
      have Hxk := Lib.hid hxk
      have Hyk := Lib.hid hyk
      clear hxk hyk
      have hbd := hbel.drew
      go_wp2
      refine wp_region_mix [(0, false), (1, false), (2, false), (3, false), (4, false), (5, false), (6, false), (7, false), (8, false)] (fun u => S7 u g (o + k * 7) a0 a1 a2 a3 a4 a5 a6 ∧ S7 u g' (o' + k * 7) b0 b1 b2 b3 b4 b5 b6) (by kernel_rfl) (by kernel_rfl) (fun _ _ _ _ _ h => h) ⟨ca.drew, cb.drew⟩ ?_
      simp only [mixOps, List.map_cons, List.map_nil, List.getElem?_cons_succ, List.getElem?_cons_zero, Option.getD_some]
      iterate 8 (
        refine mix_pure (v := ?_) (by rfl) (fun u hu => ?_) ?_
        rotate_left
        · obtain ⟨⟨_, _, _, _, _, _, _⟩, _, _, _, _, _, _, _⟩ := hu
          go_simp
          (with_reducible rfl)
        (try simp only [Act.put, List.setIfInBounds_toArray, List.set_cons_zero, List.set_cons_succ]))
      refine mix_pure (v := .bool (decide (¬ (a0, (a1, a2, a3, a4), a5, a6) = (b0, (b1, b2, b3, b4), b5, b6)))) (by rfl) (fun u _ => by
        go_simp
        (by_cases h0 : a0 = b0; rotate_left; simp [h0]; by_cases h1 : a1 = b1; rotate_left; simp [h0, h1]; by_cases h2 : a2 = b2; rotate_left; simp [h0, h1, h2]; by_cases h3 : a3 = b3; rotate_left; simp [h0, h1, h2, h3]; by_cases h4 : a4 = b4; rotate_left; simp [h0, h1, h2, h3, h4]; by_cases h5 : a5 = b5; rotate_left; simp [h0, h1, h2, h3, h4, h5]; by_cases h6 : a6 = b6; rotate_left; simp [h0, h1, h2, h3, h4, h5, h6]; simp [h0, h1, h2, h3, h4, h5, h6])) ?_
      (try simp only [Act.put, List.setIfInBounds_toArray, List.set_cons_zero, List.set_cons_succ])
      refine mix_nil ?_
      by_cases he : (a0, (a1, a2, a3, a4), a5, a6) = (b0, (b1, b2, b3, b4), b5, b6)
      · rw [show decide (¬ (a0, (a1, a2, a3, a4), a5, a6) = (b0, (b1, b2, b3, b4), b5, b6)) = false from decide_eq_false (fun h => h he)]
        have He := Lib.hid he
        clear he
        go_wp2
        refine ⟨⟨k + 1, by omega, by go_num, fun i hi => ?_, hbd⟩, by simp [intOf]; omega⟩
        rcases Nat.lt_or_ge i k with h | h
        · exact Hal.out i h
        · obtain rfl : i = k := by omega
          rw [Hxk.out, Hyk.out, He.out]
      · rw [show decide (¬ (a0, (a1, a2, a3, a4), a5, a6) = (b0, (b1, b2, b3, b4), b5, b6)) = true from decide_eq_true he]
        have hfin : decide (xs = ys) = false := by
          simp only [decide_eq_false_iff_not]
          rintro rfl
          exact he (Option.some.inj (Hxk.out.symm.trans Hyk.out))
        have Hf := Lib.hid hfin
        clear he hfin
        go_wp2
        go_ret
        exact ⟨by rw [Hf.out]; rfl, hbd⟩
    · have hfin : decide (xs = ys) = true := by
        obtain rfl : k = n := by omega
        simp only [decide_eq_true_eq]
        exact alike_all' Hx.out Hy.out Hal.out
      have Hf := Lib.hid hfin
      clear hfin
      go_wp2
      go_ret
      exact ⟨by rw [Hf.out]; rfl, hbel⟩

theorem sliceEqualH (A B : Option Addr) (n m c d : Nat) (xs ys : List Hnt) (w : World) (ha : Rd eH w w.heap.size A xs) (hb : Rd eH w w.heap.size B ys) (hx : xs.length = n) (hy : ys.length = m) (hm : n ≤ maxLen) :
    Calls Tryz.prog 110 #[.slice A n c, .slice B m d] w fun e w' => e = .returned (.bool (decide (xs = ys))) ∧ Below w.heap.size w w' := by
  by_cases h : n = m
  · subst h
    exact sliceEqualH_any A B n c d xs ys w ha hb hx hy hm
  · have hd : decide (xs = ys) = false := by
      simp only [decide_eq_false_iff_not]
      rintro rfl
      exact h (hx.symm.trans hy)
    rw [hd]
    exact sliceEqualH_no A B n m c d w h

theorem implSameHints (A B : Option Addr) (n m c d : Nat) (xs ys : List Hnt) (w : World) (ha : Rd eH w w.heap.size A xs) (hb : Rd eH w w.heap.size B ys) (hx : xs.length = n) (hy : ys.length = m) (hm : n ≤ maxLen) :
    Calls Tryz.prog 57 #[.slice A n c, .slice B m d] w fun e w' => e = .returned (.bool (decide (xs = ys))) ∧ Below w.heap.size w w' := by
  have h1 := sliceEqualH A B n m c d xs ys w ha hb hx hy hm
  clear ha hb hx hy
  go_enter Tryz.func57, Tryz.ntmps57
  go_wp2_with (go_at_call 110; refine h1.mono ?_; rintro e w1 ⟨rfl, hb1⟩)
  go_ret
  exact ⟨rfl, hb1⟩
end Go.Proofs.YtmaillakhhdkfaaGreatDoor
/-
  Two states held against one another: the model's way and the program's.
-/
namespace Go.Proofs.YtmaillakhhdkfaaGreatDoor
set_option maxRecDepth 20000
open Go.RowKit
set_option linter.unusedSimpArgs false
set_option linter.unusedVariables false
attribute [local irreducible] mixW

set_option maxHeartbeats 4000000 in
theorem implSameStates (A B A' B' : Option Addr) (n c m d n' c' m' d' : Nat) (l l' : List Smp) (h h' : List Hnt) (x x' : Int) (w : World)
    (ha : Rd eS w w.heap.size A l) (hb : Rd eH w w.heap.size B h) (ha' : Rd eS w w.heap.size A' l') (hb' : Rd eH w w.heap.size B' h') (hn : l.length = n) (hm : h.length = m) (hn' : l'.length = n') (hm' : h'.length = m') (hnm : n ≤ maxLen) (hmm : m ≤ maxLen) :
    Calls Tryz.prog 17 #[.agg #[.slice A n c, .slice B m d, .int .i64 x], .agg #[.slice A' n' c', .slice B' m' d', .int .i64 x']] w fun e w' => e = .returned (.bool (staSame (l, h, x) (l', h', x'))) ∧ Below w.heap.size w w' := by
  have hb0 : Below w.heap.size w ((w.alloc (.cells #[.slice A n c, .slice B m d, .int .i64 x] 39)).alloc (.cells #[.slice A' n' c', .slice B' m' d', .int .i64 x'] 39)) := ((Below.refl _ _).alloc (Nat.le_refl _) _).alloc (by simp) _
  have x0 := (At.new w 39 #[.slice A n c, .slice B m d, .int .i64 x]).alloc (.cells #[.slice A' n' c', .slice B' m' d', .int .i64 x'] 39)
  have y0 : At ((w.alloc (.cells #[.slice A n c, .slice B m d, .int .i64 x] 39)).alloc (.cells #[.slice A' n' c', .slice B' m' d', .int .i64 x'] 39)) (w.heap.size + 1) 39 #[.slice A' n' c', .slice B' m' d', .int .i64 x'] := by
    have := At.new (w.alloc (.cells #[.slice A n c, .slice B m d, .int .i64 x] 39)) 39 #[.slice A' n' c', .slice B' m' d', .int .i64 x']
    simpa using this
  have ha0 := ha.lift hb0
  have hb00 := hb.lift hb0
  have ha0' := ha'.lift hb0
  have hb0' := hb'.lift hb0
  have S1 := implSameSamples A A' n n' c c' l l' _ ha0 ha0' hn hn' hnm
  have S2 := fun W (k : Below ((w.alloc (.cells #[.slice A n c, .slice B m d, .int .i64 x] 39)).alloc (.cells #[.slice A' n' c', .slice B' m' d', .int .i64 x'] 39)).heap.size ((w.alloc (.cells #[.slice A n c, .slice B m d, .int .i64 x] 39)).alloc (.cells #[.slice A' n' c', .slice B' m' d', .int .i64 x'] 39)) W) => implSameHints B B' m m' d d' h h' W (hb00.lift k) (hb0'.lift k) hm hm' hmm
  have es : staSame (l, h, x) (l', h', x') = (decide (l = l') && (decide (h = h') && decide (x = x'))) := rfl
  rcases k1 : decide (l = l') <;> rcases k2 : decide (h = h') <;> rcases k3 : decide (x = x')
  all_goals
    rw [k1, k2, k3] at es
    rw [k1] at S1
    rw [k2] at S2
    have k3' : (x == x') = decide (x = x') := rfl
    rw [k3] at k3'
    have Es := Lib.hid es
    clear k1 k2 k3 es hn hm hn' hm' ha hb ha' hb' ha0 hb00 ha0' hb0'
    obtain ⟨p0, p1, p2, _, _, _⟩ := x0.three
    obtain ⟨q0, q1, q2, _, _, _⟩ := y0.three
    go_enter Tryz.func17, Tryz.ntmps17
    go_wp2_with fail
    refine S1.mono ?_
    rintro e w1 ⟨rfl, hb1⟩
    have hB1 := hb0.trans (hb1.mono hb0.size)
    have x1 := x0.below hb1 x0.lt
    have y1 := y0.below hb1 y0.lt
    clear p0 p1 p2 q0 q1 q2 S1
    obtain ⟨p0, p1, p2, _, _, _⟩ := x1.three
    obtain ⟨q0, q1, q2, _, _, _⟩ := y1.three
    first
    | (go_wp2_with fail
       refine (S2 _ hb1).mono ?_
       rintro e w2 ⟨rfl, hb2⟩
       have hB2 := hB1.trans (hb2.mono hB1.size)
       have x2 := x1.below hb2 x1.lt
       have y2 := y1.below hb2 y1.lt
       clear p0 p1 p2 q0 q1 q2
       obtain ⟨p0, p1, p2, _, _, _⟩ := x2.three
       obtain ⟨q0, q1, q2, _, _, _⟩ := y2.three
       go_wp2
       go_ret
       exact ⟨by rw [Es.out]; rfl, hB2⟩)
    | (go_wp2
       go_ret
       exact ⟨by rw [Es.out]; rfl, hB1⟩)
end Go.Proofs.YtmaillakhhdkfaaGreatDoor
