/-
  Texts of one proof, joined: each has its own namespace.
-/
import Derived.Test.YtkgbjlbhlhdhbaaDoorBFnMerges4
import Derived.Test.YtkgbjlbhlhdhbaaDoorBFnMerges3
import Derived.Shelf.Spec.SlicesGrow
import Derived.Shelf.SlSortCmp.NoneTotal
import Derived.Test.YtkgbjlbhlhdhbaaDoorRows
import Derived.Maps.Own
/-
  What stores are, of the pure answers: in order, right, each key once; what is put in and merged.
-/
namespace Go.Proofs.YtkgbjlbhlhdhbaaDoor
set_option maxRecDepth 20000

theorem keyOrd (a b : Smp) : (aheadM a b = true ∧ aheadM b a = false ∧ sameKeyM a b = false) ∨ (aheadM a b = false ∧ aheadM b a = true ∧ sameKeyM a b = false) ∨ (aheadM a b = false ∧ aheadM b a = false ∧ sameKeyM a b = true) := by
  obtain ⟨a0, a1, a2, a3⟩ := a
  obtain ⟨b0, b1, b2, b3⟩ := b
  unfold aheadM sameKeyM
  simp only
  rcases Int.lt_trichotomy a0 b0 with h | h | h
  · have h1 : ¬ a0 = b0 := by omega
    have h2 : ¬ b0 = a0 := by omega
    have h3 : ¬ b0 < a0 := by omega
    exact .inl ⟨by simp [h1, h], by simp [h2, h3], by simp [h1]⟩
  · subst h
    rcases Int.lt_trichotomy a1 b1 with h | h | h
    · have h1 : ¬ a1 = b1 := by omega
      have h2 : ¬ b1 = a1 := by omega
      exact .inl ⟨by simp [h], by simp [h2]; omega, by simp [h1]⟩
    · subst h
      rcases Int.lt_trichotomy a2 b2 with h | h | h
      · exact .inl ⟨by simp [h], by simp; omega, by simp; omega⟩
      · subst h
        exact .inr (.inr ⟨by simp, by simp, by simp⟩)
      · exact .inr (.inl ⟨by simp; omega, by simp [h], by simp; omega⟩)
    · have h1 : ¬ a1 = b1 := by omega
      exact .inr (.inl ⟨by simp [h1]; omega, by simp [h], by simp [h1]⟩)
  · have h1 : ¬ a0 = b0 := by omega
    have h2 : ¬ b0 = a0 := by omega
    exact .inr (.inl ⟨by simp [h1]; omega, by simp [h2, h], by simp [h1]⟩)

theorem ahead_iff (a b : Smp) : aheadM a b = true ↔ a.1 < b.1 ∨ (a.1 = b.1 ∧ (a.2.1 < b.2.1 ∨ (a.2.1 = b.2.1 ∧ a.2.2.1 < b.2.2.1))) := by
  unfold aheadM
  by_cases h : a.1 = b.1
  · simp [h]
  · simp [h]

theorem same_iff (a b : Smp) : sameKeyM a b = true ↔ a.1 = b.1 ∧ a.2.1 = b.2.1 ∧ a.2.2.1 = b.2.2.1 := by
  unfold sameKeyM
  simp

theorem ahead_trans {a b c : Smp} (h : aheadM a b = true) (k : aheadM b c = true) : aheadM a c = true := by
  rw [ahead_iff] at *
  omega

theorem ahead_keys {a b c : Smp} (h : sameKeyM a b = true) : aheadM a c = aheadM b c := by
  rw [Bool.eq_iff_iff, ahead_iff, ahead_iff]
  rw [same_iff] at h
  omega

theorem same_symm (a b : Smp) : sameKeyM a b = sameKeyM b a := by
  rw [Bool.eq_iff_iff, same_iff, same_iff]
  omega

theorem ahead_not_same {a b : Smp} (h : aheadM a b = true) : sameKeyM a b = false := by
  rcases keyOrd a b with ⟨_, _, k⟩ | ⟨k, _⟩ | ⟨k, _⟩
  · exact k
  · rw [h] at k; cases k
  · rw [h] at k; cases k

/-- A row in order: each ahead of each behind it. -/
def Asc (l : List Smp) : Prop := l.Pairwise fun a b => aheadM a b = true

theorem asc_of_steps : ∀ {l : List Smp}, (∀ j, j + 1 < l.length → stepM l j = true) → Asc l
  | [], _ => List.Pairwise.nil
  | a :: l, h => by
    have hl : Asc l := asc_of_steps fun j hj => by
      have := h (j + 1) (by simpa using hj)
      simpa [stepM] using this
    refine List.pairwise_cons.2 ⟨?_, hl⟩
    match l, h, hl with
    | [], _, _ => simp
    | b :: l, h, hl =>
      have h0 : aheadM a b = true := by simpa [stepM] using h 0 (by simp)
      intro y hy
      rcases List.mem_cons.1 hy with rfl | hy
      · exact h0
      · exact ahead_trans h0 ((List.pairwise_cons.1 hl).1 y hy)

theorem steps_of_asc {l : List Smp} (h : Asc l) (j : Nat) : stepM l j = true := by
  unfold stepM
  rcases ha : l[j]? with _ | a
  · simp
  rcases hb : l[j + 1]? with _ | b
  · simp
  simp only
  have h1 := getElem?_some_lt hb
  rw [List.getElem?_eq_getElem (by omega)] at ha hb
  cases ha
  cases hb
  exact List.pairwise_iff_getElem.1 h j (j + 1) (by omega) h1 (by omega)

def Right (l : List Smp) : Prop := ∀ x ∈ l, faultM x = 0

theorem storeFault_iff (l : List Smp) : storeFaultM l = 0 ↔ l.length ≤ 160 ∧ Right l ∧ Asc l := by
  unfold storeFaultM
  constructor
  · intro h
    split at h
    · cases h
    split at h
    · cases h
    split at h
    · cases h
    · rename_i h1 h2 h3
      refine ⟨by omega, fun x hx => ?_, asc_of_steps fun j hj => ?_⟩
      · have : rightM l = true := by simpa using h2
        unfold rightM at this
        rw [List.all_eq_true] at this
        simpa using this x hx
      · have : risesM l = true := by simpa using h3
        unfold risesM at this
        rw [List.all_eq_true] at this
        exact this j (by simp; omega)
  · rintro ⟨h1, h2, h3⟩
    have k2 : rightM l = true := by
      unfold rightM
      rw [List.all_eq_true]
      exact fun x hx => decide_eq_true (h2 x hx)
    have k3 : risesM l = true := by
      unfold risesM
      rw [List.all_eq_true]
      exact fun j _ => steps_of_asc h3 j
    rw [if_neg (by omega), k2, k3]
    simp

theorem findI_neg (l : List Smp) (x : Smp) : findI l x < 0 ↔ ∀ a ∈ l, sameKeyM a x = false := by
  unfold findI
  constructor
  · intro h a ha
    rcases hf : findM l x with _ | i
    · unfold findM at hf
      rw [List.find?_range_eq_none] at hf
      obtain ⟨k, hk⟩ := List.mem_iff_getElem?.1 ha
      have := hf k (getElem?_some_lt hk)
      rw [hitM_at hk] at this
      simpa using this
    · rw [hf] at h
      simp only at h
      omega
  · intro h
    have : findM l x = none := by
      unfold findM
      rw [List.find?_range_eq_none]
      intro j hj
      rw [hitM_at (List.getElem?_eq_getElem hj)]
      simp [h _ (List.getElem_mem hj)]
    rw [this]
    simp

theorem mem_insM (l : List Smp) (x y : Smp) : y ∈ insM l x ↔ y = x ∨ y ∈ l := by
  unfold insM
  split
  · rename_i p _
    rw [List.mem_append, List.mem_cons]
    constructor
    · rintro (h | h | h)
      · exact .inr (List.mem_of_mem_take h)
      · exact .inl h
      · exact .inr (List.mem_of_mem_drop h)
    · rintro (h | h)
      · exact .inr (.inl h)
      · rw [← List.take_append_drop p l, List.mem_append] at h
        rcases h with h | h
        · exact .inl h
        · exact .inr (.inr h)
  · simp [or_comm]

theorem asc_insM {l : List Smp} {x : Smp} (h : Asc l) (hx : ∀ a ∈ l, sameKeyM a x = false) : Asc (insM l x) := by
  have low : ∀ a ∈ l, aheadM x a = false → aheadM a x = true := fun a ha k => by
    rcases keyOrd x a with ⟨k1, _⟩ | ⟨_, k1, _⟩ | ⟨_, _, k1⟩
    · rw [k] at k1; cases k1
    · exact k1
    · rw [same_symm, hx a ha] at k1; cases k1
  unfold insM
  split
  · rename_i p hp
    unfold spotM at hp
    rw [List.find?_range_eq_some] at hp
    obtain ⟨hf, hlt, hal⟩ := hp
    have hlt : p < l.length := by simpa using hlt
    have hat : ∀ (j : Nat) (hj : j < l.length), frontOf l x j = aheadM x l[j] := fun j hj => frontOf_at (List.getElem?_eq_getElem hj)
    have hd : Asc (l.drop p) := List.Pairwise.sublist (List.drop_sublist p l) h
    have ht : Asc (l.take p) := List.Pairwise.sublist (List.take_sublist p l) h
    have hxp : aheadM x l[p] = true := by rw [← hat p hlt]; exact hf
    have hdc : l.drop p = l[p] :: l.drop (p + 1) := List.drop_eq_getElem_cons hlt
    have hxd : ∀ b ∈ l.drop p, aheadM x b = true := fun b hb => by
      rw [hdc] at hb hd
      rcases List.mem_cons.1 hb with rfl | hb
      · exact hxp
      · exact ahead_trans hxp ((List.pairwise_cons.1 hd).1 b hb)
    have htx : ∀ a ∈ l.take p, aheadM a x = true := fun a ha => by
      obtain ⟨j, hj, rfl⟩ := List.mem_take_iff_getElem.1 ha
      refine low _ (List.getElem_mem _) ?_
      have := hal j (by omega)
      rw [hat j (by omega)] at this
      simpa using this
    refine List.pairwise_append.2 ⟨ht, List.pairwise_cons.2 ⟨hxd, hd⟩, fun a ha b hb => ?_⟩
    rcases List.mem_cons.1 hb with rfl | hb
    · exact htx a ha
    · exact ahead_trans (htx a ha) (hxd b hb)
  · rename_i hp
    unfold spotM at hp
    rw [List.find?_range_eq_none] at hp
    refine List.pairwise_append.2 ⟨h, List.pairwise_singleton _ _, fun a ha b hb => ?_⟩
    rw [List.mem_singleton] at hb
    subst hb
    obtain ⟨j, hj, rfl⟩ := List.mem_iff_getElem.1 ha
    refine low _ ha ?_
    have := hp j hj
    rw [frontOf_at (List.getElem?_eq_getElem hj)] at this
    simpa using this

/-- What is merged: the first row, and what the second has besides, in order. -/
theorem merge_facts (a : List Smp) (ha : Asc a) (hr : Right a) : ∀ (b : List Smp), Asc b → Right b → ∀ out : List Smp, Asc out → Right out → (∀ y ∈ a, y ∈ out) → (∀ y ∈ out, (∃ z ∈ a, z = y) ∨ ∀ x ∈ b, aheadM y x = true) →
    Asc (b.foldl (mergeStep a) out) ∧ Right (b.foldl (mergeStep a) out) ∧ (∀ y ∈ out, y ∈ b.foldl (mergeStep a) out) ∧ (∀ x ∈ b, ∃ y ∈ b.foldl (mergeStep a) out, sameKeyM y x = true)
  | [], _, _, out, h1, h2, _, _ => ⟨h1, h2, fun _ h => h, fun _ h => by simp at h⟩
  | x :: b, hb, hbr, out, h1, h2, h3, h4 => by
    obtain ⟨hx, hb'⟩ := List.pairwise_cons.1 hb
    have hbr' : Right b := fun y hy => hbr y (List.mem_cons_of_mem _ hy)
    rw [List.foldl_cons]
    by_cases hf : findI a x < 0
    · have hs : mergeStep a out x = insM out x := if_pos hf
      rw [hs]
      have hno : ∀ y ∈ out, sameKeyM y x = false := fun y hy => by
        rcases h4 y hy with ⟨z, hz, rfl⟩ | h
        · exact (findI_neg a x).1 hf z hz
        · exact ahead_not_same (h x List.mem_cons_self)
      obtain ⟨k1, k2, k3, k4⟩ := merge_facts a ha hr b hb' hbr' (insM out x) (asc_insM h1 hno)
        (fun y hy => by
          rcases (mem_insM out x y).1 hy with rfl | hy
          · exact hbr y List.mem_cons_self
          · exact h2 y hy)
        (fun y hy => (mem_insM out x y).2 (.inr (h3 y hy)))
        (fun y hy => by
          rcases (mem_insM out x y).1 hy with rfl | hy
          · exact .inr hx
          · rcases h4 y hy with h | h
            · exact .inl h
            · exact .inr fun z hz => h z (List.mem_cons_of_mem _ hz))
      refine ⟨k1, k2, fun y hy => k3 y ((mem_insM out x y).2 (.inr hy)), fun z hz => ?_⟩
      rcases List.mem_cons.1 hz with rfl | hz
      · exact ⟨z, k3 z ((mem_insM out z z).2 (.inl rfl)), (same_iff z z).2 ⟨rfl, rfl, rfl⟩⟩
      · exact k4 z hz
    · have hs : mergeStep a out x = out := if_neg hf
      rw [hs]
      obtain ⟨k1, k2, k3, k4⟩ := merge_facts a ha hr b hb' hbr' out h1 h2 h3 (fun y hy => by
        rcases h4 y hy with h | h
        · exact .inl h
        · exact .inr fun z hz => h z (List.mem_cons_of_mem _ hz))
      refine ⟨k1, k2, k3, fun z hz => ?_⟩
      rcases List.mem_cons.1 hz with rfl | hz
      · obtain ⟨y, hy, he⟩ : ∃ y ∈ a, sameKeyM y z = true := by
          refine Classical.byContradiction fun hc => hf ((findI_neg a z).2 fun y hy => ?_)
          rcases he : sameKeyM y z with _ | _
          · rfl
          · exact absurd ⟨y, hy, he⟩ hc
        exact ⟨y, k3 y (h3 y hy), he⟩
      · exact k4 z hz

/-- A row that has every key already: nothing comes in. -/
theorem merge_none (a : List Smp) : ∀ (b : List Smp) (out : List Smp), (∀ x ∈ b, ∃ y ∈ a, sameKeyM y x = true) → b.foldl (mergeStep a) out = out
  | [], _, _ => rfl
  | x :: b, out, h => by
    rw [List.foldl_cons]
    have hf : ¬ findI a x < 0 := fun hc => by
      obtain ⟨y, hy, he⟩ := h x List.mem_cons_self
      rw [(findI_neg a x).1 hc y hy] at he
      cases he
    rw [show mergeStep a out x = out from if_neg hf]
    exact merge_none a b out fun z hz => h z (List.mem_cons_of_mem _ hz)

/-- What MergeLists answers with no fault: all of both, a right store, and merged again it stays. -/
theorem merge_said {a b m : List Smp} (h : mergeListsM a b = (0, m)) :
    storeFaultM m = 0 ∧ (∀ x ∈ a, x ∈ m) ∧ (∀ x ∈ b, ¬ findI m x < 0) ∧ mergeListsM m b = (0, m) ∧ mergeListsM m a = (0, m) := by
  unfold mergeListsM at h
  by_cases fa : storeFaultM a = 0
  · rw [if_neg (by simpa using fa)] at h
    by_cases fb : storeFaultM b = 0
    · rw [if_neg (by simpa using fb)] at h
      by_cases hl : 160 < (mergeM a b).length
      · rw [if_pos hl] at h
        simp at h
      · rw [if_neg hl] at h
        obtain rfl : mergeM a b = m := (Prod.mk.inj h).2
        obtain ⟨_, ra, sa⟩ := (storeFault_iff a).1 fa
        obtain ⟨_, rb, sb⟩ := (storeFault_iff b).1 fb
        obtain ⟨k1, k2, k3, k4⟩ := merge_facts a sa ra b sb rb a sa ra (fun _ h => h) (fun y hy => .inl ⟨y, hy, rfl⟩)
        have fm : storeFaultM (mergeM a b) = 0 := (storeFault_iff _).2 ⟨by omega, k2, k1⟩
        have nb : mergeM (mergeM a b) b = mergeM a b := merge_none _ b _ k4
        have na : mergeM (mergeM a b) a = mergeM a b := merge_none _ a _ fun x hx => ⟨x, k3 x hx, (same_iff x x).2 ⟨rfl, rfl, rfl⟩⟩
        refine ⟨fm, k3, fun x hx hc => ?_, ?_, ?_⟩
        · obtain ⟨y, hy, he⟩ := k4 x hx
          rw [(findI_neg _ x).1 hc y hy] at he
          cases he
        · unfold mergeListsM
          rw [if_neg (by simpa using fm), if_neg (by simpa using fb), nb, if_neg hl]
        · unfold mergeListsM
          rw [if_neg (by simpa using fm), if_neg (by simpa using fa), na, if_neg hl]
    · rw [if_pos fb] at h
      exact absurd (Prod.mk.inj h).1 fb
  · rw [if_pos fa] at h
    exact absurd (Prod.mk.inj h).1 fa
theorem findM_hit {l : List Smp} {x : Smp} (h : ¬ findI l x < 0) : ∃ (i : Nat) (a : Smp), findM l x = some i ∧ l[i]? = some a ∧ a ∈ l ∧ sameKeyM a x = true := by
  unfold findI at h
  rcases hf : findM l x with _ | i
  · rw [hf] at h
    simp at h
  · have h1 := hf
    unfold findM at h1
    rw [List.find?_range_eq_some] at h1
    obtain ⟨hh, hlt, _⟩ := h1
    have hlt : i < l.length := by simpa using hlt
    refine ⟨i, l[i], rfl, List.getElem?_eq_getElem hlt, List.getElem_mem hlt, ?_⟩
    rw [← hitM_at (List.getElem?_eq_getElem hlt)]
    exact hh

/-- In a row in order a key is there once. -/
theorem asc_one {l : List Smp} (h : Asc l) {a b : Smp} (ha : a ∈ l) (hb : b ∈ l) (hk : sameKeyM a b = true) : a = b := by
  obtain ⟨i, hi, rfl⟩ := List.mem_iff_getElem.1 ha
  obtain ⟨j, hj, rfl⟩ := List.mem_iff_getElem.1 hb
  rcases Nat.lt_trichotomy i j with h1 | h1 | h1
  · have := ahead_not_same (List.pairwise_iff_getElem.1 h i j hi hj h1)
    rw [hk] at this; cases this
  · subst h1; rfl
  · have := ahead_not_same (List.pairwise_iff_getElem.1 h j i hj hi h1)
    rw [same_symm, hk] at this; cases this

/-- What InsertSample answers with no fault: a right store that has the sample's key, put in again it stays, and a new one is found as it is. -/
theorem insert_said {l st : List Smp} {x : Smp} {new : Bool} (h : insertM l x = (0, new, st)) :
    storeFaultM st = 0 ∧ insertM st x = (0, false, st) ∧ (lookM st x).1 = 0 ∧ (new = true → (lookM st x).2 = x) := by
  have core : storeFaultM st = 0 → faultM x = 0 → ¬ findI st x < 0 → (new = true → x ∈ st) → storeFaultM st = 0 ∧ insertM st x = (0, false, st) ∧ (lookM st x).1 = 0 ∧ (new = true → (lookM st x).2 = x) := by
    intro fs fx hf hn
    obtain ⟨i, a, hi, ha, hal, hk⟩ := findM_hit hf
    refine ⟨fs, ?_, ?_, fun hnew => ?_⟩
    · unfold insertM
      rw [if_neg (by simpa using fs), if_neg (by simpa using fx), if_pos (by omega)]
    · unfold lookM
      rw [if_neg (by simpa using fs), hi]
    · unfold lookM
      rw [if_neg (by simpa using fs), hi]
      simp only [ha, Option.getD_some]
      exact asc_one ((storeFault_iff st).1 fs).2.2 hal (hn hnew) hk
  unfold insertM at h
  by_cases fl : storeFaultM l = 0
  · rw [if_neg (by simpa using fl)] at h
    by_cases fx : faultM x = 0
    · rw [if_neg (by simpa using fx)] at h
      by_cases hf : 0 ≤ findI l x
      · rw [if_pos hf] at h
        have e := Prod.mk.inj h
        have e2 := Prod.mk.inj e.2
        obtain rfl := e2.2
        exact core fl fx (by omega) (fun hn => by rw [← e2.1] at hn; cases hn)
      · rw [if_neg hf] at h
        by_cases hl : 160 ≤ l.length
        · rw [if_pos hl] at h
          simp at h
        · rw [if_neg hl] at h
          have e2 := Prod.mk.inj (Prod.mk.inj h).2
          obtain rfl := e2.2
          have hno := (findI_neg l x).1 (by omega)
          obtain ⟨_, rl, sl⟩ := (storeFault_iff l).1 fl
          have hx : x ∈ insM l x := (mem_insM l x x).2 (.inl rfl)
          refine core ((storeFault_iff _).2 ⟨by rw [insM_len]; omega, fun y hy => ?_, asc_insM sl hno⟩) fx (fun hc => ?_) (fun _ => hx)
          · rcases (mem_insM l x y).1 hy with rfl | hy
            · exact fx
            · exact rl y hy
          · have := (findI_neg _ x).1 hc x hx
            rw [(same_iff x x).2 ⟨rfl, rfl, rfl⟩] at this
            cases this
    · rw [if_pos fx] at h
      exact absurd (Prod.mk.inj h).1 fx
  · rw [if_pos fl] at h
    exact absurd (Prod.mk.inj h).1 fl

theorem find_said {m : List Smp} {x : Smp} (hs : storeFaultM m = 0) (h : ¬ findI m x < 0) : (lookM m x).1 = 0 := by
  obtain ⟨i, a, hi, _⟩ := findM_hit h
  unfold lookM
  rw [if_neg (by simpa using hs), hi]

/-- What is told stands where the count of those in front says. -/
theorem query_at {l : List Smp} {k : Nat} {a : Smp} (s f t : Int) (h : l[k]? = some a) (hw : wantM s f t a = true) : (queryM l s f t)[(queryM (l.take k) s f t).length]? = some a := by
  have hk := getElem?_some_lt h
  have hd : l = l.take k ++ a :: l.drop (k + 1) := by
    rw [List.getElem?_eq_getElem hk] at h
    cases h
    rw [← List.drop_eq_getElem_cons hk, List.take_append_drop]
  conv => lhs; arg 1; rw [hd]
  unfold queryM
  rw [List.filter_append, List.filter_cons, if_pos hw, List.getElem?_append_right (Nat.le_refl _)]
  simp
end Go.Proofs.YtkgbjlbhlhdhbaaDoor
/-
  Two lists of samples held against one another: the model's.
-/
namespace Go.Proofs.YtkgbjlbhlhdhbaaDoor
set_option maxRecDepth 20000
open Go.RowKit
set_option linter.unusedSimpArgs false

theorem neqSmp (a0 a1 a2 a3 b0 b1 b2 b3 : Int) (u : World) : (binOp .neq 26 (.agg #[.int .i64 a0, .int .i64 a1, .int .i64 a2, .int .i64 a3]) (.agg #[.int .i64 b0, .int .i64 b1, .int .i64 b2, .int .i64 b3])).run Tryd.prog u = .ok (.bool (decide (¬ (a0, a1, a2, a3) = (b0, b1, b2, b3)))) u := by
  go_simp
  by_cases h0 : a0 = b0 <;> by_cases h1 : a1 = b1 <;> by_cases h2 : a2 = b2 <;> by_cases h3 : a3 = b3 <;> simp [h0, h1, h2, h3]

theorem specSameSamples_no (A B : Option Addr) (n m c d : Nat) (w : World) (h : n ≠ m) :
    Calls Tryd.prog 22 #[.slice A n c, .slice B m d] w fun e w' => e = .returned (.bool false) ∧ Below w.heap.size w w' := by
  have hb : ((n : Int) != (m : Int)) = true := by simp; omega
  go_enter Tryd.func22, Tryd.ntmps22
  go_wp2
  go_ret
  exact ⟨rfl, Below.refl _ _⟩

set_option maxHeartbeats 1000000 in
theorem specSameSamples_any (A B : Option Addr) (n c d : Nat) (xs ys : List Smp) (w : World) (ha : Rd eS w w.heap.size A xs) (hb : Rd eS w w.heap.size B ys) (hx : xs.length = n) (hy : ys.length = n) (hm : n ≤ maxLen) :
    Calls Tryd.prog 22 #[.slice A n c, .slice B n d] w fun e w' => e = .returned (.bool (decide (xs = ys))) ∧ Below w.heap.size w w' := by
  have h0 : ((n : Int) != (n : Int)) = false := by simp
  have Hx := Lib.hid hx
  have Hy := Lib.hid hy
  clear hx hy
  unfold maxLen at hm
  go_enter Tryd.func22, Tryd.ntmps22
  go_wp2
  go_loopw [5] (fun i wr => EqRelS xs ys w n i wr) (fun i _ => n - (intOf i).toNat)
  case atStart => exact ⟨0, Nat.zero_le _, rfl, fun _ h => absurd h (by omega), Below.refl _ _⟩
  case round =>
    obtain ⟨k, hk, rfl, hal, hbel⟩ := hrel
    have Hal := Lib.hid hal
    clear hal
    by_cases hlt : k < n
    · obtain ⟨g, o, a0, a1, a2, a3, rfl, hg, hxk, ca⟩ := (ha.below hbel (Nat.le_refl _)).smp (k := k) (by rw [Hx.out]; exact hlt)
      obtain ⟨g', o', b0, b1, b2, b3, rfl, hg', hyk, cb⟩ := (hb.below hbel (Nat.le_refl _)).smp (k := k) (by rw [Hy.out]; exact hlt)
      have Hxk := Lib.hid hxk
      have Hyk := Lib.hid hyk
      clear hxk hyk
      have hbd := hbel.drew
      go_wp2
      refine wp_region_mix [(0, false), (1, false), (2, false), (3, false), (4, false), (5, false), (6, false), (7, false), (8, false)] (fun u => S4 u g (o + k * 4) a0 a1 a2 a3 ∧ S4 u g' (o' + k * 4) b0 b1 b2 b3) (by kernel_rfl) (by kernel_rfl) (fun _ _ _ _ _ h => h) ⟨ca.drew, cb.drew⟩ ?_
      simp only [mixOps, List.map_cons, List.map_nil, List.getElem?_cons_succ, List.getElem?_cons_zero, Option.getD_some]
      iterate 8 (
        refine mix_pure (v := ?_) (by rfl) (fun u hu => ?_) ?_
        rotate_left
        · obtain ⟨⟨_, _, _, _⟩, _, _, _, _⟩ := hu
          go_simp
          (with_reducible rfl)
        (try simp only [Act.put, List.setIfInBounds_toArray, List.set_cons_zero, List.set_cons_succ]))
      refine mix_pure (v := .bool (decide (¬ (a0, a1, a2, a3) = (b0, b1, b2, b3)))) (by rfl) (fun u _ => by
        go_simp
        by_cases h0 : a0 = b0 <;> by_cases h1 : a1 = b1 <;> by_cases h2 : a2 = b2 <;> by_cases h3 : a3 = b3 <;> simp [h0, h1, h2, h3]) ?_
      (try simp only [Act.put, List.setIfInBounds_toArray, List.set_cons_zero, List.set_cons_succ])
      refine mix_nil ?_
      by_cases he : (a0, a1, a2, a3) = (b0, b1, b2, b3)
      · rw [show decide (¬ (a0, a1, a2, a3) = (b0, b1, b2, b3)) = false by simpa using he]
        have He := Lib.hid he
        clear he
        go_wp2
        refine ⟨⟨k + 1, by omega, by go_num, fun i hi => ?_, hbd⟩, by simp [intOf]; omega⟩
        rcases Nat.lt_or_ge i k with h | h
        · exact Hal.out i h
        · obtain rfl : i = k := by omega
          rw [Hxk.out, Hyk.out, He.out]
      · rw [show decide (¬ (a0, a1, a2, a3) = (b0, b1, b2, b3)) = true from decide_eq_true he]
        have hfin : decide (xs = ys) = false := by
          simp only [decide_eq_false_iff_not]
          rintro rfl
          exact he (Option.some.inj (Hxk.out.symm.trans Hyk.out))
        have Hf := Lib.hid hfin
        clear he hfin
        go_wp2
        go_ret
        exact ⟨by rw [Hf.out]; rfl, hbd⟩
    · have hfin : decide (xs = ys) = true := by
        obtain rfl : k = n := by omega
        simp only [decide_eq_true_eq]
        exact alike_all' Hx.out Hy.out Hal.out
      have Hf := Lib.hid hfin
      clear hfin
      go_wp2
      go_ret
      exact ⟨by rw [Hf.out]; rfl, hbel⟩

/-- The model's two lists of samples held against one another, whatever their lengths. -/
theorem specSameSamples (A B : Option Addr) (n m c d : Nat) (xs ys : List Smp) (w : World) (ha : Rd eS w w.heap.size A xs) (hb : Rd eS w w.heap.size B ys) (hx : xs.length = n) (hy : ys.length = m) (hm : n ≤ maxLen) :
    Calls Tryd.prog 22 #[.slice A n c, .slice B m d] w fun e w' => e = .returned (.bool (decide (xs = ys))) ∧ Below w.heap.size w w' := by
  by_cases h : n = m
  · subst h
    exact specSameSamples_any A B n c d xs ys w ha hb hx hy hm
  · have hd : decide (xs = ys) = false := by
      simp only [decide_eq_false_iff_not]
      rintro rfl
      exact h (hx.symm.trans hy)
    rw [hd]
    exact specSameSamples_no A B n m c d w h
end Go.Proofs.YtkgbjlbhlhdhbaaDoor
/-
  A sample looked for in a row, whole: the law's own.
-/
namespace Go.Proofs.YtkgbjlbhlhdhbaaDoor
set_option maxRecDepth 20000
open Go.RowKit
set_option linter.unusedSimpArgs false

def HasRel (xs : List Smp) (y : Smp) (w : World) (n : Nat) (i : Value) (wr : World) : Prop :=
  ∃ k : Nat, k ≤ n ∧ i = .int .i64 k ∧ (∀ j x, j < k → xs[j]? = some x → x ≠ y) ∧ At wr w.heap.size 26 #[.int .i64 y.1, .int .i64 y.2.1, .int .i64 y.2.2.1, .int .i64 y.2.2.2] ∧ Below w.heap.size w wr

set_option maxHeartbeats 1000000 in
theorem lwHas (A : Option Addr) (n c : Nat) (xs : List Smp) (b0 b1 b2 b3 : Int) (w : World) (ha : Rd eS w w.heap.size A xs) (hx : xs.length = n) (hm : n ≤ maxLen) :
    Calls Tryd.prog 28 #[.slice A n c, .agg #[.int .i64 b0, .int .i64 b1, .int .i64 b2, .int .i64 b3]] w fun e w' => e = .returned (.bool (decide ((b0, b1, b2, b3) ∈ xs))) ∧ Below w.heap.size w w' := by
  have Hx := Lib.hid hx
  clear hx
  unfold maxLen at hm
  go_enter Tryd.func28, Tryd.ntmps28
  go_wp2
  go_loopw [5] (fun i wr => HasRel xs (b0, b1, b2, b3) w n i wr) (fun i _ => n - (intOf i).toNat)
  case atStart => exact ⟨0, Nat.zero_le _, rfl, fun _ _ h => absurd h (by omega), At.new w _ _, (Below.refl _ _).alloc (Nat.le_refl _) _⟩
  case round =>
    obtain ⟨k, hk, rfl, hal, hat, hbel⟩ := hrel
    have Hal := Lib.hid hal
    clear hal
    by_cases hlt : k < n
    · obtain ⟨g, o, a0, a1, a2, a3, rfl, hg, hxk, ca⟩ := (ha.below hbel (Nat.le_refl _)).smp (k := k) (by rw [Hx.out]; exact hlt)
      have Hxk := Lib.hid hxk
      clear hxk
      have hbd := hbel.drew
      have cb : S4 wr w.heap.size 0 b0 b1 b2 b3 := ⟨hat.cell 0, hat.cell 1, hat.cell 2, hat.cell 3⟩
      go_wp2
      refine wp_region_mix [(0, false), (1, false), (2, false), (3, false), (4, false), (5, false)] (fun u => S4 u g (o + k * 4) a0 a1 a2 a3 ∧ S4 u w.heap.size 0 b0 b1 b2 b3) (by kernel_rfl) (by kernel_rfl) (fun _ _ _ _ _ h => h) ⟨ca.drew, cb.drew⟩ ?_
      simp only [mixOps, List.map_cons, List.map_nil, List.getElem?_cons_succ, List.getElem?_cons_zero, Option.getD_some]
      iterate 5 (
        refine mix_pure (v := ?_) (by rfl) (fun u hu => ?_) ?_
        rotate_left
        · obtain ⟨⟨_, _, _, _⟩, _, _, _, _⟩ := hu
          go_simp
          (with_reducible rfl)
        (try simp only [Act.put, List.setIfInBounds_toArray, List.set_cons_zero, List.set_cons_succ]))
      refine mix_pure (v := .bool (decide ((a0, a1, a2, a3) = (b0, b1, b2, b3)))) (by rfl) (fun u _ => by
        go_simp
        by_cases h0 : a0 = b0 <;> by_cases h1 : a1 = b1 <;> by_cases h2 : a2 = b2 <;> by_cases h3 : a3 = b3 <;> simp [h0, h1, h2, h3]) ?_
      (try simp only [Act.put, List.setIfInBounds_toArray, List.set_cons_zero, List.set_cons_succ])
      refine mix_nil ?_
      by_cases he : (a0, a1, a2, a3) = (b0, b1, b2, b3)
      · rw [show decide ((a0, a1, a2, a3) = (b0, b1, b2, b3)) = true from decide_eq_true he]
        have hfin : decide ((b0, b1, b2, b3) ∈ xs) = true := by
          rw [decide_eq_true_eq, ← he]
          exact List.mem_of_getElem? Hxk.out
        have Hf := Lib.hid hfin
        clear he hfin
        go_wp2
        go_ret
        exact ⟨by rw [Hf.out]; rfl, hbd⟩
      · rw [show decide ((a0, a1, a2, a3) = (b0, b1, b2, b3)) = false from decide_eq_false he]
        have He := Lib.hid he
        clear he
        go_wp2
        refine ⟨⟨k + 1, by omega, by go_num, fun j x hj hx => ?_, hat.drew, hbd⟩, by simp [intOf]; omega⟩
        rcases Nat.lt_or_ge j k with h | h
        · exact Hal.out j x h hx
        · obtain rfl : j = k := by omega
          have := Hxk.out.symm.trans hx
          cases this
          exact He.out
    · have hfin : decide ((b0, b1, b2, b3) ∈ xs) = false := by
        rw [decide_eq_false_iff_not]
        intro hc
        obtain ⟨j, hj⟩ := List.mem_iff_getElem?.1 hc
        exact Hal.out j _ (by have := getElem?_some_lt hj; have := Hx.out; omega) hj rfl
      have Hf := Lib.hid hfin
      clear hfin
      go_wp2
      go_ret
      exact ⟨by rw [Hf.out]; rfl, hbel⟩
end Go.Proofs.YtkgbjlbhlhdhbaaDoor
/-
  Two lists of samples held against one another: the program's.
-/
namespace Go.Proofs.YtkgbjlbhlhdhbaaDoor
set_option maxRecDepth 20000
open Go.RowKit
set_option linter.unusedSimpArgs false

theorem sliceEqual_no (A B : Option Addr) (n m c d : Nat) (w : World) (h : n ≠ m) :
    Calls Tryd.prog 57 #[.slice A n c, .slice B m d] w fun e w' => e = .returned (.bool false) ∧ Below w.heap.size w w' := by
  have hb : ((n : Int) != (m : Int)) = true := by simp; omega
  go_enter Tryd.func57, Tryd.ntmps57
  go_wp2
  go_ret
  exact ⟨rfl, Below.refl _ _⟩

set_option maxHeartbeats 1000000 in
theorem sliceEqual_any (A B : Option Addr) (n c d : Nat) (xs ys : List Smp) (w : World) (ha : Rd eS w w.heap.size A xs) (hb : Rd eS w w.heap.size B ys) (hx : xs.length = n) (hy : ys.length = n) (hm : n ≤ maxLen) :
    Calls Tryd.prog 57 #[.slice A n c, .slice B n d] w fun e w' => e = .returned (.bool (decide (xs = ys))) ∧ Below w.heap.size w w' := by
  have h0 : ((n : Int) != (n : Int)) = false := by simp
  have Hx := Lib.hid hx
  have Hy := Lib.hid hy
  clear hx hy
  unfold maxLen at hm
  go_enter Tryd.func57, Tryd.ntmps57
  go_wp2
  go_loopw [13] (fun i wr => EqRelS xs ys w n i wr) (fun i _ => n - (intOf i).toNat)
  case atStart => exact ⟨0, Nat.zero_le _, rfl, fun _ h => absurd h (by omega), Below.refl _ _⟩
  case round =>
    obtain ⟨k, hk, rfl, hal, hbel⟩ := hrel
    have Hal := Lib.hid hal
    clear hal
    by_cases hlt : k < n
    · obtain ⟨g, o, a0, a1, a2, a3, rfl, hg, hxk, ca⟩ := (ha.below hbel (Nat.le_refl _)).smp (k := k) (by rw [Hx.out]; exact hlt)
      obtain ⟨g', o', b0, b1, b2, b3, rfl, hg', hyk, cb⟩ := (hb.below hbel (Nat.le_refl _)).smp (k := k) (by rw [Hy.out]; exact hlt)
      have Hxk := Lib.hid hxk
      have Hyk := Lib.hid hyk
      clear hxk hyk
      have hbd := hbel.drew
      go_wp2
      refine wp_region_mix [(0, false), (1, false), (2, false), (3, false), (4, false), (5, false), (6, false), (7, false), (8, false)] (fun u => S4 u g (o + k * 4) a0 a1 a2 a3 ∧ S4 u g' (o' + k * 4) b0 b1 b2 b3) (by kernel_rfl) (by kernel_rfl) (fun _ _ _ _ _ h => h) ⟨ca.drew, cb.drew⟩ ?_
      simp only [mixOps, List.map_cons, List.map_nil, List.getElem?_cons_succ, List.getElem?_cons_zero, Option.getD_some]
      iterate 8 (
        refine mix_pure (v := ?_) (by rfl) (fun u hu => ?_) ?_
        rotate_left
        · obtain ⟨⟨_, _, _, _⟩, _, _, _, _⟩ := hu
          go_simp
          (with_reducible rfl)
        (try simp only [Act.put, List.setIfInBounds_toArray, List.set_cons_zero, List.set_cons_succ]))
      refine mix_pure (v := .bool (decide (¬ (a0, a1, a2, a3) = (b0, b1, b2, b3)))) (by rfl) (fun u _ => by
        go_simp
        by_cases h0 : a0 = b0 <;> by_cases h1 : a1 = b1 <;> by_cases h2 : a2 = b2 <;> by_cases h3 : a3 = b3 <;> simp [h0, h1, h2, h3]) ?_
      (try simp only [Act.put, List.setIfInBounds_toArray, List.set_cons_zero, List.set_cons_succ])
      refine mix_nil ?_
      by_cases he : (a0, a1, a2, a3) = (b0, b1, b2, b3)
      · rw [show decide (¬ (a0, a1, a2, a3) = (b0, b1, b2, b3)) = false by simpa using he]
        have He := Lib.hid he
        clear he
        go_wp2
        refine ⟨⟨k + 1, by omega, by go_num, fun i hi => ?_, hbd⟩, by simp [intOf]; omega⟩
        rcases Nat.lt_or_ge i k with h | h
        · exact Hal.out i h
        · obtain rfl : i = k := by omega
          rw [Hxk.out, Hyk.out, He.out]
      · rw [show decide (¬ (a0, a1, a2, a3) = (b0, b1, b2, b3)) = true from decide_eq_true he]
        have hfin : decide (xs = ys) = false := by
          simp only [decide_eq_false_iff_not]
          rintro rfl
          exact he (Option.some.inj (Hxk.out.symm.trans Hyk.out))
        have Hf := Lib.hid hfin
        clear he hfin
        go_wp2
        go_ret
        exact ⟨by rw [Hf.out]; rfl, hbd⟩
    · have hfin : decide (xs = ys) = true := by
        obtain rfl : k = n := by omega
        simp only [decide_eq_true_eq]
        exact alike_all' Hx.out Hy.out Hal.out
      have Hf := Lib.hid hfin
      clear hfin
      go_wp2
      go_ret
      exact ⟨by rw [Hf.out]; rfl, hbel⟩

/-- The model's two lists of samples held against one another, whatever their lengths. -/
theorem sliceEqual (A B : Option Addr) (n m c d : Nat) (xs ys : List Smp) (w : World) (ha : Rd eS w w.heap.size A xs) (hb : Rd eS w w.heap.size B ys) (hx : xs.length = n) (hy : ys.length = m) (hm : n ≤ maxLen) :
    Calls Tryd.prog 57 #[.slice A n c, .slice B m d] w fun e w' => e = .returned (.bool (decide (xs = ys))) ∧ Below w.heap.size w w' := by
  by_cases h : n = m
  · subst h
    exact sliceEqual_any A B n c d xs ys w ha hb hx hy hm
  · have hd : decide (xs = ys) = false := by
      simp only [decide_eq_false_iff_not]
      rintro rfl
      exact h (hx.symm.trans hy)
    rw [hd]
    exact sliceEqual_no A B n m c d w h

theorem implSameSamples (A B : Option Addr) (n m c d : Nat) (xs ys : List Smp) (w : World) (ha : Rd eS w w.heap.size A xs) (hb : Rd eS w w.heap.size B ys) (hx : xs.length = n) (hy : ys.length = m) (hm : n ≤ maxLen) :
    Calls Tryd.prog 19 #[.slice A n c, .slice B m d] w fun e w' => e = .returned (.bool (decide (xs = ys))) ∧ Below w.heap.size w w' := by
  have h1 := sliceEqual A B n m c d xs ys w ha hb hx hy hm
  clear ha hb hx hy
  go_enter Tryd.func19, Tryd.ntmps19
  go_wp2_with (go_at_call 57; refine h1.mono ?_; rintro e w1 ⟨rfl, hb1⟩)
  go_ret
  exact ⟨rfl, hb1⟩
theorem hiSame : ∀ (A0 : Option Addr) (m0 e0 : Nat) (q0 : List Smp) (A1 : Option Addr) (m1 e1 : Nat) (q1 : List Smp)  (W : World), Rd eS W W.heap.size A0 q0 → q0.length = m0 → m0 ≤ 1048576 → Rd eS W W.heap.size A1 q1 → q1.length = m1 → m1 ≤ 1048576 → Calls Tryd.prog 19 #[.slice A0 m0 e0, .slice A1 m1 e1] W (fun e W' => e = .returned (.bool (decide (q0 = q1))) ∧ Below W.heap.size W W') := by
  exact fun A0 m0 e0 q0 A1 m1 e1 q1 W ha hn hm hb hn' hm' => implSameSamples A0 A1 m0 m1 e0 e1 q0 q1 W ha hb hn hn' (by unfold maxLen; omega)
end Go.Proofs.YtkgbjlbhlhdhbaaDoor
/-
  The shelf's contracts of slices.Grow and slices.SortFunc, laid at this seat, in plain words (made by the kit's own tool).
-/
namespace Go.Proofs.YtkgbjlbhlhdhbaaDoor
open Go.Shelf
def growS_ren : Go.Shelf.Ren := ⟨fun | 4 => 81 | n => n, fun | 22 => 24 | 25 => 26 | 3 => 3 | 4 => 4 | 9 => 9 | 20 => 20 | 0 => 0 | n => n, fun | n => n⟩
theorem growS : Go.Proofs.Lays8.n4 Tryd.prog growS_ren := {
  mixed := by kernel_rfl
  f4 := ⟨Tryd.f81.name, by decide, Tryd.func81.trans (congrArg some (by kernel_rfl))⟩
  t0 := Tryd.underlying0
  a0 := Tryd.isAgg0
  z0 := Tryd.sizeOf0
  v0 := Tryd.zeroValue0
  t3 := Tryd.underlying3
  a3 := Tryd.isAgg3
  z3 := Tryd.sizeOf3
  v3 := Tryd.zeroValue3
  t4 := Tryd.underlying4
  a4 := Tryd.isAgg4
  z4 := Tryd.sizeOf4
  v4 := Tryd.zeroValue4
  t9 := Tryd.underlying9
  a9 := Tryd.isAgg9
  z9 := Tryd.sizeOf9
  v9 := Tryd.zeroValue9
  t20 := Tryd.underlying20
  a20 := Tryd.isAgg20
  z20 := Tryd.sizeOf20
  v20 := Tryd.zeroValue20
  t22 := Tryd.underlying24
  a22 := Tryd.isAgg24
  z22 := Tryd.sizeOf24
  v22 := Tryd.zeroValue24 }
def sortS_ren : Go.Shelf.Ren := ⟨fun | 6 => 77 | 15 => 83 | 14 => 82 | 28 => 93 | 29 => 94 | 20 => 85 | 21 => 86 | 22 => 87 | 23 => 88 | 24 => 89 | 25 => 90 | 26 => 91 | 27 => 92 | 46 => 95 | 47 => 96 | 48 => 97 | 49 => 98 | 50 => 99 | 57 => 100 | n => n, fun | 22 => 24 | 24 => 26 | 25 => 93 | 3 => 3 | 39 => 114 | 0 => 0 | 53 => 126 | 55 => 128 | 4 => 4 | 46 => 119 | 45 => 118 | 50 => 123 | 5 => 5 | 9 => 9 | 66 => 129 | 70 => 133 | 76 => 135 | 77 => 136 | n => n, fun | n => n⟩
theorem sortS : Go.Proofs.SlLaysF0.n6 Tryd.prog sortS_ren := {
  mixed := by kernel_rfl
  f6 := ⟨Tryd.f77.name, by decide, Tryd.func77.trans (congrArg some (by kernel_rfl))⟩
  f14 := ⟨Tryd.f82.name, by decide, Tryd.func82.trans (congrArg some (by kernel_rfl))⟩
  f15 := Tryd.func83.trans (congrArg some (by kernel_rfl))
  f20 := ⟨Tryd.f85.name, by decide, Tryd.func85.trans (congrArg some (by kernel_rfl))⟩
  f21 := ⟨Tryd.f86.name, by decide, Tryd.func86.trans (congrArg some (by kernel_rfl))⟩
  f22 := ⟨Tryd.f87.name, by decide, Tryd.func87.trans (congrArg some (by kernel_rfl))⟩
  f23 := ⟨Tryd.f88.name, by decide, Tryd.func88.trans (congrArg some (by kernel_rfl))⟩
  f24 := ⟨Tryd.f89.name, by decide, Tryd.func89.trans (congrArg some (by kernel_rfl))⟩
  f25 := ⟨Tryd.f90.name, by decide, Tryd.func90.trans (congrArg some (by kernel_rfl))⟩
  f26 := ⟨Tryd.f91.name, by decide, Tryd.func91.trans (congrArg some (by kernel_rfl))⟩
  f27 := ⟨Tryd.f92.name, by decide, Tryd.func92.trans (congrArg some (by kernel_rfl))⟩
  f28 := Tryd.func93.trans (congrArg some (by kernel_rfl))
  f29 := Tryd.func94.trans (congrArg some (by kernel_rfl))
  f46 := ⟨Tryd.f95.name, by decide, Tryd.func95.trans (congrArg some (by kernel_rfl))⟩
  f47 := Tryd.func96.trans (congrArg some (by kernel_rfl))
  f48 := Tryd.func97.trans (congrArg some (by kernel_rfl))
  f49 := ⟨Tryd.f98.name, by decide, Tryd.func98.trans (congrArg some (by kernel_rfl))⟩
  f50 := ⟨Tryd.f99.name, by decide, Tryd.func99.trans (congrArg some (by kernel_rfl))⟩
  f57 := ⟨Tryd.f100.name, by decide, Tryd.func100.trans (congrArg some (by kernel_rfl))⟩
  t0 := Tryd.underlying0
  a0 := Tryd.isAgg0
  z0 := Tryd.sizeOf0
  v0 := Tryd.zeroValue0
  t3 := Tryd.underlying3
  a3 := Tryd.isAgg3
  z3 := Tryd.sizeOf3
  v3 := Tryd.zeroValue3
  t4 := Tryd.underlying4
  a4 := Tryd.isAgg4
  z4 := Tryd.sizeOf4
  v4 := Tryd.zeroValue4
  t5 := Tryd.underlying5
  a5 := Tryd.isAgg5
  z5 := Tryd.sizeOf5
  v5 := Tryd.zeroValue5
  t9 := Tryd.underlying9
  a9 := Tryd.isAgg9
  z9 := Tryd.sizeOf9
  v9 := Tryd.zeroValue9
  t22 := Tryd.underlying24
  a22 := Tryd.isAgg24
  z22 := Tryd.sizeOf24
  v22 := Tryd.zeroValue24
  t25 := Tryd.underlying93
  a25 := Tryd.isAgg93
  z25 := Tryd.sizeOf93
  v25 := Tryd.zeroValue93
  t39 := Tryd.underlying114
  a39 := Tryd.isAgg114
  z39 := Tryd.sizeOf114
  v39 := Tryd.zeroValue114
  t45 := Tryd.underlying118
  a45 := Tryd.isAgg118
  z45 := Tryd.sizeOf118
  v45 := Tryd.zeroValue118
  t46 := Tryd.underlying119
  a46 := Tryd.isAgg119
  z46 := Tryd.sizeOf119
  v46 := Tryd.zeroValue119
  t50 := Tryd.underlying123
  a50 := Tryd.isAgg123
  z50 := Tryd.sizeOf123
  v50 := Tryd.zeroValue123
  t53 := Tryd.underlying126
  a53 := Tryd.isAgg126
  z53 := Tryd.sizeOf126
  v53 := Tryd.zeroValue126
  t55 := Tryd.underlying128
  a55 := Tryd.isAgg128
  z55 := Tryd.sizeOf128
  v55 := Tryd.zeroValue128
  t66 := Tryd.underlying129
  a66 := Tryd.isAgg129
  z66 := Tryd.sizeOf129
  v66 := Tryd.zeroValue129
  t70 := Tryd.underlying133
  a70 := Tryd.isAgg133
  z70 := Tryd.sizeOf133
  v70 := Tryd.zeroValue133
  t76 := Tryd.underlying135
  a76 := Tryd.isAgg135
  z76 := Tryd.sizeOf135
  v76 := Tryd.zeroValue135
  t77 := Tryd.underlying136
  a77 := Tryd.isAgg136
  z77 := Tryd.sizeOf136
  v77 := Tryd.zeroValue136 }
end Go.Proofs.YtkgbjlbhlhdhbaaDoor
/-
  slices.Grow of nothing, and slices.Concat of rows of samples.
-/
namespace Go.Proofs.YtkgbjlbhlhdhbaaDoor
set_option maxRecDepth 20000
open Go.RowKit Go.Shelf
set_option linter.unusedSimpArgs false
set_option linter.unusedVariables false

theorem growNone (n : Nat) (hn : n ≤ 100000) (w : World) :
    Calls Tryd.prog 81 #[.slice none 0 0, .int .i64 (n : Int)] w fun e w' => ∃ A c, e = .returned (.slice A 0 c) ∧ Ow eS w' w.heap.size A 0 c [] ∧ Below w.heap.size w w' := by
  rcases Nat.eq_zero_or_pos n with h0 | h0
  · subst h0
    have h : Calls Tryd.prog 81 #[.slice none 0 0, .int .i64 ((0 : Nat) : Int)] w fun e w' => e = .returned (.slice none 0 0) ∧ w' = w :=
      Any8.slices_Grow_room growS none 0 0 0 w (by omega) (by omega) (by omega) (by omega)
    refine h.mono ?_
    rintro e w' ⟨rfl, rfl⟩
    exact ⟨none, 0, rfl, Ow.nil, Below.refl _ _⟩
  · obtain ⟨i, hi, hz, hsz, hby⟩ := info_parts info_smp
    have h : Calls Tryd.prog 81 #[.slice none 0 0, .int .i64 (n : Int)] w fun e w' => e = .returned (.slice (some ⟨w.heap.size, 0, none⟩) 0 (grownCap w (0 + n) 0 26)) ∧
        w' = w.drew.alloc (.cells (([] : List Value).toArray ++ Builtin.zeroCells (Value.agg #[.int .i64 0, .int .i64 0, .int .i64 0, .int .i64 0]).cells (0 + n - 0) ++ Builtin.zeroCells (Value.agg #[.int .i64 0, .int .i64 0, .int .i64 0, .int .i64 0]).cells (grownCap w (0 + n) 0 26 - (0 + n))) 26) :=
      Any8.slices_Grow_grow growS i _ hi hz (by omega) none 0 0 n [] w (by omega) (by omega) (by rw [hby]; omega) (by omega) (by simp) (fun _ => rfl) (fun a ha => by cases ha)
    refine h.mono ?_
    rintro e w' ⟨rfl, rfl⟩
    have hge := grownCap_ge w (0 + n) 0 26
    have hle := grownCap_le_maxLen w (0 + n) 0 26 (by unfold maxLen; omega)
    generalize grownCap w (0 + n) 0 26 = G at hge hle ⊢
    refine ⟨_, G, rfl, ?_, (Below.refl w.heap.size w).drew.alloc (Nat.le_refl _) _⟩
    have hm := World.ownsRow_made (base := w.heap.size) (e := 26) (size := 4) w.drew (([] : List Value).toArray ++ Builtin.zeroCells (Value.agg #[.int .i64 0, .int .i64 0, .int .i64 0, .int .i64 0]).cells (0 + n - 0) ++ Builtin.zeroCells (Value.agg #[.int .i64 0, .int .i64 0, .int .i64 0, .int .i64 0]).cells (G - (0 + n))) G (Nat.le_refl _) hle (by
      rw [Array.size_append, Array.size_append, size_zeroCells, size_zeroCells]
      simp [Value.cells]
      omega)
    exact hm

abbrev Row4 := Option Addr × Nat × Nat × List Smp
def flat (rows : List Row4) : List Smp := rows.flatMap (·.2.2.2)
theorem flat_next {rows : List Row4} {j : Nat} {r : Row4} (h : rows[j]? = some r) : flat (rows.take (j + 1)) = flat (rows.take j) ++ r.2.2.2 := by
  unfold flat
  rw [List.take_add_one, h, List.flatMap_append]
  simp
theorem flat_len : ∀ {rows : List Row4}, (∀ r, r ∈ rows → r.2.2.2.length ≤ 1000) → (flat rows).length ≤ rows.length * 1000
  | [], _ => by simp [flat]
  | r :: rows, h => by
    have h1 := flat_len (rows := rows) (fun x hx => h x (by simp [hx]))
    have h2 := h r (by simp)
    unfold flat at h1 ⊢
    rw [List.flatMap_cons, List.length_append, List.length_cons]
    omega

/-- Block G holds these slices, each of which reads its list. -/
def Rows4 (w : World) (G : Nat) (rows : List Row4) : Prop :=
  ∀ (i : Nat) (r : Row4), rows[i]? = some r → w.cell? ⟨G, i, none⟩ = some (.slice r.1 r.2.1 r.2.2.1) ∧ Rd eS w w.heap.size r.1 r.2.2.2 ∧ r.2.2.2.length = r.2.1 ∧ r.2.1 ≤ 1000
theorem Rows4.below {w w' : World} {G : Nat} {rows : List Row4} (h : Rows4 w G rows) (hb : Below w.heap.size w w') (hG : G < w.heap.size) : Rows4 w' G rows := fun i r hr => by
  obtain ⟨h1, h2, h3, h4⟩ := h i r hr
  exact ⟨(hb.cell (p := ⟨G, i, none⟩) hG).trans h1, h2.lift hb, h3, h4⟩

set_option maxHeartbeats 2000000 in
theorem concatS (G k c : Nat) (rows : List Row4) (w : World) (hR : Rows4 w G rows) (hG : G < w.heap.size) (hk : rows.length = k) (hk4 : k ≤ 4) :
    Calls Tryd.prog 73 #[.slice (some ⟨G, 0, none⟩) k c] w fun e w' => ∃ A n c', e = .returned (.slice A n c') ∧ Ow eS w' w.heap.size A n c' (flat rows) ∧ Below w.heap.size w w' := by
  have hlen : ∀ j, j ≤ k → (flat (rows.take j)).length ≤ 4000 := fun j hj => by
    have h1 := flat_len (rows := rows.take j) (fun r hr => by
      obtain ⟨i, hi⟩ := List.mem_iff_getElem?.1 (List.mem_of_mem_take hr)
      obtain ⟨_, _, h3, h4⟩ := hR i r hi
      omega)
    rw [List.length_take] at h1
    have : min j rows.length * 1000 ≤ 4000 := by
      have : min j rows.length ≤ 4 := by omega
      omega
    omega
  have Hlen := Lib.hid hlen
  have Hk := Lib.hid hk
  clear hk hlen
  go_enter Tryd.func73, Tryd.ntmps73
  go_wp2
  go_loopw [3, 11] (fun sz i wr => ∃ j : Nat, j ≤ k ∧ i = .int .i64 j ∧ sz = .int .i64 ((flat (rows.take j)).length : Int) ∧ w = wr) (fun _ i _ => k - (intOf i).toNat)
  case atStart => exact ⟨0, Nat.zero_le _, rfl, rfl, rfl⟩
  case round =>
    obtain ⟨j, hj, rfl, rfl, rfl⟩ := hrel
    by_cases hlt : j < k
    · obtain ⟨r, hr⟩ : ∃ r, rows[j]? = some r := ⟨rows[j]'(by rw [Hk.out]; exact hlt), List.getElem?_eq_getElem _⟩
      obtain ⟨hc, -, h3, -⟩ := hR j r hr
      have h5 := Hlen.out (j + 1) hlt
      have h6 : (flat (rows.take (j + 1))).length = (flat (rows.take j)).length + r.2.1 := by rw [flat_next hr, List.length_append, h3]
      have H6 := Lib.hid h6
      have hw : wrap64 (((flat (rows.take j)).length : Int) + (r.2.1 : Int)) = ((flat (rows.take j)).length : Int) + (r.2.1 : Int) := by unfold wrap64; omega
      have hneg : ¬ ((flat (rows.take j)).length : Int) + (r.2.1 : Int) < 0 := by omega
      clear h3 hr h6
      have Hw := Lib.hid hw
      go_wp2
      exact ⟨⟨j + 1, by omega, by go_num, by rw [Hw.out, H6.out]; simp, trivial⟩, by simp [intOf]; omega⟩
    · obtain rfl : j = k := by omega
      have hz := Hlen.out j (Nat.le_refl _)
      have hq := growNone (flat (rows.take j)).length (by omega) w
      go_wp2_with fail
      refine hq.mono ?_
      rintro e w1 ⟨A0, c0, rfl, ow0, hb0⟩
      go_wp2
      go_loopw [6, 27] (fun o i wr => ∃ (t : Nat) (A : Option Addr) (n c' : Nat), t ≤ j ∧ i = .int .i64 t ∧ o = .slice A n c' ∧ Ow eS wr w.heap.size A n c' (flat (rows.take t)) ∧ Below w.heap.size w wr) (fun _ i _ => j - (intOf i).toNat)
      case atStart => exact ⟨0, A0, 0, c0, Nat.zero_le _, rfl, rfl, ow0, hb0⟩
      case round =>
        obtain ⟨t, A, n, c', ht, rfl, rfl, how, hbel⟩ := hrel
        by_cases hlt : t < j
        · obtain ⟨r, hr⟩ : ∃ r, rows[t]? = some r := ⟨rows[t]'(by rw [Hk.out]; exact hlt), List.getElem?_eq_getElem _⟩
          obtain ⟨hc, hX, h3, h4⟩ := (hR.below hbel hG) t r hr
          have hn := Hlen.out t (by omega)
          have hnl := Ow.len okS how
          have Hf := Lib.hid (flat_next hr)
          have H3 := Lib.hid h3
          have hn4 : n ≤ 4000 := by omega
          clear hr h3 hn hnl
          go_wp2_with (at_builtin; refine wpList_append_ow okS _ rfl _ _ 24 rfl w.heap.size info_smp Tryd.underlying24 rfl A n c' (flat (rows.take t)) rfl how r.1 r.2.1 r.2.2.1 wr.heap.size r.2.2.2 rfl hX H3.out (by unfold maxLen; omega) (by omega) hbel.size ?_; intro A1 c1 w2 ow2 hg2 hA2)
          refine ⟨⟨t + 1, A1, n + r.2.1, c1, by omega, by go_num, rfl, by rw [Hf.out]; exact ow2, hbel.grown hg2 hbel.size (fun k e => (how.lt k e).1)⟩, by simp [intOf]; omega⟩
        · obtain rfl : t = j := by omega
          have Hq := Lib.hid (show flat (rows.take t) = flat rows by rw [List.take_of_length_le (by rw [Hk.out]; exact Nat.le_refl _)])
          go_wp2
          go_ret
          exact ⟨A, n, c', rfl, by rw [← Hq.out]; exact how, hbel⟩
end Go.Proofs.YtkgbjlbhlhdhbaaDoor
/-
  A map of samples by their keys, as it lies in memory: asked, filled, counted.
-/
namespace Go.Proofs.YtkgbjlbhlhdhbaaDoor
set_option maxRecDepth 20000
open Go.RowKit
open Go.ChangeMaps (setBlock heap_setBlock_same heap_setBlock_other)
set_option linter.unusedSimpArgs false
set_option linter.unusedVariables false

abbrev keyV (x : Smp) : Value := .agg #[.int .i64 x.1, .int .i64 x.2.1, .int .i64 x.2.2.1]
abbrev smpV (x : Smp) : Value := .agg #[.int .i64 x.1, .int .i64 x.2.1, .int .i64 x.2.2.1, .int .i64 x.2.2.2]
def firstM (L : List Smp) (y : Smp) : Option Smp := L.find? (fun x => sameKeyM y x)

theorem keyEqual (x y : Smp) (w : World) : (Op.equal 79 (keyV x) (keyV y)).run Tryd.prog w = .ok (sameKeyM x y) w := by
  show (Op.equalIn 10000 79 (keyV x) (keyV y)).run Tryd.prog w = _
  unfold sameKeyM
  go_simp
  by_cases h0 : x.1 = y.1 <;> by_cases h1 : x.2.1 = y.2.1 <;> by_cases h2 : x.2.2.1 = y.2.2.1 <;> simp [h0, h1, h2]
theorem keyChecks (e : Bool) (x : Smp) (w : World) : (Instr.checkKey e 10000 79 (keyV x)).run Tryd.prog w = .ok () w := by kernel_rfl
theorem zeroS (w : World) : (zeroValue 26).run Tryd.prog w = .ok (smpV (0, 0, 0, 0)) w := by kernel_rfl

theorem findAsk (y : Smp) (w : World) : ∀ (L : List Smp) (es : List MapEntry) (i : Nat), es.map (fun e => (e.key, e.val)) = L.map (fun x => (keyV x, smpV x)) →
    ∃ r, (Instr.findAsking 79 (keyV y) es i).run Tryd.prog w = .ok r w ∧ r.map (·.2) = (firstM L y).map smpV
  | [], es, i, h => by
    obtain rfl : es = [] := by simpa using h
    exact ⟨none, by simp [Instr.findAsking], rfl⟩
  | x :: L, es, i, h => by
    match es, h with
    | e :: es, h =>
      simp only [List.map_cons, List.cons.injEq, Prod.mk.injEq] at h
      obtain ⟨⟨hk, hv⟩, h⟩ := h
      have he : (Op.equal 79 (keyV y) e.key).run Tryd.prog w = .ok (sameKeyM y x) w := by rw [hk]; exact keyEqual y x w
      rcases hs : sameKeyM y x
      · obtain ⟨r, h1, h2⟩ := findAsk y w L es (i + 1) h
        refine ⟨r, by simp [Instr.findAsking, he, hs, h1, Result.andThen], ?_⟩
        rw [h2]
        simp [firstM, List.find?_cons, hs]
      · refine ⟨some (i, e.val), by simp [Instr.findAsking, he, hs, Result.andThen], ?_⟩
        simp [firstM, List.find?_cons, hs, hv]

theorem findKeyS (y : Smp) (w : World) (L : List Smp) (es : List MapEntry) (h : es.map (fun e => (e.key, e.val)) = L.map (fun x => (keyV x, smpV x))) :
    ∃ r, (Instr.findKey 79 (keyV y) es).run Tryd.prog w = .ok r w ∧ r.map (·.2) = (firstM L y).map smpV := by
  obtain ⟨r, h1, h2⟩ := findAsk y w L es 0 h
  match es, h with
  | [], h =>
    obtain rfl : L = [] := by simpa using h
    exact ⟨none, by simp [Instr.findKey, run_underlying Tryd.underlying79, Instr.findNow, Result.andThen], rfl⟩
  | e :: es, h =>
    refine ⟨r, ?_, h2⟩
    simp only [Instr.findKey, Sem.run_bind, run_underlying Tryd.underlying79, Result.andThen]
    exact h1

/-- Block b is a map that holds these samples by their keys, the eldest first. -/
def SMap (w : World) (b : Nat) (L : List Smp) : Prop :=
  ∃ es clock, w.heap[b]? = some (.map es clock) ∧ es.toList.map (fun e => (e.key, e.val)) = L.map (fun x => (keyV x, smpV x)) ∧ (∀ e ∈ es.toList, e.born < clock) ∧ (es.toList.map (·.born)).Nodup

section
variable {w w' : World} {b : Nat} {L : List Smp}
theorem SMap.lt (h : SMap w b L) : b < w.heap.size := by
  obtain ⟨es, clock, hb, _⟩ := h
  exact (Array.getElem?_eq_some_iff.1 hb).1
theorem SMap.kept {row : Option Nat} (h : SMap w b L) (hg : w.grownBy w' row) (hne : some b ≠ row) : SMap w' b L := by
  have hlt := h.lt
  obtain ⟨es, clock, hb, r⟩ := h
  exact ⟨es, clock, (hg.block b hlt hne).trans hb, r⟩
theorem SMap.below {B : Nat} (h : SMap w b L) (hb : Below B w w') (hB : b < B) : SMap w' b L := by
  obtain ⟨es, clock, h1, r⟩ := h
  exact ⟨es, clock, (hb.block b hB).trans h1, r⟩
theorem SMap.alloc (h : SMap w b L) (o : Obj) : SMap (w.alloc o) b L := h.kept (World.grownBy_alloc w o none) (by simp)
theorem SMap.drew (h : SMap w b L) : SMap w.drew b L := h
theorem SMap.made (w : World) : SMap (w.alloc (.map #[] 0)) w.heap.size [] := ⟨#[], 0, heap_alloc_new w _, rfl, by simp, by simp⟩
theorem SMap.size (h : SMap w b L) : ∃ es clock, w.heap[b]? = some (.map es clock) ∧ es.size = L.length := by
  obtain ⟨es, clock, hb, hm, _⟩ := h
  refine ⟨es, clock, hb, ?_⟩
  have := congrArg List.length hm
  simpa using this
theorem SMap.len (h : SMap w b L) (ty : TypeId) : (Builtin.len_ #[76] ty #[.map (some b)]).run Tryd.prog w = .ok (.int .i64 (L.length : Int)) w := by
  obtain ⟨es, clock, hb, hs⟩ := h.size
  rw [← hs]
  simp [Builtin.len_, run_underlying Tryd.underlying76, MapKept.run_getObj_map hb, Result.andThen]
  try rfl
theorem SMap.look (h : SMap w b L) (y : Smp) : (Instr.lookup 76 (.map (some b)) (keyV y) true).run Tryd.prog w = .ok (.tuple #[smpV ((firstM L y).getD (0, 0, 0, 0)), .bool (firstM L y).isSome]) w := by
  obtain ⟨es, clock, hb, hm, _⟩ := h
  obtain ⟨r, h1, h2⟩ := findKeyS y w L es.toList hm
  rcases hf : firstM L y with _ | x
  · rw [hf] at h2
    obtain rfl : r = none := by simpa using h2
    simp [Instr.lookup, run_underlying Tryd.underlying76, MapKept.run_getObj_map hb, keyChecks, h1, zeroS, Result.andThen]
  · rw [hf] at h2
    obtain ⟨⟨i, v⟩, rfl, hv⟩ := Option.map_eq_some_iff.1 h2
    simp only at hv
    subst hv
    simp [Instr.lookup, run_underlying Tryd.underlying76, MapKept.run_getObj_map hb, keyChecks, h1, Result.andThen]
theorem SMap.put (h : SMap w b L) (y : Smp) (hn : firstM L y = none) : ∃ w', (Instr.mapUpdate 76 (.map (some b)) (keyV y) (smpV y)).run Tryd.prog w = .ok () w' ∧ SMap w' b (L ++ [y]) ∧ w.grownBy w' (some b) := by
  obtain ⟨es, clock, hb, hm, hc, hd⟩ := h
  obtain ⟨r, h1, h2⟩ := findKeyS y w L es.toList hm
  rw [hn] at h2
  obtain rfl : r = none := by simpa using h2
  refine ⟨setBlock w b (.map (es.push ⟨keyV y, smpV y, clock⟩) (clock + 1)), ?_, ⟨_, _, heap_setBlock_same hb _, ?_, ?_, ?_⟩, ⟨rfl, rfl, rfl, by simp [setBlock], fun i _ hi => heap_setBlock_other hb _ (fun e => hi (by rw [e]))⟩⟩
  · simp [Instr.mapUpdate, run_underlying Tryd.underlying76, MapKept.run_getObj_map hb, keyChecks, h1, MapKept.run_setObj_map _ hb, Result.andThen, setBlock]
  · simp [hm]
  · intro e he
    simp only [Array.toList_push, List.mem_append, List.mem_singleton] at he
    rcases he with he | rfl
    · have := hc e he
      omega
    · simp
  · rw [Array.toList_push, List.map_append, List.nodup_append]
    refine ⟨hd, by simp, fun a ha c hc' => ?_⟩
    obtain ⟨e, he, rfl⟩ := List.mem_map.1 ha
    obtain rfl : c = clock := by simpa using hc'
    have := hc e he
    omega
end
end Go.Proofs.YtkgbjlbhlhdhbaaDoor
