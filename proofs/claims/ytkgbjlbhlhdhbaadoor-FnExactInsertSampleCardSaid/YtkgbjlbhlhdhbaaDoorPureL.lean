/-
  What stores are, of the pure answers: in order, right, each key once; what is put in and merged.
-/
import Derived.Test.YtkgbjlbhlhdhbaaDoorQuery
import Derived.Test.YtkgbjlbhlhdhbaaDoorStoreI
namespace Go.Proofs.YtkgbjlbhlhdhbaaDoor
set_option maxRecDepth 20000

theorem keyOrd (a b : Smp) : (aheadM a b = true ∧ aheadM b a = false ∧ sameKeyM a b = false) ∨ (aheadM a b = false ∧ aheadM b a = true ∧ sameKeyM a b = false) ∨ (aheadM a b = false ∧ aheadM b a = false ∧ sameKeyM a b = true) := by
  obtain ⟨a0, a1, a2, a3⟩ := a
  obtain ⟨b0, b1, b2, b3⟩ := b
  unfold aheadM sameKeyM
  simp only
  rcases Int.lt_trichotomy a0 b0 with h | h | h
  · have h1 : ¬ a0 = b0 := by omega
    have h2 : ¬ b0 = a0 := by omega
    have h3 : ¬ b0 < a0 := by omega
    exact .inl ⟨by simp [h1, h], by simp [h2, h3], by simp [h1]⟩
  · subst h
    rcases Int.lt_trichotomy a1 b1 with h | h | h
    · have h1 : ¬ a1 = b1 := by omega
      have h2 : ¬ b1 = a1 := by omega
      exact .inl ⟨by simp [h], by simp [h2]; omega, by simp [h1]⟩
    · subst h
      rcases Int.lt_trichotomy a2 b2 with h | h | h
      · exact .inl ⟨by simp [h], by simp; omega, by simp; omega⟩
      · subst h
        exact .inr (.inr ⟨by simp, by simp, by simp⟩)
      · exact .inr (.inl ⟨by simp; omega, by simp [h], by simp; omega⟩)
    · have h1 : ¬ a1 = b1 := by omega
      exact .inr (.inl ⟨by simp [h1]; omega, by simp [h], by simp [h1]⟩)
  · have h1 : ¬ a0 = b0 := by omega
    have h2 : ¬ b0 = a0 := by omega
    exact .inr (.inl ⟨by simp [h1]; omega, by simp [h2, h], by simp [h1]⟩)

theorem ahead_iff (a b : Smp) : aheadM a b = true ↔ a.1 < b.1 ∨ (a.1 = b.1 ∧ (a.2.1 < b.2.1 ∨ (a.2.1 = b.2.1 ∧ a.2.2.1 < b.2.2.1))) := by
  unfold aheadM
  by_cases h : a.1 = b.1
  · simp [h]
  · simp [h]

theorem same_iff (a b : Smp) : sameKeyM a b = true ↔ a.1 = b.1 ∧ a.2.1 = b.2.1 ∧ a.2.2.1 = b.2.2.1 := by
  unfold sameKeyM
  simp

theorem ahead_trans {a b c : Smp} (h : aheadM a b = true) (k : aheadM b c = true) : aheadM a c = true := by
  rw [ahead_iff] at *
  omega

theorem ahead_keys {a b c : Smp} (h : sameKeyM a b = true) : aheadM a c = aheadM b c := by
  rw [Bool.eq_iff_iff, ahead_iff, ahead_iff]
  rw [same_iff] at h
  omega

theorem same_symm (a b : Smp) : sameKeyM a b = sameKeyM b a := by
  rw [Bool.eq_iff_iff, same_iff, same_iff]
  omega

theorem ahead_not_same {a b : Smp} (h : aheadM a b = true) : sameKeyM a b = false := by
  rcases keyOrd a b with ⟨_, _, k⟩ | ⟨k, _⟩ | ⟨k, _⟩
  · exact k
  · rw [h] at k; cases k
  · rw [h] at k; cases k

/-- A row in order: each ahead of each behind it. -/
def Asc (l : List Smp) : Prop := l.Pairwise fun a b => aheadM a b = true

theorem asc_of_steps : ∀ {l : List Smp}, (∀ j, j + 1 < l.length → stepM l j = true) → Asc l
  | [], _ => List.Pairwise.nil
  | a :: l, h => by
    have hl : Asc l := asc_of_steps fun j hj => by
      have := h (j + 1) (by simpa using hj)
      simpa [stepM] using this
    refine List.pairwise_cons.2 ⟨?_, hl⟩
    match l, h, hl with
    | [], _, _ => simp
    | b :: l, h, hl =>
      have h0 : aheadM a b = true := by simpa [stepM] using h 0 (by simp)
      intro y hy
      rcases List.mem_cons.1 hy with rfl | hy
      · exact h0
      · exact ahead_trans h0 ((List.pairwise_cons.1 hl).1 y hy)

theorem steps_of_asc {l : List Smp} (h : Asc l) (j : Nat) : stepM l j = true := by
  unfold stepM
  rcases ha : l[j]? with _ | a
  · simp
  rcases hb : l[j + 1]? with _ | b
  · simp
  simp only
  have h1 := getElem?_some_lt hb
  rw [List.getElem?_eq_getElem (by omega)] at ha hb
  cases ha
  cases hb
  exact List.pairwise_iff_getElem.1 h j (j + 1) (by omega) h1 (by omega)

def Right (l : List Smp) : Prop := ∀ x ∈ l, faultM x = 0

theorem storeFault_iff (l : List Smp) : storeFaultM l = 0 ↔ l.length ≤ 160 ∧ Right l ∧ Asc l := by
  unfold storeFaultM
  constructor
  · intro h
    split at h
    · cases h
    split at h
    · cases h
    split at h
    · cases h
    · rename_i h1 h2 h3
      refine ⟨by omega, fun x hx => ?_, asc_of_steps fun j hj => ?_⟩
      · have : rightM l = true := by simpa using h2
        unfold rightM at this
        rw [List.all_eq_true] at this
        simpa using this x hx
      · have : risesM l = true := by simpa using h3
        unfold risesM at this
        rw [List.all_eq_true] at this
        exact this j (by simp; omega)
  · rintro ⟨h1, h2, h3⟩
    have k2 : rightM l = true := by
      unfold rightM
      rw [List.all_eq_true]
      exact fun x hx => decide_eq_true (h2 x hx)
    have k3 : risesM l = true := by
      unfold risesM
      rw [List.all_eq_true]
      exact fun j _ => steps_of_asc h3 j
    rw [if_neg (by omega), k2, k3]
    simp

theorem findI_neg (l : List Smp) (x : Smp) : findI l x < 0 ↔ ∀ a ∈ l, sameKeyM a x = false := by
  unfold findI
  constructor
  · intro h a ha
    rcases hf : findM l x with _ | i
    · unfold findM at hf
      rw [List.find?_range_eq_none] at hf
      obtain ⟨k, hk⟩ := List.mem_iff_getElem?.1 ha
      have := hf k (getElem?_some_lt hk)
      rw [hitM_at hk] at this
      simpa using this
    · rw [hf] at h
      simp only at h
      omega
  · intro h
    have : findM l x = none := by
      unfold findM
      rw [List.find?_range_eq_none]
      intro j hj
      rw [hitM_at (List.getElem?_eq_getElem hj)]
      simp [h _ (List.getElem_mem hj)]
    rw [this]
    simp

theorem mem_insM (l : List Smp) (x y : Smp) : y ∈ insM l x ↔ y = x ∨ y ∈ l := by
  unfold insM
  split
  · rename_i p _
    rw [List.mem_append, List.mem_cons]
    constructor
    · rintro (h | h | h)
      · exact .inr (List.mem_of_mem_take h)
      · exact .inl h
      · exact .inr (List.mem_of_mem_drop h)
    · rintro (h | h)
      · exact .inr (.inl h)
      · rw [← List.take_append_drop p l, List.mem_append] at h
        rcases h with h | h
        · exact .inl h
        · exact .inr (.inr h)
  · simp [or_comm]

theorem asc_insM {l : List Smp} {x : Smp} (h : Asc l) (hx : ∀ a ∈ l, sameKeyM a x = false) : Asc (insM l x) := by
  have low : ∀ a ∈ l, aheadM x a = false → aheadM a x = true := fun a ha k => by
    rcases keyOrd x a with ⟨k1, _⟩ | ⟨_, k1, _⟩ | ⟨_, _, k1⟩
    · rw [k] at k1; cases k1
    · exact k1
    · rw [same_symm, hx a ha] at k1; cases k1
  unfold insM
  split
  · rename_i p hp
    unfold spotM at hp
    rw [List.find?_range_eq_some] at hp
    obtain ⟨hf, hlt, hal⟩ := hp
    have hlt : p < l.length := by simpa using hlt
    have hat : ∀ (j : Nat) (hj : j < l.length), frontOf l x j = aheadM x l[j] := fun j hj => frontOf_at (List.getElem?_eq_getElem hj)
    have hd : Asc (l.drop p) := List.Pairwise.sublist (List.drop_sublist p l) h
    have ht : Asc (l.take p) := List.Pairwise.sublist (List.take_sublist p l) h
    have hxp : aheadM x l[p] = true := by rw [← hat p hlt]; exact hf
    have hdc : l.drop p = l[p] :: l.drop (p + 1) := List.drop_eq_getElem_cons hlt
    have hxd : ∀ b ∈ l.drop p, aheadM x b = true := fun b hb => by
      rw [hdc] at hb hd
      rcases List.mem_cons.1 hb with rfl | hb
      · exact hxp
      · exact ahead_trans hxp ((List.pairwise_cons.1 hd).1 b hb)
    have htx : ∀ a ∈ l.take p, aheadM a x = true := fun a ha => by
      obtain ⟨j, hj, rfl⟩ := List.mem_take_iff_getElem.1 ha
      refine low _ (List.getElem_mem _) ?_
      have := hal j (by omega)
      rw [hat j (by omega)] at this
      simpa using this
    refine List.pairwise_append.2 ⟨ht, List.pairwise_cons.2 ⟨hxd, hd⟩, fun a ha b hb => ?_⟩
    rcases List.mem_cons.1 hb with rfl | hb
    · exact htx a ha
    · exact ahead_trans (htx a ha) (hxd b hb)
  · rename_i hp
    unfold spotM at hp
    rw [List.find?_range_eq_none] at hp
    refine List.pairwise_append.2 ⟨h, List.pairwise_singleton _ _, fun a ha b hb => ?_⟩
    rw [List.mem_singleton] at hb
    subst hb
    obtain ⟨j, hj, rfl⟩ := List.mem_iff_getElem.1 ha
    refine low _ ha ?_
    have := hp j hj
    rw [frontOf_at (List.getElem?_eq_getElem hj)] at this
    simpa using this

/-- What is merged: the first row, and what the second has besides, in order. -/
theorem merge_facts (a : List Smp) (ha : Asc a) (hr : Right a) : ∀ (b : List Smp), Asc b → Right b → ∀ out : List Smp, Asc out → Right out → (∀ y ∈ a, y ∈ out) → (∀ y ∈ out, (∃ z ∈ a, z = y) ∨ ∀ x ∈ b, aheadM y x = true) →
    Asc (b.foldl (mergeStep a) out) ∧ Right (b.foldl (mergeStep a) out) ∧ (∀ y ∈ out, y ∈ b.foldl (mergeStep a) out) ∧ (∀ x ∈ b, ∃ y ∈ b.foldl (mergeStep a) out, sameKeyM y x = true)
  | [], _, _, out, h1, h2, _, _ => ⟨h1, h2, fun _ h => h, fun _ h => by simp at h⟩
  | x :: b, hb, hbr, out, h1, h2, h3, h4 => by
    obtain ⟨hx, hb'⟩ := List.pairwise_cons.1 hb
    have hbr' : Right b := fun y hy => hbr y (List.mem_cons_of_mem _ hy)
    rw [List.foldl_cons]
    by_cases hf : findI a x < 0
    · have hs : mergeStep a out x = insM out x := if_pos hf
      rw [hs]
      have hno : ∀ y ∈ out, sameKeyM y x = false := fun y hy => by
        rcases h4 y hy with ⟨z, hz, rfl⟩ | h
        · exact (findI_neg a x).1 hf z hz
        · exact ahead_not_same (h x List.mem_cons_self)
      obtain ⟨k1, k2, k3, k4⟩ := merge_facts a ha hr b hb' hbr' (insM out x) (asc_insM h1 hno)
        (fun y hy => by
          rcases (mem_insM out x y).1 hy with rfl | hy
          · exact hbr y List.mem_cons_self
          · exact h2 y hy)
        (fun y hy => (mem_insM out x y).2 (.inr (h3 y hy)))
        (fun y hy => by
          rcases (mem_insM out x y).1 hy with rfl | hy
          · exact .inr hx
          · rcases h4 y hy with h | h
            · exact .inl h
            · exact .inr fun z hz => h z (List.mem_cons_of_mem _ hz))
      refine ⟨k1, k2, fun y hy => k3 y ((mem_insM out x y).2 (.inr hy)), fun z hz => ?_⟩
      rcases List.mem_cons.1 hz with rfl | hz
      · exact ⟨z, k3 z ((mem_insM out z z).2 (.inl rfl)), (same_iff z z).2 ⟨rfl, rfl, rfl⟩⟩
      · exact k4 z hz
    · have hs : mergeStep a out x = out := if_neg hf
      rw [hs]
      obtain ⟨k1, k2, k3, k4⟩ := merge_facts a ha hr b hb' hbr' out h1 h2 h3 (fun y hy => by
        rcases h4 y hy with h | h
        · exact .inl h
        · exact .inr fun z hz => h z (List.mem_cons_of_mem _ hz))
      refine ⟨k1, k2, k3, fun z hz => ?_⟩
      rcases List.mem_cons.1 hz with rfl | hz
      · obtain ⟨y, hy, he⟩ : ∃ y ∈ a, sameKeyM y z = true := by
          refine Classical.byContradiction fun hc => hf ((findI_neg a z).2 fun y hy => ?_)
          rcases he : sameKeyM y z with _ | _
          · rfl
          · exact absurd ⟨y, hy, he⟩ hc
        exact ⟨y, k3 y (h3 y hy), he⟩
      · exact k4 z hz

/-- A row that has every key already: nothing comes in. -/
theorem merge_none (a : List Smp) : ∀ (b : List Smp) (out : List Smp), (∀ x ∈ b, ∃ y ∈ a, sameKeyM y x = true) → b.foldl (mergeStep a) out = out
  | [], _, _ => rfl
  | x :: b, out, h => by
    rw [List.foldl_cons]
    have hf : ¬ findI a x < 0 := fun hc => by
      obtain ⟨y, hy, he⟩ := h x List.mem_cons_self
      rw [(findI_neg a x).1 hc y hy] at he
      cases he
    rw [show mergeStep a out x = out from if_neg hf]
    exact merge_none a b out fun z hz => h z (List.mem_cons_of_mem _ hz)

/-- What MergeLists answers with no fault: all of both, a right store, and merged again it stays. -/
theorem merge_said {a b m : List Smp} (h : mergeListsM a b = (0, m)) :
    storeFaultM m = 0 ∧ (∀ x ∈ a, x ∈ m) ∧ (∀ x ∈ b, ¬ findI m x < 0) ∧ mergeListsM m b = (0, m) ∧ mergeListsM m a = (0, m) := by
  unfold mergeListsM at h
  by_cases fa : storeFaultM a = 0
  · rw [if_neg (by simpa using fa)] at h
    by_cases fb : storeFaultM b = 0
    · rw [if_neg (by simpa using fb)] at h
      by_cases hl : 160 < (mergeM a b).length
      · rw [if_pos hl] at h
        simp at h
      · rw [if_neg hl] at h
        obtain rfl : mergeM a b = m := (Prod.mk.inj h).2
        obtain ⟨_, ra, sa⟩ := (storeFault_iff a).1 fa
        obtain ⟨_, rb, sb⟩ := (storeFault_iff b).1 fb
        obtain ⟨k1, k2, k3, k4⟩ := merge_facts a sa ra b sb rb a sa ra (fun _ h => h) (fun y hy => .inl ⟨y, hy, rfl⟩)
        have fm : storeFaultM (mergeM a b) = 0 := (storeFault_iff _).2 ⟨by omega, k2, k1⟩
        have nb : mergeM (mergeM a b) b = mergeM a b := merge_none _ b _ k4
        have na : mergeM (mergeM a b) a = mergeM a b := merge_none _ a _ fun x hx => ⟨x, k3 x hx, (same_iff x x).2 ⟨rfl, rfl, rfl⟩⟩
        refine ⟨fm, k3, fun x hx hc => ?_, ?_, ?_⟩
        · obtain ⟨y, hy, he⟩ := k4 x hx
          rw [(findI_neg _ x).1 hc y hy] at he
          cases he
        · unfold mergeListsM
          rw [if_neg (by simpa using fm), if_neg (by simpa using fb), nb, if_neg hl]
        · unfold mergeListsM
          rw [if_neg (by simpa using fm), if_neg (by simpa using fa), na, if_neg hl]
    · rw [if_pos fb] at h
      exact absurd (Prod.mk.inj h).1 fb
  · rw [if_pos fa] at h
    exact absurd (Prod.mk.inj h).1 fa
theorem findM_hit {l : List Smp} {x : Smp} (h : ¬ findI l x < 0) : ∃ (i : Nat) (a : Smp), findM l x = some i ∧ l[i]? = some a ∧ a ∈ l ∧ sameKeyM a x = true := by
  unfold findI at h
  rcases hf : findM l x with _ | i
  · rw [hf] at h
    simp at h
  · have h1 := hf
    unfold findM at h1
    rw [List.find?_range_eq_some] at h1
    obtain ⟨hh, hlt, _⟩ := h1
    have hlt : i < l.length := by simpa using hlt
    refine ⟨i, l[i], rfl, List.getElem?_eq_getElem hlt, List.getElem_mem hlt, ?_⟩
    rw [← hitM_at (List.getElem?_eq_getElem hlt)]
    exact hh

/-- In a row in order a key is there once. -/
theorem asc_one {l : List Smp} (h : Asc l) {a b : Smp} (ha : a ∈ l) (hb : b ∈ l) (hk : sameKeyM a b = true) : a = b := by
  obtain ⟨i, hi, rfl⟩ := List.mem_iff_getElem.1 ha
  obtain ⟨j, hj, rfl⟩ := List.mem_iff_getElem.1 hb
  rcases Nat.lt_trichotomy i j with h1 | h1 | h1
  · have := ahead_not_same (List.pairwise_iff_getElem.1 h i j hi hj h1)
    rw [hk] at this; cases this
  · subst h1; rfl
  · have := ahead_not_same (List.pairwise_iff_getElem.1 h j i hj hi h1)
    rw [same_symm, hk] at this; cases this

/-- What InsertSample answers with no fault: a right store that has the sample's key, put in again it stays, and a new one is found as it is. -/
theorem insert_said {l st : List Smp} {x : Smp} {new : Bool} (h : insertM l x = (0, new, st)) :
    storeFaultM st = 0 ∧ insertM st x = (0, false, st) ∧ (lookM st x).1 = 0 ∧ (new = true → (lookM st x).2 = x) := by
  have core : storeFaultM st = 0 → faultM x = 0 → ¬ findI st x < 0 → (new = true → x ∈ st) → storeFaultM st = 0 ∧ insertM st x = (0, false, st) ∧ (lookM st x).1 = 0 ∧ (new = true → (lookM st x).2 = x) := by
    intro fs fx hf hn
    obtain ⟨i, a, hi, ha, hal, hk⟩ := findM_hit hf
    refine ⟨fs, ?_, ?_, fun hnew => ?_⟩
    · unfold insertM
      rw [if_neg (by simpa using fs), if_neg (by simpa using fx), if_pos (by omega)]
    · unfold lookM
      rw [if_neg (by simpa using fs), hi]
    · unfold lookM
      rw [if_neg (by simpa using fs), hi]
      simp only [ha, Option.getD_some]
      exact asc_one ((storeFault_iff st).1 fs).2.2 hal (hn hnew) hk
  unfold insertM at h
  by_cases fl : storeFaultM l = 0
  · rw [if_neg (by simpa using fl)] at h
    by_cases fx : faultM x = 0
    · rw [if_neg (by simpa using fx)] at h
      by_cases hf : 0 ≤ findI l x
      · rw [if_pos hf] at h
        have e := Prod.mk.inj h
        have e2 := Prod.mk.inj e.2
        obtain rfl := e2.2
        exact core fl fx (by omega) (fun hn => by rw [← e2.1] at hn; cases hn)
      · rw [if_neg hf] at h
        by_cases hl : 160 ≤ l.length
        · rw [if_pos hl] at h
          simp at h
        · rw [if_neg hl] at h
          have e2 := Prod.mk.inj (Prod.mk.inj h).2
          obtain rfl := e2.2
          have hno := (findI_neg l x).1 (by omega)
          obtain ⟨_, rl, sl⟩ := (storeFault_iff l).1 fl
          have hx : x ∈ insM l x := (mem_insM l x x).2 (.inl rfl)
          refine core ((storeFault_iff _).2 ⟨by rw [insM_len]; omega, fun y hy => ?_, asc_insM sl hno⟩) fx (fun hc => ?_) (fun _ => hx)
          · rcases (mem_insM l x y).1 hy with rfl | hy
            · exact fx
            · exact rl y hy
          · have := (findI_neg _ x).1 hc x hx
            rw [(same_iff x x).2 ⟨rfl, rfl, rfl⟩] at this
            cases this
    · rw [if_pos fx] at h
      exact absurd (Prod.mk.inj h).1 fx
  · rw [if_pos fl] at h
    exact absurd (Prod.mk.inj h).1 fl

theorem find_said {m : List Smp} {x : Smp} (hs : storeFaultM m = 0) (h : ¬ findI m x < 0) : (lookM m x).1 = 0 := by
  obtain ⟨i, a, hi, _⟩ := findM_hit h
  unfold lookM
  rw [if_neg (by simpa using hs), hi]

/-- What is told stands where the count of those in front says. -/
theorem query_at {l : List Smp} {k : Nat} {a : Smp} (s f t : Int) (h : l[k]? = some a) (hw : wantM s f t a = true) : (queryM l s f t)[(queryM (l.take k) s f t).length]? = some a := by
  have hk := getElem?_some_lt h
  have hd : l = l.take k ++ a :: l.drop (k + 1) := by
    rw [List.getElem?_eq_getElem hk] at h
    cases h
    rw [← List.drop_eq_getElem_cons hk, List.take_append_drop]
  conv => lhs; arg 1; rw [hd]
  unfold queryM
  rw [List.filter_append, List.filter_cons, if_pos hw, List.getElem?_append_right (Nat.le_refl _)]
  simp
end Go.Proofs.YtkgbjlbhlhdhbaaDoor
