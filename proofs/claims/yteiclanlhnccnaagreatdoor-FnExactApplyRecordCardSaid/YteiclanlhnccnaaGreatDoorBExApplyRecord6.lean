/-
  Texts of one proof, joined: each has its own namespace.
-/
import Derived.Test.YteiclanlhnccnaaGreatDoorBExApplyRecord5
import Derived.Test.YteiclanlhnccnaaGreatDoorBExApplyRecord3
/-
  What stores are, of the pure answers: in order, right, each key once; what is put in and merged.
-/
namespace Go.Proofs.YteiclanlhnccnaaGreatDoor
set_option maxRecDepth 20000

theorem keyOrd (a b : Smp) : (aheadM a b = true ∧ aheadM b a = false ∧ sameKeyM a b = false) ∨ (aheadM a b = false ∧ aheadM b a = true ∧ sameKeyM a b = false) ∨ (aheadM a b = false ∧ aheadM b a = false ∧ sameKeyM a b = true) := by
  obtain ⟨a0, a1, a2, a3⟩ := a
  obtain ⟨b0, b1, b2, b3⟩ := b
  unfold aheadM sameKeyM
  simp only
  rcases Int.lt_trichotomy a0 b0 with h | h | h
  · have h1 : ¬ a0 = b0 := by omega
    have h2 : ¬ b0 = a0 := by omega
    have h3 : ¬ b0 < a0 := by omega
    exact .inl ⟨by simp [h1, h], by simp [h2, h3], by simp [h1]⟩
  · subst h
    rcases Int.lt_trichotomy a1 b1 with h | h | h
    · have h1 : ¬ a1 = b1 := by omega
      have h2 : ¬ b1 = a1 := by omega
      exact .inl ⟨by simp [h], by simp [h2]; omega, by simp [h1]⟩
    · subst h
      rcases Int.lt_trichotomy a2 b2 with h | h | h
      · exact .inl ⟨by simp [h], by simp; omega, by simp; omega⟩
      · subst h
        exact .inr (.inr ⟨by simp, by simp, by simp⟩)
      · exact .inr (.inl ⟨by simp; omega, by simp [h], by simp; omega⟩)
    · have h1 : ¬ a1 = b1 := by omega
      exact .inr (.inl ⟨by simp [h1]; omega, by simp [h], by simp [h1]⟩)
  · have h1 : ¬ a0 = b0 := by omega
    have h2 : ¬ b0 = a0 := by omega
    exact .inr (.inl ⟨by simp [h1]; omega, by simp [h2, h], by simp [h1]⟩)

theorem ahead_iff (a b : Smp) : aheadM a b = true ↔ a.1 < b.1 ∨ (a.1 = b.1 ∧ (a.2.1 < b.2.1 ∨ (a.2.1 = b.2.1 ∧ a.2.2.1 < b.2.2.1))) := by
  unfold aheadM
  by_cases h : a.1 = b.1
  · simp [h]
  · simp [h]

theorem same_iff (a b : Smp) : sameKeyM a b = true ↔ a.1 = b.1 ∧ a.2.1 = b.2.1 ∧ a.2.2.1 = b.2.2.1 := by
  unfold sameKeyM
  simp

theorem ahead_trans {a b c : Smp} (h : aheadM a b = true) (k : aheadM b c = true) : aheadM a c = true := by
  rw [ahead_iff] at *
  omega

theorem ahead_keys {a b c : Smp} (h : sameKeyM a b = true) : aheadM a c = aheadM b c := by
  rw [Bool.eq_iff_iff, ahead_iff, ahead_iff]
  rw [same_iff] at h
  omega

theorem same_symm (a b : Smp) : sameKeyM a b = sameKeyM b a := by
  rw [Bool.eq_iff_iff, same_iff, same_iff]
  omega

theorem ahead_not_same {a b : Smp} (h : aheadM a b = true) : sameKeyM a b = false := by
  rcases keyOrd a b with ⟨_, _, k⟩ | ⟨k, _⟩ | ⟨k, _⟩
  · exact k
  · rw [h] at k; cases k
  · rw [h] at k; cases k

/-- A row in order: each ahead of each behind it. -/
def Asc (l : List Smp) : Prop := l.Pairwise fun a b => aheadM a b = true

theorem asc_of_steps : ∀ {l : List Smp}, (∀ j, j + 1 < l.length → stepM l j = true) → Asc l
  | [], _ => List.Pairwise.nil
  | a :: l, h => by
    have hl : Asc l := asc_of_steps fun j hj => by
      have := h (j + 1) (by simpa using hj)
      simpa [stepM] using this
    refine List.pairwise_cons.2 ⟨?_, hl⟩
    match l, h, hl with
    | [], _, _ => simp
    | b :: l, h, hl =>
      have h0 : aheadM a b = true := by simpa [stepM] using h 0 (by simp)
      intro y hy
      rcases List.mem_cons.1 hy with rfl | hy
      · exact h0
      · exact ahead_trans h0 ((List.pairwise_cons.1 hl).1 y hy)

theorem steps_of_asc {l : List Smp} (h : Asc l) (j : Nat) : stepM l j = true := by
  unfold stepM
  rcases ha : l[j]? with _ | a
  · simp
  rcases hb : l[j + 1]? with _ | b
  · simp
  simp only
  have h1 := getElem?_some_lt hb
  rw [List.getElem?_eq_getElem (by omega)] at ha hb
  cases ha
  cases hb
  exact List.pairwise_iff_getElem.1 h j (j + 1) (by omega) h1 (by omega)

def Right (l : List Smp) : Prop := ∀ x ∈ l, faultM x = 0

theorem storeFault_iff (l : List Smp) : storeFaultM l = 0 ↔ l.length ≤ 160 ∧ Right l ∧ Asc l := by
  unfold storeFaultM
  constructor
  · intro h
    split at h
    · cases h
    split at h
    · cases h
    split at h
    · cases h
    · rename_i h1 h2 h3
      refine ⟨by omega, fun x hx => ?_, asc_of_steps fun j hj => ?_⟩
      · have : rightM l = true := by simpa using h2
        unfold rightM at this
        rw [List.all_eq_true] at this
        simpa using this x hx
      · have : risesM l = true := by simpa using h3
        unfold risesM at this
        rw [List.all_eq_true] at this
        exact this j (by simp; omega)
  · rintro ⟨h1, h2, h3⟩
    have k2 : rightM l = true := by
      unfold rightM
      rw [List.all_eq_true]
      exact fun x hx => decide_eq_true (h2 x hx)
    have k3 : risesM l = true := by
      unfold risesM
      rw [List.all_eq_true]
      exact fun j _ => steps_of_asc h3 j
    rw [if_neg (by omega), k2, k3]
    simp

theorem findI_neg (l : List Smp) (x : Smp) : findI l x < 0 ↔ ∀ a ∈ l, sameKeyM a x = false := by
  unfold findI
  constructor
  · intro h a ha
    rcases hf : findM l x with _ | i
    · unfold findM at hf
      rw [List.find?_range_eq_none] at hf
      obtain ⟨k, hk⟩ := List.mem_iff_getElem?.1 ha
      have := hf k (getElem?_some_lt hk)
      rw [hitM_at hk] at this
      simpa using this
    · rw [hf] at h
      simp only at h
      omega
  · intro h
    have : findM l x = none := by
      unfold findM
      rw [List.find?_range_eq_none]
      intro j hj
      rw [hitM_at (List.getElem?_eq_getElem hj)]
      simp [h _ (List.getElem_mem hj)]
    rw [this]
    simp

theorem mem_insM (l : List Smp) (x y : Smp) : y ∈ insM l x ↔ y = x ∨ y ∈ l := by
  unfold insM
  split
  · rename_i p _
    rw [List.mem_append, List.mem_cons]
    constructor
    · rintro (h | h | h)
      · exact .inr (List.mem_of_mem_take h)
      · exact .inl h
      · exact .inr (List.mem_of_mem_drop h)
    · rintro (h | h)
      · exact .inr (.inl h)
      · rw [← List.take_append_drop p l, List.mem_append] at h
        rcases h with h | h
        · exact .inl h
        · exact .inr (.inr h)
  · simp [or_comm]

theorem asc_insM {l : List Smp} {x : Smp} (h : Asc l) (hx : ∀ a ∈ l, sameKeyM a x = false) : Asc (insM l x) := by
  have low : ∀ a ∈ l, aheadM x a = false → aheadM a x = true := fun a ha k => by
    rcases keyOrd x a with ⟨k1, _⟩ | ⟨_, k1, _⟩ | ⟨_, _, k1⟩
    · rw [k] at k1; cases k1
    · exact k1
    · rw [same_symm, hx a ha] at k1; cases k1
  unfold insM
  split
  · rename_i p hp
    unfold spotM at hp
    rw [List.find?_range_eq_some] at hp
    obtain ⟨hf, hlt, hal⟩ := hp
    have hlt : p < l.length := by simpa using hlt
    have hat : ∀ (j : Nat) (hj : j < l.length), frontOf l x j = aheadM x l[j] := fun j hj => frontOf_at (List.getElem?_eq_getElem hj)
    have hd : Asc (l.drop p) := List.Pairwise.sublist (List.drop_sublist p l) h
    have ht : Asc (l.take p) := List.Pairwise.sublist (List.take_sublist p l) h
    have hxp : aheadM x l[p] = true := by rw [← hat p hlt]; exact hf
    have hdc : l.drop p = l[p] :: l.drop (p + 1) := List.drop_eq_getElem_cons hlt
    have hxd : ∀ b ∈ l.drop p, aheadM x b = true := fun b hb => by
      rw [hdc] at hb hd
      rcases List.mem_cons.1 hb with rfl | hb
      · exact hxp
      · exact ahead_trans hxp ((List.pairwise_cons.1 hd).1 b hb)
    have htx : ∀ a ∈ l.take p, aheadM a x = true := fun a ha => by
      obtain ⟨j, hj, rfl⟩ := List.mem_take_iff_getElem.1 ha
      refine low _ (List.getElem_mem _) ?_
      have := hal j (by omega)
      rw [hat j (by omega)] at this
      simpa using this
    refine List.pairwise_append.2 ⟨ht, List.pairwise_cons.2 ⟨hxd, hd⟩, fun a ha b hb => ?_⟩
    rcases List.mem_cons.1 hb with rfl | hb
    · exact htx a ha
    · exact ahead_trans (htx a ha) (hxd b hb)
  · rename_i hp
    unfold spotM at hp
    rw [List.find?_range_eq_none] at hp
    refine List.pairwise_append.2 ⟨h, List.pairwise_singleton _ _, fun a ha b hb => ?_⟩
    rw [List.mem_singleton] at hb
    subst hb
    obtain ⟨j, hj, rfl⟩ := List.mem_iff_getElem.1 ha
    refine low _ ha ?_
    have := hp j hj
    rw [frontOf_at (List.getElem?_eq_getElem hj)] at this
    simpa using this

/-- What is merged: the first row, and what the second has besides, in order. -/
theorem merge_facts (a : List Smp) (ha : Asc a) (hr : Right a) : ∀ (b : List Smp), Asc b → Right b → ∀ out : List Smp, Asc out → Right out → (∀ y ∈ a, y ∈ out) → (∀ y ∈ out, (∃ z ∈ a, z = y) ∨ ∀ x ∈ b, aheadM y x = true) →
    Asc (b.foldl (mergeStep a) out) ∧ Right (b.foldl (mergeStep a) out) ∧ (∀ y ∈ out, y ∈ b.foldl (mergeStep a) out) ∧ (∀ x ∈ b, ∃ y ∈ b.foldl (mergeStep a) out, sameKeyM y x = true)
  | [], _, _, out, h1, h2, _, _ => ⟨h1, h2, fun _ h => h, fun _ h => by simp at h⟩
  | x :: b, hb, hbr, out, h1, h2, h3, h4 => by
    obtain ⟨hx, hb'⟩ := List.pairwise_cons.1 hb
    have hbr' : Right b := fun y hy => hbr y (List.mem_cons_of_mem _ hy)
    rw [List.foldl_cons]
    by_cases hf : findI a x < 0
    · have hs : mergeStep a out x = insM out x := if_pos hf
      rw [hs]
      have hno : ∀ y ∈ out, sameKeyM y x = false := fun y hy => by
        rcases h4 y hy with ⟨z, hz, rfl⟩ | h
        · exact (findI_neg a x).1 hf z hz
        · exact ahead_not_same (h x List.mem_cons_self)
      obtain ⟨k1, k2, k3, k4⟩ := merge_facts a ha hr b hb' hbr' (insM out x) (asc_insM h1 hno)
        (fun y hy => by
          rcases (mem_insM out x y).1 hy with rfl | hy
          · exact hbr y List.mem_cons_self
          · exact h2 y hy)
        (fun y hy => (mem_insM out x y).2 (.inr (h3 y hy)))
        (fun y hy => by
          rcases (mem_insM out x y).1 hy with rfl | hy
          · exact .inr hx
          · rcases h4 y hy with h | h
            · exact .inl h
            · exact .inr fun z hz => h z (List.mem_cons_of_mem _ hz))
      refine ⟨k1, k2, fun y hy => k3 y ((mem_insM out x y).2 (.inr hy)), fun z hz => ?_⟩
      rcases List.mem_cons.1 hz with rfl | hz
      · exact ⟨z, k3 z ((mem_insM out z z).2 (.inl rfl)), (same_iff z z).2 ⟨rfl, rfl, rfl⟩⟩
      · exact k4 z hz
    · have hs : mergeStep a out x = out := if_neg hf
      rw [hs]
      obtain ⟨k1, k2, k3, k4⟩ := merge_facts a ha hr b hb' hbr' out h1 h2 h3 (fun y hy => by
        rcases h4 y hy with h | h
        · exact .inl h
        · exact .inr fun z hz => h z (List.mem_cons_of_mem _ hz))
      refine ⟨k1, k2, k3, fun z hz => ?_⟩
      rcases List.mem_cons.1 hz with rfl | hz
      · obtain ⟨y, hy, he⟩ : ∃ y ∈ a, sameKeyM y z = true := by
          refine Classical.byContradiction fun hc => hf ((findI_neg a z).2 fun y hy => ?_)
          rcases he : sameKeyM y z with _ | _
          · rfl
          · exact absurd ⟨y, hy, he⟩ hc
        exact ⟨y, k3 y (h3 y hy), he⟩
      · exact k4 z hz

/-- A row that has every key already: nothing comes in. -/
theorem merge_none (a : List Smp) : ∀ (b : List Smp) (out : List Smp), (∀ x ∈ b, ∃ y ∈ a, sameKeyM y x = true) → b.foldl (mergeStep a) out = out
  | [], _, _ => rfl
  | x :: b, out, h => by
    rw [List.foldl_cons]
    have hf : ¬ findI a x < 0 := fun hc => by
      obtain ⟨y, hy, he⟩ := h x List.mem_cons_self
      rw [(findI_neg a x).1 hc y hy] at he
      cases he
    rw [show mergeStep a out x = out from if_neg hf]
    exact merge_none a b out fun z hz => h z (List.mem_cons_of_mem _ hz)

/-- What MergeLists answers with no fault: all of both, a right store, and merged again it stays. -/
theorem merge_said {a b m : List Smp} (h : mergeListsM a b = (0, m)) :
    storeFaultM m = 0 ∧ (∀ x ∈ a, x ∈ m) ∧ (∀ x ∈ b, ¬ findI m x < 0) ∧ mergeListsM m b = (0, m) ∧ mergeListsM m a = (0, m) := by
  unfold mergeListsM at h
  by_cases fa : storeFaultM a = 0
  · rw [if_neg (by simpa using fa)] at h
    by_cases fb : storeFaultM b = 0
    · rw [if_neg (by simpa using fb)] at h
      by_cases hl : 160 < (mergeM a b).length
      · rw [if_pos hl] at h
        simp at h
      · rw [if_neg hl] at h
        obtain rfl : mergeM a b = m := (Prod.mk.inj h).2
        obtain ⟨_, ra, sa⟩ := (storeFault_iff a).1 fa
        obtain ⟨_, rb, sb⟩ := (storeFault_iff b).1 fb
        obtain ⟨k1, k2, k3, k4⟩ := merge_facts a sa ra b sb rb a sa ra (fun _ h => h) (fun y hy => .inl ⟨y, hy, rfl⟩)
        have fm : storeFaultM (mergeM a b) = 0 := (storeFault_iff _).2 ⟨by omega, k2, k1⟩
        have nb : mergeM (mergeM a b) b = mergeM a b := merge_none _ b _ k4
        have na : mergeM (mergeM a b) a = mergeM a b := merge_none _ a _ fun x hx => ⟨x, k3 x hx, (same_iff x x).2 ⟨rfl, rfl, rfl⟩⟩
        refine ⟨fm, k3, fun x hx hc => ?_, ?_, ?_⟩
        · obtain ⟨y, hy, he⟩ := k4 x hx
          rw [(findI_neg _ x).1 hc y hy] at he
          cases he
        · unfold mergeListsM
          rw [if_neg (by simpa using fm), if_neg (by simpa using fb), nb, if_neg hl]
        · unfold mergeListsM
          rw [if_neg (by simpa using fm), if_neg (by simpa using fa), na, if_neg hl]
    · rw [if_pos fb] at h
      exact absurd (Prod.mk.inj h).1 fb
  · rw [if_pos fa] at h
    exact absurd (Prod.mk.inj h).1 fa
theorem findM_hit {l : List Smp} {x : Smp} (h : ¬ findI l x < 0) : ∃ (i : Nat) (a : Smp), findM l x = some i ∧ l[i]? = some a ∧ a ∈ l ∧ sameKeyM a x = true := by
  unfold findI at h
  rcases hf : findM l x with _ | i
  · rw [hf] at h
    simp at h
  · have h1 := hf
    unfold findM at h1
    rw [List.find?_range_eq_some] at h1
    obtain ⟨hh, hlt, _⟩ := h1
    have hlt : i < l.length := by simpa using hlt
    refine ⟨i, l[i], rfl, List.getElem?_eq_getElem hlt, List.getElem_mem hlt, ?_⟩
    rw [← hitM_at (List.getElem?_eq_getElem hlt)]
    exact hh

/-- In a row in order a key is there once. -/
theorem asc_one {l : List Smp} (h : Asc l) {a b : Smp} (ha : a ∈ l) (hb : b ∈ l) (hk : sameKeyM a b = true) : a = b := by
  obtain ⟨i, hi, rfl⟩ := List.mem_iff_getElem.1 ha
  obtain ⟨j, hj, rfl⟩ := List.mem_iff_getElem.1 hb
  rcases Nat.lt_trichotomy i j with h1 | h1 | h1
  · have := ahead_not_same (List.pairwise_iff_getElem.1 h i j hi hj h1)
    rw [hk] at this; cases this
  · subst h1; rfl
  · have := ahead_not_same (List.pairwise_iff_getElem.1 h j i hj hi h1)
    rw [same_symm, hk] at this; cases this

/-- What InsertSample answers with no fault: a right store that has the sample's key, put in again it stays, and a new one is found as it is. -/
theorem insert_said {l st : List Smp} {x : Smp} {new : Bool} (h : insertM l x = (0, new, st)) :
    storeFaultM st = 0 ∧ insertM st x = (0, false, st) ∧ (lookM st x).1 = 0 ∧ (new = true → (lookM st x).2 = x) := by
  have core : storeFaultM st = 0 → faultM x = 0 → ¬ findI st x < 0 → (new = true → x ∈ st) → storeFaultM st = 0 ∧ insertM st x = (0, false, st) ∧ (lookM st x).1 = 0 ∧ (new = true → (lookM st x).2 = x) := by
    intro fs fx hf hn
    obtain ⟨i, a, hi, ha, hal, hk⟩ := findM_hit hf
    refine ⟨fs, ?_, ?_, fun hnew => ?_⟩
    · unfold insertM
      rw [if_neg (by simpa using fs), if_neg (by simpa using fx), if_pos (by omega)]
    · unfold lookM
      rw [if_neg (by simpa using fs), hi]
    · unfold lookM
      rw [if_neg (by simpa using fs), hi]
      simp only [ha, Option.getD_some]
      exact asc_one ((storeFault_iff st).1 fs).2.2 hal (hn hnew) hk
  unfold insertM at h
  by_cases fl : storeFaultM l = 0
  · rw [if_neg (by simpa using fl)] at h
    by_cases fx : faultM x = 0
    · rw [if_neg (by simpa using fx)] at h
      by_cases hf : 0 ≤ findI l x
      · rw [if_pos hf] at h
        have e := Prod.mk.inj h
        have e2 := Prod.mk.inj e.2
        obtain rfl := e2.2
        exact core fl fx (by omega) (fun hn => by rw [← e2.1] at hn; cases hn)
      · rw [if_neg hf] at h
        by_cases hl : 160 ≤ l.length
        · rw [if_pos hl] at h
          simp at h
        · rw [if_neg hl] at h
          have e2 := Prod.mk.inj (Prod.mk.inj h).2
          obtain rfl := e2.2
          have hno := (findI_neg l x).1 (by omega)
          obtain ⟨_, rl, sl⟩ := (storeFault_iff l).1 fl
          have hx : x ∈ insM l x := (mem_insM l x x).2 (.inl rfl)
          refine core ((storeFault_iff _).2 ⟨by rw [insM_len]; omega, fun y hy => ?_, asc_insM sl hno⟩) fx (fun hc => ?_) (fun _ => hx)
          · rcases (mem_insM l x y).1 hy with rfl | hy
            · exact fx
            · exact rl y hy
          · have := (findI_neg _ x).1 hc x hx
            rw [(same_iff x x).2 ⟨rfl, rfl, rfl⟩] at this
            cases this
    · rw [if_pos fx] at h
      exact absurd (Prod.mk.inj h).1 fx
  · rw [if_pos fl] at h
    exact absurd (Prod.mk.inj h).1 fl

theorem find_said {m : List Smp} {x : Smp} (hs : storeFaultM m = 0) (h : ¬ findI m x < 0) : (lookM m x).1 = 0 := by
  obtain ⟨i, a, hi, _⟩ := findM_hit h
  unfold lookM
  rw [if_neg (by simpa using hs), hi]

/-- What is told stands where the count of those in front says. -/
theorem query_at {l : List Smp} {k : Nat} {a : Smp} (s f t : Int) (h : l[k]? = some a) (hw : wantM s f t a = true) : (queryM l s f t)[(queryM (l.take k) s f t).length]? = some a := by
  have hk := getElem?_some_lt h
  have hd : l = l.take k ++ a :: l.drop (k + 1) := by
    rw [List.getElem?_eq_getElem hk] at h
    cases h
    rw [← List.drop_eq_getElem_cons hk, List.take_append_drop]
  conv => lhs; arg 1; rw [hd]
  unfold queryM
  rw [List.filter_append, List.filter_cons, if_pos hw, List.getElem?_append_right (Nat.le_refl _)]
  simp
end Go.Proofs.YteiclanlhnccnaaGreatDoor
/-
  What the law of hints says, of the pure answers.
-/
namespace Go.Proofs.YteiclanlhnccnaaGreatDoor
set_option maxRecDepth 20000
open Go.RowKit
set_option linter.unusedSimpArgs false
set_option linter.unusedVariables false

theorem findH_none_iff {l : List Hnt} {p i : Int} : findH l p i = none ↔ ∀ a ∈ l, ¬ (a.1 = p ∧ idH a = i) := by
  constructor
  · intro h a ha hp
    unfold findH at h
    rw [List.find?_range_eq_none] at h
    obtain ⟨j, hj⟩ := List.mem_iff_getElem?.1 ha
    have := h j (getElem?_some_lt hj)
    rw [hitH_at hj] at this
    simp [hp.1, hp.2] at this
  · intro h
    refine findH_none fun j hj => ?_
    have hx : l[j]? = some l[j] := List.getElem?_eq_getElem hj
    rw [hitH_at hx]
    have := h _ (List.mem_of_getElem? hx)
    simp only [Bool.and_eq_false_iff, decide_eq_false_iff_not]
    by_cases h1 : l[j].1 = p
    · exact .inr fun h2 => this ⟨h1, h2⟩
    · exact .inl h1
theorem findHI_neg {l : List Hnt} {p i : Int} (h : ¬ 0 ≤ findHI l p i) : findH l p i = none := by
  rcases findHI_or l p i with ⟨_, h2⟩ | ⟨k, h1, _, _⟩
  · exact h2
  · omega
theorem findH_last {l : List Hnt} {h : Hnt} (hn : findH l h.1 (idH h) = none) : findH (l ++ [h]) h.1 (idH h) = some l.length := by
  refine findH_some (by simp) ?_ fun j hj => ?_
  · rw [hitH_at (a := h) (by simp)]
    simp
  · have hx : l[j]? = some l[j] := List.getElem?_eq_getElem hj
    rw [hitH_at (a := l[j]) (by rw [List.getElem?_append_left hj, hx])]
    have := findH_none_iff.1 hn _ (List.mem_of_getElem? hx)
    simp only [Bool.and_eq_false_iff, decide_eq_false_iff_not]
    by_cases h1 : l[j].1 = h.1
    · exact .inr fun h2 => this ⟨h1, h2⟩
    · exact .inl h1
/-- What is added is there, and gone again when it is done. -/
theorem add_said {h al : List Hnt} {p x1 x2 x3 x4 : Int} (k : addM h p (x1, x2, x3, x4) = (0, al)) : hintsFaultM al = 0 ∧ doneM al p x3 = (0, h) ∧ (addM al p (x1, x2, x3, x4)).1 = 6 := by
  unfold addM at k
  by_cases h0 : hintsFaultM h = 0
  rotate_left
  · rw [if_pos h0] at k
    exact absurd (Prod.mk.inj k).1 h0
  rw [if_neg (by simp [h0])] at k
  by_cases hf : faultM (x1, x2, x3, x4) = 0
  rotate_left
  · rw [if_pos hf] at k
    exact absurd (Prod.mk.inj k).1 (by decide)
  rw [if_neg (by simp [hf])] at k
  rcases hp : inB (p, 0, 3)
  · rw [if_pos hp] at k
    exact absurd (Prod.mk.inj k).1 (by decide)
  rw [if_neg (by simp [hp])] at k
  by_cases hi : 0 ≤ findHI h p x3
  · rw [if_pos hi] at k
    exact absurd (Prod.mk.inj k).1 (by decide)
  rw [if_neg hi] at k
  by_cases h8 : 8 ≤ h.length
  · rw [if_pos h8] at k
    exact absurd (Prod.mk.inj k).1 (by decide)
  rw [if_neg h8] at k
  obtain rfl := (Prod.mk.inj k).2
  have hn := findHI_neg hi
  obtain ⟨g1, g2, g3⟩ := (hintsFault_iff h).1 h0
  have hfn : hfaultM (p, (x1, x2, x3, x4), 0, 0) = 0 := hfault_yes hf (by unfold rangeH; rw [hp]; simp [inB])
  have hz : hintsFaultM (h ++ [(p, (x1, x2, x3, x4), 0, 0)]) = 0 := by
    refine (hintsFault_iff _).2 ⟨by simp; omega, fun y hy => ?_, dis_append.2 ⟨g3, fun y hy => ?_⟩⟩
    · rcases List.mem_append.1 hy with hy | hy
      · exact g2 y hy
      · obtain rfl := List.mem_singleton.1 hy
        exact hfn
    · have := findH_none_iff.1 hn y hy
      rcases hs : sameH y (p, (x1, x2, x3, x4), 0, 0)
      · rfl
      · exact absurd ((sameH_iff _ _).1 hs) this
  have hl := findH_last (h := (p, (x1, x2, x3, x4), 0, 0)) hn
  refine ⟨hz, ?_, ?_⟩
  · unfold doneM
    rw [if_neg (by simp [hz]), show findH (h ++ [(p, (x1, x2, x3, x4), 0, 0)]) p x3 = some h.length from hl]
    simp
  · unfold addM
    rw [if_neg (by simp [hz]), if_neg (by simp [hf]), if_neg (by simp [hp]), if_pos]
    unfold findHI
    rw [show findH (h ++ [(p, (x1, x2, x3, x4), 0, 0)]) p x3 = some h.length from hl]
    show (0 : Int) ≤ (h.length : Int)
    omega
/-- What is done is gone. -/
theorem done_said {g dl : List Hnt} {p i : Int} (k : doneM g p i = (0, dl)) : dl.length + 1 = g.length ∧ (doneM dl p i).1 = 4 := by
  unfold doneM at k
  by_cases h0 : hintsFaultM g = 0
  rotate_left
  · rw [if_pos h0] at k
    exact absurd (Prod.mk.inj k).1 h0
  rw [if_neg (by simp [h0])] at k
  rcases hf : findH g p i with _ | j
  · rw [hf] at k
    exact absurd (Prod.mk.inj k).1 (by decide)
  rw [hf] at k
  simp only [Prod.mk.injEq, true_and] at k
  obtain ⟨hlt, hh, hal⟩ := findH_is hf
  obtain ⟨g1, g2, g3⟩ := (hintsFault_iff g).1 h0
  have he : dl = g.eraseIdx j := by rw [List.eraseIdx_eq_take_drop_succ]; exact k.symm
  have hlen : dl.length + 1 = g.length := by
    rw [he, List.length_eraseIdx_of_lt hlt]
    omega
  have hsub : dl.Sublist g := by rw [he]; exact List.eraseIdx_sublist _ _
  have hz : hintsFaultM dl = 0 := (hintsFault_iff dl).2 ⟨by omega, fun y hy => g2 y (hsub.subset hy), g3.sublist hsub⟩
  refine ⟨hlen, ?_⟩
  have hn : findH dl p i = none := by
    refine findH_none_iff.2 fun y hy hp => ?_
    rw [he] at hy
    obtain ⟨m, hne, hm⟩ := List.mem_eraseIdx_iff_getElem?.1 hy
    have hj : g[j]? = some g[j] := List.getElem?_eq_getElem hlt
    have hjp : g[j].1 = p ∧ idH g[j] = i := by
      rw [hitH_at hj] at hh
      simpa using hh
    have hml := getElem?_some_lt hm
    have hsame : sameH g[m] g[j] = true := by
      rw [List.getElem?_eq_getElem hml] at hm
      rw [Option.some.inj hm, sameH_iff]
      exact ⟨hp.1.trans hjp.1.symm, hp.2.trans hjp.2.symm⟩
    rcases Nat.lt_or_ge m j with h | h
    · have := (List.pairwise_iff_getElem.1 g3) m j hml hlt h
      rw [hsame] at this
      cases this
    · have := (List.pairwise_iff_getElem.1 g3) j m hlt hml (by omega)
      rw [sameH_comm, hsame] at this
      cases this
  unfold doneM
  rw [if_neg (by simp [hz]), hn]
/-- What was sent is due later, not later than it may, and stays. -/
theorem sent_said {l sl : List Hnt} {p i now : Int} (k : sentM l p i now = (0, sl)) : sl.length = l.length ∧ hintsFaultM sl = 0 ∧ (0 ≤ now ∧ now ≤ 100000) ∧
    ∀ (j : Nat) (a : Hnt), l[j]? = some a → ∃ b, sl[j]? = some b ∧ ((a.1 = p ∧ idH a = i) → now < b.2.2.2 ∧ b.2.2.2 ≤ now + 16 ∧ a.2.2.1 ≤ b.2.2.1) ∧ (¬ (a.1 = p ∧ idH a = i) → b = a) := by
  unfold sentM at k
  by_cases h0 : hintsFaultM l = 0
  rotate_left
  · rw [if_pos h0] at k
    exact absurd (Prod.mk.inj k).1 h0
  rw [if_neg (by simp [h0])] at k
  rcases hb : inB (now, 0, 100000)
  · rw [if_pos hb] at k
    exact absurd (Prod.mk.inj k).1 (by decide)
  rw [if_neg (by simp [hb])] at k
  have hnow : 0 ≤ now ∧ now ≤ 100000 := by simpa [inB] using hb
  rcases hf : findH l p i with _ | m
  · rw [hf] at k
    exact absurd (Prod.mk.inj k).1 (by decide)
  rw [hf] at k
  simp only [Prod.mk.injEq, true_and] at k
  obtain ⟨hlt, hh, hal⟩ := findH_is hf
  obtain ⟨g1, g2, g3⟩ := (hintsFault_iff l).1 h0
  have hm : l[m]? = some l[m] := List.getElem?_eq_getElem hlt
  rw [hm, Option.getD_some] at k
  have hmp : l[m].1 = p ∧ idH l[m] = i := by
    rw [hitH_at hm] at hh
    simpa using hh
  have hr := (hfault_zero (g2 _ (List.mem_of_getElem? hm))).2
  have hf1 := (hfault_zero (g2 _ (List.mem_of_getElem? hm))).1
  have ht : 0 ≤ l[m].2.2.1 ∧ l[m].2.2.1 ≤ 4 := by unfold rangeH at hr; simp [inB] at hr; omega
  have hq := pw_le (j := l[m].2.2.1.toNat) (by omega)
  have hsame : sameH (sentH now l[m]) l[m] = true := (sameH_iff _ _).2 ⟨rfl, rfl⟩
  have hsl : sl.length = l.length := by rw [← k]; simp
  have hat : ∀ j, sl[j]? = if m = j then some (sentH now l[m]) else l[j]? := fun j => by
    rw [← k, List.getElem?_set]
    by_cases hj : m = j
    · subst hj
      rw [if_pos rfl, if_pos rfl, if_pos hlt]
    · rw [if_neg hj, if_neg hj]
  refine ⟨hsl, ?_, hnow, fun j a ha => ?_⟩
  · refine (hintsFault_iff sl).2 ⟨by omega, fun y hy => ?_, ?_⟩
    · obtain ⟨j, hj⟩ := List.mem_iff_getElem?.1 hy
      rw [hat] at hj
      split at hj
      · obtain rfl := Option.some.inj hj
        refine hfault_yes hf1 ?_
        unfold rangeH at hr ⊢
        simp only [inB, Bool.and_eq_true, decide_eq_true_eq] at hr ⊢
        simp only [sentH]
        refine ⟨hr.1, ⟨?_, ?_⟩, ?_, ?_⟩ <;> (try split) <;> omega
      · exact g2 y (List.mem_of_getElem? hj)
    · refine List.pairwise_iff_getElem.2 fun i1 i2 hi1 hi2 h12 => ?_
      have e1 := hat i1
      have e2 := hat i2
      rw [List.getElem?_eq_getElem hi1] at e1
      rw [List.getElem?_eq_getElem hi2] at e2
      have h1 : i1 < l.length := by omega
      have h2 : i2 < l.length := by omega
      have hp := (List.pairwise_iff_getElem.1 g3) i1 i2 h1 h2 h12
      by_cases hm1 : m = i1
      · subst hm1
        rw [if_pos rfl] at e1
        rw [if_neg (by omega), List.getElem?_eq_getElem h2] at e2
        rw [Option.some.inj e1, Option.some.inj e2, sameH_trans hsame]
        exact hp
      · rw [if_neg hm1, List.getElem?_eq_getElem h1] at e1
        by_cases hm2 : m = i2
        · subst hm2
          rw [if_pos rfl] at e2
          rw [Option.some.inj e1, Option.some.inj e2, sameH_comm, sameH_trans hsame, sameH_comm]
          exact hp
        · rw [if_neg hm2, List.getElem?_eq_getElem h2] at e2
          rw [Option.some.inj e1, Option.some.inj e2]
          exact hp
  · by_cases hj : m = j
    · subst hj
      obtain rfl : l[m] = a := by rw [hm] at ha; exact Option.some.inj ha
      refine ⟨sentH now l[m], by rw [hat, if_pos rfl], fun _ => ?_, fun hno => absurd hmp hno⟩
      simp only [sentH]
      refine ⟨by omega, by omega, ?_⟩
      split <;> omega
    · refine ⟨a, by rw [hat, if_neg hj]; exact ha, fun hp => ?_, fun _ => rfl⟩
      exfalso
      have hjl := getElem?_some_lt ha
      have hsm : sameH l[j] l[m] = true := by
        rw [List.getElem?_eq_getElem hjl] at ha
        rw [Option.some.inj ha, sameH_iff]
        exact ⟨hp.1.trans hmp.1.symm, hp.2.trans hmp.2.symm⟩
      rcases Nat.lt_or_ge j m with h | h
      · have := (List.pairwise_iff_getElem.1 g3) j m hjl hlt h
        rw [hsm] at this
        cases this
      · have := (List.pairwise_iff_getElem.1 g3) m j hlt hjl (by omega)
        rw [sameH_comm, hsm] at this
        cases this
theorem addM_small {h al : List Hnt} {p : Int} {x : Smp} {pc : Int} {n : Nat} (k : addM h p x = (pc, al)) (hn : h.length = n) (h16 : n ≤ 16) : al.length ≤ 17 := by
  have := addM_le h p x
  rw [k] at this
  simp only at this
  omega
theorem doneM_small {h al : List Hnt} {p i : Int} {pc : Int} {n : Nat} (k : doneM h p i = (pc, al)) (hn : h.length = n) (h16 : n ≤ 16) : al.length ≤ 17 := by
  have := doneM_le h p i
  rw [k] at this
  simp only at this
  omega
theorem sentM_small {h al : List Hnt} {p i t : Int} {pc : Int} {n : Nat} (k : sentM h p i t = (pc, al)) (hn : h.length = n) (h16 : n ≤ 16) : al.length ≤ 17 := by
  have := sentM_le h p i t
  rw [k] at this
  simp only at this
  omega
theorem dueM_small {h al : List Hnt} {t : Int} {pc : Int} {n : Nat} (k : dueM h t = (pc, al)) (hn : h.length = n) (h16 : n ≤ 16) : al.length ≤ 17 := by
  have := dueM_le h t
  rw [k] at this
  simp only at this
  omega
end Go.Proofs.YteiclanlhnccnaaGreatDoor
/-
  What a record does to a state, and what a disk says, of the pure answers.
-/
namespace Go.Proofs.YteiclanlhnccnaaGreatDoor
set_option maxRecDepth 20000
open Go.RowKit
set_option linter.unusedSimpArgs false
set_option linter.unusedVariables false

abbrev zeroSta : Sta := ([], [], 0)
/-- A right record that is put to a state: the code, and the state behind it. -/
def stepR (s : Sta) (r : Rcd) : Int × Sta :=
  if r.1 = 1 then (if (insertM s.1 r.2.2.1).1 = 0 then (0, ((insertM s.1 r.2.2.1).2.2, s.2.1, s.2.2)) else ((insertM s.1 r.2.2.1).1, s))
  else if r.1 = 2 then (if (addM s.2.1 r.2.1 r.2.2.1).1 = 0 then (0, (s.1, (addM s.2.1 r.2.1 r.2.2.1).2, s.2.2)) else ((addM s.2.1 r.2.1 r.2.2.1).1, s))
  else if r.1 = 3 then (if (doneM s.2.1 r.2.1 r.2.2.2).1 = 0 then (0, (s.1, (doneM s.2.1 r.2.1 r.2.2.2).2, s.2.2)) else ((doneM s.2.1 r.2.1 r.2.2.2).1, s))
  else if r.2.2.2 < s.2.2 then (8, s) else (0, (s.1, s.2.1, r.2.2.2))
/-- What ApplyRecord answers. -/
def applyM (s : Sta) (r : Rcd) : Int × Sta :=
  if stateFaultM s ≠ 0 then (stateFaultM s, zeroSta) else if recFaultM r ≠ 0 then (recFaultM r, zeroSta) else if (stepR s r).1 = 0 then (0, (stepR s r).2) else ((stepR s r).1, zeroSta)

theorem stateFault_iff (s : Sta) : stateFaultM s = 0 ↔ storeFaultM s.1 = 0 ∧ hintsFaultM s.2.1 = 0 ∧ inB (s.2.2, 0, 60000) = true := by
  unfold stateFaultM
  constructor
  · intro h
    by_cases h1 : storeFaultM s.1 = 0
    · rw [if_neg (by simp [h1])] at h
      by_cases h2 : hintsFaultM s.2.1 = 0
      · rw [if_neg (by simp [h2])] at h
        by_cases h3 : inB (s.2.2, 0, 60000) = true
        · exact ⟨h1, h2, h3⟩
        · rw [if_neg h3] at h; cases h
      · rw [if_pos h2] at h; exact absurd h h2
    · rw [if_pos h1] at h; exact absurd h h1
  · rintro ⟨h1, h2, h3⟩
    rw [if_neg (by simp [h1]), if_neg (by simp [h2]), if_pos h3]
theorem zero_state : stateFaultM zeroSta = 0 := by decide
theorem done_right {g dl : List Hnt} {p i : Int} (k : doneM g p i = (0, dl)) : hintsFaultM dl = 0 := by
  unfold doneM at k
  by_cases h0 : hintsFaultM g = 0
  rotate_left
  · rw [if_pos h0] at k
    exact absurd (Prod.mk.inj k).1 h0
  rw [if_neg (by simp [h0])] at k
  rcases hf : findH g p i with _ | j
  · rw [hf] at k
    exact absurd (Prod.mk.inj k).1 (by decide)
  rw [hf] at k
  simp only [Prod.mk.injEq, true_and] at k
  obtain ⟨hlt, hh, hal⟩ := findH_is hf
  obtain ⟨g1, g2, g3⟩ := (hintsFault_iff g).1 h0
  have he : dl = g.eraseIdx j := by rw [List.eraseIdx_eq_take_drop_succ]; exact k.symm
  have hsub : dl.Sublist g := by rw [he]; exact List.eraseIdx_sublist _ _
  have := hsub.length_le
  exact (hintsFault_iff dl).2 ⟨by omega, fun y hy => g2 y (hsub.subset hy), g3.sublist hsub⟩
theorem range_four {k p p' : Int} {x : Smp} (h : recFaultM (k, p, x, p') = 0) (h1 : k ≠ 1) (h2 : k ≠ 2) (h3 : k ≠ 3) : inB (p', 0, 60000) = true := by
  by_cases h4 : k = 4
  · subst h4
    have hf : recFormM (4, p, x, p') = true := by
      rcases hf : recFormM (4, p, x, p')
      · rw [recFault_form hf] at h; cases h
      · rfl
    rw [recFault_range hf] at h
    unfold rrangeM mostM at h
    rcases hb : inB (p', 0, 60000)
    · simp [hb] at h
    · rfl
  · have hf : recFormM (k, p, x, p') = false := by unfold recFormM; rw [if_neg h1, if_neg h2, if_neg h3, if_neg h4]
    rw [recFault_form hf] at h; cases h
/-- A right record leaves a right state right. -/
theorem step_right {s : Sta} {r : Rcd} (hs : stateFaultM s = 0) (hr : recFaultM r = 0) (h : (stepR s r).1 = 0) : stateFaultM (stepR s r).2 = 0 := by
  obtain ⟨h1, h2, h3⟩ := (stateFault_iff s).1 hs
  unfold stepR at h ⊢
  by_cases k1 : r.1 = 1
  · rw [if_pos k1] at h ⊢
    by_cases hc : (insertM s.1 r.2.2.1).1 = 0
    · rw [if_pos hc] at h ⊢
      rcases hi : insertM s.1 r.2.2.1 with ⟨c, n, st⟩
      rw [hi] at hc
      obtain rfl : c = 0 := hc
      exact (stateFault_iff _).2 ⟨(insert_said hi).1, h2, h3⟩
    · rw [if_neg hc] at h; exact absurd h hc
  rw [if_neg k1] at h ⊢
  by_cases k2 : r.1 = 2
  · rw [if_pos k2] at h ⊢
    by_cases hc : (addM s.2.1 r.2.1 r.2.2.1).1 = 0
    · rw [if_pos hc] at h ⊢
      rcases hi : addM s.2.1 r.2.1 r.2.2.1 with ⟨c, st⟩
      rw [hi] at hc
      obtain rfl : c = 0 := hc
      exact (stateFault_iff _).2 ⟨h1, (add_said hi).1, h3⟩
    · rw [if_neg hc] at h; exact absurd h hc
  rw [if_neg k2] at h ⊢
  by_cases k3 : r.1 = 3
  · rw [if_pos k3] at h ⊢
    by_cases hc : (doneM s.2.1 r.2.1 r.2.2.2).1 = 0
    · rw [if_pos hc] at h ⊢
      rcases hi : doneM s.2.1 r.2.1 r.2.2.2 with ⟨c, st⟩
      rw [hi] at hc
      obtain rfl : c = 0 := hc
      exact (stateFault_iff _).2 ⟨h1, done_right hi, h3⟩
    · rw [if_neg hc] at h; exact absurd h hc
  rw [if_neg k3] at h ⊢
  by_cases k4 : r.2.2.2 < s.2.2
  · rw [if_pos k4] at h; cases h
  · rw [if_neg k4]
    exact (stateFault_iff _).2 ⟨h1, h2, range_four hr k1 k2 k3⟩
/-- The program's way, at a right state and a right record. -/
theorem apply_right {s : Sta} {r : Rcd} (hs : stateFaultM s = 0) (hr : recFaultM r = 0) : applyM s r = if (stepR s r).1 = 0 then (0, (stepR s r).2) else ((stepR s r).1, zeroSta) := by
  unfold applyM; rw [if_neg (by simp [hs]), if_neg (by simp [hr])]
theorem apply_code {s : Sta} {r : Rcd} (hs : stateFaultM s = 0) (hr : recFaultM r = 0) : (applyM s r).1 = (stepR s r).1 := by
  rw [apply_right hs hr]
  by_cases h : (stepR s r).1 = 0
  · rw [if_pos h, h]
  · rw [if_neg h]
end Go.Proofs.YteiclanlhnccnaaGreatDoor
/-
  The model's AddHint.
-/
namespace Go.Proofs.YteiclanlhnccnaaGreatDoor
set_option maxRecDepth 20000
open Go.RowKit
set_option linter.unusedSimpArgs false
set_option linter.unusedVariables false

set_option maxRecDepth 100000 in
set_option maxHeartbeats 4000000 in
theorem specAddHint (A : Option Addr) (n c : Nat) (l : List Hnt) (p x0 x1 x2 x3 : Int) (w : World) (ha : Rd eH w w.heap.size A l) (hn : l.length = n) :
    Calls Tryz.prog 123 #[.slice A n c, .int .i64 p, .agg #[.int .i64 x0, .int .i64 x1, .int .i64 x2, .int .i64 x3]] w (RetHs (addM l p (x0, x1, x2, x3)) w) := by
  have hB0 : Below w.heap.size w ((w.alloc (.cells #[.int .i64 x0, .int .i64 x1, .int .i64 x2, .int .i64 x3] 25)).alloc (.cells #[.int .i64 0, .slice none 0 0] 158)) := ((Below.refl _ _).alloc (Nat.le_refl _) _).alloc (by simp) _
  have bx0 := (At.new w 25 #[.int .i64 x0, .int .i64 x1, .int .i64 x2, .int .i64 x3]).alloc (.cells #[.int .i64 0, .slice none 0 0] 158)
  have e1 : (w.alloc (.cells #[.int .i64 x0, .int .i64 x1, .int .i64 x2, .int .i64 x3] 25)).heap.size = w.heap.size + 1 := by simp
  have r0 := At.new (w.alloc (.cells #[.int .i64 x0, .int .i64 x1, .int .i64 x2, .int .i64 x3] 25)) 158 #[.int .i64 0, .slice none 0 0]
  rw [e1] at r0
  have ha0 := ha.lift hB0
  have HF := specHintsFault A n c l _ ha0 hn
  by_cases h0 : hintsFaultM l = 0
  rotate_left
  · rw [show (addM l p (x0, x1, x2, x3)) = (hintsFaultM l, []) from if_pos h0]
    have hne : (hintsFaultM l != 0) = true := by rw [bne_iff_ne]; exact h0
    generalize hintsFaultM l = sf at *
    clear h0
    go_enter Tryz.func123, Tryz.ntmps123
    go_wp2_with fail
    refine (HF).mono ?_
    rintro e w1 ⟨rfl, hb1⟩
    have hB1 := hB0.trans (hb1.mono hB0.size)
    have r1 := r0.below hb1 r0.lt
    have ha1 := ha0.lift hb1
    have bx1 := bx0.below hb1 bx0.lt
    obtain ⟨b1_0, b1_1, b1_2, b1_3, _, _, _, _⟩ := bx1.four
    obtain ⟨c0, c1, _, _⟩ := r1.two
    go_wp2_with fail
    refine bodyPost_ret (v := .agg #[.int .i64 sf, .slice none 0 0]) (by simp [results, Tryz.results123, go_sem, c0, c1]) rfl ?_
    exact ⟨_, _, _, rfl, Ow.nil, (hB1.setCell (by simp) _).setCell (by simp) _⟩
  obtain ⟨h8, hall, hdis⟩ := (hintsFault_iff l).1 h0
  rw [h0] at HF
  rcases faultM_or (x0, x1, x2, x3) with hf | hf
  rotate_left
  · rw [show (addM l p (x0, x1, x2, x3)) = (3, []) by unfold addM; rw [if_neg (by simp [h0]), if_pos (by simp [hf])]]
    have XF := specSampleFault x0 x1 x2 x3
    rw [hf] at XF
    clear hf h0
    go_enter Tryz.func123, Tryz.ntmps123
    go_wp2_with fail
    refine (HF).mono ?_
    rintro e w1 ⟨rfl, hb1⟩
    have hB1 := hB0.trans (hb1.mono hB0.size)
    have r1 := r0.below hb1 r0.lt
    have ha1 := ha0.lift hb1
    have bx1 := bx0.below hb1 bx0.lt
    obtain ⟨b1_0, b1_1, b1_2, b1_3, _, _, _, _⟩ := bx1.four
    go_wp2_with fail
    refine (XF _).mono ?_
    rintro e w2 ⟨rfl, hb2⟩
    have hB2 := hB1.trans (hb2.mono hB1.size)
    have r2 := r1.below hb2 r1.lt
    have ha2 := ha1.lift hb2
    have bx2 := bx1.below hb2 bx1.lt
    obtain ⟨b2_0, b2_1, b2_2, b2_3, _, _, _, _⟩ := bx2.four
    obtain ⟨c0, c1, _, _⟩ := r2.two
    go_wp2_with fail
    refine bodyPost_ret (v := .agg #[.int .i64 3, .slice none 0 0]) (by simp [results, Tryz.results123, go_sem, c0, c1]) rfl ?_
    exact ⟨_, _, _, rfl, Ow.nil, (hB2.setCell (by simp) _).setCell (by simp) _⟩
  have XF := specSampleFault x0 x1 x2 x3
  rw [hf] at XF
  rcases hp : inB (p, 0, 3)
  · rw [show (addM l p (x0, x1, x2, x3)) = (3, []) by unfold addM; rw [if_neg (by simp [h0]), if_neg (by simp [hf]), if_pos hp]]
    clear hf h0
    go_enter Tryz.func123, Tryz.ntmps123
    go_wp2_with fail
    refine (HF).mono ?_
    rintro e w1 ⟨rfl, hb1⟩
    have hB1 := hB0.trans (hb1.mono hB0.size)
    have r1 := r0.below hb1 r0.lt
    have ha1 := ha0.lift hb1
    have bx1 := bx0.below hb1 bx0.lt
    obtain ⟨b1_0, b1_1, b1_2, b1_3, _, _, _, _⟩ := bx1.four
    go_wp2_with fail
    refine (XF _).mono ?_
    rintro e w2 ⟨rfl, hb2⟩
    have hB2 := hB1.trans (hb2.mono hB1.size)
    have r2 := r1.below hb2 r1.lt
    have ha2 := ha1.lift hb2
    have bx2 := bx1.below hb2 bx1.lt
    obtain ⟨b2_0, b2_1, b2_2, b2_3, _, _, _, _⟩ := bx2.four
    go_wp2_with fail
    refine (l4Node p _).mono ?_
    rintro e w99 ⟨rfl, rfl⟩
    obtain ⟨c0, c1, _, _⟩ := r2.two
    go_wp2_with fail
    refine bodyPost_ret (v := .agg #[.int .i64 3, .slice none 0 0]) (by simp [results, Tryz.results123, go_sem, c0, c1]) rfl ?_
    exact ⟨_, _, _, rfl, Ow.nil, (hB2.setCell (by simp) _).setCell (by simp) _⟩
  have HL := fun W (h1 : Rd eH W W.heap.size A l) => l4Find A n c l p x2 W h1 hn (by unfold maxLen; omega)
  rcases findHI_or l p x2 with ⟨hi, -⟩ | ⟨k, hi, -, hk⟩
  rotate_left
  · rw [hi] at HL
    rw [show (addM l p (x0, x1, x2, x3)) = (6, []) by unfold addM; rw [if_neg (by simp [h0]), if_neg (by simp [hf]), if_neg (by simp [hp]), if_pos (by rw [hi]; omega)]]
    have hk0 : (0 : Int) ≤ (k : Int) := by omega
    clear hf h0 hi
    go_enter Tryz.func123, Tryz.ntmps123
    go_wp2_with fail
    refine (HF).mono ?_
    rintro e w1 ⟨rfl, hb1⟩
    have hB1 := hB0.trans (hb1.mono hB0.size)
    have r1 := r0.below hb1 r0.lt
    have ha1 := ha0.lift hb1
    have bx1 := bx0.below hb1 bx0.lt
    obtain ⟨b1_0, b1_1, b1_2, b1_3, _, _, _, _⟩ := bx1.four
    go_wp2_with fail
    refine (XF _).mono ?_
    rintro e w2 ⟨rfl, hb2⟩
    have hB2 := hB1.trans (hb2.mono hB1.size)
    have r2 := r1.below hb2 r1.lt
    have ha2 := ha1.lift hb2
    have bx2 := bx1.below hb2 bx1.lt
    obtain ⟨b2_0, b2_1, b2_2, b2_3, _, _, _, _⟩ := bx2.four
    go_wp2_with fail
    refine (l4Node p _).mono ?_
    rintro e w99 ⟨rfl, rfl⟩
    go_wp2_with fail
    refine (HL _ ha2).mono ?_
    rintro e w99 ⟨rfl, rfl⟩
    obtain ⟨c0, c1, _, _⟩ := r2.two
    go_wp2_with fail
    refine bodyPost_ret (v := .agg #[.int .i64 6, .slice none 0 0]) (by simp [results, Tryz.results123, go_sem, c0, c1]) rfl ?_
    exact ⟨_, _, _, rfl, Ow.nil, (hB2.setCell (by simp) _).setCell (by simp) _⟩
  rw [hi] at HL
  by_cases hfull : 8 ≤ n
  · rw [show (addM l p (x0, x1, x2, x3)) = (7, []) by unfold addM; rw [if_neg (by simp [h0]), if_neg (by simp [hf]), if_neg (by simp [hp]), if_neg (by rw [hi]; omega), if_pos (by omega)]]
    have hfi : (8 : Int) ≤ (n : Int) := by omega
    clear hf h0 hi
    go_enter Tryz.func123, Tryz.ntmps123
    go_wp2_with fail
    refine (HF).mono ?_
    rintro e w1 ⟨rfl, hb1⟩
    have hB1 := hB0.trans (hb1.mono hB0.size)
    have r1 := r0.below hb1 r0.lt
    have ha1 := ha0.lift hb1
    have bx1 := bx0.below hb1 bx0.lt
    obtain ⟨b1_0, b1_1, b1_2, b1_3, _, _, _, _⟩ := bx1.four
    go_wp2_with fail
    refine (XF _).mono ?_
    rintro e w2 ⟨rfl, hb2⟩
    have hB2 := hB1.trans (hb2.mono hB1.size)
    have r2 := r1.below hb2 r1.lt
    have ha2 := ha1.lift hb2
    have bx2 := bx1.below hb2 bx1.lt
    obtain ⟨b2_0, b2_1, b2_2, b2_3, _, _, _, _⟩ := bx2.four
    go_wp2_with fail
    refine (l4Node p _).mono ?_
    rintro e w99 ⟨rfl, rfl⟩
    go_wp2_with fail
    refine (HL _ ha2).mono ?_
    rintro e w99 ⟨rfl, rfl⟩
    obtain ⟨c0, c1, _, _⟩ := r2.two
    go_wp2_with fail
    refine bodyPost_ret (v := .agg #[.int .i64 7, .slice none 0 0]) (by simp [results, Tryz.results123, go_sem, c0, c1]) rfl ?_
    exact ⟨_, _, _, rfl, Ow.nil, (hB2.setCell (by simp) _).setCell (by simp) _⟩
  · rw [show (addM l p (x0, x1, x2, x3)) = (0, l ++ [(p, (x0, x1, x2, x3), 0, 0)]) by unfold addM; rw [if_neg (by simp [h0]), if_neg (by simp [hf]), if_neg (by simp [hp]), if_neg (by rw [hi]; omega), if_neg (by omega)]]
    have hfi : ¬ (8 : Int) ≤ (n : Int) := by omega
    clear hf h0 hi
    go_enter Tryz.func123, Tryz.ntmps123
    go_wp2_with fail
    refine (HF).mono ?_
    rintro e w1 ⟨rfl, hb1⟩
    have hB1 := hB0.trans (hb1.mono hB0.size)
    have r1 := r0.below hb1 r0.lt
    have ha1 := ha0.lift hb1
    have bx1 := bx0.below hb1 bx0.lt
    obtain ⟨b1_0, b1_1, b1_2, b1_3, _, _, _, _⟩ := bx1.four
    go_wp2_with fail
    refine (XF _).mono ?_
    rintro e w2 ⟨rfl, hb2⟩
    have hB2 := hB1.trans (hb2.mono hB1.size)
    have r2 := r1.below hb2 r1.lt
    have ha2 := ha1.lift hb2
    have bx2 := bx1.below hb2 bx1.lt
    obtain ⟨b2_0, b2_1, b2_2, b2_3, _, _, _, _⟩ := bx2.four
    go_wp2_with fail
    refine (l4Node p _).mono ?_
    rintro e w99 ⟨rfl, rfl⟩
    go_wp2_with fail
    refine (HL _ ha2).mono ?_
    rintro e w99 ⟨rfl, rfl⟩
    go_wp2
    have hbd := hB2.drew
    have bxd := bx2.drew
    have rd := r2.drew
    have had := ha2.drewN 1
    clear b1_0 b1_1 b1_2 b1_3 b2_0 b2_1 b2_2 b2_3
    refine wp_region_fork2 [(0, false), (2, false), (3, false), (4, false)] [(5, true), (6, true), (7, false), (8, true)] [(1, true), (6, true), (7, false), (8, true)] 1 5 (fun u => At u w.heap.size 25 #[.int .i64 x0, .int .i64 x1, .int .i64 x2, .int .i64 x3]) (by kernel_rfl) (by kernel_rfl) (fun _ _ _ _ _ h => h) bxd ?_
    simp only [mixOps, List.map_cons, List.map_nil, List.getElem?_cons_succ, List.getElem?_cons_zero, Option.getD_some]
    iterate 4 (
      refine mixR_pure (v := ?_) (by rfl) (fun u hu => ?_) ?_
      rotate_left
      · obtain ⟨_, _, _, _, _, _, _, _⟩ := hu.four
        go_simp
        (with_reducible rfl)
      (try simp only [Act.put, List.setIfInBounds_toArray, List.set_cons_zero, List.set_cons_succ]))
    refine mixR_nil ⟨?_, ?_⟩
    · refine mixR_call (by rfl) (fun K hK => ?_)
      go_simp
      refine (l4Copy A n c l _ had hn (by omega)).mono ?_
      rintro e w3 ⟨A3, c3, rfl, o3, hb3⟩
      have o3 : Ow eH w3 w2.heap.size A3 n c3 l := o3
      have hB3 := hbd.trans (hb3.mono hbd.size)
      have bx3 := bxd.below hb3 bxd.lt
      have r3 := rd.below hb3 rd.lt
      refine hK _ _ _ (fun _ h => h) bx3 ?_
      (try simp only [Act.put, List.setIfInBounds_toArray, List.set_cons_zero, List.set_cons_succ])
      refine mixR_call (by rfl) (fun K hK => ?_)
      go_simp
      have hB4 := hB3.alloc hB3.size (.cells #[.int .i64 p, .int .i64 x0, .int .i64 x1, .int .i64 x2, .int .i64 x3, .int .i64 0, .int .i64 0] 89)
      have bx4 := bx3.alloc (.cells #[.int .i64 p, .int .i64 x0, .int .i64 x1, .int .i64 x2, .int .i64 x3, .int .i64 0, .int .i64 0] 89)
      have r4 := r3.alloc (.cells #[.int .i64 p, .int .i64 x0, .int .i64 x1, .int .i64 x2, .int .i64 x3, .int .i64 0, .int .i64 0] 89)
      have o4 := o3.alloc (.cells #[.int .i64 p, .int .i64 x0, .int .i64 x1, .int .i64 x2, .int .i64 x3, .int .i64 0, .int .i64 0] 89)
      have ob4 := rd_lit okH w3 89 [(p, (x0, x1, x2, x3), 0, 0)] #[.int .i64 p, .int .i64 x0, .int .i64 x1, .int .i64 x2, .int .i64 x3, .int .i64 0, .int .i64 0] rfl
      have hs4 : w2.heap.size ≤ (w3.alloc (.cells #[.int .i64 p, .int .i64 x0, .int .i64 x1, .int .i64 x2, .int .i64 x3, .int .i64 0, .int .i64 0] 89)).heap.size := by have := hb3.size; simp at this ⊢; omega
      refine hK _ _ _ (fun _ h => h) bx4 ?_
      (try simp only [Act.put, List.setIfInBounds_toArray, List.set_cons_zero, List.set_cons_succ])
      refine mixR_call (by rfl) (fun K hK => ?_)
      refine wp_append_ow okH _ (.tmp 37) (.tmp 41) _ rfl w2.heap.size info_hnt Tryz.underlying37 rfl A3 n c3 l rfl o4 _ 1 1 _ [(p, (x0, x1, x2, x3), 0, 0)] rfl ob4 rfl (by unfold maxLen; omega) (by omega) hs4 ?_
      intro A5 c5 w5 ow5 hg5 _
      have hB5 := hB4.grown hg5 hB4.size (fun g hg => by have := (o4.lt g hg).1; have := hB2.size; omega)
      have bx5 := bx4.grown hg5 (fun e => by have := (o4.lt _ e).1; have := bx2.lt; omega)
      have r5 := r4.grown hg5 (fun e => by have := (o4.lt _ e).1; have := r2.lt; omega)
      refine hK _ _ _ (fun _ h => h) bx5 ?_
      (try simp only [Act.put, List.setIfInBounds_toArray, List.set_cons_zero, List.set_cons_succ])
      refine mixR_pure (v := ?_) (by rfl) (fun u hu => ?_) ?_
      rotate_left
      · go_simp
        (with_reducible rfl)
      (try simp only [Act.put, List.setIfInBounds_toArray, List.set_cons_zero, List.set_cons_succ])
      obtain ⟨c0, c1, f0, f1⟩ := r5.two
      refine mixR_call (by rfl) (fun K hK => ?_)
      go_simp
      have r6 := r5.set 0 (.int .i64 0)
      have r7 := r6.set 1 (.slice A5 (n + 1) c5)
      refine hK _ _ _ (fun _ h => h) ((bx5.far (p := ⟨w.heap.size + 1, 0, none⟩) (by simp) _).far (p := ⟨w.heap.size + 1, 1, none⟩) (by simp) _) ?_
      (try simp only [Act.put, List.setIfInBounds_toArray, List.set_cons_zero, List.set_cons_succ])
      refine mixR_nil ?_
      go_wp2
      refine bodyPost_ret (v := .agg #[.int .i64 0, .slice A5 (n + 1) c5]) (by simp [results, Tryz.results123, go_sem, c0, c1]) rfl ?_
      exact ⟨_, _, _, rfl, (((ow5.under (p := ⟨w.heap.size + 1, 0, none⟩) r2.lt _).under (p := ⟨w.heap.size + 1, 1, none⟩) r2.lt _).from_ hB2.size), (hB5.setCell (by simp) _).setCell (by simp) _⟩
    · refine mixR_call (by rfl) (fun K hK => ?_)
      go_simp
      have hB3 := hB2.alloc hB2.size (.cells #[.int .i64 p, .int .i64 x0, .int .i64 x1, .int .i64 x2, .int .i64 x3, .int .i64 0, .int .i64 0] 89)
      have bx3 := (bx2.alloc (.cells #[.int .i64 p, .int .i64 x0, .int .i64 x1, .int .i64 x2, .int .i64 x3, .int .i64 0, .int .i64 0] 89)).drew
      have r3 := (r2.alloc (.cells #[.int .i64 p, .int .i64 x0, .int .i64 x1, .int .i64 x2, .int .i64 x3, .int .i64 0, .int .i64 0] 89)).drew
      have ha3 := ha2.lift ((Below.refl w2.heap.size w2).alloc (Nat.le_refl _) (.cells #[.int .i64 p, .int .i64 x0, .int .i64 x1, .int .i64 x2, .int .i64 x3, .int .i64 0, .int .i64 0] 89))
      have ob3 := rd_lit okH w2 89 [(p, (x0, x1, x2, x3), 0, 0)] #[.int .i64 p, .int .i64 x0, .int .i64 x1, .int .i64 x2, .int .i64 x3, .int .i64 0, .int .i64 0] rfl
      refine hK _ _ _ (fun _ h => h) bx3 ?_
      (try simp only [Act.put, List.setIfInBounds_toArray, List.set_cons_zero, List.set_cons_succ])
      refine mixR_call (by rfl) (fun K hK => ?_)
      go_simp
      refine (l4Copy A n c l _ (ha3.drewN 1) hn (by omega)).mono ?_
      rintro e w4 ⟨A3, c3, rfl, o3, hb4⟩
      have hB4 := hB3.drew.trans (hb4.mono hB3.size)
      have bx4 := bx3.below hb4 bx3.lt
      have r4 := r3.below hb4 r3.lt
      have o4 : Ow eH w4 w2.heap.size A3 n c3 l := o3.from_ (by simp)
      have ob4 := (ob3.drewN 1).below hb4 (by simp)
      have hs4 : w2.heap.size ≤ w4.heap.size := by have := hb4.size; simp at this; omega
      refine hK _ _ _ (fun _ h => h) bx4 ?_
      (try simp only [Act.put, List.setIfInBounds_toArray, List.set_cons_zero, List.set_cons_succ])
      refine mixR_call (by rfl) (fun K hK => ?_)
      refine wp_append_ow okH _ (.tmp 37) (.tmp 41) _ rfl w2.heap.size info_hnt Tryz.underlying37 rfl A3 n c3 l rfl o4 _ 1 1 _ [(p, (x0, x1, x2, x3), 0, 0)] rfl ob4 rfl (by unfold maxLen; omega) (by omega) hs4 ?_
      intro A5 c5 w5 ow5 hg5 _
      have hB5 := hB4.grown hg5 hB4.size (fun g hg => by have := (o4.lt g hg).1; have := hB2.size; omega)
      have bx5 := bx4.grown hg5 (fun e => by have := (o4.lt _ e).1; have := bx2.lt; omega)
      have r5 := r4.grown hg5 (fun e => by have := (o4.lt _ e).1; have := r2.lt; omega)
      refine hK _ _ _ (fun _ h => h) bx5 ?_
      (try simp only [Act.put, List.setIfInBounds_toArray, List.set_cons_zero, List.set_cons_succ])
      refine mixR_pure (v := ?_) (by rfl) (fun u hu => ?_) ?_
      rotate_left
      · go_simp
        (with_reducible rfl)
      (try simp only [Act.put, List.setIfInBounds_toArray, List.set_cons_zero, List.set_cons_succ])
      obtain ⟨c0, c1, f0, f1⟩ := r5.two
      refine mixR_call (by rfl) (fun K hK => ?_)
      go_simp
      have r6 := r5.set 0 (.int .i64 0)
      have r7 := r6.set 1 (.slice A5 (n + 1) c5)
      refine hK _ _ _ (fun _ h => h) ((bx5.far (p := ⟨w.heap.size + 1, 0, none⟩) (by simp) _).far (p := ⟨w.heap.size + 1, 1, none⟩) (by simp) _) ?_
      (try simp only [Act.put, List.setIfInBounds_toArray, List.set_cons_zero, List.set_cons_succ])
      refine mixR_nil ?_
      go_wp2
      refine bodyPost_ret (v := .agg #[.int .i64 0, .slice A5 (n + 1) c5]) (by simp [results, Tryz.results123, go_sem, c0, c1]) rfl ?_
      exact ⟨_, _, _, rfl, (((ow5.under (p := ⟨w.heap.size + 1, 0, none⟩) r2.lt _).under (p := ⟨w.heap.size + 1, 1, none⟩) r2.lt _).from_ hB2.size), (hB5.setCell (by simp) _).setCell (by simp) _⟩
end Go.Proofs.YteiclanlhnccnaaGreatDoor
