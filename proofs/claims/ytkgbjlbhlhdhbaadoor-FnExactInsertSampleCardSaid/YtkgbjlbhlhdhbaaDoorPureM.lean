/-
  What is sorted of what samplesByKey keeps is what the model merges.
-/
import Derived.Test.YtkgbjlbhlhdhbaaDoorPureL
import Derived.Test.YtkgbjlbhlhdhbaaDoorFindP
import Derived.Sort.LotA
namespace Go.Proofs.YtkgbjlbhlhdhbaaDoor
set_option maxRecDepth 20000
open Go.RowKit Go.Sort
set_option linter.unusedSimpArgs false
set_option linter.unusedVariables false

theorem ahead_self (x : Smp) : aheadM x x = false := by
  rcases h : aheadM x x
  · rfl
  · have := (ahead_iff x x).1 h
    omega
theorem ltOf_keys (x y : Smp) : ltOf keysM x y = aheadM x y := keysM_ahead x y
theorem swoKeys : SWO (ltOf keysM) where
  irrefl x := by rw [ltOf_keys]; exact ahead_self x
  trans x y z h k := by rw [ltOf_keys] at *; exact ahead_trans h k
  ntrans x y z h k := by
    rw [ltOf_keys] at *
    rcases hc : aheadM x z
    · rfl
    · have h1 := (ahead_iff x z).1 hc
      have h2 : ¬ (x.1 < y.1 ∨ (x.1 = y.1 ∧ (x.2.1 < y.2.1 ∨ (x.2.1 = y.2.1 ∧ x.2.2.1 < y.2.2.1)))) := fun e => by rw [(ahead_iff x y).2 e] at h; cases h
      have h3 : ¬ (y.1 < z.1 ∨ (y.1 = z.1 ∧ (y.2.1 < z.2.1 ∨ (y.2.1 = z.2.1 ∧ y.2.2.1 < z.2.2.1)))) := fun e => by rw [(ahead_iff y z).2 e] at k; cases k
      omega

def Apart (l : List Smp) : Prop := l.Pairwise fun a b => sameKeyM a b = false
theorem asc_apart {l : List Smp} (h : Asc l) : Apart l := h.imp fun {a b} k => ahead_not_same k
theorem first_none {L : List Smp} {y : Smp} : firstM L y = none ↔ ∀ x ∈ L, sameKeyM y x = false := by
  unfold firstM
  rw [List.find?_eq_none]
  simp
theorem step_apart {acc : List Smp} {x : Smp} (h : Apart acc) : Apart (keyStep acc x) := by
  unfold keyStep
  split
  · exact h
  · rename_i hn
    have hn' : firstM acc x = none := by
      rcases hf : firstM acc x with _ | y
      · rfl
      · rw [hf] at hn; simp at hn
    refine List.pairwise_append.2 ⟨h, List.pairwise_singleton _ _, fun a ha b hb => ?_⟩
    obtain rfl : b = x := by simpa using hb
    rw [same_symm]
    exact first_none.1 hn' a ha
theorem fold_apart : ∀ (l acc : List Smp), Apart acc → Apart (l.foldl keyStep acc)
  | [], _, h => h
  | x :: l, acc, h => fold_apart l _ (step_apart h)
theorem byKey_apart (l : List Smp) : Apart (byKeyM l) := fold_apart l [] List.Pairwise.nil
theorem mem_step (acc : List Smp) (x y : Smp) : y ∈ keyStep acc x ↔ y ∈ acc ∨ (y = x ∧ firstM acc x = none) := by
  unfold keyStep
  split
  · rename_i h
    constructor
    · exact fun k => .inl k
    · rintro (k | ⟨rfl, k⟩)
      · exact k
      · rw [k] at h; cases h
  · rename_i h
    have hn : firstM acc x = none := by
      rcases hf : firstM acc x with _ | z
      · rfl
      · rw [hf] at h; simp at h
    simp [hn]
theorem mem_fold : ∀ (l : List Smp), Apart l → ∀ (acc : List Smp) (y : Smp), y ∈ l.foldl keyStep acc ↔ y ∈ acc ∨ (y ∈ l ∧ firstM acc y = none)
  | [], _, acc, y => by simp
  | x :: l, h, acc, y => by
    obtain ⟨h1, h2⟩ := List.pairwise_cons.1 h
    rw [List.foldl_cons, mem_fold l h2, mem_step]
    have key : y ∈ l → (firstM (keyStep acc x) y = none ↔ firstM acc y = none) := fun hy => by
      rw [first_step, first_append, first_cons, same_symm, h1 y hy]
      simp [firstM]
    constructor
    · rintro ((k | ⟨rfl, k⟩) | ⟨k, k2⟩)
      · exact .inl k
      · exact .inr ⟨List.mem_cons_self, k⟩
      · exact .inr ⟨List.mem_cons_of_mem _ k, (key k).1 k2⟩
    · rintro (k | ⟨k, k2⟩)
      · exact .inl (.inl k)
      · rcases List.mem_cons.1 k with rfl | k
        · exact .inl (.inr ⟨rfl, k2⟩)
        · exact .inr ⟨k, (key k).2 k2⟩
theorem mem_both {a b : List Smp} (ha : Asc a) (hb : Asc b) (y : Smp) : y ∈ byKeyM (a ++ b) ↔ y ∈ a ∨ (y ∈ b ∧ findI a y < 0) := by
  have e : byKeyM (a ++ b) = b.foldl keyStep (byKeyM a) := by unfold byKeyM; rw [List.foldl_append]
  have ea : y ∈ byKeyM a ↔ y ∈ a := by
    unfold byKeyM
    rw [mem_fold a (asc_apart ha)]
    simp [firstM]
  rw [e, mem_fold b (asc_apart hb), ea, first_byKey, first_none, findI_neg]
  constructor
  · rintro (k | ⟨k, k2⟩)
    · exact .inl k
    · exact .inr ⟨k, fun z hz => by rw [same_symm]; exact k2 z hz⟩
  · rintro (k | ⟨k, k2⟩)
    · exact .inl k
    · exact .inr ⟨k, fun z hz => by rw [same_symm]; exact k2 z hz⟩
theorem mem_mergeFold (a : List Smp) : ∀ (b out : List Smp) (y : Smp), y ∈ b.foldl (mergeStep a) out ↔ y ∈ out ∨ (y ∈ b ∧ findI a y < 0)
  | [], out, y => by simp
  | x :: b, out, y => by
    rw [List.foldl_cons, mem_mergeFold a b]
    unfold mergeStep
    by_cases h : findI a x < 0
    · rw [if_pos h, mem_insM]
      constructor
      · rintro ((rfl | k) | ⟨k, k2⟩)
        · exact .inr ⟨List.mem_cons_self, h⟩
        · exact .inl k
        · exact .inr ⟨List.mem_cons_of_mem _ k, k2⟩
      · rintro (k | ⟨k, k2⟩)
        · exact .inl (.inr k)
        · rcases List.mem_cons.1 k with rfl | k
          · exact .inl (.inl rfl)
          · exact .inr ⟨k, k2⟩
    · rw [if_neg h]
      constructor
      · rintro (k | ⟨k, k2⟩)
        · exact .inl k
        · exact .inr ⟨List.mem_cons_of_mem _ k, k2⟩
      · rintro (k | ⟨k, k2⟩)
        · exact .inl k
        · rcases List.mem_cons.1 k with rfl | k
          · exact absurd k2 h
          · exact .inr ⟨k, k2⟩

theorem asc_nodup {l : List Smp} (h : Asc l) : l.Nodup := h.imp fun {a b} k e => by
  subst e
  rw [ahead_self] at k
  cases k
theorem asc_eq {l m : List Smp} (hl : Asc l) (hm : Asc m) (h : ∀ y, y ∈ l ↔ y ∈ m) : l = m := by
  refine List.Perm.eq_of_pairwise (le := fun x y => aheadM x y = true) ?_ hl hm ((List.perm_ext_iff_of_nodup (asc_nodup hl) (asc_nodup hm)).2 h)
  intro a b _ _ h1 h2
  rcases keyOrd a b with ⟨_, k, _⟩ | ⟨k, _⟩ | ⟨k, _⟩
  · rw [k] at h2; cases h2
  · rw [k] at h1; cases h1
  · rw [k] at h1; cases h1
theorem merge_asc {a b : List Smp} (ha : storeFaultM a = 0) (hb : storeFaultM b = 0) : Asc (mergeM a b) := by
  obtain ⟨_, ra, sa⟩ := (storeFault_iff a).1 ha
  obtain ⟨_, rb, sb⟩ := (storeFault_iff b).1 hb
  exact (merge_facts a sa ra b sb rb a sa ra (fun _ h => h) (fun y hy => .inl ⟨y, hy, rfl⟩)).1
/-- What is in order and holds just what samplesByKey keeps is what the model merges. -/
theorem merge_is {a b ys : List Smp} (ha : storeFaultM a = 0) (hb : storeFaultM b = 0) (hp : ys.Perm (byKeyM (a ++ b))) (hs : ys.Pairwise fun x y => aheadM y x = false) : ys = mergeM a b := by
  obtain ⟨_, _, sa⟩ := (storeFault_iff a).1 ha
  obtain ⟨_, _, sb⟩ := (storeFault_iff b).1 hb
  have hap : Apart ys := (hp.symm.pairwise_iff (fun {x y} (k : sameKeyM x y = false) => by rw [same_symm]; exact k)).1 (byKey_apart _)
  have hasc : Asc ys := by
    refine (hs.and hap).imp fun {x y} k => ?_
    rcases keyOrd x y with ⟨k1, _⟩ | ⟨_, k1, _⟩ | ⟨_, _, k1⟩
    · exact k1
    · rw [k.1] at k1; cases k1
    · rw [k.2] at k1; cases k1
  refine asc_eq hasc (merge_asc ha hb) fun y => ?_
  rw [hp.mem_iff, mem_both sa sb]
  unfold mergeM
  rw [mem_mergeFold]
/-- A row as the sort leaves it. -/
theorem sorted_pairs {d : Array Smp} (h : SortedIn (ltOf keysM) 0 d.size d) : d.toList.Pairwise fun x y => aheadM y x = false := by
  rw [List.pairwise_iff_getElem]
  intro i j hi hj hij
  have hi' : i < d.size := by simpa using hi
  have hj' : j < d.size := by simpa using hj
  have := h i j (Nat.zero_le _) hij hj'
  rw [ltOf_keys, getElem!_pos d j hj', getElem!_pos d i hi'] at this
  simpa using this
end Go.Proofs.YtkgbjlbhlhdhbaaDoor
