/-
  Texts of one proof, joined: each has its own namespace.
-/
import Derived.Test.YteiclanlhnccnaaGreatDoorBExApplyRecord12
import Derived.Test.YteiclanlhnccnaaGreatDoorBExApplyRecord7
import Derived.Deep.DeepCutAuto
import Derived.Test.YteiclanlhnccnaaGreatDoorBExApplyRecord6
import Derived.Sort.LotA
import Derived.Test.YteiclanlhnccnaaGreatDoorBExApplyRecord0
import Derived.Sort.Grow
import Derived.Test.YteiclanlhnccnaaGreatDoorBExApplyRecord11
import Derived.Test.YteiclanlhnccnaaGreatDoorBExApplyRecord2
import Derived.RangeFuncNested
import Derived.RangeFuncBound
import Derived.RangeFuncLeaves
import Derived.OwnWalkIn
import Derived.TacticsInMore
import Derived.RegionIn
import Derived.LoopNIn
import Derived.LoopIn
import Derived.Shelf.Abstract
import Derived.Shelf.AbstractIn
import Derived.Test.YteiclanlhnccnaaGreatDoorBExApplyRecord5
import Derived.Maps.RangeRun
import Derived.Maps.Range
import Derived.Sort.MapsRangeIn
/-
  The program's FindSample.
-/
namespace Go.Proofs.YteiclanlhnccnaaGreatDoor
set_option maxRecDepth 20000
open Go.RowKit Go.Shelf
set_option linter.unusedSimpArgs false
set_option linter.unusedVariables false

theorem sameKey_symm (a b : Smp) : sameKeyM a b = sameKeyM b a := by
  unfold sameKeyM
  by_cases h0 : a.1 = b.1 <;> by_cases h1 : a.2.1 = b.2.1 <;> by_cases h2 : a.2.2.1 = b.2.2.1 <;> simp [h0, h1, h2, eq_comm]
theorem sameKey_iff {a b : Smp} : sameKeyM a b = true ↔ a.1 = b.1 ∧ a.2.1 = b.2.1 ∧ a.2.2.1 = b.2.2.1 := by simp [sameKeyM]
theorem sameKey_trans {a b c : Smp} (h : sameKeyM a b = true) (k : sameKeyM b c = true) : sameKeyM a c = true := by
  rw [sameKey_iff] at *
  exact ⟨h.1.trans k.1, h.2.1.trans k.2.1, h.2.2.trans k.2.2⟩
theorem first_cons (x : Smp) (L : List Smp) (y : Smp) : firstS (x :: L) y = if sameKeyM y x then some x else firstS L y := by
  unfold firstS
  rw [List.find?_cons]
  cases sameKeyM y x <;> rfl
theorem first_append (L M : List Smp) (y : Smp) : firstS (L ++ M) y = (firstS L y).or (firstS M y) := by
  unfold firstS
  rw [List.find?_append]
theorem first_is {L : List Smp} {y x : Smp} (h : firstS L y = some x) : sameKeyM y x = true ∧ x ∈ L := by
  unfold firstS at h
  exact ⟨List.find?_some h, List.mem_of_find?_eq_some h⟩
theorem first_same {L : List Smp} {y x : Smp} (h : sameKeyM y x = true) : firstS L y = firstS L x := by
  unfold firstS
  congr 1
  funext z
  rw [Bool.eq_iff_iff]
  constructor
  · exact fun k => sameKey_trans (by rw [sameKey_symm]; exact h) k
  · exact fun k => sameKey_trans h k
/-- The first of a key is the same in what samplesByKey keeps. -/
theorem first_step (acc : List Smp) (x y : Smp) : firstS (keyStep acc x) y = firstS (acc ++ [x]) y := by
  unfold keyStep
  split
  · rename_i h
    rw [first_append, first_cons]
    rcases hs : sameKeyM y x
    · simp [firstS]
    · rw [first_same hs]
      obtain ⟨z, hz⟩ := Option.isSome_iff_exists.1 h
      rw [hz]
      rfl
  · rfl
theorem first_fold : ∀ (l acc : List Smp) (y : Smp), firstS (l.foldl keyStep acc) y = firstS (acc ++ l) y
  | [], acc, y => by simp
  | x :: l, acc, y => by
    rw [List.foldl_cons, first_fold l, first_append, first_step, ← first_append]
    simp
theorem first_byKey (l : List Smp) (y : Smp) : firstS (byKeyM l) y = firstS l y := by
  unfold byKeyM
  rw [first_fold]
  rfl
theorem find_is (l : List Smp) (y : Smp) : (match findM l y with | some i => ((0 : Int), (l[i]?).getD (0, 0, 0, 0)) | none => (4, (0, 0, 0, 0))) = match firstS l y with | some x => (0, x) | none => (4, (0, 0, 0, 0)) := by
  rcases hf : findM l y with _ | i
  · have h1 := hf
    unfold findM at h1
    rw [List.find?_range_eq_none] at h1
    have h2 : firstS l y = none := by
      unfold firstS
      rw [List.find?_eq_none]
      intro x hx
      obtain ⟨i, hi⟩ := List.mem_iff_getElem?.1 hx
      have h3 := h1 i (getElem?_some_lt hi)
      rw [hitM_at hi] at h3
      rw [sameKey_symm]
      simpa using h3
    rw [h2]
  · have h1 := hf
    unfold findM at h1
    rw [List.find?_range_eq_some] at h1
    obtain ⟨h1, h2, h3⟩ := h1
    have hi : i < l.length := by simpa using h2
    have hx : l[i]? = some l[i] := List.getElem?_eq_getElem hi
    rw [hitM_at hx] at h1
    have h4 : firstS l y = some l[i] := by
      unfold firstS
      rw [List.find?_eq_some_iff_getElem]
      refine ⟨by rw [sameKey_symm]; exact h1, i, hi, rfl, fun j hj => ?_⟩
      have h5 := h3 j hj
      rw [hitM_at (List.getElem?_eq_getElem (by omega : j < l.length))] at h5
      rw [sameKey_symm]
      simpa using h5
    rw [h4]
    show ((0 : Int), (l[i]?).getD (0, 0, 0, 0)) = (0, l[i])
    rw [hx]
    rfl

theorem flat_one (A : Option Addr) (n c : Nat) (l : List Smp) : flat [(A, n, c, l)] = l := by simp [flat]
theorem rows_one {w : World} {T G : Nat} {A : Option Addr} {n c : Nat} {l : List Smp} (ha : Rd eS w w.heap.size A l) (hn : l.length = n) (hm : n ≤ 1000) (hG : w.heap.size = G) : Rows4 (w.alloc (.cells #[.slice A n c] T)) G [(A, n, c, l)] := fun i r hr => by
  subst hG
  match i, hr with
  | 0, hr =>
    obtain rfl : (A, n, c, l) = r := by simpa using hr
    exact ⟨(At.new w T #[.slice A n c]).cell 0, ha.lift ((Below.refl _ _).alloc (Nat.le_refl _) _), hn, hm⟩
  | i + 1, hr => simp at hr

end Go.Proofs.YteiclanlhnccnaaGreatDoor
/-
  What is sorted of what samplesByKey keeps is what the model merges.
-/
namespace Go.Proofs.YteiclanlhnccnaaGreatDoor
set_option maxRecDepth 20000
open Go.RowKit Go.Sort
set_option linter.unusedSimpArgs false
set_option linter.unusedVariables false

theorem ahead_self (x : Smp) : aheadM x x = false := by
  rcases h : aheadM x x
  · rfl
  · have := (ahead_iff x x).1 h
    omega
theorem ltOf_keys (x y : Smp) : ltOf keysM x y = aheadM x y := keysM_ahead x y
theorem swoKeys : SWO (ltOf keysM) where
  irrefl x := by rw [ltOf_keys]; exact ahead_self x
  trans x y z h k := by rw [ltOf_keys] at *; exact ahead_trans h k
  ntrans x y z h k := by
    rw [ltOf_keys] at *
    rcases hc : aheadM x z
    · rfl
    · have h1 := (ahead_iff x z).1 hc
      have h2 : ¬ (x.1 < y.1 ∨ (x.1 = y.1 ∧ (x.2.1 < y.2.1 ∨ (x.2.1 = y.2.1 ∧ x.2.2.1 < y.2.2.1)))) := fun e => by rw [(ahead_iff x y).2 e] at h; cases h
      have h3 : ¬ (y.1 < z.1 ∨ (y.1 = z.1 ∧ (y.2.1 < z.2.1 ∨ (y.2.1 = z.2.1 ∧ y.2.2.1 < z.2.2.1)))) := fun e => by rw [(ahead_iff y z).2 e] at k; cases k
      omega

def Apart (l : List Smp) : Prop := l.Pairwise fun a b => sameKeyM a b = false
theorem asc_apart {l : List Smp} (h : Asc l) : Apart l := h.imp fun {a b} k => ahead_not_same k
theorem first_none {L : List Smp} {y : Smp} : firstS L y = none ↔ ∀ x ∈ L, sameKeyM y x = false := by
  unfold firstS
  rw [List.find?_eq_none]
  simp
theorem step_apart {acc : List Smp} {x : Smp} (h : Apart acc) : Apart (keyStep acc x) := by
  unfold keyStep
  split
  · exact h
  · rename_i hn
    have hn' : firstS acc x = none := by
      rcases hf : firstS acc x with _ | y
      · rfl
      · rw [hf] at hn; simp at hn
    refine List.pairwise_append.2 ⟨h, List.pairwise_singleton _ _, fun a ha b hb => ?_⟩
    obtain rfl : b = x := by simpa using hb
    rw [same_symm]
    exact first_none.1 hn' a ha
theorem fold_apart : ∀ (l acc : List Smp), Apart acc → Apart (l.foldl keyStep acc)
  | [], _, h => h
  | x :: l, acc, h => fold_apart l _ (step_apart h)
theorem byKey_apart (l : List Smp) : Apart (byKeyM l) := fold_apart l [] List.Pairwise.nil
theorem mem_step (acc : List Smp) (x y : Smp) : y ∈ keyStep acc x ↔ y ∈ acc ∨ (y = x ∧ firstS acc x = none) := by
  unfold keyStep
  split
  · rename_i h
    constructor
    · exact fun k => .inl k
    · rintro (k | ⟨rfl, k⟩)
      · exact k
      · rw [k] at h; cases h
  · rename_i h
    have hn : firstS acc x = none := by
      rcases hf : firstS acc x with _ | z
      · rfl
      · rw [hf] at h; simp at h
    simp [hn]
theorem mem_fold : ∀ (l : List Smp), Apart l → ∀ (acc : List Smp) (y : Smp), y ∈ l.foldl keyStep acc ↔ y ∈ acc ∨ (y ∈ l ∧ firstS acc y = none)
  | [], _, acc, y => by simp
  | x :: l, h, acc, y => by
    obtain ⟨h1, h2⟩ := List.pairwise_cons.1 h
    rw [List.foldl_cons, mem_fold l h2, mem_step]
    have key : y ∈ l → (firstS (keyStep acc x) y = none ↔ firstS acc y = none) := fun hy => by
      rw [first_step, first_append, first_cons, same_symm, h1 y hy]
      simp [firstS]
    constructor
    · rintro ((k | ⟨rfl, k⟩) | ⟨k, k2⟩)
      · exact .inl k
      · exact .inr ⟨List.mem_cons_self, k⟩
      · exact .inr ⟨List.mem_cons_of_mem _ k, (key k).1 k2⟩
    · rintro (k | ⟨k, k2⟩)
      · exact .inl (.inl k)
      · rcases List.mem_cons.1 k with rfl | k
        · exact .inl (.inr ⟨rfl, k2⟩)
        · exact .inr ⟨k, (key k).2 k2⟩
theorem mem_both {a b : List Smp} (ha : Asc a) (hb : Asc b) (y : Smp) : y ∈ byKeyM (a ++ b) ↔ y ∈ a ∨ (y ∈ b ∧ findI a y < 0) := by
  have e : byKeyM (a ++ b) = b.foldl keyStep (byKeyM a) := by unfold byKeyM; rw [List.foldl_append]
  have ea : y ∈ byKeyM a ↔ y ∈ a := by
    unfold byKeyM
    rw [mem_fold a (asc_apart ha)]
    simp [firstS]
  rw [e, mem_fold b (asc_apart hb), ea, first_byKey, first_none, findI_neg]
  constructor
  · rintro (k | ⟨k, k2⟩)
    · exact .inl k
    · exact .inr ⟨k, fun z hz => by rw [same_symm]; exact k2 z hz⟩
  · rintro (k | ⟨k, k2⟩)
    · exact .inl k
    · exact .inr ⟨k, fun z hz => by rw [same_symm]; exact k2 z hz⟩
theorem mem_mergeFold (a : List Smp) : ∀ (b out : List Smp) (y : Smp), y ∈ b.foldl (mergeStep a) out ↔ y ∈ out ∨ (y ∈ b ∧ findI a y < 0)
  | [], out, y => by simp
  | x :: b, out, y => by
    rw [List.foldl_cons, mem_mergeFold a b]
    unfold mergeStep
    by_cases h : findI a x < 0
    · rw [if_pos h, mem_insM]
      constructor
      · rintro ((rfl | k) | ⟨k, k2⟩)
        · exact .inr ⟨List.mem_cons_self, h⟩
        · exact .inl k
        · exact .inr ⟨List.mem_cons_of_mem _ k, k2⟩
      · rintro (k | ⟨k, k2⟩)
        · exact .inl (.inr k)
        · rcases List.mem_cons.1 k with rfl | k
          · exact .inl (.inl rfl)
          · exact .inr ⟨k, k2⟩
    · rw [if_neg h]
      constructor
      · rintro (k | ⟨k, k2⟩)
        · exact .inl k
        · exact .inr ⟨List.mem_cons_of_mem _ k, k2⟩
      · rintro (k | ⟨k, k2⟩)
        · exact .inl k
        · rcases List.mem_cons.1 k with rfl | k
          · exact absurd k2 h
          · exact .inr ⟨k, k2⟩

theorem asc_nodup {l : List Smp} (h : Asc l) : l.Nodup := h.imp fun {a b} k e => by
  subst e
  rw [ahead_self] at k
  cases k
theorem asc_eq {l m : List Smp} (hl : Asc l) (hm : Asc m) (h : ∀ y, y ∈ l ↔ y ∈ m) : l = m := by
  refine List.Perm.eq_of_pairwise (le := fun x y => aheadM x y = true) ?_ hl hm ((List.perm_ext_iff_of_nodup (asc_nodup hl) (asc_nodup hm)).2 h)
  intro a b _ _ h1 h2
  rcases keyOrd a b with ⟨_, k, _⟩ | ⟨k, _⟩ | ⟨k, _⟩
  · rw [k] at h2; cases h2
  · rw [k] at h1; cases h1
  · rw [k] at h1; cases h1
theorem merge_asc {a b : List Smp} (ha : storeFaultM a = 0) (hb : storeFaultM b = 0) : Asc (mergeM a b) := by
  obtain ⟨_, ra, sa⟩ := (storeFault_iff a).1 ha
  obtain ⟨_, rb, sb⟩ := (storeFault_iff b).1 hb
  exact (merge_facts a sa ra b sb rb a sa ra (fun _ h => h) (fun y hy => .inl ⟨y, hy, rfl⟩)).1
/-- What is in order and holds just what samplesByKey keeps is what the model merges. -/
theorem merge_is {a b ys : List Smp} (ha : storeFaultM a = 0) (hb : storeFaultM b = 0) (hp : ys.Perm (byKeyM (a ++ b))) (hs : ys.Pairwise fun x y => aheadM y x = false) : ys = mergeM a b := by
  obtain ⟨_, _, sa⟩ := (storeFault_iff a).1 ha
  obtain ⟨_, _, sb⟩ := (storeFault_iff b).1 hb
  have hap : Apart ys := (hp.symm.pairwise_iff (fun {x y} (k : sameKeyM x y = false) => by rw [same_symm]; exact k)).1 (byKey_apart _)
  have hasc : Asc ys := by
    refine (hs.and hap).imp fun {x y} k => ?_
    rcases keyOrd x y with ⟨k1, _⟩ | ⟨_, k1, _⟩ | ⟨_, _, k1⟩
    · exact k1
    · rw [k.1] at k1; cases k1
    · rw [k.2] at k1; cases k1
  refine asc_eq hasc (merge_asc ha hb) fun y => ?_
  rw [hp.mem_iff, mem_both sa sb]
  unfold mergeM
  rw [mem_mergeFold]
/-- A row as the sort leaves it. -/
theorem sorted_pairs {d : Array Smp} (h : SortedIn (ltOf keysM) 0 d.size d) : d.toList.Pairwise fun x y => aheadM y x = false := by
  rw [List.pairwise_iff_getElem]
  intro i j hi hj hij
  have hi' : i < d.size := by simpa using hi
  have hj' : j < d.size := by simpa using hj
  have := h i j (Nat.zero_le _) hij hj'
  rw [ltOf_keys, getElem!_pos d j hj', getElem!_pos d i hi'] at this
  simpa using this
end Go.Proofs.YteiclanlhnccnaaGreatDoor
/-
  compareKeys once more, with the very world behind it: what the sort asks of it.
-/
namespace Go.Proofs.YteiclanlhnccnaaGreatDoor
set_option maxRecDepth 20000
open Go.RowKit Go.Sort
set_option linter.unusedSimpArgs false

theorem grown3 (w : World) (a b c : Obj) : ∃ q os', ((w.alloc a).alloc b |>.alloc c).drew = grow (w.drewN q) os' := by
  refine ⟨1, #[a] ++ #[b] ++ #[c], ?_⟩
  rw [alloc_eq_grow, alloc_eq_grow, alloc_eq_grow, grow_grow, grow_grow]
  rfl

set_option maxHeartbeats 1000000 in
set_option maxRecDepth 20000 in
theorem compareKeysG (a0 a1 a2 a3 b0 b1 b2 b3 : Int) (w : World) :
    Calls Tryz.prog 165 #[.agg #[.int .i64 a0, .int .i64 a1, .int .i64 a2, .int .i64 a3], .agg #[.int .i64 b0, .int .i64 b1, .int .i64 b2, .int .i64 b3]] w fun e w' =>
      e = .returned (.int .i64 (keysM (a0, a1, a2, a3) (b0, b1, b2, b3))) ∧ ∃ q os', w' = grow (w.drewN q) os' := by
  go_enter Tryz.func165, Tryz.ntmps165
  go_wp2
  refine wp_region_mix [(0, false), (1, false), (2, false), (3, false), (5, false), (6, false), (7, false), (8, false), (10, false), (11, false), (12, false), (13, false), (4, true), (9, true), (14, true), (15, true), (16, true), (17, false)] (fun u => u.cell? ⟨w.heap.size, 0, none⟩ = some (.int .i64 a0) ∧ u.cell? ⟨w.heap.size, 1, none⟩ = some (.int .i64 a1) ∧ u.cell? ⟨w.heap.size, 2, none⟩ = some (.int .i64 a2) ∧ u.cell? ⟨w.heap.size + 1, 0, none⟩ = some (.int .i64 b0) ∧ u.cell? ⟨w.heap.size + 1, 1, none⟩ = some (.int .i64 b1) ∧ u.cell? ⟨w.heap.size + 1, 2, none⟩ = some (.int .i64 b2)) (by kernel_rfl) (by kernel_rfl) (fun _ _ _ _ _ h => h) (by go_simp) ?_
  simp only [mixOps, List.map_cons, List.map_nil, List.getElem?_cons_succ, List.getElem?_cons_zero, Option.getD_some]
  repeat (first
    | (refine mix_skip (by rfl) ?_
       (try simp only [Act.put, List.setIfInBounds_toArray, List.set_cons_zero, List.set_cons_succ]))
    | (refine mix_pure (v := ?_) (by rfl) (fun u hu => ?_) ?_
       rotate_left
       · obtain ⟨_, _, _, _, _, _⟩ := hu
         go_simp
         (with_reducible rfl)
       (try simp only [Act.put, List.setIfInBounds_toArray, List.set_cons_zero, List.set_cons_succ])))
  iterate 3
    refine mix_call (by rfl) (fun K hK => ?_)
    go_simp
    refine (cmpCompare _ _ _).mono ?_
    rintro e w1 ⟨rfl, rfl⟩
    refine hK _ _ _ (fun _ h => h) (by go_simp) ?_
    (try simp only [Act.put, List.setIfInBounds_toArray, List.set_cons_zero, List.set_cons_succ])
  refine mix_call (by rfl) (fun K hK => ?_)
  go_simp
  refine hK _ _ _ (fun _ h => h) (by go_simp) ?_
  (try simp only [Act.put, List.setIfInBounds_toArray, List.set_cons_zero, List.set_cons_succ])
  refine mix_call (by rfl) (fun K hK => ?_)
  go_simp
  refine (cmpOr _ 3 _ [cmpM a0 b0, cmpM a1 b1, cmpM a2 b2] _ (ints_three (by simp)) rfl (by omega)).mono ?_
  rintro e w1 ⟨rfl, rfl⟩
  refine hK _ _ _ (fun _ h => h) (by go_simp) ?_
  (try simp only [Act.put, List.setIfInBounds_toArray, List.set_cons_zero, List.set_cons_succ])
  refine mix_pure (v := ?_) (by rfl) (fun u hu => ?_) ?_
  rotate_left
  · go_simp
    (with_reducible rfl)
  (try simp only [Act.put, List.setIfInBounds_toArray, List.set_cons_zero, List.set_cons_succ])
  refine mix_nil ?_
  go_wp2
  go_ret
  exact ⟨rfl, grown3 _ _ _ _⟩
end Go.Proofs.YteiclanlhnccnaaGreatDoor
/-
  slices.SortFunc over a row of samples of the call's own, by compareKeys.
-/
namespace Go.Proofs.YteiclanlhnccnaaGreatDoor
set_option maxRecDepth 20000
open Go.RowKit Go.Sort Go.Shelf
set_option linter.unusedSimpArgs false
set_option linter.unusedVariables false

theorem cell_row {x : Smp} {j : Nat} (hj : j < 4) : (smpCells x)[j]? = some ((smpCells x)[j]!) := by
  have : j < (smpCells x).length := hj
  rw [List.getElem?_eq_getElem this, getElem!_pos (smpCells x) j this]
theorem flatK_row (d : Array Smp) : (flatK smpCells 4 d).toList = eS.row d.toList := by
  apply List.ext_getElem?
  intro i
  rcases Nat.lt_or_ge i (d.size * 4) with h | h
  · have hk : i / 4 < d.size := by omega
    have hd : d.toList[i / 4]? = some d[i / 4]! := by
      rw [Array.getElem?_toList, Array.getElem?_eq_getElem hk, getElem!_pos d _ hk]
    have h1 := okS.row_at d.toList (i / 4) (i % 4) _ hd (Nat.mod_lt _ (by decide))
    rw [show i / 4 * eS.size + i % 4 = i by show i / 4 * 4 + i % 4 = i; omega] at h1
    rw [h1, Array.getElem?_toList]
    have hs : i < (flatK smpCells 4 d).size := by simpa using h
    have h2 := get_flatK smpCells 4 d i h
    rw [getElem!_pos (flatK smpCells 4 d) i hs] at h2
    rw [Array.getElem?_eq_getElem hs, h2]
    exact (cell_row (Nat.mod_lt _ (by decide))).symm
  · rw [List.getElem?_eq_none (by simpa using h), List.getElem?_eq_none (by rw [okS.row_len]; simpa [eS] using h)]
theorem holdsK_of {w : World} {base g n c : Nat} {l : List Smp} (how : Ow eS w base (some ⟨g, 0, none⟩) n c l) : HoldsK smpCells 4 w g 0 l.toArray := fun j hj => by
  have hs : (flatK smpCells 4 l.toArray).size = l.length * 4 := by simp
  have hlen := Ow.len okS how
  have h1 : (eS.row l)[j]? = some (flatK smpCells 4 l.toArray)[j]! := by
    have := flatK_row l.toArray
    rw [show (l.toArray).toList = l from rfl] at this
    rw [← this, Array.getElem?_toList, Array.getElem?_eq_getElem hj, getElem!_pos (flatK smpCells 4 l.toArray) j hj]
  refine ⟨?_, how.frozenAt _⟩
  rw [World.ownsRow.cellAt how _ (by rw [hs] at hj; show 0 + j < n * 4; omega), Nat.zero_add, h1]
  rfl
theorem ow_sorted {w : World} {base g n c m : Nat} {l : List Smp} {d : Array Smp} {os : Array Obj} (how : Ow eS w base (some ⟨g, 0, none⟩) n c l) (hd : d.size = n) :
    Ow eS (sortWorldK smpCells 4 w g 0 m d os) base (some ⟨g, 0, none⟩) n c d.toList := by
  refine ⟨by rw [okS.row_len]; simp [hd], .inr ?_⟩
  rcases how.2 with ⟨h0, _⟩ | ⟨g', cap, cur, hv, hb, hg, h1, h2, h3, h4⟩
  · simp at h0
  · simp only [Value.slice.injEq, Option.some.injEq, Addr.mk.injEq, true_and, and_true] at hv
    obtain ⟨rfl, rfl⟩ := hv
    have hF : (flatK smpCells 4 d).size = n * 4 := by simp [hd]
    have hlt : g < w.heap.size := (Array.getElem?_eq_some_iff.1 hg).1
    refine ⟨g, c, putCells id 0 (flatK smpCells 4 d) cur, rfl, hb, ?_, h1, h2, by unfold putCells; simpa using h3, ?_⟩
    · show ((w.heap.modify g (onCells (putCells id 0 (flatK smpCells 4 d)))) ++ os)[g]? = _
      rw [Array.getElem?_append_left (by rw [Array.size_modify]; exact hlt), Array.getElem?_modify, if_pos rfl, hg]
      rfl
    · rw [← flatK_row]
      apply List.ext_getElem?
      intro j
      rw [List.getElem?_take]
      have hcs : n * 4 ≤ cur.size := by
        rw [h3]
        exact Nat.mul_le_mul_right _ h1
      split
      · rename_i hj
        have hj' : j < n * 4 := hj
        have hjc : j < cur.size := by omega
        unfold putCells
        rw [Array.getElem?_toList, Array.getElem?_mapIdx, Array.getElem?_eq_getElem hjc, Option.map_some, if_pos ⟨Nat.zero_le _, by omega⟩, Nat.sub_zero, Array.getElem?_toList, Array.getElem?_eq_getElem (by omega), getElem!_pos (flatK smpCells 4 d) j (by omega)]
        rfl
      · rename_i hj
        rw [List.getElem?_eq_none]
        have : ¬ j < n * 4 := hj
        simp
        omega

set_option maxHeartbeats 1000000 in
theorem sortSmp (A : Option Addr) (n c base : Nat) (l : List Smp) (w : World) (how : Ow eS w base A n c l) (hn : n ≤ 1000) :
    Calls Tryz.prog 173 #[.slice A n c, .func (.func 165) #[] #[]] w fun e w' =>
      e = .returned (.tuple #[]) ∧ ∃ ys : List Smp, ys.Perm l ∧ (ys.Pairwise fun x y => aheadM y x = false) ∧ Ow eS w' base A n c ys ∧ Below base w w' := by
  have hlen := Ow.len okS how
  rcases Nat.eq_zero_or_pos n with h0 | h0
  · subst h0
    obtain rfl : l = [] := List.eq_nil_of_length_eq_zero hlen
    have h : Calls Tryz.prog 173 #[.slice A 0 c, .func (.func 165) #[] #[]] w fun e w' => e = .returned (.tuple #[]) ∧ w' = w :=
      AnyF.slices_SortFunc_none sortS A c _ w
    refine h.mono ?_
    rintro e w' ⟨rfl, rfl⟩
    exact ⟨rfl, [], List.Perm.refl _, List.Pairwise.nil, how, Below.refl _ _⟩
  · obtain ⟨g, rfl, hb, hg⟩ := how.form h0
    have hsz : l.toArray.size = n := by simpa using hlen
    have hcmp : CmpLays Tryz.prog 165 #[] smpCells 4 keysM g 0 l.toArray.size w := fun m os dk _ x y => by
      obtain ⟨a0, a1, a2, a3⟩ := x
      obtain ⟨b0, b1, b2, b3⟩ := y
      exact compareKeysG a0 a1 a2 a3 b0 b1 b2 b3 _
    have h : Calls Tryz.prog 173 #[.slice (some ⟨g, 0, none⟩) l.toArray.size c, .func (.func 165) #[] #[]] w fun e w' =>
        e = .returned (.tuple #[]) ∧ ∃ d' n os, PermIn 0 l.toArray.size l.toArray d' ∧ SortedIn (ltOf keysM) 0 l.toArray.size d' ∧ w' = sortWorldK smpCells 4 w g 0 n d' os :=
      AnyQ.slices_SortFunc sortS 4 (fun w => Tryz.isAgg25 w) (fun w => Tryz.sizeOf25 w) smpCells (fun _ => rfl) (fun x v hv => okS.one x v hv) keysM swoKeys 165 #[] g 0 c l.toArray w
        (enters_of Tryz.func165 (by kernel_rfl) rfl) hcmp (holdsK_of how) hg (by omega)
    rw [hsz] at h
    refine h.mono ?_
    rintro e w' ⟨rfl, d, m, os, ⟨hp1, _, hp2⟩, hso, rfl⟩
    have hds : d.size = n := hp1.trans hsz
    have e1 : d.extract 0 n = d := by rw [← hds]; exact Array.extract_size
    have e2 : l.toArray.extract 0 n = l.toArray := by rw [← hsz]; exact Array.extract_size
    rw [e1, e2] at hp2
    refine ⟨rfl, d.toList, hp2, sorted_pairs (by rw [hds]; exact hso), ow_sorted how hds, ?_⟩
    refine ⟨rfl, rfl, rfl, ?_, fun k hk => ?_⟩
    · show w.heap.size ≤ ((w.heap.modify g (onCells (putCells id 0 (flatK smpCells 4 d)))) ++ os).size
      rw [Array.size_append, Array.size_modify]
      omega
    · show ((w.heap.modify g (onCells (putCells id 0 (flatK smpCells 4 d)))) ++ os)[k]? = w.heap[k]?
      rw [Array.getElem?_append_left (by rw [Array.size_modify]; omega), Array.getElem?_modify, if_neg (by omega)]
end Go.Proofs.YteiclanlhnccnaaGreatDoor
/-
  Samples that come out of an iterator: the contract of an iterator (SeqStopsK, with what a round keeps: walks, and what lay below), slices.AppendSeq and slices.Collect over whatever such iterator.
-/
namespace Go.Proofs.YteiclanlhnccnaaGreatDoor
set_option maxRecDepth 20000
open Go.RowKit Go.Shelf
set_option linter.unusedSimpArgs false
set_option linter.unusedVariables false

attribute [local go_sem] Oper.semAt_some

theorem wpListIn_append_ow {F : Fence} {k : Nat} {P : Program} {α : Type} {E : Enc α} (hE : EncOk E) (w : World) {ops : Array Oper} {rest : List Oper} {o : Oper} {a : Act} {Q : Exit → Act → World → Prop} (hgd : o.guard = none) (s x : Operand) (t : TypeId)
    (ho : o.op = .call { callee := .builtin .append, args := #[s, x], argTypes := #[t, t] })
    (base : Nat) {z : Value} {bytes : Nat} (hinfo : (P.info? E.tid).map (fun i => (i.zero, i.size, i.bytes)) = some (some z, E.size, bytes)) (ht : P.underlying t = some (.slice E.tid)) (hzs : z.cells.size = E.size)
    (A : Option Addr) (n c : Nat) (l : List α) (hs : a.eval s = .slice A n c) (hown : Ow E w base A n c l)
    (X : Option Addr) (m d hi' : Nat) (news : List α) (hx : a.eval x = .slice X m d) (hX : Rd E w hi' X news) (hm : news.length = m)
    (h63 : n + m ≤ maxLen) (hbytes : (n + m) * bytes ≤ 140737488355328) (hbase : base ≤ w.heap.size)
    (h : ∀ A' c' w', Ow E w' base A' (n + m) c' (l ++ news) → w.grownBy w' (A.map (·.block)) → (A'.map (·.block) = A.map (·.block) ∨ A'.map (·.block) = some w.heap.size) → wpListIn F k P ops Q rest (a.put o.dst (.slice A' (n + m) c')) w') : wpListIn F k P ops Q (o :: rest) a w := by
  obtain ⟨i, hi, hz, hsz, hby⟩ := info_parts hinfo
  obtain ⟨A', c', w', hrun, h2, h3, h4⟩ := run_append_ow (P := P) hE w base t o.type i z bytes ht hi hz hsz hby hzs A n c l hown X m d hi' news hX hm h63 hbytes hbase
  refine wpListIn_plain hgd fun K hK' => ?_
  unfold Oper.wpIn
  refine ⟨?_, ?_⟩
  · simp [Oper.about, ho, resolve, Target.leads, Sem.run_pure]
  · rw [Oper.semAt_plain F _ _ (by rw [ho]; intro c hc'; cases hc')]
    simp [execOp, ho, resolve, invoke, builtin, hs, hx, hrun, Result.andThen]
    exact hK' _ _ (h A' c' w' h2 h3 h4)

/-- What a round keeps: maps and walks; whatever lay below n₀. -/
def Kp2 (n₀ : Nat) (W W' : World) : Prop := KeepsWalks W W' ∧ Below n₀ W W'
theorem Kp2.t {n₀ : Nat} {A B C : World} (h : Kp2 n₀ A B) (k : Kp2 n₀ B C) : Kp2 n₀ A C := ⟨h.1.trans k.1, h.2.trans k.2⟩
theorem Kp2.b {n₀ : Nat} {w : World} (hn : n₀ ≤ w.heap.size) (W : World) (l : Nat) (o o' : Obj) (hl : w.heap.size ≤ l) (h : W.heap[l]? = some o) (h1 : o.isCells = false) (h2 : o.isWalk = false) : Kp2 n₀ W (W.putObj l o') :=
  ⟨walksK_b (w := w) W l o o' hl h h1 h2, belowK_b hn W l o o' hl h h1 h2⟩

def encS (x : Smp) : Array Value := #[.agg #[.int .i64 x.1, .int .i64 x.2.1, .int .i64 x.2.2.1, .int .i64 x.2.2.2]]
abbrev smpArr (x : Smp) : Array Value := #[.int .i64 x.1, .int .i64 x.2.1, .int .i64 x.2.2.1, .int .i64 x.2.2.2]

theorem At.keptBy {W W' : World} {row : Option Nat} {g : Nat} {t : TypeId} {cs : Array Value} (h : At W g t cs) (hg : W.grownBy W' row) (hr : ∀ r, row = some r → ∃ o : Obj, W.heap[r]? = some o ∧ o.isCells = false) : At W' g t cs := by
  refine h.grown hg (fun e => ?_)
  obtain ⟨o, ho, hc⟩ := hr g e
  rw [show W.heap[g]? = _ from h] at ho
  cases ho
  cases hc
theorem Ow.keptBy {α : Type} {E : Enc α} {W W' : World} {row : Option Nat} {base n c : Nat} {A : Option Addr} {l : List α} (h : Ow E W base A n c l) (hg : W.grownBy W' row) (hr : ∀ r, row = some r → ∃ o : Obj, W.heap[r]? = some o ∧ o.isCells = false) : Ow E W' base A n c l := by
  refine h.grown hg (fun g hA e => ?_)
  obtain ⟨o, ho, hc⟩ := hr g e
  rcases h.2 with ⟨h0, _⟩ | ⟨g', cap, cur, hv, _, hgb, _⟩
  · simp only [Value.slice.injEq] at h0
    rw [h0.1] at hA
    cases hA
  · simp only [Value.slice.injEq] at hv
    rw [hv.1] at hA
    obtain rfl : g' = g := by simpa using hA
    rw [hgb] at ho
    cases ho
    cases hc

theorem Ow.cellsAt {α : Type} {E : Enc α} {W : World} {base n c : Nat} {A : Option Addr} {l : List α} (h : Ow E W base A n c l) {j : Nat} {o : Obj} (e : A.map (·.block) = some j) (hj : W.heap[j]? = some o) : o.isCells = true := by
  rcases h.2 with ⟨h0, _⟩ | ⟨g', cap, cur, hv, _, hgb, _⟩
  · simp only [Value.slice.injEq] at h0
    rw [h0.1] at e
    cases e
  · simp only [Value.slice.injEq] at hv
    rw [hv.1] at e
    obtain rfl : g' = j := by simpa using e
    rw [hgb] at hj
    cases hj
    rfl
/-- Between two rounds: the box holds a row of the call's own: what has come. -/
def Gath (n₀ B N : Nat) (pre : List Smp) (W : World) : Prop :=
  ∃ A c, At W B 36 #[.slice A pre.length c] ∧ Ow eS W (n₀ + 1) A pre.length c pre ∧ pre.length ≤ N
theorem Gath.own (n₀ B N : Nat) : Own (Gath n₀ B N) := fun s X Y row ⟨A, c, h1, h2, h3⟩ hg hr => ⟨A, c, h1.keptBy hg hr, h2.keptBy hg hr, h3⟩

set_option maxRecDepth 100000 in
set_option maxHeartbeats 2000000 in
theorem appendSeq (n : Nat) (hn : 3 ≤ n) (gf : Nat) (lb : Array Value) (eg : ∀ args w, (callFunc gf args).run Tryz.prog w = .ok (.enter gf args) w) (S Sp : List Smp → Prop) (N : Nat) (hN : N ≤ 1000) (n0 : Nat) (w : World) (hn0 : n0 ≤ w.heap.size)
    (hseq : SeqStopsK Fence.wide (n - 1) Tryz.prog gf lb encS (Kp2 n0) S Sp N w) :
    CallsIn Fence.wide n Tryz.prog 180 #[.slice none 0 0, .func (.func gf) #[] lb] w fun e W' =>
      ∃ A c xs, e = .returned (.slice A xs.length c) ∧ S xs ∧ Ow eS W' w.heap.size A xs.length c xs ∧ Below w.heap.size w W' := by
  have hro : Fence.wide.round = none := rfl
  have h1 : 1 ≤ n := by omega
  have hT : Fence.wide.fn 180 := trivial
  refine callsIn_of_wp_marks Tryz.func180 rfl hT ?_ hro
  simp only [Tryz.ntmps180, List.size_toArray, List.length_cons, List.length_nil, Nat.reduceAdd, Nat.reduceSub, Array.replicate_succ, Array.replicate_zero, List.push_toArray, List.append_toArray, List.nil_append, List.cons_append]
  gi_wp2
  have bO := At.new w 36 #[.slice none 0 0]
  have hB0 := (Below.refl w.heap.size w).alloc (Nat.le_refl _) (.cells #[.slice none 0 0] 36)
  obtain ⟨W0, hW0⟩ : ∃ W0, w.alloc (.cells #[.slice none 0 0] 36) = W0 := ⟨_, rfl⟩
  have hsz : W0.heap.size = w.heap.size + 1 := by rw [← hW0]; simp
  rw [hW0] at bO hB0 ⊢
  clear hW0
  refine wpIn_rangeFunc_ownH hro h1 (gf := gf) (lb := lb) rfl trivial eg hseq Kp2.t (Kp2.b (by omega)) hB0 (fun _ => rfl)
    (fun pre W => Gath w.heap.size w.heap.size N pre W ∧ Below w.heap.size w W)
    (fun _ _ _ => False)
    (OwnFrom.and (Own.from (Gath.own _ _ _) _) (ownFrom_below (Nat.le_refl _) (by omega)))
    (fun _ _ _ _ _ hs _ _ => hs)
    ⟨⟨none, 0, bO, Ow.nil, Nat.zero_le _⟩, hB0⟩
    (fun x a' W => ∃ Bx, w.heap.size < Bx ∧ At W Bx 25 (smpArr x) ∧ a' = { tmps := #[.slice none 0 0, .func (.func gf) #[] lb, .pointer (some ⟨w.heap.size, 0, none⟩), undef, .slice none 0 0, .pointer (some ⟨Bx, 0, none⟩), .func (.func gf) #[] lb, .agg (smpArr x), undef, undef, undef, undef, undef], defers := [] })
    (fun x a' _ X Y row hs hg hr => by obtain ⟨Bx, h1, h2, h3⟩ := hs; exact ⟨Bx, h1, h2.keptBy hg (fun r e => (hr r e).2), h3⟩)
    ?assign ?body ?done ?stop
  case assign =>
    rintro l pre x W K ⟨⟨A, c, hA, hO, hN1⟩, hB⟩ hK
    have hsW := hB.size
    dsimp only [encS]
    gi_wp2
    exact hK _ _ ((KeepsOthers.alloc _ _).from _) ⟨KeepsWalks.alloc _ _, (Below.refl _ W).alloc (by omega) _⟩ ⟨⟨A, c, hA.alloc _, hO.alloc _, hN1⟩, hB.alloc hB.size _⟩ ⟨W.heap.size, hA.lt, At.new W _ _, rfl⟩
  case body =>
    rintro l pre x a' W hl ⟨r, hr⟩ ⟨⟨A, c, hA, hO, hN1⟩, hB⟩ ⟨Bx, hBx, bX, rfl⟩ hlt
    have hsW := hB.size
    have cA := hA.cell 0
    obtain ⟨cx0, cx1, cx2, cx3, _⟩ := bX.four
    gi_wp2_with (gi_at_builtin; refine wpListIn_append_ow okS _ rfl _ _ 36 rfl (w.heap.size + 1) info_smp Tryz.underlying36 rfl A pre.length c pre rfl (hO.alloc _) (some ⟨W.heap.size, 0, none⟩) 1 1 (W.heap.size + 1) [x] rfl (rd_lit okS W 25 [x] _ rfl) rfl (by unfold maxLen; omega) (by omega) (by simp; omega) ?_; intro A' c' w1 hO1 hg1 hA1; have hAa := hA.alloc (.cells (smpArr x) 25); have hA2 := hAa.grown hg1 (fun e => by have := (hO.lt _ e).1; omega); have cA2 := hA2.cell 0; have fA2 := hA2.frozen 0)
    have hgB : Below w.heap.size w w1 := (hB.alloc hB.size _).grown hg1 (by simp; omega) (fun k e => by have := (hO.lt k e).1; omega)
    have hlt' : ∀ g, A'.map (·.block) = some g → w.heap.size + 1 ≤ g := fun g e => (hO1.lt g e).1
    have hK : KeepsOthers W (w1.setCell ⟨w.heap.size, 0, none⟩ (.slice A' (pre.length + 1) c')) :=
      ((KeepsOthers.alloc W _).trans (KeepsOthers.of_grownBy hg1 fun j o ej hj => (hO.alloc _).cellsAt ej hj)).trans (KeepsOthers.setCell _ _ _)
    refine ⟨hK.from _, ⟨hK.walks, ?_⟩, ⟨A', c', ?_, ?_, ?_⟩, ?_⟩
    · exact (((Below.refl n0 W).alloc (by omega) _).grown hg1 (by simp; omega) (fun k e => by have := (hO.lt k e).1; omega)).setCell (p := ⟨w.heap.size, 0, none⟩) hn0 _
    · have := hA2.set 0 (.slice A' (pre.length + 1) c')
      simpa using this
    · have := hO1.under (p := ⟨w.heap.size, 0, none⟩) (by simp) (.slice A' (pre.length + 1) c')
      simpa using this
    · simp
      omega
    · exact hgB.setCell (p := ⟨w.heap.size, 0, none⟩) (Nat.le_refl _) _
  case done =>
    rintro D ys W hD hS ⟨⟨A, c, hA, hO, hN1⟩, hB⟩ hK
    have cA := hA.cell 0
    gi_wp2
    refine ⟨by simp, .inl ⟨_, _, rfl, run_takeDeferred hK, ?_⟩⟩
    exact ⟨_, results_tmp rfl _ _ _, A, c, ys, rfl, hS, (hO.keptBy (grownBy_putObj' W D _) (fun r e => by cases e; exact ⟨_, hK, rfl⟩)).from_ (by omega), hB.trans (belowK_b (w := w) (Nat.le_refl _) W D _ _ (by omega) hK rfl rfl)⟩
  case stop =>
    rintro D c pre W _ _ h _
    exact h.elim

/-- slices.Collect over whatever such iterator. -/
theorem collectSeq (n : Nat) (hn : 3 ≤ n) (gf : Nat) (lb : Array Value) (eg : ∀ args w, (callFunc gf args).run Tryz.prog w = .ok (.enter gf args) w) (S Sp : List Smp → Prop) (N : Nat) (hN : N ≤ 1000) (n0 : Nat) (w : World) (hn0 : n0 ≤ w.heap.size)
    (hseq : SeqStopsK Fence.wide (n - 1) Tryz.prog gf lb encS (Kp2 n0) S Sp N w) :
    Calls Tryz.prog 172 #[.func (.func gf) #[] lb] w fun e W' =>
      ∃ A c xs, e = .returned (.slice A xs.length c) ∧ S xs ∧ Ow eS W' w.heap.size A xs.length c xs ∧ Below w.heap.size w W' := by
  have hq := callsIn_wide.1 (appendSeq n hn gf lb eg S Sp N hN n0 w hn0 hseq)
  clear hseq
  go_enter Tryz.func172, Tryz.ntmps172
  go_wp2_with (go_at_call 180; refine hq.mono ?_; rintro e w1 ⟨A, c, xs, rfl, hS, hO, hB⟩)
  go_ret
  exact ⟨A, c, xs, rfl, hS, hO, hB⟩
end Go.Proofs.YteiclanlhnccnaaGreatDoor
/-
  What is asked for of a store: the program's iterator over it, and QueryStore.
-/
namespace Go.Proofs.YteiclanlhnccnaaGreatDoor
set_option maxRecDepth 20000
open Go.RowKit Go.Shelf
set_option linter.unusedSimpArgs false
set_option linter.unusedVariables false

attribute [local go_sem] Oper.semAt_some

theorem abides_below {β : Type} {B : Nat} {J : β → World → Prop} (h : AbidesFrom B J) {x : β} {W W' : World} (hJ : J x W) (hb : Below W.heap.size W W') : J x W' := h x W W' none hJ (grown_below hb (Nat.le_refl _)) (fun r e => by cases e)
theorem want_no {s f t a0 a1 a2 a3 : Int} (h : ¬ a0 = s) : wantM s f t (a0, a1, a2, a3) = false := by simp [wantM, h]
theorem want_is {f t a0 a1 a2 a3 : Int} : wantM a0 f t (a0, a1, a2, a3) = inB (a1, f, t) := by simp [wantM]
theorem query_miss {l : List Smp} {k : Nat} {a : Smp} {s f t : Int} (h : l[k]? = some a) (hw : wantM s f t a = false) : queryM (l.take (k + 1)) s f t = queryM (l.take k) s f t := by
  rw [query_next s f t h, hw]
  simp
theorem query_hit {l : List Smp} {k : Nat} {a : Smp} {s f t : Int} (h : l[k]? = some a) (hw : wantM s f t a = true) : queryM (l.take (k + 1)) s f t = queryM (l.take k) s f t ++ [a] := by
  rw [query_next s f t h, hw]
  simp
theorem query_len (l : List Smp) (k : Nat) (s f t : Int) : (queryM (l.take k) s f t).length ≤ k := by
  unfold queryM
  refine Nat.le_trans (List.length_filter_le _ _) ?_
  rw [List.length_take]
  omega

end Go.Proofs.YteiclanlhnccnaaGreatDoor
/-
  maps.Values over a map of samples by their keys: each value once, in whatever order.
-/
namespace Go.Proofs.YteiclanlhnccnaaGreatDoor
set_option maxRecDepth 20000
open Go.RowKit Go.Shelf
open Go.ChangeMaps Go.MapKept
set_option linter.unusedSimpArgs false
set_option linter.unusedVariables false

attribute [local go_sem] Oper.semAt_some

/-- A walk over the map under way: these are still to come. -/
def SRan (w : World) (b r : Nat) (left : List Smp) : Prop :=
  ∃ es clock since seen c0, w.heap[b]? = some (.map es clock) ∧ w.heap[r]? = some (.mapIter (some b) since seen c0) ∧ (∀ x ∈ es.toList, x.born < since) ∧ (es.toList.map (·.born)).Nodup ∧ since ≤ c0 ∧ since ≤ clock ∧
    (leftOf es seen).toList.map (·.val) = left.map smpV

section
variable {w w' : World} {b r : Nat} {left L : List Smp}
theorem SRan.of_walks (h : SRan w b r left) (hk : KeepsWalks w w') : SRan w' b r left := by
  obtain ⟨es, clock, since, seen, c0, h1, h2, rest⟩ := h
  exact ⟨es, clock, since, seen, c0, hk.same b _ h1 rfl, hk.same r _ h2 rfl, rest⟩
theorem SRan.lt (h : SRan w b r left) : r < w.heap.size := by
  obtain ⟨es, clock, since, seen, c0, h1, h2, rest⟩ := h
  exact (Array.getElem?_eq_some_iff.1 h2).1
theorem SRan.iter (h : SRan w b r left) : ∃ o : Obj, w.heap[r]? = some o ∧ o.isWalk = true := by
  obtain ⟨es, clock, since, seen, c0, h1, h2, rest⟩ := h
  exact ⟨_, h2, rfl⟩
theorem SRan.alloc (h : SRan w b r left) (o : Obj) : SRan (w.alloc o) b r left := h.of_walks (KeepsWalks.alloc _ _)
theorem SRan.left_eq (h : SRan w b r left) : w.rangeLeft b r = left.length := by
  obtain ⟨es, clock, since, seen, c0, h1, h2, _, _, _, _, hm⟩ := h
  simp only [World.rangeLeft, h1, h2]
  have := congrArg List.length hm
  simpa using this
theorem SMap.range (h : SMap w b L) : ∃ w', (Instr.range 233 (.map (some b))).run Tryz.prog w = .ok (.pointer (some ⟨w.heap.size, 0, none⟩)) w' ∧ SRan w' b w.heap.size L ∧ w.grownBy w' none ∧ w'.heap.size = w.heap.size + 1 := by
  have hlt := h.lt
  obtain ⟨es, clock, hb, hm, hc, hd⟩ := h
  refine ⟨_, run_range_map w _ _ _ b es clock Tryz.underlying233 hb, ⟨es, clock, clock, #[], clock, (Below.heap_alloc w _ b hlt).trans hb, heap_alloc_new w _, hc, hd, Nat.le_refl _, Nat.le_refl _, ?_⟩, World.grownBy_alloc w _ none, by simp⟩
  have h1 := congrArg (List.map Prod.snd) hm
  have h2 : leftOf es #[] = es := by
    unfold leftOf
    rw [Array.filter_eq_self]
    intro a _
    simp
  rw [h2]
  simpa [List.map_map, Function.comp_def] using h1

theorem filter_one (e : MapEntry) : ∀ (l : List MapEntry), (l.map (·.born)).Nodup → e ∈ l → ∃ l1 l2, l = l1 ++ e :: l2 ∧ l.filter (fun x => !(x.born == e.born)) = l1 ++ l2
  | x :: l, hn, he => by
    have hn' : x.born ∉ l.map (·.born) ∧ (l.map (·.born)).Nodup := List.nodup_cons.1 hn
    by_cases hx : x.born = e.born
    · have hxe : e = x := by
        rcases List.mem_cons.1 he with h | h
        · exact h
        · exact absurd (List.mem_map.2 ⟨e, h, hx.symm⟩) hn'.1
      subst hxe
      refine ⟨[], l, rfl, ?_⟩
      rw [List.filter_cons]
      simp only [beq_self_eq_true, Bool.not_true, Bool.false_eq_true, if_false, List.nil_append]
      rw [List.filter_eq_self]
      intro y hy
      have : y.born ≠ e.born := fun h => hn'.1 (List.mem_map.2 ⟨y, hy, h⟩)
      simpa using this
    · have he' : e ∈ l := by
        rcases List.mem_cons.1 he with h | h
        · exact absurd (by rw [h]) hx
        · exact h
      obtain ⟨l1, l2, h1, h2⟩ := filter_one e l hn'.2 he'
      refine ⟨x :: l1, l2, by rw [h1]; rfl, ?_⟩
      rw [List.filter_cons, h2]
      simp [hx]

theorem map_split {l1 l2 : List MapEntry} {e : MapEntry} : ∀ {left : List Smp}, (l1 ++ e :: l2).map (·.val) = left.map smpV → ∃ m1 x m2, left = m1 ++ x :: m2 ∧ e.val = smpV x ∧ (l1 ++ l2).map (·.val) = (m1 ++ m2).map smpV := by
  intro left h
  rw [List.map_append, List.map_cons] at h
  obtain ⟨m1, m2', h1, h2, h3⟩ := List.map_eq_append_iff.1 h.symm
  obtain ⟨x, m2, h4, h5, h6⟩ := List.map_eq_cons_iff.1 h3
  exact ⟨m1, x, m2, by rw [h1, h4], h5.symm, by rw [List.map_append, List.map_append, h2, h6]⟩

theorem SRan.next (h : SRan w b r left) (hne : r ≠ b) (ty : TypeId) :
    (left = [] ∧ (Instr.next (.pointer (some ⟨r, 0, none⟩)) false ty).run Tryz.prog w = .ok (.tuple #[.bool false]) w) ∨
    ∃ (m1 : List Smp) (x : Smp) (m2 : List Smp) (key : Value) (w' : World), left = m1 ++ x :: m2 ∧ (Instr.next (.pointer (some ⟨r, 0, none⟩)) false ty).run Tryz.prog w = .ok (.tuple #[.bool true, key, smpV x]) w' ∧
      SRan w' b r (m1 ++ m2) ∧ w.grownBy w' (some r) ∧ w'.heap.size = w.heap.size ∧ (Instr.entry (.pointer (some ⟨r, 0, none⟩))).run Tryz.prog w' = .ok (.tuple #[key, smpV x]) w' := by
  obtain ⟨es, clock, since, seen, c0, hb, hr, hold, hnd, hsc, hsk, hm⟩ := h
  rcases run_next_at (P := Tryz.prog) w ty r b since c0 seen es clock hr hb hold hsc with ⟨h0, hrun⟩ | ⟨e, he, w1, hal, hrun⟩
  · left
    refine ⟨?_, hrun⟩
    have := congrArg List.length hm
    rw [List.length_map, List.length_map, Array.length_toList, h0] at this
    exact List.eq_nil_of_length_eq_zero this.symm
  · right
    obtain ⟨hem, hes⟩ := mem_left he
    have hsub : ((leftOf es seen).toList.map (·.born)).Nodup := by
      unfold leftOf
      rw [Array.toList_filter]
      exact List.Nodup.sublist (List.Sublist.map _ List.filter_sublist) hnd
    obtain ⟨l1, l2, e1, e2⟩ := filter_one e _ hsub he
    rw [e1] at hm
    obtain ⟨m1, x, m2, hl, hv, hm2⟩ := map_split hm
    have hr1 : w1.heap[r]? = some (.mapIter (some b) since seen c0) := by rcases hal with rfl | rfl <;> exact hr
    have hb1 : w1.heap[b]? = some (.map es clock) := by rcases hal with rfl | rfl <;> exact hb
    have hset := heap_set (o' := .mapIter (some b) since (seen.push e.born) clock) hr1
    have hb' : (setBlock w1 r (.mapIter (some b) since (seen.push e.born) clock)).heap[b]? = some (.map es clock) := (hset.2 b (fun e1 => hne e1.symm)).trans hb1
    refine ⟨m1, x, m2, e.key, _, hl, by rw [← hv]; exact hrun, ⟨es, clock, since, seen.push e.born, clock, hb', hset.1, hold, hnd, hsk, hsk, ?_⟩, ?_, ?_, ?_⟩
    · rw [← hm2, ← e2]
      congr 1
      unfold leftOf
      rw [Array.toList_filter, Array.toList_filter, List.filter_filter]
      congr 1
      funext y
      rw [contains_push]
      cases seen.contains y.born <;> cases (y.born == e.born) <;> rfl
    · rcases hal with rfl | rfl <;> exact ⟨rfl, rfl, rfl, by simp [setBlock], fun i _ hi => hset.2 i (fun e1 => hi (by rw [e1]))⟩
    · rcases hal with rfl | rfl <;> simp [setBlock]
    · rw [← hv]
      exact run_entry_at _ r b since seen es clock e hset.1 hb' hem hnd
end

section
variable {F : Fence} {k : Nat} (w : World) {ops : Array Oper} {rest : List Oper} {o : Oper} {a : Act} {Q : Exit → Act → World → Prop}
theorem wpListIn_range_s (hg : o.guard = none) (m : Operand) (hop : o.op = Op.range 233 m) (b : Nat) (L : List Smp) (hm : a.eval m = .map (some b)) (h : SMap w b L)
    (hK : ∀ w', SRan w' b w.heap.size L → w.grownBy w' none → w'.heap.size = w.heap.size + 1 → wpListIn F k Tryz.prog ops Q rest (a.put o.dst (.pointer (some ⟨w.heap.size, 0, none⟩))) w') : wpListIn F k Tryz.prog ops Q (o :: rest) a w := by
  refine wpListIn_plain hg fun K' hK' => ?_
  obtain ⟨w', hrun, hs, hg1, hs1⟩ := h.range
  unfold Oper.wpIn
  refine ⟨?_, ?_⟩
  · simp [Oper.about, hop]
  · rw [Oper.semAt_plain F _ _ (by rw [hop]; intro c hc'; cases hc')]
    simp [execOp, hop, hm, hrun, Result.andThen]
    exact hK' _ _ (hK _ hs hg1 hs1)
theorem wpListIn_next_s (hg : o.guard = none) (it : Operand) (hop : o.op = Op.next it false) (b r : Nat) (left : List Smp) (hne : r ≠ b) (hit : a.eval it = .pointer (some ⟨r, 0, none⟩)) (h : SRan w b r left)
    (hDone : left = [] → wpListIn F k Tryz.prog ops Q rest (a.put o.dst (.tuple #[.bool false])) w)
    (hMore : ∀ (m1 : List Smp) (a0 a1 a2 a3 : Int) (m2 : List Smp) (key : Value) (w' : World), left = m1 ++ (a0, a1, a2, a3) :: m2 → SRan w' b r (m1 ++ m2) → w.grownBy w' (some r) → w'.heap.size = w.heap.size → (Instr.entry (.pointer (some ⟨r, 0, none⟩))).run Tryz.prog w' = .ok (.tuple #[key, .agg #[.int .i64 a0, .int .i64 a1, .int .i64 a2, .int .i64 a3]]) w' →
      wpListIn F k Tryz.prog ops Q rest (a.put o.dst (.tuple #[.bool true, key, .agg #[.int .i64 a0, .int .i64 a1, .int .i64 a2, .int .i64 a3]])) w') : wpListIn F k Tryz.prog ops Q (o :: rest) a w := by
  refine wpListIn_plain hg fun K' hK' => ?_
  unfold Oper.wpIn
  refine ⟨by simp [Oper.about, hop], ?_⟩
  rw [Oper.semAt_plain F _ _ (by rw [hop]; intro c hc'; cases hc')]
  rcases h.next hne o.type with ⟨h0, hrun⟩ | ⟨m1, ⟨a0, a1, a2, a3⟩, m2, key, w', hl, hrun, hs, hgr, hsz, hen⟩
  · simp [execOp, hop, hit, hrun, Result.andThen]
    exact hK' _ _ (hDone h0)
  · simp [execOp, hop, hit, hrun, Result.andThen]
    exact hK' _ _ (hMore m1 a0 a1 a2 a3 m2 key w' hl hs hgr hsz hen)
end

set_option maxRecDepth 100000 in
set_option maxHeartbeats 4000000 in
theorem values_in (n : Nat) (hn : 1 ≤ n) (l Bm b nB : Nat) (L : List Smp) (J Jx : List Smp → World → Prop)
    (hY : ∀ pre x W, J pre W → pre.length < L.length → YieldAt Fence.wide (n - 1) Tryz.prog l (encS x) W fun e W' =>
      (e = .returned (.bool true) ∧ J (pre ++ [x]) W' ∧ Kp2 nB W W') ∨ (e = .returned (.bool false) ∧ Jx (pre ++ [x]) W'))
    (W : World) (hJ : AbidesFrom W.heap.size J) (hm : W.cell? ⟨Bm, 0, none⟩ = some (.map (some b))) (hs : SMap W b L) (h0 : J [] W) :
    CallsIn Fence.wide n Tryz.prog 174 #[.func (.yield l) #[] #[], .pointer (some ⟨Bm, 0, none⟩)] W fun e W' => (∃ v, e = .returned v) ∧
      ((∃ xs, xs.Perm L ∧ J xs W') ∨ (∃ pre, True ∧ Jx pre W')) := by
  have hro : Fence.wide.round = none := rfl
  have hT : Fence.wide.fn 174 := trivial
  have hbW := hs.lt
  refine callsIn_of_wp Tryz.func174 rfl hT ?_ hro
  simp only [Tryz.ntmps174, List.size_toArray, List.length_cons, List.length_nil, Nat.reduceAdd, Nat.reduceSub, Array.replicate_succ, Array.replicate_zero, List.push_toArray, List.append_toArray, List.nil_append, List.cons_append]
  gi_wp2_with (first
    | (gi_at_range; refine wpListIn_range_s _ rfl _ rfl b L rfl hs ?_; intro w0 hr0 hg0 hs0)
    | gi_in)
  go_frame
  gi_loopw [4] (fun _ wr => ∃ (left ps : List Smp), SRan wr b W.heap.size left ∧ (ps ++ left).Perm L ∧ J ps wr) (fun _ wr => wr.rangeLeft b W.heap.size)
  case atStart => exact ⟨L, [], hr0, by simp, hJ [] W w0 none h0 hg0 (fun r e => by cases e)⟩
  case round =>
    obtain ⟨left, ps, hrg, hp, hJs⟩ := hrel
    gi_wp2_with (first
      | (gi_at_next; refine wpListIn_next_s _ rfl _ rfl b W.heap.size left (by omega) rfl hrg ?_ ?_)
      | gi_in)
    · intro hl
      subst hl
      gi_wp2
      go_end0
      exact ⟨⟨_, rfl⟩, .inl ⟨ps, by simpa using hp, hJs⟩⟩
    · intro m1 a0 a1 a2 a3 m2 key w2 hl hrg2 hg2 hs2 hen
      have hlen : ps.length < L.length := by
        have := hp.length_eq
        rw [hl, List.length_append, List.length_append, List.length_cons] at this
        omega
      have hJ2 : J ps w2 := hJ ps wr w2 (some W.heap.size) hJs hg2 (fun r e => by cases e; exact ⟨Nat.le_refl _, hrg.iter⟩)
      have hJ3 := abides_below hJ hJ2 ((Below.refl w2.heap.size w2).alloc (Nat.le_refl _) (.cells (#[.int .i64 a0, .int .i64 a1, .int .i64 a2, .int .i64 a3]) 25))
      have hrg3 := hrg2.alloc (.cells (#[.int .i64 a0, .int .i64 a1, .int .i64 a2, .int .i64 a3]) 25)
      have Hp := Lib.hid (show (ps ++ [(a0, a1, a2, a3)] ++ (m1 ++ m2)).Perm L from by
        rw [hl] at hp
        refine List.Perm.trans ?_ hp
        rw [List.append_assoc]
        refine List.Perm.append_left ps ?_
        rw [List.singleton_append]
        exact List.perm_middle.symm)
      have Hm := Lib.hid (show (m1 ++ m2).length < left.length by rw [hl]; simp)
      clear hl hp
      obtain ⟨fn, tmps, assign, body, hy, hR⟩ := hY ps (a0, a1, a2, a3) _ hJ3 hlen
      dsimp only [encS] at hy
      gi_wp2
      refine hR.mono ?_
      rintro e W3 (⟨rfl, hJ4, hk4⟩ | ⟨rfl, hJx4⟩)
      · gi_wp2
        have hrg4 := hrg3.of_walks hk4.1
        go_roundw
        case rel => exact ⟨m1 ++ m2, ps ++ [(a0, a1, a2, a3)], hrg4, Hp.out, hJ4⟩
        case measure => rw [hrg4.left_eq, hrg.left_eq]; exact Hm.out
      · gi_wp2
        refine bodyPost_ret (results_none rfl _ _ _) rfl ?_
        exact ⟨⟨_, rfl⟩, .inr ⟨_, trivial, hJx4⟩⟩
end Go.Proofs.YteiclanlhnccnaaGreatDoor
