/-
  Texts of one proof, joined: each has its own namespace.
-/
import Derived.Test.YtmaillakhhdkfaaGreatDoorBFnRecords1
import Derived.Test.YtmaillakhhdkfaaGreatDoorBFnRecords3
import Derived.Test.YtmaillakhhdkfaaGreatDoorBFnRecords0
import Derived.Test.YtmaillakhhdkfaaGreatDoorBFnRecords4
import Derived.Deep.DeepCutAuto
import Derived.Test.YtmaillakhhdkfaaGreatDoorBFnRecords2
import Derived.Shelf.Spec.SlicesGrow
import Derived.Shelf.SlSortCmp.NoneTotal
import Derived.Test.YtmaillakhhdkfaaGreatDoorRows
import Derived.Test.YtmaillakhhdkfaaGreatDoorBFnRecords6
/-
  Two lists of samples held against one another: the model's.
-/
namespace Go.Proofs.YtmaillakhhdkfaaGreatDoor
set_option maxRecDepth 20000
open Go.RowKit
set_option linter.unusedSimpArgs false

theorem specSameSamples_no (A B : Option Addr) (n m c d : Nat) (w : World) (h : n ≠ m) :
    Calls Tryz.prog 58 #[.slice A n c, .slice B m d] w fun e w' => e = .returned (.bool false) ∧ Below w.heap.size w w' := by
  have hb : ((n : Int) != (m : Int)) = true := by simp; omega
  go_enter Tryz.func58, Tryz.ntmps58
  go_wp2
  go_ret
  exact ⟨rfl, Below.refl _ _⟩

set_option maxHeartbeats 1000000 in
theorem specSameSamples_any (A B : Option Addr) (n c d : Nat) (xs ys : List Smp) (w : World) (ha : Rd eS w w.heap.size A xs) (hb : Rd eS w w.heap.size B ys) (hx : xs.length = n) (hy : ys.length = n) (hm : n ≤ maxLen) :
    Calls Tryz.prog 58 #[.slice A n c, .slice B n d] w fun e w' => e = .returned (.bool (decide (xs = ys))) ∧ Below w.heap.size w w' := by
  have h0 : ((n : Int) != (n : Int)) = false := by simp
  have Hx := Lib.hid hx
  have Hy := Lib.hid hy
  clear hx hy
  unfold maxLen at hm
  go_enter Tryz.func58, Tryz.ntmps58
  go_wp2
  go_loopw [5] (fun i wr => EqRelS xs ys w n i wr) (fun i _ => n - (intOf i).toNat)
  case atStart => exact ⟨0, Nat.zero_le _, rfl, fun _ h => absurd h (by omega), Below.refl _ _⟩
  case round =>
    obtain ⟨k, hk, rfl, hal, hbel⟩ := hrel
    have Hal := Lib.hid hal
    clear hal
    by_cases hlt : k < n
    · obtain ⟨g, o, a0, a1, a2, a3, rfl, hg, hxk, ca⟩ := (ha.below hbel (Nat.le_refl _)).smp (k := k) (by rw [Hx.out]; exact hlt)
      obtain ⟨g', o', b0, b1, b2, b3, rfl, hg', hyk, cb⟩ := (hb.below hbel (Nat.le_refl _)).smp (k := k) (by rw [Hy.out]; exact hlt)
      have Hxk := Lib.hid hxk
      have Hyk := Lib.hid hyk
      clear hxk hyk
      have hbd := hbel.drew
      go_wp2
      refine wp_region_mix [(0, false), (1, false), (2, false), (3, false), (4, false), (5, false), (6, false), (7, false), (8, false)] (fun u => S4 u g (o + k * 4) a0 a1 a2 a3 ∧ S4 u g' (o' + k * 4) b0 b1 b2 b3) (by kernel_rfl) (by kernel_rfl) (fun _ _ _ _ _ h => h) ⟨ca.drew, cb.drew⟩ ?_
      simp only [mixOps, List.map_cons, List.map_nil, List.getElem?_cons_succ, List.getElem?_cons_zero, Option.getD_some]
      iterate 8 (
        refine mix_pure (v := ?_) (by rfl) (fun u hu => ?_) ?_
        rotate_left
        · obtain ⟨⟨_, _, _, _⟩, _, _, _, _⟩ := hu
          go_simp
          (with_reducible rfl)
        (try simp only [Act.put, List.setIfInBounds_toArray, List.set_cons_zero, List.set_cons_succ]))
      refine mix_pure (v := .bool (decide (¬ (a0, a1, a2, a3) = (b0, b1, b2, b3)))) (by rfl) (fun u _ => by
        go_simp
        by_cases h0 : a0 = b0 <;> by_cases h1 : a1 = b1 <;> by_cases h2 : a2 = b2 <;> by_cases h3 : a3 = b3 <;> simp [h0, h1, h2, h3]) ?_
      (try simp only [Act.put, List.setIfInBounds_toArray, List.set_cons_zero, List.set_cons_succ])
      refine mix_nil ?_
      by_cases he : (a0, a1, a2, a3) = (b0, b1, b2, b3)
      · rw [show decide (¬ (a0, a1, a2, a3) = (b0, b1, b2, b3)) = false by simpa using he]
        have He := Lib.hid he
        clear he
        go_wp2
        refine ⟨⟨k + 1, by omega, by go_num, fun i hi => ?_, hbd⟩, by simp [intOf]; omega⟩
        rcases Nat.lt_or_ge i k with h | h
        · exact Hal.out i h
        · obtain rfl : i = k := by omega
          rw [Hxk.out, Hyk.out, He.out]
      · rw [show decide (¬ (a0, a1, a2, a3) = (b0, b1, b2, b3)) = true from decide_eq_true he]
        have hfin : decide (xs = ys) = false := by
          simp only [decide_eq_false_iff_not]
          rintro rfl
          exact he (Option.some.inj (Hxk.out.symm.trans Hyk.out))
        have Hf := Lib.hid hfin
        clear he hfin
        go_wp2
        go_ret
        exact ⟨by rw [Hf.out]; rfl, hbd⟩
    · have hfin : decide (xs = ys) = true := by
        obtain rfl : k = n := by omega
        simp only [decide_eq_true_eq]
        exact alike_all' Hx.out Hy.out Hal.out
      have Hf := Lib.hid hfin
      clear hfin
      go_wp2
      go_ret
      exact ⟨by rw [Hf.out]; rfl, hbel⟩

/-- The model's two lists of samples held against one another, whatever their lengths. -/
theorem specSameSamples (A B : Option Addr) (n m c d : Nat) (xs ys : List Smp) (w : World) (ha : Rd eS w w.heap.size A xs) (hb : Rd eS w w.heap.size B ys) (hx : xs.length = n) (hy : ys.length = m) (hm : n ≤ maxLen) :
    Calls Tryz.prog 58 #[.slice A n c, .slice B m d] w fun e w' => e = .returned (.bool (decide (xs = ys))) ∧ Below w.heap.size w w' := by
  by_cases h : n = m
  · subst h
    exact specSameSamples_any A B n c d xs ys w ha hb hx hy hm
  · have hd : decide (xs = ys) = false := by
      simp only [decide_eq_false_iff_not]
      rintro rfl
      exact h (hx.symm.trans hy)
    rw [hd]
    exact specSameSamples_no A B n m c d w h
end Go.Proofs.YtmaillakhhdkfaaGreatDoor
/-
  Two lists of samples held against one another: the program's.
-/
namespace Go.Proofs.YtmaillakhhdkfaaGreatDoor
set_option maxRecDepth 20000
open Go.RowKit
set_option linter.unusedSimpArgs false

theorem sliceEqual_no (A B : Option Addr) (n m c d : Nat) (w : World) (h : n ≠ m) :
    Calls Tryz.prog 109 #[.slice A n c, .slice B m d] w fun e w' => e = .returned (.bool false) ∧ Below w.heap.size w w' := by
  have hb : ((n : Int) != (m : Int)) = true := by simp; omega
  go_enter Tryz.func109, Tryz.ntmps109
  go_wp2
  go_ret
  exact ⟨rfl, Below.refl _ _⟩

set_option maxHeartbeats 1000000 in
theorem sliceEqual_any (A B : Option Addr) (n c d : Nat) (xs ys : List Smp) (w : World) (ha : Rd eS w w.heap.size A xs) (hb : Rd eS w w.heap.size B ys) (hx : xs.length = n) (hy : ys.length = n) (hm : n ≤ maxLen) :
    Calls Tryz.prog 109 #[.slice A n c, .slice B n d] w fun e w' => e = .returned (.bool (decide (xs = ys))) ∧ Below w.heap.size w w' := by
  have h0 : ((n : Int) != (n : Int)) = false := by simp
  have Hx := Lib.hid hx
  have Hy := Lib.hid hy
  clear hx hy
  unfold maxLen at hm
  go_enter Tryz.func109, Tryz.ntmps109
  go_wp2
  go_loopw [13] (fun i wr => EqRelS xs ys w n i wr) (fun i _ => n - (intOf i).toNat)
  case atStart => exact ⟨0, Nat.zero_le _, rfl, fun _ h => absurd h (by omega), Below.refl _ _⟩
  case round =>
    obtain ⟨k, hk, rfl, hal, hbel⟩ := hrel
    have Hal := Lib.hid hal
    clear hal
    by_cases hlt : k < n
    · obtain ⟨g, o, a0, a1, a2, a3, rfl, hg, hxk, ca⟩ := (ha.below hbel (Nat.le_refl _)).smp (k := k) (by rw [Hx.out]; exact hlt)
      obtain ⟨g', o', b0, b1, b2, b3, rfl, hg', hyk, cb⟩ := (hb.below hbel (Nat.le_refl _)).smp (k := k) (by rw [Hy.out]; exact hlt)
      have Hxk := Lib.hid hxk
      have Hyk := Lib.hid hyk
      clear hxk hyk
      have hbd := hbel.drew
      go_wp2
      refine wp_region_mix [(0, false), (1, false), (2, false), (3, false), (4, false), (5, false), (6, false), (7, false), (8, false)] (fun u => S4 u g (o + k * 4) a0 a1 a2 a3 ∧ S4 u g' (o' + k * 4) b0 b1 b2 b3) (by kernel_rfl) (by kernel_rfl) (fun _ _ _ _ _ h => h) ⟨ca.drew, cb.drew⟩ ?_
      simp only [mixOps, List.map_cons, List.map_nil, List.getElem?_cons_succ, List.getElem?_cons_zero, Option.getD_some]
      iterate 8 (
        refine mix_pure (v := ?_) (by rfl) (fun u hu => ?_) ?_
        rotate_left
        · obtain ⟨⟨_, _, _, _⟩, _, _, _, _⟩ := hu
          go_simp
          (with_reducible rfl)
        (try simp only [Act.put, List.setIfInBounds_toArray, List.set_cons_zero, List.set_cons_succ]))
      refine mix_pure (v := .bool (decide (¬ (a0, a1, a2, a3) = (b0, b1, b2, b3)))) (by rfl) (fun u _ => by
        go_simp
        by_cases h0 : a0 = b0 <;> by_cases h1 : a1 = b1 <;> by_cases h2 : a2 = b2 <;> by_cases h3 : a3 = b3 <;> simp [h0, h1, h2, h3]) ?_
      (try simp only [Act.put, List.setIfInBounds_toArray, List.set_cons_zero, List.set_cons_succ])
      refine mix_nil ?_
      by_cases he : (a0, a1, a2, a3) = (b0, b1, b2, b3)
      · rw [show decide (¬ (a0, a1, a2, a3) = (b0, b1, b2, b3)) = false by simpa using he]
        have He := Lib.hid he
        clear he
        go_wp2
        refine ⟨⟨k + 1, by omega, by go_num, fun i hi => ?_, hbd⟩, by simp [intOf]; omega⟩
        rcases Nat.lt_or_ge i k with h | h
        · exact Hal.out i h
        · obtain rfl : i = k := by omega
          rw [Hxk.out, Hyk.out, He.out]
      · rw [show decide (¬ (a0, a1, a2, a3) = (b0, b1, b2, b3)) = true from decide_eq_true he]
        have hfin : decide (xs = ys) = false := by
          simp only [decide_eq_false_iff_not]
          rintro rfl
          exact he (Option.some.inj (Hxk.out.symm.trans Hyk.out))
        have Hf := Lib.hid hfin
        clear he hfin
        go_wp2
        go_ret
        exact ⟨by rw [Hf.out]; rfl, hbd⟩
    · have hfin : decide (xs = ys) = true := by
        obtain rfl : k = n := by omega
        simp only [decide_eq_true_eq]
        exact alike_all' Hx.out Hy.out Hal.out
      have Hf := Lib.hid hfin
      clear hfin
      go_wp2
      go_ret
      exact ⟨by rw [Hf.out]; rfl, hbel⟩

/-- The model's two lists of samples held against one another, whatever their lengths. -/
theorem sliceEqual (A B : Option Addr) (n m c d : Nat) (xs ys : List Smp) (w : World) (ha : Rd eS w w.heap.size A xs) (hb : Rd eS w w.heap.size B ys) (hx : xs.length = n) (hy : ys.length = m) (hm : n ≤ maxLen) :
    Calls Tryz.prog 109 #[.slice A n c, .slice B m d] w fun e w' => e = .returned (.bool (decide (xs = ys))) ∧ Below w.heap.size w w' := by
  by_cases h : n = m
  · subst h
    exact sliceEqual_any A B n c d xs ys w ha hb hx hy hm
  · have hd : decide (xs = ys) = false := by
      simp only [decide_eq_false_iff_not]
      rintro rfl
      exact h (hx.symm.trans hy)
    rw [hd]
    exact sliceEqual_no A B n m c d w h

theorem implSameSamples (A B : Option Addr) (n m c d : Nat) (xs ys : List Smp) (w : World) (ha : Rd eS w w.heap.size A xs) (hb : Rd eS w w.heap.size B ys) (hx : xs.length = n) (hy : ys.length = m) (hm : n ≤ maxLen) :
    Calls Tryz.prog 56 #[.slice A n c, .slice B m d] w fun e w' => e = .returned (.bool (decide (xs = ys))) ∧ Below w.heap.size w w' := by
  have h1 := sliceEqual A B n m c d xs ys w ha hb hx hy hm
  clear ha hb hx hy
  go_enter Tryz.func56, Tryz.ntmps56
  go_wp2_with (go_at_call 109; refine h1.mono ?_; rintro e w1 ⟨rfl, hb1⟩)
  go_ret
  exact ⟨rfl, hb1⟩
end Go.Proofs.YtmaillakhhdkfaaGreatDoor
/-
  Two lists of hints held against one another: the model's and the program's.
-/
namespace Go.Proofs.YtmaillakhhdkfaaGreatDoor
set_option maxRecDepth 20000
open Go.RowKit
set_option linter.unusedSimpArgs false

theorem specSameHints_no (A B : Option Addr) (n m c d : Nat) (w : World) (h : n ≠ m) :
    Calls Tryz.prog 59 #[.slice A n c, .slice B m d] w fun e w' => e = .returned (.bool false) ∧ Below w.heap.size w w' := by
  have hb : ((n : Int) != (m : Int)) = true := by simp; omega
  go_enter Tryz.func59, Tryz.ntmps59
  go_wp2
  go_ret
  exact ⟨rfl, Below.refl _ _⟩

set_option maxHeartbeats 2000000 in
theorem specSameHints_any (A B : Option Addr) (n c d : Nat) (xs ys : List Hnt) (w : World) (ha : Rd eH w w.heap.size A xs) (hb : Rd eH w w.heap.size B ys) (hx : xs.length = n) (hy : ys.length = n) (hm : n ≤ maxLen) :
    Calls Tryz.prog 59 #[.slice A n c, .slice B n d] w fun e w' => e = .returned (.bool (decide (xs = ys))) ∧ Below w.heap.size w w' := by
  have h0 : ((n : Int) != (n : Int)) = false := by simp
  have Hx := Lib.hid hx
  have Hy := Lib.hid hy
  clear hx hy
  unfold maxLen at hm
  go_enter Tryz.func59, Tryz.ntmps59
  go_wp2
  go_loopw [5] (fun i wr => EqRelH xs ys w n i wr) (fun i _ => n - (intOf i).toNat)
  case atStart => exact ⟨0, Nat.zero_le _, rfl, fun _ h => absurd h (by omega), Below.refl _ _⟩
  case round =>
    obtain ⟨k, hk, rfl, hal, hbel⟩ := hrel
    have Hal := Lib.hid hal
    clear hal
    by_cases hlt : k < n
    · obtain ⟨g, o, a0, a1, a2, a3, a4, a5, a6, rfl, hg, hxk, ca⟩ := (ha.below hbel (Nat.le_refl _)).hnt (k := k) (by rw [Hx.out]; exact hlt)
      obtain ⟨g', o', b0, b1, b2, b3, b4, b5, b6, rfl, hg', hyk, cb⟩ := (hb.below hbel (Nat.le_refl _)).hnt (k := k) (by rw [Hy.out]; exact hlt)
      have Hxk := Lib.hid hxk
      have Hyk := Lib.hid hyk
      clear hxk hyk
      have hbd := hbel.drew
      go_wp2
      refine wp_region_mix [(0, false), (1, false), (2, false), (3, false), (4, false), (5, false), (6, false), (7, false), (8, false)] (fun u => S7 u g (o + k * 7) a0 a1 a2 a3 a4 a5 a6 ∧ S7 u g' (o' + k * 7) b0 b1 b2 b3 b4 b5 b6) (by kernel_rfl) (by kernel_rfl) (fun _ _ _ _ _ h => h) ⟨ca.drew, cb.drew⟩ ?_
      simp only [mixOps, List.map_cons, List.map_nil, List.getElem?_cons_succ, List.getElem?_cons_zero, Option.getD_some]
      iterate 8 (
        refine mix_pure (v := ?_) (by rfl) (fun u hu => ?_) ?_
        rotate_left
        · obtain ⟨⟨_, _, _, _, _, _, _⟩, _, _, _, _, _, _, _⟩ := hu
          go_simp
          (with_reducible rfl)
        (try simp only [Act.put, List.setIfInBounds_toArray, List.set_cons_zero, List.set_cons_succ]))
      refine mix_pure (v := .bool (decide (¬ (a0, (a1, a2, a3, a4), a5, a6) = (b0, (b1, b2, b3, b4), b5, b6)))) (by rfl) (fun u _ => by
        go_simp
        (by_cases h0 : a0 = b0; rotate_left; simp [h0]; by_cases h1 : a1 = b1; rotate_left; simp [h0, h1]; by_cases h2 : a2 = b2; rotate_left; simp [h0, h1, h2]; by_cases h3 : a3 = b3; rotate_left; simp [h0, h1, h2, h3]; by_cases h4 : a4 = b4; rotate_left; simp [h0, h1, h2, h3, h4]; by_cases h5 : a5 = b5; rotate_left; simp [h0, h1, h2, h3, h4, h5]; by_cases h6 : a6 = b6; rotate_left; simp [h0, h1, h2, h3, h4, h5, h6]; simp [h0, h1, h2, h3, h4, h5, h6])) ?_
      (try simp only [Act.put, List.setIfInBounds_toArray, List.set_cons_zero, List.set_cons_succ])
      refine mix_nil ?_
      by_cases he : (a0, (a1, a2, a3, a4), a5, a6) = (b0, (b1, b2, b3, b4), b5, b6)
      · rw [show decide (¬ (a0, (a1, a2, a3, a4), a5, a6) = (b0, (b1, b2, b3, b4), b5, b6)) = false from decide_eq_false (fun h => h he)]
        have He := Lib.hid he
        clear he
        go_wp2
        refine ⟨⟨k + 1, by omega, by go_num, fun i hi => ?_, hbd⟩, by simp [intOf]; omega⟩
        rcases Nat.lt_or_ge i k with h | h
        · exact Hal.out i h
        · obtain rfl : i = k := by omega
          rw [Hxk.out, Hyk.out, He.out]
      · rw [show decide (¬ (a0, (a1, a2, a3, a4), a5, a6) = (b0, (b1, b2, b3, b4), b5, b6)) = true from decide_eq_true he]
        have hfin : decide (xs = ys) = false := by
          simp only [decide_eq_false_iff_not]
          rintro rfl
          exact he (Option.some.inj (Hxk.out.symm.trans Hyk.out))
        have Hf := Lib.hid hfin
        clear he hfin
        go_wp2
        go_ret
        exact ⟨by rw [Hf.out]; rfl, hbd⟩
    · have hfin : decide (xs = ys) = true := by
        obtain rfl : k = n := by omega
        simp only [decide_eq_true_eq]
        exact alike_all' Hx.out Hy.out Hal.out
      have Hf := Lib.hid hfin
      clear hfin
      go_wp2
      go_ret
      exact ⟨by rw [Hf.out]; rfl, hbel⟩

theorem specSameHints (A B : Option Addr) (n m c d : Nat) (xs ys : List Hnt) (w : World) (ha : Rd eH w w.heap.size A xs) (hb : Rd eH w w.heap.size B ys) (hx : xs.length = n) (hy : ys.length = m) (hm : n ≤ maxLen) :
    Calls Tryz.prog 59 #[.slice A n c, .slice B m d] w fun e w' => e = .returned (.bool (decide (xs = ys))) ∧ Below w.heap.size w w' := by
  by_cases h : n = m
  · subst h
    exact specSameHints_any A B n c d xs ys w ha hb hx hy hm
  · have hd : decide (xs = ys) = false := by
      simp only [decide_eq_false_iff_not]
      rintro rfl
      exact h (hx.symm.trans hy)
    rw [hd]
    exact specSameHints_no A B n m c d w h

theorem sliceEqualH_no (A B : Option Addr) (n m c d : Nat) (w : World) (h : n ≠ m) :
    Calls Tryz.prog 110 #[.slice A n c, .slice B m d] w fun e w' => e = .returned (.bool false) ∧ Below w.heap.size w w' := by
  have hb : ((n : Int) != (m : Int)) = true := by simp; omega
  go_enter Tryz.func110, Tryz.ntmps110
  go_wp2
  go_ret
  exact ⟨rfl, Below.refl _ _⟩

set_option maxHeartbeats 2000000 in
theorem sliceEqualH_any (A B : Option Addr) (n c d : Nat) (xs ys : List Hnt) (w : World) (ha : Rd eH w w.heap.size A xs) (hb : Rd eH w w.heap.size B ys) (hx : xs.length = n) (hy : ys.length = n) (hm : n ≤ maxLen) :
    Calls Tryz.prog 110 #[.slice A n c, .slice B n d] w fun e w' => e = .returned (.bool (decide (xs = ys))) ∧ Below w.heap.size w w' := by
  have h0 : ((n : Int) != (n : Int)) = false := by simp
  have Hx := Lib.hid hx
  have Hy := Lib.hid hy
  clear hx hy
  unfold maxLen at hm
  go_enter Tryz.func110, Tryz.ntmps110
  go_wp2
  go_loopw [13] (fun i wr => EqRelH xs ys w n i wr) (fun i _ => n - (intOf i).toNat)
  case atStart => exact ⟨0, Nat.zero_le _, rfl, fun _ h => absurd h (by omega), Below.refl _ _⟩
  case round =>
    obtain ⟨k, hk, rfl, hal, hbel⟩ := hrel
    have Hal := Lib.hid hal
    clear hal
    by_cases hlt : k < n
    · obtain ⟨g, o, a0, a1, a2, a3, a4, a5, a6, rfl, hg, hxk, ca⟩ := (ha.below hbel (Nat.le_refl _)).hnt (k := k) (by rw [Hx.out]; exact hlt)
      obtain ⟨g', o', b0, b1, b2, b3, b4, b5, b6, rfl, hg', hyk, cb⟩ := (hb.below hbel (Nat.le_refl _)).hnt (k := k) (by rw [Hy.out]; exact hlt)
      have Hxk := Lib.hid hxk
      have Hyk := Lib.hid hyk
      clear hxk hyk
      have hbd := hbel.drew
      go_wp2
      refine wp_region_mix [(0, false), (1, false), (2, false), (3, false), (4, false), (5, false), (6, false), (7, false), (8, false)] (fun u => S7 u g (o + k * 7) a0 a1 a2 a3 a4 a5 a6 ∧ S7 u g' (o' + k * 7) b0 b1 b2 b3 b4 b5 b6) (by kernel_rfl) (by kernel_rfl) (fun _ _ _ _ _ h => h) ⟨ca.drew, cb.drew⟩ ?_
      simp only [mixOps, List.map_cons, List.map_nil, List.getElem?_cons_succ, List.getElem?_cons_zero, Option.getD_some]
      iterate 8 (
        refine mix_pure (v := ?_) (by rfl) (fun u hu => ?_) ?_
        rotate_left
        · obtain ⟨⟨_, _, _, _, _, _, _⟩, _, _, _, _, _, _, _⟩ := hu
          go_simp
          (with_reducible rfl)
        (try simp only [Act.put, List.setIfInBounds_toArray, List.set_cons_zero, List.set_cons_succ]))
      refine mix_pure (v := .bool (decide (¬ (a0, (a1, a2, a3, a4), a5, a6) = (b0, (b1, b2, b3, b4), b5, b6)))) (by rfl) (fun u _ => by
        go_simp
        (by_cases h0 : a0 = b0; rotate_left; simp [h0]; by_cases h1 : a1 = b1; rotate_left; simp [h0, h1]; by_cases h2 : a2 = b2; rotate_left; simp [h0, h1, h2]; by_cases h3 : a3 = b3; rotate_left; simp [h0, h1, h2, h3]; by_cases h4 : a4 = b4; rotate_left; simp [h0, h1, h2, h3, h4]; by_cases h5 : a5 = b5; rotate_left; simp [h0, h1, h2, h3, h4, h5]; by_cases h6 : a6 = b6; rotate_left; simp [h0, h1, h2, h3, h4, h5, h6]; simp [h0, h1, h2, h3, h4, h5, h6])) ?_
      (try simp only [Act.put, List.setIfInBounds_toArray, List.set_cons_zero, List.set_cons_succ])
      refine mix_nil ?_
      by_cases he : (a0, (a1, a2, a3, a4), a5, a6) = (b0, (b1, b2, b3, b4), b5, b6)
      · rw [show decide (¬ (a0, (a1, a2, a3, a4), a5, a6) = (b0, (b1, b2, b3, b4), b5, b6)) = false from decide_eq_false (fun h => h he)]
        have He := Lib.hid he
        clear he
        go_wp2
        refine ⟨⟨k + 1, by omega, by go_num, fun i hi => ?_, hbd⟩, by simp [intOf]; omega⟩
        rcases Nat.lt_or_ge i k with h | h
        · exact Hal.out i h
        · obtain rfl : i = k := by omega
          rw [Hxk.out, Hyk.out, He.out]
      · rw [show decide (¬ (a0, (a1, a2, a3, a4), a5, a6) = (b0, (b1, b2, b3, b4), b5, b6)) = true from decide_eq_true he]
        have hfin : decide (xs = ys) = false := by
          simp only [decide_eq_false_iff_not]
          rintro rfl
          exact he (Option.some.inj (Hxk.out.symm.trans Hyk.out))
        have Hf := Lib.hid hfin
        clear he hfin
        go_wp2
        go_ret
        exact ⟨by rw [Hf.out]; rfl, hbd⟩
    · have hfin : decide (xs = ys) = true := by
        obtain rfl : k = n := by omega
        simp only [decide_eq_true_eq]
        exact alike_all' Hx.out Hy.out Hal.out
      have Hf := Lib.hid hfin
      clear hfin
      go_wp2
      go_ret
      exact ⟨by rw [Hf.out]; rfl, hbel⟩

theorem sliceEqualH (A B : Option Addr) (n m c d : Nat) (xs ys : List Hnt) (w : World) (ha : Rd eH w w.heap.size A xs) (hb : Rd eH w w.heap.size B ys) (hx : xs.length = n) (hy : ys.length = m) (hm : n ≤ maxLen) :
    Calls Tryz.prog 110 #[.slice A n c, .slice B m d] w fun e w' => e = .returned (.bool (decide (xs = ys))) ∧ Below w.heap.size w w' := by
  by_cases h : n = m
  · subst h
    exact sliceEqualH_any A B n c d xs ys w ha hb hx hy hm
  · have hd : decide (xs = ys) = false := by
      simp only [decide_eq_false_iff_not]
      rintro rfl
      exact h (hx.symm.trans hy)
    rw [hd]
    exact sliceEqualH_no A B n m c d w h

theorem implSameHints (A B : Option Addr) (n m c d : Nat) (xs ys : List Hnt) (w : World) (ha : Rd eH w w.heap.size A xs) (hb : Rd eH w w.heap.size B ys) (hx : xs.length = n) (hy : ys.length = m) (hm : n ≤ maxLen) :
    Calls Tryz.prog 57 #[.slice A n c, .slice B m d] w fun e w' => e = .returned (.bool (decide (xs = ys))) ∧ Below w.heap.size w w' := by
  have h1 := sliceEqualH A B n m c d xs ys w ha hb hx hy hm
  clear ha hb hx hy
  go_enter Tryz.func57, Tryz.ntmps57
  go_wp2_with (go_at_call 110; refine h1.mono ?_; rintro e w1 ⟨rfl, hb1⟩)
  go_ret
  exact ⟨rfl, hb1⟩
end Go.Proofs.YtmaillakhhdkfaaGreatDoor
/-
  Two states held against one another: the model's way and the program's.
-/
namespace Go.Proofs.YtmaillakhhdkfaaGreatDoor
set_option maxRecDepth 20000
open Go.RowKit
set_option linter.unusedSimpArgs false
set_option linter.unusedVariables false
attribute [local irreducible] mixW

set_option maxHeartbeats 4000000 in
theorem specSameStates (A B A' B' : Option Addr) (n c m d n' c' m' d' : Nat) (l l' : List Smp) (h h' : List Hnt) (x x' : Int) (w : World)
    (ha : Rd eS w w.heap.size A l) (hb : Rd eH w w.heap.size B h) (ha' : Rd eS w w.heap.size A' l') (hb' : Rd eH w w.heap.size B' h') (hn : l.length = n) (hm : h.length = m) (hn' : l'.length = n') (hm' : h'.length = m') (hnm : n ≤ maxLen) (hmm : m ≤ maxLen) :
    Calls Tryz.prog 18 #[.agg #[.slice A n c, .slice B m d, .int .i64 x], .agg #[.slice A' n' c', .slice B' m' d', .int .i64 x']] w fun e w' => e = .returned (.bool (staSame (l, h, x) (l', h', x'))) ∧ Below w.heap.size w w' := by
  have hb0 : Below w.heap.size w ((w.alloc (.cells #[.slice A n c, .slice B m d, .int .i64 x] 39)).alloc (.cells #[.slice A' n' c', .slice B' m' d', .int .i64 x'] 39)) := ((Below.refl _ _).alloc (Nat.le_refl _) _).alloc (by simp) _
  have x0 := (At.new w 39 #[.slice A n c, .slice B m d, .int .i64 x]).alloc (.cells #[.slice A' n' c', .slice B' m' d', .int .i64 x'] 39)
  have y0 : At ((w.alloc (.cells #[.slice A n c, .slice B m d, .int .i64 x] 39)).alloc (.cells #[.slice A' n' c', .slice B' m' d', .int .i64 x'] 39)) (w.heap.size + 1) 39 #[.slice A' n' c', .slice B' m' d', .int .i64 x'] := by
    have := At.new (w.alloc (.cells #[.slice A n c, .slice B m d, .int .i64 x] 39)) 39 #[.slice A' n' c', .slice B' m' d', .int .i64 x']
    simpa using this
  have ha0 := ha.lift hb0
  have hb00 := hb.lift hb0
  have ha0' := ha'.lift hb0
  have hb0' := hb'.lift hb0
  have S1 := specSameSamples A A' n n' c c' l l' _ ha0 ha0' hn hn' hnm
  have S2 := fun W (k : Below ((w.alloc (.cells #[.slice A n c, .slice B m d, .int .i64 x] 39)).alloc (.cells #[.slice A' n' c', .slice B' m' d', .int .i64 x'] 39)).heap.size ((w.alloc (.cells #[.slice A n c, .slice B m d, .int .i64 x] 39)).alloc (.cells #[.slice A' n' c', .slice B' m' d', .int .i64 x'] 39)) W) => specSameHints B B' m m' d d' h h' W (hb00.lift k) (hb0'.lift k) hm hm' hmm
  have es : staSame (l, h, x) (l', h', x') = (decide (l = l') && (decide (h = h') && decide (x = x'))) := rfl
  rcases k1 : decide (l = l') <;> rcases k2 : decide (h = h') <;> rcases k3 : decide (x = x')
  all_goals
    rw [k1, k2, k3] at es
    rw [k1] at S1
    rw [k2] at S2
    have k3' : (x == x') = decide (x = x') := rfl
    rw [k3] at k3'
    have Es := Lib.hid es
    clear k1 k2 k3 es hn hm hn' hm' ha hb ha' hb' ha0 hb00 ha0' hb0'
    obtain ⟨p0, p1, p2, _, _, _⟩ := x0.three
    obtain ⟨q0, q1, q2, _, _, _⟩ := y0.three
    go_enter Tryz.func18, Tryz.ntmps18
    go_wp2_with fail
    refine S1.mono ?_
    rintro e w1 ⟨rfl, hb1⟩
    have hB1 := hb0.trans (hb1.mono hb0.size)
    have x1 := x0.below hb1 x0.lt
    have y1 := y0.below hb1 y0.lt
    clear p0 p1 p2 q0 q1 q2 S1
    obtain ⟨p0, p1, p2, _, _, _⟩ := x1.three
    obtain ⟨q0, q1, q2, _, _, _⟩ := y1.three
    first
    | (go_wp2_with fail
       refine (S2 _ hb1).mono ?_
       rintro e w2 ⟨rfl, hb2⟩
       have hB2 := hB1.trans (hb2.mono hB1.size)
       have x2 := x1.below hb2 x1.lt
       have y2 := y1.below hb2 y1.lt
       clear p0 p1 p2 q0 q1 q2
       obtain ⟨p0, p1, p2, _, _, _⟩ := x2.three
       obtain ⟨q0, q1, q2, _, _, _⟩ := y2.three
       go_wp2
       go_ret
       exact ⟨by rw [Es.out]; rfl, hB2⟩)
    | (go_wp2
       go_ret
       exact ⟨by rw [Es.out]; rfl, hB1⟩)

set_option maxHeartbeats 4000000 in
theorem implSameStates (A B A' B' : Option Addr) (n c m d n' c' m' d' : Nat) (l l' : List Smp) (h h' : List Hnt) (x x' : Int) (w : World)
    (ha : Rd eS w w.heap.size A l) (hb : Rd eH w w.heap.size B h) (ha' : Rd eS w w.heap.size A' l') (hb' : Rd eH w w.heap.size B' h') (hn : l.length = n) (hm : h.length = m) (hn' : l'.length = n') (hm' : h'.length = m') (hnm : n ≤ maxLen) (hmm : m ≤ maxLen) :
    Calls Tryz.prog 17 #[.agg #[.slice A n c, .slice B m d, .int .i64 x], .agg #[.slice A' n' c', .slice B' m' d', .int .i64 x']] w fun e w' => e = .returned (.bool (staSame (l, h, x) (l', h', x'))) ∧ Below w.heap.size w w' := by
  have hb0 : Below w.heap.size w ((w.alloc (.cells #[.slice A n c, .slice B m d, .int .i64 x] 39)).alloc (.cells #[.slice A' n' c', .slice B' m' d', .int .i64 x'] 39)) := ((Below.refl _ _).alloc (Nat.le_refl _) _).alloc (by simp) _
  have x0 := (At.new w 39 #[.slice A n c, .slice B m d, .int .i64 x]).alloc (.cells #[.slice A' n' c', .slice B' m' d', .int .i64 x'] 39)
  have y0 : At ((w.alloc (.cells #[.slice A n c, .slice B m d, .int .i64 x] 39)).alloc (.cells #[.slice A' n' c', .slice B' m' d', .int .i64 x'] 39)) (w.heap.size + 1) 39 #[.slice A' n' c', .slice B' m' d', .int .i64 x'] := by
    have := At.new (w.alloc (.cells #[.slice A n c, .slice B m d, .int .i64 x] 39)) 39 #[.slice A' n' c', .slice B' m' d', .int .i64 x']
    simpa using this
  have ha0 := ha.lift hb0
  have hb00 := hb.lift hb0
  have ha0' := ha'.lift hb0
  have hb0' := hb'.lift hb0
  have S1 := implSameSamples A A' n n' c c' l l' _ ha0 ha0' hn hn' hnm
  have S2 := fun W (k : Below ((w.alloc (.cells #[.slice A n c, .slice B m d, .int .i64 x] 39)).alloc (.cells #[.slice A' n' c', .slice B' m' d', .int .i64 x'] 39)).heap.size ((w.alloc (.cells #[.slice A n c, .slice B m d, .int .i64 x] 39)).alloc (.cells #[.slice A' n' c', .slice B' m' d', .int .i64 x'] 39)) W) => implSameHints B B' m m' d d' h h' W (hb00.lift k) (hb0'.lift k) hm hm' hmm
  have es : staSame (l, h, x) (l', h', x') = (decide (l = l') && (decide (h = h') && decide (x = x'))) := rfl
  rcases k1 : decide (l = l') <;> rcases k2 : decide (h = h') <;> rcases k3 : decide (x = x')
  all_goals
    rw [k1, k2, k3] at es
    rw [k1] at S1
    rw [k2] at S2
    have k3' : (x == x') = decide (x = x') := rfl
    rw [k3] at k3'
    have Es := Lib.hid es
    clear k1 k2 k3 es hn hm hn' hm' ha hb ha' hb' ha0 hb00 ha0' hb0'
    obtain ⟨p0, p1, p2, _, _, _⟩ := x0.three
    obtain ⟨q0, q1, q2, _, _, _⟩ := y0.three
    go_enter Tryz.func17, Tryz.ntmps17
    go_wp2_with fail
    refine S1.mono ?_
    rintro e w1 ⟨rfl, hb1⟩
    have hB1 := hb0.trans (hb1.mono hb0.size)
    have x1 := x0.below hb1 x0.lt
    have y1 := y0.below hb1 y0.lt
    clear p0 p1 p2 q0 q1 q2 S1
    obtain ⟨p0, p1, p2, _, _, _⟩ := x1.three
    obtain ⟨q0, q1, q2, _, _, _⟩ := y1.three
    first
    | (go_wp2_with fail
       refine (S2 _ hb1).mono ?_
       rintro e w2 ⟨rfl, hb2⟩
       have hB2 := hB1.trans (hb2.mono hB1.size)
       have x2 := x1.below hb2 x1.lt
       have y2 := y1.below hb2 y1.lt
       clear p0 p1 p2 q0 q1 q2
       obtain ⟨p0, p1, p2, _, _, _⟩ := x2.three
       obtain ⟨q0, q1, q2, _, _, _⟩ := y2.three
       go_wp2
       go_ret
       exact ⟨by rw [Es.out]; rfl, hB2⟩)
    | (go_wp2
       go_ret
       exact ⟨by rw [Es.out]; rfl, hB1⟩)
end Go.Proofs.YtmaillakhhdkfaaGreatDoor
/-
  A right record put to a state of one's own: the model's.
-/
namespace Go.Proofs.YtmaillakhhdkfaaGreatDoor
set_option maxRecDepth 20000
open Go.RowKit
set_option linter.unusedSimpArgs false
set_option linter.unusedVariables false
attribute [local irreducible] mixW

theorem step1 {s : Sta} {p : Int} {y : Smp} {k : Int} {z : Int} {b : Bool} {st : List Smp} (h : insertM s.1 y = (z, b, st)) : stepR s (1, p, y, k) = if z = 0 then (0, (st, s.2.1, s.2.2)) else (z, s) := by unfold stepR; rw [if_pos rfl, h]
theorem step2 {s : Sta} {p : Int} {y : Smp} {k : Int} {z : Int} {st : List Hnt} (h : addM s.2.1 p y = (z, st)) : stepR s (2, p, y, k) = if z = 0 then (0, (s.1, st, s.2.2)) else (z, s) := by unfold stepR; rw [if_neg ne21, if_pos rfl, h]
theorem step3 {s : Sta} {p : Int} {y : Smp} {k : Int} {z : Int} {st : List Hnt} (h : doneM s.2.1 p k = (z, st)) : stepR s (3, p, y, k) = if z = 0 then (0, (s.1, st, s.2.2)) else (z, s) := by unfold stepR; rw [if_neg ne31, if_neg ne32, if_pos rfl, h]
theorem step4 {s : Sta} {r0 p : Int} {y : Smp} {k : Int} (h1 : r0 ≠ 1) (h2 : r0 ≠ 2) (h3 : r0 ≠ 3) : stepR s (r0, p, y, k) = if k < s.2.2 then (8, s) else (0, (s.1, s.2.1, k)) := by unfold stepR; rw [if_neg h1, if_neg h2, if_neg h3]

/-- What the state's block and rows are behind the step. -/
def StaAt (w : World) (g base : Nat) (s : Sta) : Prop := ∃ A n c B m d, At w g 39 #[.slice A n c, .slice B m d, .int .i64 s.2.2] ∧ Ow eS w base A n c s.1 ∧ Ow eH w base B m d s.2.1
set_option maxHeartbeats 8000000 in
theorem l5Apply (g gr base : Nat) (A B : Option Addr) (n c m d : Nat) (l : List Smp) (h : List Hnt) (x a0 a1 a2 a3 a4 a5 a6 : Int) (w : World) (hx : At w g 39 #[.slice A n c, .slice B m d, .int .i64 x]) (hr : At w gr 27 #[.int .i64 a0, .int .i64 a1, .int .i64 a2, .int .i64 a3, .int .i64 a4, .int .i64 a5, .int .i64 a6]) (oa : Ow eS w base A n c l) (ob : Ow eH w base B m d h) (hbase : base ≤ w.heap.size) (hn1 : n ≤ 1048576) :
    Calls Tryz.prog 55 #[.pointer (some ⟨g, 0, none⟩), .pointer (some ⟨gr, 0, none⟩)] w fun e w' => e = .returned (.int .i64 (stepR (l, h, x) (a0, a1, (a2, a3, a4, a5), a6)).1) ∧ StaAt w' g base (stepR (l, h, x) (a0, a1, (a2, a3, a4, a5), a6)).2 ∧ w.grownBy w' (some g) := by
  have lx := hx.lt
  have lr := hr.lt
  have x2 : At2 w g 39 #[.slice A n c, .slice B m d, .int .i64 x] gr 27 #[.int .i64 a0, .int .i64 a1, .int .i64 a2, .int .i64 a3, .int .i64 a4, .int .i64 a5, .int .i64 a6] := ⟨hx, hr⟩
  have Hn := Lib.hid (oa.len okS)
  have Hm := Lib.hid (ob.len okH)
  have ra := oa.rd okS
  have rb := ob.rd okH
  have hdc := ob.cap
  obtain ⟨c0, c1, c2, cf0, cf1, cf2⟩ := hx.three
  obtain ⟨r0, r1, r2, r3, r4, r5, r6⟩ := hr.seven
  by_cases k1 : a0 = 1
  · subst k1
    obtain ⟨z, nw, st, hz⟩ : ∃ z b st, insertM l (a2, a3, a4, a5) = (z, b, st) := ⟨_, _, _, rfl⟩
    have Hs := Lib.hid (step1 (s := (l, h, x)) (p := a1) (k := a6) hz)
    have SI := specInsertSample A n c l a2 a3 a4 a5
    rw [hz] at SI
    clear hz
    go_enter Tryz.func55, Tryz.ntmps55
    go_upto_region 3 with fail
    go_cut [5] (fun s wx => ∃ gx Ax kx cx, s = .pointer (some ⟨gx, 0, none⟩) ∧ At wx gx 135 #[.int .i64 z, .bool nw, .slice Ax kx cx] ∧ Ow eS wx w.heap.size Ax kx cx st ∧ Below w.heap.size w wx)
    case first =>
      refine any_start (fun u => At2 u g 39 #[.slice A n c, .slice B m d, .int .i64 x] gr 27 #[.int .i64 1, .int .i64 a1, .int .i64 a2, .int .i64 a3, .int .i64 a4, .int .i64 a5, .int .i64 a6]) (by kernel_rfl) x2.drew (fun _ => ?_)
      have bxd := x2.drew
      have hBd := (Below.refl w.heap.size w).drew
      have rad : _ := ra.lift ((Below.refl _ _).drew)
      refine any_pure (v := ?_) 0 rfl (by kernel_rfl) (fun _ _ _ _ _ h => h) (by rfl) (fun u hu => ?_) bxd ?_
      rotate_left
      · (obtain ⟨hu1, hu2⟩ := hu; obtain ⟨_, _, _, _, _, _⟩ := At.three hu1; obtain ⟨_, _, _, _, _, _, _⟩ := At.seven hu2)
        go_simp
        (with_reducible rfl)
      (try simp only [Act.put, List.setIfInBounds_toArray, List.set_cons_zero, List.set_cons_succ])
      refine any_pure (v := ?_) 1 rfl (by kernel_rfl) (fun _ _ _ _ _ h => h) (by rfl) (fun u hu => ?_) bxd ?_
      rotate_left
      · (obtain ⟨hu1, hu2⟩ := hu; obtain ⟨_, _, _, _, _, _⟩ := At.three hu1; obtain ⟨_, _, _, _, _, _, _⟩ := At.seven hu2)
        go_simp
        (with_reducible rfl)
      (try simp only [Act.put, List.setIfInBounds_toArray, List.set_cons_zero, List.set_cons_succ])
      refine any_pure (v := ?_) 2 rfl (by kernel_rfl) (fun _ _ _ _ _ h => h) (by rfl) (fun u hu => ?_) bxd ?_
      rotate_left
      · (obtain ⟨hu1, hu2⟩ := hu; obtain ⟨_, _, _, _, _, _⟩ := At.three hu1; obtain ⟨_, _, _, _, _, _, _⟩ := At.seven hu2)
        go_simp
        (with_reducible rfl)
      (try simp only [Act.put, List.setIfInBounds_toArray, List.set_cons_zero, List.set_cons_succ])
      refine any_pure (v := ?_) 3 rfl (by kernel_rfl) (fun _ _ _ _ _ h => h) (by rfl) (fun u hu => ?_) bxd ?_
      rotate_left
      · (obtain ⟨hu1, hu2⟩ := hu; obtain ⟨_, _, _, _, _, _⟩ := At.three hu1; obtain ⟨_, _, _, _, _, _, _⟩ := At.seven hu2)
        go_simp
        (with_reducible rfl)
      (try simp only [Act.put, List.setIfInBounds_toArray, List.set_cons_zero, List.set_cons_succ])
      refine any_pure (v := ?_) 4 rfl (by kernel_rfl) (fun _ _ _ _ _ h => h) (by rfl) (fun u hu => ?_) bxd ?_
      rotate_left
      · (obtain ⟨hu1, hu2⟩ := hu; obtain ⟨_, _, _, _, _, _⟩ := At.three hu1; obtain ⟨_, _, _, _, _, _, _⟩ := At.seven hu2)
        go_simp
        (with_reducible rfl)
      (try simp only [Act.put, List.setIfInBounds_toArray, List.set_cons_zero, List.set_cons_succ])
      refine any_pure (v := ?_) 5 rfl (by kernel_rfl) (fun _ _ _ _ _ h => h) (by rfl) (fun u hu => ?_) bxd ?_
      rotate_left
      · (obtain ⟨hu1, hu2⟩ := hu; obtain ⟨_, _, _, _, _, _⟩ := At.three hu1; obtain ⟨_, _, _, _, _, _, _⟩ := At.seven hu2)
        go_simp
        (with_reducible rfl)
      (try simp only [Act.put, List.setIfInBounds_toArray, List.set_cons_zero, List.set_cons_succ])
      refine any_pure (v := ?_) 6 rfl (by kernel_rfl) (fun _ _ _ _ _ h => h) (by rfl) (fun u hu => ?_) bxd ?_
      rotate_left
      · (obtain ⟨hu1, hu2⟩ := hu; obtain ⟨_, _, _, _, _, _⟩ := At.three hu1; obtain ⟨_, _, _, _, _, _, _⟩ := At.seven hu2)
        go_simp
        (with_reducible rfl)
      (try simp only [Act.put, List.setIfInBounds_toArray, List.set_cons_zero, List.set_cons_succ])
      refine any_pure (v := ?_) 7 rfl (by kernel_rfl) (fun _ _ _ _ _ h => h) (by rfl) (fun u hu => ?_) bxd ?_
      rotate_left
      · (obtain ⟨hu1, hu2⟩ := hu; obtain ⟨_, _, _, _, _, _⟩ := At.three hu1; obtain ⟨_, _, _, _, _, _, _⟩ := At.seven hu2)
        go_simp
        (with_reducible rfl)
      (try simp only [Act.put, List.setIfInBounds_toArray, List.set_cons_zero, List.set_cons_succ])
      refine any_two 8 9 rfl rfl (by kernel_rfl) (by rfl) (by rfl) ?_ ?_
      · go_simp
        refine (SI _ rad Hn.out hn1).mono ?_
        rintro e w101 ⟨A101, k101, c101, rfl, ow101, hb101⟩
        have hB101 := hBd.trans (hb101.mono hBd.size)
        have bx101 := bxd.below hb101 bxd.lt
        have ra_101 := rad.lift hb101
        refine ⟨(fun u => At2 u g 39 #[.slice A n c, .slice B m d, .int .i64 x] gr 27 #[.int .i64 1, .int .i64 a1, .int .i64 a2, .int .i64 a3, .int .i64 a4, .int .i64 a5, .int .i64 a6]), fun _ h => h, bx101, ?_⟩
        (try simp only [Act.put, List.setIfInBounds_toArray, List.set_cons_zero, List.set_cons_succ])
        refine any_one 9 rfl (by kernel_rfl) (by rfl) ?_
        go_simp
        have ag102 := At.newAt' (w := w101) (t := 135) (cs := #[.int .i64 0, .bool false, .slice none 0 0]) (show w101.heap.size = w101.heap.size by first | rfl | simp)
        have gl102 : w.heap.size ≤ w101.heap.size := by first | exact hB101.size | exact Nat.le_refl _ | (have := hB101.size; simp at this ⊢; try omega)
        have hal102 := (Below.refl w101.heap.size w101).alloc (Nat.le_refl _) (.cells #[.int .i64 0, .bool false, .slice none 0 0] 135)
        have hB102 := hB101.alloc hB101.size (.cells #[.int .i64 0, .bool false, .slice none 0 0] 135)
        have bx102 := bx101.alloc (.cells #[.int .i64 0, .bool false, .slice none 0 0] 135)
        have ow_102 := ow101.alloc (.cells #[.int .i64 0, .bool false, .slice none 0 0] 135)
        have ra_102 := ra_101.lift hal102
        refine ⟨(fun u => At2 u g 39 #[.slice A n c, .slice B m d, .int .i64 x] gr 27 #[.int .i64 1, .int .i64 a1, .int .i64 a2, .int .i64 a3, .int .i64 a4, .int .i64 a5, .int .i64 a6]), fun _ h => h, bx102, ?_⟩
        (try simp only [Act.put, List.setIfInBounds_toArray, List.set_cons_zero, List.set_cons_succ])
        refine any_one 10 rfl (by kernel_rfl) (by rfl) ?_
        go_simp
        have AG103 := At.newAt' (w := w101) (t := 135) (cs := #[.int .i64 z, .bool nw, .slice A101 k101 c101]) (show w101.heap.size = w101.heap.size by first | rfl | simp)
        have hal103 := (Below.refl w101.heap.size w101).alloc (Nat.le_refl _) (.cells #[.int .i64 z, .bool nw, .slice A101 k101 c101] 135)
        have hB103 := hB101.alloc hB101.size (.cells #[.int .i64 z, .bool nw, .slice A101 k101 c101] 135)
        have bx103 := bx101.alloc (.cells #[.int .i64 z, .bool nw, .slice A101 k101 c101] 135)
        have ow_103 := ow101.alloc (.cells #[.int .i64 z, .bool nw, .slice A101 k101 c101] 135)
        have ra_103 := ra_101.lift hal103
        refine ⟨(fun u => At2 u g 39 #[.slice A n c, .slice B m d, .int .i64 x] gr 27 #[.int .i64 1, .int .i64 a1, .int .i64 a2, .int .i64 a3, .int .i64 a4, .int .i64 a5, .int .i64 a6]), fun _ h => h, bx103, ?_⟩
        (try simp only [Act.put, List.setIfInBounds_toArray, List.set_cons_zero, List.set_cons_succ])
        refine any_done (by kernel_rfl) ?_
        go_wp2
        go_meet
        exact ⟨_, _, _, _, rfl, AG103, ow_103.from_ hBd.size, hB103⟩
      · go_simp
        have ag104 := At.newAt' (w := w.drew) (t := 135) (cs := #[.int .i64 0, .bool false, .slice none 0 0]) (show w.drew.heap.size = w.heap.size by first | rfl | simp)
        have gl104 : w.heap.size ≤ w.heap.size := by first | exact hBd.size | exact Nat.le_refl _ | (have := hBd.size; simp at this ⊢; try omega)
        have hal104 := (Below.refl w.drew.heap.size w.drew).alloc (Nat.le_refl _) (.cells #[.int .i64 0, .bool false, .slice none 0 0] 135)
        have hB104 := hBd.alloc hBd.size (.cells #[.int .i64 0, .bool false, .slice none 0 0] 135)
        have bx104 := bxd.alloc (.cells #[.int .i64 0, .bool false, .slice none 0 0] 135)
        have ra_104 := rad.lift hal104
        refine ⟨(fun u => At2 u g 39 #[.slice A n c, .slice B m d, .int .i64 x] gr 27 #[.int .i64 1, .int .i64 a1, .int .i64 a2, .int .i64 a3, .int .i64 a4, .int .i64 a5, .int .i64 a6]), fun _ h => h, bx104, ?_⟩
        (try simp only [Act.put, List.setIfInBounds_toArray, List.set_cons_zero, List.set_cons_succ])
        refine any_one 8 rfl (by kernel_rfl) (by rfl) ?_
        go_simp
        refine (SI _ ra_104 Hn.out hn1).mono ?_
        rintro e w105 ⟨A105, k105, c105, rfl, ow105, hb105⟩
        have hB105 := hB104.trans (hb105.mono hB104.size)
        have bx105 := bx104.below hb105 bx104.lt
        have ag_105 := ag104.below hb105 ag104.lt
        have ra_105 := ra_104.lift hb105
        refine ⟨(fun u => At2 u g 39 #[.slice A n c, .slice B m d, .int .i64 x] gr 27 #[.int .i64 1, .int .i64 a1, .int .i64 a2, .int .i64 a3, .int .i64 a4, .int .i64 a5, .int .i64 a6]), fun _ h => h, bx105, ?_⟩
        (try simp only [Act.put, List.setIfInBounds_toArray, List.set_cons_zero, List.set_cons_succ])
        refine any_one 10 rfl (by kernel_rfl) (by rfl) ?_
        obtain ⟨k0, k1, k2, k3, k4, k5⟩ := ag_105.three
        go_simp
        have hltg106 : w.heap.size < w105.heap.size := ag_105.lt
        have AG106 : At (((w105.setCell ⟨w.heap.size, 0, none⟩ (.int .i64 z)).setCell ⟨w.heap.size, 1, none⟩ (.bool nw)).setCell ⟨w.heap.size, 2, none⟩ (.slice A105 k105 c105)) w.heap.size 135 #[.int .i64 z, .bool nw, .slice A105 k105 c105] := (((ag_105.set 0 (.int .i64 z)).set 1 (.bool nw)).set 2 (.slice A105 k105 c105))
        have bx106 := (((bx105.far (p := ⟨w.heap.size, 0, none⟩) (by show g ≠ w.heap.size ∧ gr ≠ w.heap.size; have := gl104; omega) (.int .i64 z)).far (p := ⟨w.heap.size, 1, none⟩) (by show g ≠ w.heap.size ∧ gr ≠ w.heap.size; have := gl104; omega) (.bool nw)).far (p := ⟨w.heap.size, 2, none⟩) (by show g ≠ w.heap.size ∧ gr ≠ w.heap.size; have := gl104; omega) (.slice A105 k105 c105))
        have hB106 := (((hB105.setCell (p := ⟨w.heap.size, 0, none⟩) gl104 (.int .i64 z)).setCell (p := ⟨w.heap.size, 1, none⟩) gl104 (.bool nw)).setCell (p := ⟨w.heap.size, 2, none⟩) gl104 (.slice A105 k105 c105))
        have ow_106 := ow105
        have ow_106 := ow_106.apart (by decide) ag_105 0 (.int .i64 z)
        have ow_106 := ow_106.apart (by decide) ((ag_105.set 0 (.int .i64 z))) 1 (.bool nw)
        have ow_106 := ow_106.apart (by decide) (((ag_105.set 0 (.int .i64 z)).set 1 (.bool nw))) 2 (.slice A105 k105 c105)
        refine ⟨(fun u => At2 u g 39 #[.slice A n c, .slice B m d, .int .i64 x] gr 27 #[.int .i64 1, .int .i64 a1, .int .i64 a2, .int .i64 a3, .int .i64 a4, .int .i64 a5, .int .i64 a6]), fun _ h => h, bx106, ?_⟩
        (try simp only [Act.put, List.setIfInBounds_toArray, List.set_cons_zero, List.set_cons_succ])
        refine any_done (by kernel_rfl) ?_
        go_wp2
        go_meet
        exact ⟨_, _, _, _, rfl, AG106, ow_106.from_ hB104.size, hB106⟩
    case rest =>
      obtain ⟨gx, Ax, kx, cx, rfl, AX1, OW1, HB1⟩ := hcut
      obtain ⟨q0, q1, q2, _, _, _⟩ := AX1.three
      have hxc := hx.below HB1 lx
      clear c0 c1 c2 cf0 cf1 cf2 r0 r1 r2 r3 r4 r5 r6
      obtain ⟨c0, c1, c2, cf0, cf1, cf2⟩ := hxc.three
      have hne : ¬ g = gx := by
        intro e
        subst e
        have := hxc.symm.trans AX1
        simp at this
      by_cases hz0 : z = 0
      · subst hz0
        have Hr := Lib.hid (show stepR (l, h, x) (1, a1, (a2, a3, a4, a5), a6) = (0, (st, h, x)) by rw [Hs.out, if_pos rfl])
        go_wp2
        go_ret
        rw [Hr.out]
        exact ⟨rfl, ⟨Ax, kx, cx, B, m, d, hxc.set 0 (.slice Ax kx cx), (OW1.from_ hbase).apart (by decide) hxc 0 _, (ob.below HB1 (Nat.le_refl _)).apart (by decide) hxc 0 _⟩, grown_trans (grown_any (grown_below HB1 (Nat.le_refl _)) _) (grown_setCell _ ⟨g, 0, none⟩ _)⟩
      · have hzb : (z == 0) = false := by simpa using hz0
        have Hr := Lib.hid (show stepR (l, h, x) (1, a1, (a2, a3, a4, a5), a6) = (z, (l, h, x)) by rw [Hs.out, if_neg hz0])
        clear hz0
        go_wp2
        go_ret
        rw [Hr.out]
        exact ⟨rfl, ⟨A, n, c, B, m, d, hxc, oa.below HB1 (Nat.le_refl _), ob.below HB1 (Nat.le_refl _)⟩, grown_any (grown_below HB1 (Nat.le_refl _)) _⟩
  by_cases k2 : a0 = 2
  · subst k2
    obtain ⟨z, st, hz⟩ : ∃ z st, addM h a1 (a2, a3, a4, a5) = (z, st) := ⟨_, _, rfl⟩
    have Hs := Lib.hid (step2 (s := (l, h, x)) (k := a6) hz)
    have SI := specAddHint B m d h a1 a2 a3 a4 a5
    rw [hz] at SI
    clear hz
    go_enter Tryz.func55, Tryz.ntmps55
    go_upto_region 8 with fail
    go_cut [6] (fun s wx => ∃ gx Ax kx cx, s = .pointer (some ⟨gx, 0, none⟩) ∧ At wx gx 138 #[.int .i64 z, .slice Ax kx cx] ∧ Ow eH wx w.heap.size Ax kx cx st ∧ Below w.heap.size w wx)
    case first =>
      refine any_start (fun u => At2 u g 39 #[.slice A n c, .slice B m d, .int .i64 x] gr 27 #[.int .i64 2, .int .i64 a1, .int .i64 a2, .int .i64 a3, .int .i64 a4, .int .i64 a5, .int .i64 a6]) (by kernel_rfl) x2.drew (fun _ => ?_)
      have bxd := x2.drew
      have hBd := (Below.refl w.heap.size w).drew
      have rbd : _ := rb.lift ((Below.refl _ _).drew)
      refine any_pure (v := ?_) 0 rfl (by kernel_rfl) (fun _ _ _ _ _ h => h) (by rfl) (fun u hu => ?_) bxd ?_
      rotate_left
      · (obtain ⟨hu1, hu2⟩ := hu; obtain ⟨_, _, _, _, _, _⟩ := At.three hu1; obtain ⟨_, _, _, _, _, _, _⟩ := At.seven hu2)
        go_simp
        (with_reducible rfl)
      (try simp only [Act.put, List.setIfInBounds_toArray, List.set_cons_zero, List.set_cons_succ])
      refine any_pure (v := ?_) 1 rfl (by kernel_rfl) (fun _ _ _ _ _ h => h) (by rfl) (fun u hu => ?_) bxd ?_
      rotate_left
      · (obtain ⟨hu1, hu2⟩ := hu; obtain ⟨_, _, _, _, _, _⟩ := At.three hu1; obtain ⟨_, _, _, _, _, _, _⟩ := At.seven hu2)
        go_simp
        (with_reducible rfl)
      (try simp only [Act.put, List.setIfInBounds_toArray, List.set_cons_zero, List.set_cons_succ])
      refine any_pure (v := ?_) 2 rfl (by kernel_rfl) (fun _ _ _ _ _ h => h) (by rfl) (fun u hu => ?_) bxd ?_
      rotate_left
      · (obtain ⟨hu1, hu2⟩ := hu; obtain ⟨_, _, _, _, _, _⟩ := At.three hu1; obtain ⟨_, _, _, _, _, _, _⟩ := At.seven hu2)
        go_simp
        (with_reducible rfl)
      (try simp only [Act.put, List.setIfInBounds_toArray, List.set_cons_zero, List.set_cons_succ])
      refine any_pure (v := ?_) 3 rfl (by kernel_rfl) (fun _ _ _ _ _ h => h) (by rfl) (fun u hu => ?_) bxd ?_
      rotate_left
      · (obtain ⟨hu1, hu2⟩ := hu; obtain ⟨_, _, _, _, _, _⟩ := At.three hu1; obtain ⟨_, _, _, _, _, _, _⟩ := At.seven hu2)
        go_simp
        (with_reducible rfl)
      (try simp only [Act.put, List.setIfInBounds_toArray, List.set_cons_zero, List.set_cons_succ])
      refine any_pure (v := ?_) 4 rfl (by kernel_rfl) (fun _ _ _ _ _ h => h) (by rfl) (fun u hu => ?_) bxd ?_
      rotate_left
      · (obtain ⟨hu1, hu2⟩ := hu; obtain ⟨_, _, _, _, _, _⟩ := At.three hu1; obtain ⟨_, _, _, _, _, _, _⟩ := At.seven hu2)
        go_simp
        (with_reducible rfl)
      (try simp only [Act.put, List.setIfInBounds_toArray, List.set_cons_zero, List.set_cons_succ])
      refine any_pure (v := ?_) 5 rfl (by kernel_rfl) (fun _ _ _ _ _ h => h) (by rfl) (fun u hu => ?_) bxd ?_
      rotate_left
      · (obtain ⟨hu1, hu2⟩ := hu; obtain ⟨_, _, _, _, _, _⟩ := At.three hu1; obtain ⟨_, _, _, _, _, _, _⟩ := At.seven hu2)
        go_simp
        (with_reducible rfl)
      (try simp only [Act.put, List.setIfInBounds_toArray, List.set_cons_zero, List.set_cons_succ])
      refine any_pure (v := ?_) 6 rfl (by kernel_rfl) (fun _ _ _ _ _ h => h) (by rfl) (fun u hu => ?_) bxd ?_
      rotate_left
      · (obtain ⟨hu1, hu2⟩ := hu; obtain ⟨_, _, _, _, _, _⟩ := At.three hu1; obtain ⟨_, _, _, _, _, _, _⟩ := At.seven hu2)
        go_simp
        (with_reducible rfl)
      (try simp only [Act.put, List.setIfInBounds_toArray, List.set_cons_zero, List.set_cons_succ])
      refine any_pure (v := ?_) 7 rfl (by kernel_rfl) (fun _ _ _ _ _ h => h) (by rfl) (fun u hu => ?_) bxd ?_
      rotate_left
      · (obtain ⟨hu1, hu2⟩ := hu; obtain ⟨_, _, _, _, _, _⟩ := At.three hu1; obtain ⟨_, _, _, _, _, _, _⟩ := At.seven hu2)
        go_simp
        (with_reducible rfl)
      (try simp only [Act.put, List.setIfInBounds_toArray, List.set_cons_zero, List.set_cons_succ])
      refine any_pure (v := ?_) 8 rfl (by kernel_rfl) (fun _ _ _ _ _ h => h) (by rfl) (fun u hu => ?_) bxd ?_
      rotate_left
      · (obtain ⟨hu1, hu2⟩ := hu; obtain ⟨_, _, _, _, _, _⟩ := At.three hu1; obtain ⟨_, _, _, _, _, _, _⟩ := At.seven hu2)
        go_simp
        (with_reducible rfl)
      (try simp only [Act.put, List.setIfInBounds_toArray, List.set_cons_zero, List.set_cons_succ])
      refine any_pure (v := ?_) 9 rfl (by kernel_rfl) (fun _ _ _ _ _ h => h) (by rfl) (fun u hu => ?_) bxd ?_
      rotate_left
      · (obtain ⟨hu1, hu2⟩ := hu; obtain ⟨_, _, _, _, _, _⟩ := At.three hu1; obtain ⟨_, _, _, _, _, _, _⟩ := At.seven hu2)
        go_simp
        (with_reducible rfl)
      (try simp only [Act.put, List.setIfInBounds_toArray, List.set_cons_zero, List.set_cons_succ])
      refine any_pure (v := ?_) 10 rfl (by kernel_rfl) (fun _ _ _ _ _ h => h) (by rfl) (fun u hu => ?_) bxd ?_
      rotate_left
      · (obtain ⟨hu1, hu2⟩ := hu; obtain ⟨_, _, _, _, _, _⟩ := At.three hu1; obtain ⟨_, _, _, _, _, _, _⟩ := At.seven hu2)
        go_simp
        (with_reducible rfl)
      (try simp only [Act.put, List.setIfInBounds_toArray, List.set_cons_zero, List.set_cons_succ])
      refine any_pure (v := ?_) 11 rfl (by kernel_rfl) (fun _ _ _ _ _ h => h) (by rfl) (fun u hu => ?_) bxd ?_
      rotate_left
      · (obtain ⟨hu1, hu2⟩ := hu; obtain ⟨_, _, _, _, _, _⟩ := At.three hu1; obtain ⟨_, _, _, _, _, _, _⟩ := At.seven hu2)
        go_simp
        (with_reducible rfl)
      (try simp only [Act.put, List.setIfInBounds_toArray, List.set_cons_zero, List.set_cons_succ])
      refine any_two 12 13 rfl rfl (by kernel_rfl) (by rfl) (by rfl) ?_ ?_
      · go_simp
        refine (SI _ rbd Hm.out).mono ?_
        rintro e w101 ⟨A101, k101, c101, rfl, ow101, hb101⟩
        have hB101 := hBd.trans (hb101.mono hBd.size)
        have bx101 := bxd.below hb101 bxd.lt
        have rb_101 := rbd.lift hb101
        refine ⟨(fun u => At2 u g 39 #[.slice A n c, .slice B m d, .int .i64 x] gr 27 #[.int .i64 2, .int .i64 a1, .int .i64 a2, .int .i64 a3, .int .i64 a4, .int .i64 a5, .int .i64 a6]), fun _ h => h, bx101, ?_⟩
        (try simp only [Act.put, List.setIfInBounds_toArray, List.set_cons_zero, List.set_cons_succ])
        refine any_one 13 rfl (by kernel_rfl) (by rfl) ?_
        go_simp
        have ag102 := At.newAt' (w := w101) (t := 138) (cs := #[.int .i64 0, .slice none 0 0]) (show w101.heap.size = w101.heap.size by first | rfl | simp)
        have gl102 : w.heap.size ≤ w101.heap.size := by first | exact hB101.size | exact Nat.le_refl _ | (have := hB101.size; simp at this ⊢; try omega)
        have hal102 := (Below.refl w101.heap.size w101).alloc (Nat.le_refl _) (.cells #[.int .i64 0, .slice none 0 0] 138)
        have hB102 := hB101.alloc hB101.size (.cells #[.int .i64 0, .slice none 0 0] 138)
        have bx102 := bx101.alloc (.cells #[.int .i64 0, .slice none 0 0] 138)
        have ow_102 := ow101.alloc (.cells #[.int .i64 0, .slice none 0 0] 138)
        have rb_102 := rb_101.lift hal102
        refine ⟨(fun u => At2 u g 39 #[.slice A n c, .slice B m d, .int .i64 x] gr 27 #[.int .i64 2, .int .i64 a1, .int .i64 a2, .int .i64 a3, .int .i64 a4, .int .i64 a5, .int .i64 a6]), fun _ h => h, bx102, ?_⟩
        (try simp only [Act.put, List.setIfInBounds_toArray, List.set_cons_zero, List.set_cons_succ])
        refine any_one 14 rfl (by kernel_rfl) (by rfl) ?_
        go_simp
        have AG103 := At.newAt' (w := w101) (t := 138) (cs := #[.int .i64 z, .slice A101 k101 c101]) (show w101.heap.size = w101.heap.size by first | rfl | simp)
        have hal103 := (Below.refl w101.heap.size w101).alloc (Nat.le_refl _) (.cells #[.int .i64 z, .slice A101 k101 c101] 138)
        have hB103 := hB101.alloc hB101.size (.cells #[.int .i64 z, .slice A101 k101 c101] 138)
        have bx103 := bx101.alloc (.cells #[.int .i64 z, .slice A101 k101 c101] 138)
        have ow_103 := ow101.alloc (.cells #[.int .i64 z, .slice A101 k101 c101] 138)
        have rb_103 := rb_101.lift hal103
        refine ⟨(fun u => At2 u g 39 #[.slice A n c, .slice B m d, .int .i64 x] gr 27 #[.int .i64 2, .int .i64 a1, .int .i64 a2, .int .i64 a3, .int .i64 a4, .int .i64 a5, .int .i64 a6]), fun _ h => h, bx103, ?_⟩
        (try simp only [Act.put, List.setIfInBounds_toArray, List.set_cons_zero, List.set_cons_succ])
        refine any_done (by kernel_rfl) ?_
        go_wp2
        go_meet
        exact ⟨_, _, _, _, rfl, AG103, ow_103.from_ hBd.size, hB103⟩
      · go_simp
        have ag104 := At.newAt' (w := w.drew) (t := 138) (cs := #[.int .i64 0, .slice none 0 0]) (show w.drew.heap.size = w.heap.size by first | rfl | simp)
        have gl104 : w.heap.size ≤ w.heap.size := by first | exact hBd.size | exact Nat.le_refl _ | (have := hBd.size; simp at this ⊢; try omega)
        have hal104 := (Below.refl w.drew.heap.size w.drew).alloc (Nat.le_refl _) (.cells #[.int .i64 0, .slice none 0 0] 138)
        have hB104 := hBd.alloc hBd.size (.cells #[.int .i64 0, .slice none 0 0] 138)
        have bx104 := bxd.alloc (.cells #[.int .i64 0, .slice none 0 0] 138)
        have rb_104 := rbd.lift hal104
        refine ⟨(fun u => At2 u g 39 #[.slice A n c, .slice B m d, .int .i64 x] gr 27 #[.int .i64 2, .int .i64 a1, .int .i64 a2, .int .i64 a3, .int .i64 a4, .int .i64 a5, .int .i64 a6]), fun _ h => h, bx104, ?_⟩
        (try simp only [Act.put, List.setIfInBounds_toArray, List.set_cons_zero, List.set_cons_succ])
        refine any_one 12 rfl (by kernel_rfl) (by rfl) ?_
        go_simp
        refine (SI _ rb_104 Hm.out).mono ?_
        rintro e w105 ⟨A105, k105, c105, rfl, ow105, hb105⟩
        have hB105 := hB104.trans (hb105.mono hB104.size)
        have bx105 := bx104.below hb105 bx104.lt
        have ag_105 := ag104.below hb105 ag104.lt
        have rb_105 := rb_104.lift hb105
        refine ⟨(fun u => At2 u g 39 #[.slice A n c, .slice B m d, .int .i64 x] gr 27 #[.int .i64 2, .int .i64 a1, .int .i64 a2, .int .i64 a3, .int .i64 a4, .int .i64 a5, .int .i64 a6]), fun _ h => h, bx105, ?_⟩
        (try simp only [Act.put, List.setIfInBounds_toArray, List.set_cons_zero, List.set_cons_succ])
        refine any_one 14 rfl (by kernel_rfl) (by rfl) ?_
        obtain ⟨k0, k1, k2, k3⟩ := ag_105.two
        go_simp
        have hltg106 : w.heap.size < w105.heap.size := ag_105.lt
        have AG106 : At ((w105.setCell ⟨w.heap.size, 0, none⟩ (.int .i64 z)).setCell ⟨w.heap.size, 1, none⟩ (.slice A105 k105 c105)) w.heap.size 138 #[.int .i64 z, .slice A105 k105 c105] := ((ag_105.set 0 (.int .i64 z)).set 1 (.slice A105 k105 c105))
        have bx106 := ((bx105.far (p := ⟨w.heap.size, 0, none⟩) (by show g ≠ w.heap.size ∧ gr ≠ w.heap.size; have := gl104; omega) (.int .i64 z)).far (p := ⟨w.heap.size, 1, none⟩) (by show g ≠ w.heap.size ∧ gr ≠ w.heap.size; have := gl104; omega) (.slice A105 k105 c105))
        have hB106 := ((hB105.setCell (p := ⟨w.heap.size, 0, none⟩) gl104 (.int .i64 z)).setCell (p := ⟨w.heap.size, 1, none⟩) gl104 (.slice A105 k105 c105))
        have ow_106 := ow105
        have ow_106 := ow_106.apart (by decide) ag_105 0 (.int .i64 z)
        have ow_106 := ow_106.apart (by decide) ((ag_105.set 0 (.int .i64 z))) 1 (.slice A105 k105 c105)
        refine ⟨(fun u => At2 u g 39 #[.slice A n c, .slice B m d, .int .i64 x] gr 27 #[.int .i64 2, .int .i64 a1, .int .i64 a2, .int .i64 a3, .int .i64 a4, .int .i64 a5, .int .i64 a6]), fun _ h => h, bx106, ?_⟩
        (try simp only [Act.put, List.setIfInBounds_toArray, List.set_cons_zero, List.set_cons_succ])
        refine any_done (by kernel_rfl) ?_
        go_wp2
        go_meet
        exact ⟨_, _, _, _, rfl, AG106, ow_106.from_ hB104.size, hB106⟩
    case rest =>
      obtain ⟨gx, Ax, kx, cx, rfl, AX1, OW1, HB1⟩ := hcut
      obtain ⟨q0, q1, _, _⟩ := AX1.two
      have hxc := hx.below HB1 lx
      clear c0 c1 c2 cf0 cf1 cf2 r0 r1 r2 r3 r4 r5 r6
      obtain ⟨c0, c1, c2, cf0, cf1, cf2⟩ := hxc.three
      have hne : ¬ g = gx := by
        intro e
        subst e
        have := hxc.symm.trans AX1
        simp at this
      by_cases hz0 : z = 0
      · subst hz0
        have Hr := Lib.hid (show stepR (l, h, x) (2, a1, (a2, a3, a4, a5), a6) = (0, (l, st, x)) by rw [Hs.out, if_pos rfl])
        go_wp2
        go_ret
        rw [Hr.out]
        exact ⟨rfl, ⟨A, n, c, Ax, kx, cx, hxc.set 1 (.slice Ax kx cx), (oa.below HB1 (Nat.le_refl _)).apart (by decide) hxc 1 _, (OW1.from_ hbase).apart (by decide) hxc 1 _⟩, grown_trans (grown_any (grown_below HB1 (Nat.le_refl _)) _) (grown_setCell _ ⟨g, 1, none⟩ _)⟩
      · have hzb : (z == 0) = false := by simpa using hz0
        have Hr := Lib.hid (show stepR (l, h, x) (2, a1, (a2, a3, a4, a5), a6) = (z, (l, h, x)) by rw [Hs.out, if_neg hz0])
        clear hz0
        go_wp2
        go_ret
        rw [Hr.out]
        exact ⟨rfl, ⟨A, n, c, B, m, d, hxc, oa.below HB1 (Nat.le_refl _), ob.below HB1 (Nat.le_refl _)⟩, grown_any (grown_below HB1 (Nat.le_refl _)) _⟩
  by_cases k3 : a0 = 3
  · subst k3
    obtain ⟨z, st, hz⟩ : ∃ z st, doneM h a1 a6 = (z, st) := ⟨_, _, rfl⟩
    have Hs := Lib.hid (step3 (s := (l, h, x)) (y := (a2, a3, a4, a5)) hz)
    have SI := specDoneHint B m d h a1 a6
    rw [hz] at SI
    clear hz
    go_enter Tryz.func55, Tryz.ntmps55
    go_upto_region 13 with fail
    go_cut [7] (fun s wx => ∃ gx Ax kx cx, s = .pointer (some ⟨gx, 0, none⟩) ∧ At wx gx 138 #[.int .i64 z, .slice Ax kx cx] ∧ Ow eH wx w.heap.size Ax kx cx st ∧ Below w.heap.size w wx)
    case first =>
      refine any_start (fun u => At2 u g 39 #[.slice A n c, .slice B m d, .int .i64 x] gr 27 #[.int .i64 3, .int .i64 a1, .int .i64 a2, .int .i64 a3, .int .i64 a4, .int .i64 a5, .int .i64 a6]) (by kernel_rfl) x2.drew (fun _ => ?_)
      have bxd := x2.drew
      have hBd := (Below.refl w.heap.size w).drew
      have rbd : _ := rb.lift ((Below.refl _ _).drew)
      refine any_pure (v := ?_) 0 rfl (by kernel_rfl) (fun _ _ _ _ _ h => h) (by rfl) (fun u hu => ?_) bxd ?_
      rotate_left
      · (obtain ⟨hu1, hu2⟩ := hu; obtain ⟨_, _, _, _, _, _⟩ := At.three hu1; obtain ⟨_, _, _, _, _, _, _⟩ := At.seven hu2)
        go_simp
        (with_reducible rfl)
      (try simp only [Act.put, List.setIfInBounds_toArray, List.set_cons_zero, List.set_cons_succ])
      refine any_pure (v := ?_) 1 rfl (by kernel_rfl) (fun _ _ _ _ _ h => h) (by rfl) (fun u hu => ?_) bxd ?_
      rotate_left
      · (obtain ⟨hu1, hu2⟩ := hu; obtain ⟨_, _, _, _, _, _⟩ := At.three hu1; obtain ⟨_, _, _, _, _, _, _⟩ := At.seven hu2)
        go_simp
        (with_reducible rfl)
      (try simp only [Act.put, List.setIfInBounds_toArray, List.set_cons_zero, List.set_cons_succ])
      refine any_pure (v := ?_) 2 rfl (by kernel_rfl) (fun _ _ _ _ _ h => h) (by rfl) (fun u hu => ?_) bxd ?_
      rotate_left
      · (obtain ⟨hu1, hu2⟩ := hu; obtain ⟨_, _, _, _, _, _⟩ := At.three hu1; obtain ⟨_, _, _, _, _, _, _⟩ := At.seven hu2)
        go_simp
        (with_reducible rfl)
      (try simp only [Act.put, List.setIfInBounds_toArray, List.set_cons_zero, List.set_cons_succ])
      refine any_pure (v := ?_) 3 rfl (by kernel_rfl) (fun _ _ _ _ _ h => h) (by rfl) (fun u hu => ?_) bxd ?_
      rotate_left
      · (obtain ⟨hu1, hu2⟩ := hu; obtain ⟨_, _, _, _, _, _⟩ := At.three hu1; obtain ⟨_, _, _, _, _, _, _⟩ := At.seven hu2)
        go_simp
        (with_reducible rfl)
      (try simp only [Act.put, List.setIfInBounds_toArray, List.set_cons_zero, List.set_cons_succ])
      refine any_pure (v := ?_) 4 rfl (by kernel_rfl) (fun _ _ _ _ _ h => h) (by rfl) (fun u hu => ?_) bxd ?_
      rotate_left
      · (obtain ⟨hu1, hu2⟩ := hu; obtain ⟨_, _, _, _, _, _⟩ := At.three hu1; obtain ⟨_, _, _, _, _, _, _⟩ := At.seven hu2)
        go_simp
        (with_reducible rfl)
      (try simp only [Act.put, List.setIfInBounds_toArray, List.set_cons_zero, List.set_cons_succ])
      refine any_pure (v := ?_) 5 rfl (by kernel_rfl) (fun _ _ _ _ _ h => h) (by rfl) (fun u hu => ?_) bxd ?_
      rotate_left
      · (obtain ⟨hu1, hu2⟩ := hu; obtain ⟨_, _, _, _, _, _⟩ := At.three hu1; obtain ⟨_, _, _, _, _, _, _⟩ := At.seven hu2)
        go_simp
        (with_reducible rfl)
      (try simp only [Act.put, List.setIfInBounds_toArray, List.set_cons_zero, List.set_cons_succ])
      refine any_pure (v := ?_) 6 rfl (by kernel_rfl) (fun _ _ _ _ _ h => h) (by rfl) (fun u hu => ?_) bxd ?_
      rotate_left
      · (obtain ⟨hu1, hu2⟩ := hu; obtain ⟨_, _, _, _, _, _⟩ := At.three hu1; obtain ⟨_, _, _, _, _, _, _⟩ := At.seven hu2)
        go_simp
        (with_reducible rfl)
      (try simp only [Act.put, List.setIfInBounds_toArray, List.set_cons_zero, List.set_cons_succ])
      refine any_pure (v := ?_) 7 rfl (by kernel_rfl) (fun _ _ _ _ _ h => h) (by rfl) (fun u hu => ?_) bxd ?_
      rotate_left
      · (obtain ⟨hu1, hu2⟩ := hu; obtain ⟨_, _, _, _, _, _⟩ := At.three hu1; obtain ⟨_, _, _, _, _, _, _⟩ := At.seven hu2)
        go_simp
        (with_reducible rfl)
      (try simp only [Act.put, List.setIfInBounds_toArray, List.set_cons_zero, List.set_cons_succ])
      refine any_pure (v := ?_) 8 rfl (by kernel_rfl) (fun _ _ _ _ _ h => h) (by rfl) (fun u hu => ?_) bxd ?_
      rotate_left
      · (obtain ⟨hu1, hu2⟩ := hu; obtain ⟨_, _, _, _, _, _⟩ := At.three hu1; obtain ⟨_, _, _, _, _, _, _⟩ := At.seven hu2)
        go_simp
        (with_reducible rfl)
      (try simp only [Act.put, List.setIfInBounds_toArray, List.set_cons_zero, List.set_cons_succ])
      refine any_pure (v := ?_) 9 rfl (by kernel_rfl) (fun _ _ _ _ _ h => h) (by rfl) (fun u hu => ?_) bxd ?_
      rotate_left
      · (obtain ⟨hu1, hu2⟩ := hu; obtain ⟨_, _, _, _, _, _⟩ := At.three hu1; obtain ⟨_, _, _, _, _, _, _⟩ := At.seven hu2)
        go_simp
        (with_reducible rfl)
      (try simp only [Act.put, List.setIfInBounds_toArray, List.set_cons_zero, List.set_cons_succ])
      refine any_pure (v := ?_) 10 rfl (by kernel_rfl) (fun _ _ _ _ _ h => h) (by rfl) (fun u hu => ?_) bxd ?_
      rotate_left
      · (obtain ⟨hu1, hu2⟩ := hu; obtain ⟨_, _, _, _, _, _⟩ := At.three hu1; obtain ⟨_, _, _, _, _, _, _⟩ := At.seven hu2)
        go_simp
        (with_reducible rfl)
      (try simp only [Act.put, List.setIfInBounds_toArray, List.set_cons_zero, List.set_cons_succ])
      refine any_pure (v := ?_) 11 rfl (by kernel_rfl) (fun _ _ _ _ _ h => h) (by rfl) (fun u hu => ?_) bxd ?_
      rotate_left
      · (obtain ⟨hu1, hu2⟩ := hu; obtain ⟨_, _, _, _, _, _⟩ := At.three hu1; obtain ⟨_, _, _, _, _, _, _⟩ := At.seven hu2)
        go_simp
        (with_reducible rfl)
      (try simp only [Act.put, List.setIfInBounds_toArray, List.set_cons_zero, List.set_cons_succ])
      refine any_two 12 13 rfl rfl (by kernel_rfl) (by rfl) (by rfl) ?_ ?_
      · go_simp
        refine (SI _ rbd Hm.out hdc).mono ?_
        rintro e w101 ⟨A101, k101, c101, rfl, ow101, hb101⟩
        have hB101 := hBd.trans (hb101.mono hBd.size)
        have bx101 := bxd.below hb101 bxd.lt
        have rb_101 := rbd.lift hb101
        refine ⟨(fun u => At2 u g 39 #[.slice A n c, .slice B m d, .int .i64 x] gr 27 #[.int .i64 3, .int .i64 a1, .int .i64 a2, .int .i64 a3, .int .i64 a4, .int .i64 a5, .int .i64 a6]), fun _ h => h, bx101, ?_⟩
        (try simp only [Act.put, List.setIfInBounds_toArray, List.set_cons_zero, List.set_cons_succ])
        refine any_one 13 rfl (by kernel_rfl) (by rfl) ?_
        go_simp
        have ag102 := At.newAt' (w := w101) (t := 138) (cs := #[.int .i64 0, .slice none 0 0]) (show w101.heap.size = w101.heap.size by first | rfl | simp)
        have gl102 : w.heap.size ≤ w101.heap.size := by first | exact hB101.size | exact Nat.le_refl _ | (have := hB101.size; simp at this ⊢; try omega)
        have hal102 := (Below.refl w101.heap.size w101).alloc (Nat.le_refl _) (.cells #[.int .i64 0, .slice none 0 0] 138)
        have hB102 := hB101.alloc hB101.size (.cells #[.int .i64 0, .slice none 0 0] 138)
        have bx102 := bx101.alloc (.cells #[.int .i64 0, .slice none 0 0] 138)
        have ow_102 := ow101.alloc (.cells #[.int .i64 0, .slice none 0 0] 138)
        have rb_102 := rb_101.lift hal102
        refine ⟨(fun u => At2 u g 39 #[.slice A n c, .slice B m d, .int .i64 x] gr 27 #[.int .i64 3, .int .i64 a1, .int .i64 a2, .int .i64 a3, .int .i64 a4, .int .i64 a5, .int .i64 a6]), fun _ h => h, bx102, ?_⟩
        (try simp only [Act.put, List.setIfInBounds_toArray, List.set_cons_zero, List.set_cons_succ])
        refine any_one 14 rfl (by kernel_rfl) (by rfl) ?_
        go_simp
        have AG103 := At.newAt' (w := w101) (t := 138) (cs := #[.int .i64 z, .slice A101 k101 c101]) (show w101.heap.size = w101.heap.size by first | rfl | simp)
        have hal103 := (Below.refl w101.heap.size w101).alloc (Nat.le_refl _) (.cells #[.int .i64 z, .slice A101 k101 c101] 138)
        have hB103 := hB101.alloc hB101.size (.cells #[.int .i64 z, .slice A101 k101 c101] 138)
        have bx103 := bx101.alloc (.cells #[.int .i64 z, .slice A101 k101 c101] 138)
        have ow_103 := ow101.alloc (.cells #[.int .i64 z, .slice A101 k101 c101] 138)
        have rb_103 := rb_101.lift hal103
        refine ⟨(fun u => At2 u g 39 #[.slice A n c, .slice B m d, .int .i64 x] gr 27 #[.int .i64 3, .int .i64 a1, .int .i64 a2, .int .i64 a3, .int .i64 a4, .int .i64 a5, .int .i64 a6]), fun _ h => h, bx103, ?_⟩
        (try simp only [Act.put, List.setIfInBounds_toArray, List.set_cons_zero, List.set_cons_succ])
        refine any_done (by kernel_rfl) ?_
        go_wp2
        go_meet
        exact ⟨_, _, _, _, rfl, AG103, ow_103.from_ hBd.size, hB103⟩
      · go_simp
        have ag104 := At.newAt' (w := w.drew) (t := 138) (cs := #[.int .i64 0, .slice none 0 0]) (show w.drew.heap.size = w.heap.size by first | rfl | simp)
        have gl104 : w.heap.size ≤ w.heap.size := by first | exact hBd.size | exact Nat.le_refl _ | (have := hBd.size; simp at this ⊢; try omega)
        have hal104 := (Below.refl w.drew.heap.size w.drew).alloc (Nat.le_refl _) (.cells #[.int .i64 0, .slice none 0 0] 138)
        have hB104 := hBd.alloc hBd.size (.cells #[.int .i64 0, .slice none 0 0] 138)
        have bx104 := bxd.alloc (.cells #[.int .i64 0, .slice none 0 0] 138)
        have rb_104 := rbd.lift hal104
        refine ⟨(fun u => At2 u g 39 #[.slice A n c, .slice B m d, .int .i64 x] gr 27 #[.int .i64 3, .int .i64 a1, .int .i64 a2, .int .i64 a3, .int .i64 a4, .int .i64 a5, .int .i64 a6]), fun _ h => h, bx104, ?_⟩
        (try simp only [Act.put, List.setIfInBounds_toArray, List.set_cons_zero, List.set_cons_succ])
        refine any_one 12 rfl (by kernel_rfl) (by rfl) ?_
        go_simp
        refine (SI _ rb_104 Hm.out hdc).mono ?_
        rintro e w105 ⟨A105, k105, c105, rfl, ow105, hb105⟩
        have hB105 := hB104.trans (hb105.mono hB104.size)
        have bx105 := bx104.below hb105 bx104.lt
        have ag_105 := ag104.below hb105 ag104.lt
        have rb_105 := rb_104.lift hb105
        refine ⟨(fun u => At2 u g 39 #[.slice A n c, .slice B m d, .int .i64 x] gr 27 #[.int .i64 3, .int .i64 a1, .int .i64 a2, .int .i64 a3, .int .i64 a4, .int .i64 a5, .int .i64 a6]), fun _ h => h, bx105, ?_⟩
        (try simp only [Act.put, List.setIfInBounds_toArray, List.set_cons_zero, List.set_cons_succ])
        refine any_one 14 rfl (by kernel_rfl) (by rfl) ?_
        obtain ⟨k0, k1, k2, k3⟩ := ag_105.two
        go_simp
        have hltg106 : w.heap.size < w105.heap.size := ag_105.lt
        have AG106 : At ((w105.setCell ⟨w.heap.size, 0, none⟩ (.int .i64 z)).setCell ⟨w.heap.size, 1, none⟩ (.slice A105 k105 c105)) w.heap.size 138 #[.int .i64 z, .slice A105 k105 c105] := ((ag_105.set 0 (.int .i64 z)).set 1 (.slice A105 k105 c105))
        have bx106 := ((bx105.far (p := ⟨w.heap.size, 0, none⟩) (by show g ≠ w.heap.size ∧ gr ≠ w.heap.size; have := gl104; omega) (.int .i64 z)).far (p := ⟨w.heap.size, 1, none⟩) (by show g ≠ w.heap.size ∧ gr ≠ w.heap.size; have := gl104; omega) (.slice A105 k105 c105))
        have hB106 := ((hB105.setCell (p := ⟨w.heap.size, 0, none⟩) gl104 (.int .i64 z)).setCell (p := ⟨w.heap.size, 1, none⟩) gl104 (.slice A105 k105 c105))
        have ow_106 := ow105
        have ow_106 := ow_106.apart (by decide) ag_105 0 (.int .i64 z)
        have ow_106 := ow_106.apart (by decide) ((ag_105.set 0 (.int .i64 z))) 1 (.slice A105 k105 c105)
        refine ⟨(fun u => At2 u g 39 #[.slice A n c, .slice B m d, .int .i64 x] gr 27 #[.int .i64 3, .int .i64 a1, .int .i64 a2, .int .i64 a3, .int .i64 a4, .int .i64 a5, .int .i64 a6]), fun _ h => h, bx106, ?_⟩
        (try simp only [Act.put, List.setIfInBounds_toArray, List.set_cons_zero, List.set_cons_succ])
        refine any_done (by kernel_rfl) ?_
        go_wp2
        go_meet
        exact ⟨_, _, _, _, rfl, AG106, ow_106.from_ hB104.size, hB106⟩
    case rest =>
      obtain ⟨gx, Ax, kx, cx, rfl, AX1, OW1, HB1⟩ := hcut
      obtain ⟨q0, q1, _, _⟩ := AX1.two
      have hxc := hx.below HB1 lx
      clear c0 c1 c2 cf0 cf1 cf2 r0 r1 r2 r3 r4 r5 r6
      obtain ⟨c0, c1, c2, cf0, cf1, cf2⟩ := hxc.three
      have hne : ¬ g = gx := by
        intro e
        subst e
        have := hxc.symm.trans AX1
        simp at this
      by_cases hz0 : z = 0
      · subst hz0
        have Hr := Lib.hid (show stepR (l, h, x) (3, a1, (a2, a3, a4, a5), a6) = (0, (l, st, x)) by rw [Hs.out, if_pos rfl])
        go_wp2
        go_ret
        rw [Hr.out]
        exact ⟨rfl, ⟨A, n, c, Ax, kx, cx, hxc.set 1 (.slice Ax kx cx), (oa.below HB1 (Nat.le_refl _)).apart (by decide) hxc 1 _, (OW1.from_ hbase).apart (by decide) hxc 1 _⟩, grown_trans (grown_any (grown_below HB1 (Nat.le_refl _)) _) (grown_setCell _ ⟨g, 1, none⟩ _)⟩
      · have hzb : (z == 0) = false := by simpa using hz0
        have Hr := Lib.hid (show stepR (l, h, x) (3, a1, (a2, a3, a4, a5), a6) = (z, (l, h, x)) by rw [Hs.out, if_neg hz0])
        clear hz0
        go_wp2
        go_ret
        rw [Hr.out]
        exact ⟨rfl, ⟨A, n, c, B, m, d, hxc, oa.below HB1 (Nat.le_refl _), ob.below HB1 (Nat.le_refl _)⟩, grown_any (grown_below HB1 (Nat.le_refl _)) _⟩
  · have Hs := Lib.hid (step4 (s := (l, h, x)) (p := a1) (y := (a2, a3, a4, a5)) (k := a6) k1 k2 k3)
    have b1 : (a0 == 1) = false := by simpa using k1
    have b2 : (a0 == 2) = false := by simpa using k2
    have b3 : (a0 == 3) = false := by simpa using k3
    clear k1 k2 k3
    by_cases hlt : a6 < x
    all_goals
      first
        | have Hr := Lib.hid (show stepR (l, h, x) (a0, a1, (a2, a3, a4, a5), a6) = (8, (l, h, x)) by rw [Hs.out, if_pos hlt])
        | have Hr := Lib.hid (show stepR (l, h, x) (a0, a1, (a2, a3, a4, a5), a6) = (0, (l, h, a6)) by rw [Hs.out, if_neg hlt])
      go_enter Tryz.func55, Tryz.ntmps55
      go_wp2
      refine wp_region_mix [(0, false), (1, false), (2, false), (3, false), (4, false), (5, false), (6, false), (7, false), (8, false)] (fun u => At2 u g 39 #[.slice A n c, .slice B m d, .int .i64 x] gr 27 #[.int .i64 a0, .int .i64 a1, .int .i64 a2, .int .i64 a3, .int .i64 a4, .int .i64 a5, .int .i64 a6]) (by kernel_rfl) (by kernel_rfl) (fun _ _ _ _ _ h => h) x2.drew ?_
      simp only [mixOps, List.map_cons, List.map_nil, List.getElem?_cons_succ, List.getElem?_cons_zero, Option.getD_some]
      repeat (first
        | (refine mix_skip (by rfl) ?_
           (try simp only [Act.put, List.setIfInBounds_toArray, List.set_cons_zero, List.set_cons_succ]))
        | (refine mix_pure (v := ?_) (by rfl) (fun u hu => ?_) ?_
           rotate_left
           · (obtain ⟨hu1, hu2⟩ := hu; obtain ⟨_, _, _, _, _, _⟩ := At.three hu1; obtain ⟨_, _, _, _, _, _, _⟩ := At.seven hu2)
             go_simp
             (with_reducible rfl)
           (try simp only [Act.put, List.setIfInBounds_toArray, List.set_cons_zero, List.set_cons_succ])))
      refine mix_nil ?_
      go_wp2
      go_ret
      rw [Hr.out]
    · exact ⟨rfl, ⟨A, n, c, B, m, d, hx, oa, ob⟩, grown_any (grown_below ((Below.refl w.heap.size w).drew) (Nat.le_refl _)) _⟩
    · exact ⟨rfl, ⟨A, n, c, B, m, d, (hx.set 2 (.int .i64 a6)).drew, (oa.apart (by decide) hx 2 (.int .i64 a6)).drewN 1, (ob.apart (by decide) hx 2 (.int .i64 a6)).drewN 1⟩, grown_trans (grown_setCell w ⟨g, 2, none⟩ (.int .i64 a6)) (grown_any (grown_below ((Below.refl _ (w.setCell ⟨g, 2, none⟩ (.int .i64 a6))).drew) (Nat.le_refl _)) _)⟩
end Go.Proofs.YtmaillakhhdkfaaGreatDoor
/-
  A record put to a state: the model's ApplyRecord.
-/
namespace Go.Proofs.YtmaillakhhdkfaaGreatDoor
set_option maxRecDepth 20000
open Go.RowKit
set_option linter.unusedSimpArgs false
set_option linter.unusedVariables false
attribute [local irreducible] mixW

/-- A code and a state of the call's own. -/
def RetSta (r : Int × Sta) (w : World) (e : Ending) (w' : World) : Prop := ∃ A n c B m d, e = .returned (.agg #[.int .i64 r.1, .slice A n c, .slice B m d, .int .i64 r.2.2.2]) ∧ Ow eS w' w.heap.size A n c r.2.1 ∧ Ow eH w' w.heap.size B m d r.2.2.1 ∧ Below w.heap.size w w'
theorem retSta_zero {w w' : World} {z : Int} (hb : Below w.heap.size w w') : RetSta (z, zeroSta) w (.returned (.agg #[.int .i64 z, .slice none 0 0, .slice none 0 0, .int .i64 0])) w' := ⟨none, 0, 0, none, 0, 0, rfl, Ow.nil, Ow.nil, hb⟩
set_option maxHeartbeats 8000000 in
theorem specApplyRecord (A B : Option Addr) (n c m d : Nat) (l : List Smp) (h : List Hnt) (x a0 a1 a2 a3 a4 a5 a6 : Int) (w : World) (ha : Rd eS w w.heap.size A l) (hb : Rd eH w w.heap.size B h) (hn : l.length = n) (hm : h.length = m) (hn1 : n ≤ 1048576) (hm1 : m ≤ 1048576) :
    Calls Tryz.prog 16 #[.agg #[.slice A n c, .slice B m d, .int .i64 x], .agg #[.int .i64 a0, .int .i64 a1, .int .i64 a2, .int .i64 a3, .int .i64 a4, .int .i64 a5, .int .i64 a6]] w (RetSta (applyM (l, h, x) (a0, a1, (a2, a3, a4, a5), a6)) w) := by
  have hB0 : Below w.heap.size w (((w.alloc (.cells #[.slice A n c, .slice B m d, .int .i64 x] 39)).alloc (.cells #[.int .i64 a0, .int .i64 a1, .int .i64 a2, .int .i64 a3, .int .i64 a4, .int .i64 a5, .int .i64 a6] 27)).alloc (.cells #[.int .i64 0, .slice none 0 0, .slice none 0 0, .int .i64 0] 43)) := (((Below.refl _ _).alloc (Nat.le_refl _) _).alloc (by simp) _).alloc (by simp; omega) _
  have sx := ((At.new w 39 #[.slice A n c, .slice B m d, .int .i64 x]).alloc (.cells #[.int .i64 a0, .int .i64 a1, .int .i64 a2, .int .i64 a3, .int .i64 a4, .int .i64 a5, .int .i64 a6] 27)).alloc (.cells #[.int .i64 0, .slice none 0 0, .slice none 0 0, .int .i64 0] 43)
  have rx : At (((w.alloc (.cells #[.slice A n c, .slice B m d, .int .i64 x] 39)).alloc (.cells #[.int .i64 a0, .int .i64 a1, .int .i64 a2, .int .i64 a3, .int .i64 a4, .int .i64 a5, .int .i64 a6] 27)).alloc (.cells #[.int .i64 0, .slice none 0 0, .slice none 0 0, .int .i64 0] 43)) (w.heap.size + 1) 27 #[.int .i64 a0, .int .i64 a1, .int .i64 a2, .int .i64 a3, .int .i64 a4, .int .i64 a5, .int .i64 a6] := by
    have := (At.new (w.alloc (.cells #[.slice A n c, .slice B m d, .int .i64 x] 39)) 27 #[.int .i64 a0, .int .i64 a1, .int .i64 a2, .int .i64 a3, .int .i64 a4, .int .i64 a5, .int .i64 a6]).alloc (.cells #[.int .i64 0, .slice none 0 0, .slice none 0 0, .int .i64 0] 43)
    simpa using this
  have zx : At (((w.alloc (.cells #[.slice A n c, .slice B m d, .int .i64 x] 39)).alloc (.cells #[.int .i64 a0, .int .i64 a1, .int .i64 a2, .int .i64 a3, .int .i64 a4, .int .i64 a5, .int .i64 a6] 27)).alloc (.cells #[.int .i64 0, .slice none 0 0, .slice none 0 0, .int .i64 0] 43)) (w.heap.size + 2) 43 #[.int .i64 0, .slice none 0 0, .slice none 0 0, .int .i64 0] := by
    have := At.new ((w.alloc (.cells #[.slice A n c, .slice B m d, .int .i64 x] 39)).alloc (.cells #[.int .i64 a0, .int .i64 a1, .int .i64 a2, .int .i64 a3, .int .i64 a4, .int .i64 a5, .int .i64 a6] 27)) 43 #[.int .i64 0, .slice none 0 0, .slice none 0 0, .int .i64 0]
    simpa using this
  have ha0 := ha.lift hB0
  have hb0 := hb.lift hB0
  have SF := specStateFault A B n c m d l h x _ ha0 hb0 hn hm
  have Hn := Lib.hid hn
  have Hm := Lib.hid hm
  clear hn hm ha hb
  obtain ⟨sc0, sc1, sc2, _, _, _⟩ := sx.three
  obtain ⟨zc0, zc1, zc2, zc3, zf0, zf1, zf2, zf3⟩ := zx.four
  by_cases hs : stateFaultM (l, h, x) = 0
  rotate_left
  · have Hr := Lib.hid (show applyM (l, h, x) (a0, a1, (a2, a3, a4, a5), a6) = (stateFaultM (l, h, x), zeroSta) from if_pos hs)
    have hne : (stateFaultM (l, h, x) != 0) = true := by rw [bne_iff_ne]; exact hs
    rw [Hr.out]
    clear Hr hs
    generalize stateFaultM (l, h, x) = sf at *
    go_enter Tryz.func16, Tryz.ntmps16
    go_wp2_with fail
    refine SF.mono ?_
    rintro e w1 ⟨rfl, hb1⟩
    have hB1 := hB0.trans (hb1.mono hB0.size)
    have zx1 := zx.below hb1 zx.lt
    clear zc0 zc1 zc2 zc3 zf0 zf1 zf2 zf3
    obtain ⟨zc0, zc1, zc2, zc3, zf0, zf1, zf2, zf3⟩ := zx1.four
    go_wp2_with fail
    refine bodyPost_ret (v := .agg #[.int .i64 sf, .slice none 0 0, .slice none 0 0, .int .i64 0]) (by simp [results, Tryz.results16, go_sem, zc0, zc1, zc2, zc3]) rfl ?_
    exact retSta_zero ((((hB1.setCell (by simp; omega) _).setCell (by simp; omega) _).setCell (by simp; omega) _).setCell (by simp; omega) _)
  rw [hs] at SF
  have hse : ((0 : Int) != 0) = false := by decide
  have RF := specRecordFault a0 a1 a2 a3 a4 a5 a6
  by_cases hr : recFaultM (a0, a1, (a2, a3, a4, a5), a6) = 0
  rotate_left
  · have Hr := Lib.hid (show applyM (l, h, x) (a0, a1, (a2, a3, a4, a5), a6) = (recFaultM (a0, a1, (a2, a3, a4, a5), a6), zeroSta) by unfold applyM; rw [if_neg (by simp [hs]), if_pos hr])
    have hne : (recFaultM (a0, a1, (a2, a3, a4, a5), a6) != 0) = true := by rw [bne_iff_ne]; exact hr
    rw [Hr.out]
    clear Hr hs hr
    generalize recFaultM (a0, a1, (a2, a3, a4, a5), a6) = sf at *
    go_enter Tryz.func16, Tryz.ntmps16
    go_wp2_with fail
    refine SF.mono ?_
    rintro e w1 ⟨rfl, hb1⟩
    have hB1 := hB0.trans (hb1.mono hB0.size)
    have zx1 := zx.below hb1 zx.lt
    have rx1 := rx.below hb1 rx.lt
    clear zc0 zc1 zc2 zc3 zf0 zf1 zf2 zf3
    obtain ⟨rc0, rc1, rc2, rc3, rc4, rc5, rc6⟩ := rx1.seven
    go_wp2_with fail
    refine (RF _).mono ?_
    rintro e w2 ⟨rfl, hb2⟩
    have hB2 := hB1.trans (hb2.mono hB1.size)
    have zx2 := zx1.below hb2 zx1.lt
    obtain ⟨zc0, zc1, zc2, zc3, zf0, zf1, zf2, zf3⟩ := zx2.four
    go_wp2_with fail
    refine bodyPost_ret (v := .agg #[.int .i64 sf, .slice none 0 0, .slice none 0 0, .int .i64 0]) (by simp [results, Tryz.results16, go_sem, zc0, zc1, zc2, zc3]) rfl ?_
    exact retSta_zero ((((hB2.setCell (by simp; omega) _).setCell (by simp; omega) _).setCell (by simp; omega) _).setCell (by simp; omega) _)
  rw [hr] at RF
  have Hr := Lib.hid (apply_right hs hr)
  rcases hq : stepR (l, h, x) (a0, a1, (a2, a3, a4, a5), a6) with ⟨tc, tl, th, tx⟩
  rw [hq] at Hr
  have LA := fun g gr base A B n c m d W hx hr oa ob hbase hn1 => l5Apply g gr base A B n c m d l h x a0 a1 a2 a3 a4 a5 a6 W hx hr oa ob hbase hn1
  rw [hq] at LA
  clear hq hs hr
  go_enter Tryz.func16, Tryz.ntmps16
  go_wp2_with fail
  refine SF.mono ?_
  rintro e w1 ⟨rfl, hb1⟩
  have hB1 := hB0.trans (hb1.mono hB0.size)
  have zx1 := zx.below hb1 zx.lt
  have rx1 := rx.below hb1 rx.lt
  have sx1 := sx.below hb1 sx.lt
  have ha1 := ha0.lift hb1
  have hbb1 := hb0.lift hb1
  clear zc0 zc1 zc2 zc3 zf0 zf1 zf2 zf3 sc0 sc1 sc2
  obtain ⟨rc0, rc1, rc2, rc3, rc4, rc5, rc6⟩ := rx1.seven
  go_wp2_with fail
  refine (RF _).mono ?_
  rintro e w2 ⟨rfl, hb2⟩
  have hB2 := hB1.trans (hb2.mono hB1.size)
  have zx2 := zx1.below hb2 zx1.lt
  have rx2 := rx1.below hb2 rx1.lt
  have sx2 := sx1.below hb2 sx1.lt
  go_wp2_with fail
  refine (l5Copy w.heap.size A B n c m d l h x _ sx2 (ha1.lift hb2) (hbb1.lift hb2) Hn.out Hm.out hn1 hm1).mono ?_
  rintro e w3 ⟨A1, c1, B1, d1, rfl, oa3, ob3, hb3⟩
  have hB3 := hB2.trans (hb3.mono hB2.size)
  have zx3 := zx2.below hb3 zx2.lt
  have rx3 := rx2.below hb3 rx2.lt
  have lz3 := zx3.lt
  have zx4 := zx3.alloc (.cells #[.slice A1 n c1, .slice B1 m d1, .int .i64 x] 39)
  have rx4 := rx3.alloc (.cells #[.slice A1 n c1, .slice B1 m d1, .int .i64 x] 39)
  have cx4 := At.new w3 39 #[.slice A1 n c1, .slice B1 m d1, .int .i64 x]
  have oa4 := oa3.alloc (.cells #[.slice A1 n c1, .slice B1 m d1, .int .i64 x] 39)
  have ob4 := ob3.alloc (.cells #[.slice A1 n c1, .slice B1 m d1, .int .i64 x] 39)
  have hB4 := hB3.alloc hB3.size (.cells #[.slice A1 n c1, .slice B1 m d1, .int .i64 x] 39)
  go_wp2_with fail
  refine (LA w3.heap.size (w.heap.size + 1) w2.heap.size A1 B1 n c1 m d1 _ cx4 rx4 oa4 ob4 (Nat.le_trans hb3.size (by simp)) hn1).mono ?_
  rintro e w5 ⟨rfl, ⟨A5, n5, c5, B5, m5, d5, cx5, oa5, ob5⟩, hg5⟩
  have zx5 := zx4.grown hg5 (by simp; omega)
  have hB5 : Below w.heap.size w w5 := hB4.grown hg5 hB4.size (fun k hk => by obtain rfl : w3.heap.size = k := (by simpa using hk); exact hB3.size)
  have lz2 := zx2.lt
  obtain ⟨zc0, zc1, zc2, zc3, zf0, zf1, zf2, zf3⟩ := zx5.four
  obtain ⟨cc0, cc1, cc2, _, _, _⟩ := cx5.three
  by_cases h0 : tc = 0
  · subst h0
    go_wp2_with fail
    refine bodyPost_ret (v := .agg #[.int .i64 0, .slice A5 n5 c5, .slice B5 m5 d5, .int .i64 tx]) (by simp [results, Tryz.results16, go_sem, zc0, zc1, zc2, zc3]) rfl ?_
    rw [Hr.out]
    first | rw [if_pos rfl] | rw [if_pos trivial]
    exact ⟨A5, n5, c5, B5, m5, d5, rfl, ((((oa5.under (p := ⟨w.heap.size + 2, 0, none⟩) lz2 _).under (p := ⟨w.heap.size + 2, 1, none⟩) lz2 _).under (p := ⟨w.heap.size + 2, 2, none⟩) lz2 _).under (p := ⟨w.heap.size + 2, 3, none⟩) lz2 _).from_ hB2.size, ((((ob5.under (p := ⟨w.heap.size + 2, 0, none⟩) lz2 _).under (p := ⟨w.heap.size + 2, 1, none⟩) lz2 _).under (p := ⟨w.heap.size + 2, 2, none⟩) lz2 _).under (p := ⟨w.heap.size + 2, 3, none⟩) lz2 _).from_ hB2.size, (((hB5.setCell (by simp; omega) _).setCell (by simp; omega) _).setCell (by simp; omega) _).setCell (by simp; omega) _⟩
  · have hne : (tc != 0) = true := by rw [bne_iff_ne]; exact h0
    have H0 := Lib.hid h0
    clear h0
    go_wp2_with fail
    refine bodyPost_ret (v := .agg #[.int .i64 tc, .slice none 0 0, .slice none 0 0, .int .i64 0]) (by simp [results, Tryz.results16, go_sem, zc0, zc1, zc2, zc3]) rfl ?_
    rw [Hr.out, if_neg H0.out]
    exact retSta_zero ((((hB5.setCell (by simp; omega) _).setCell (by simp; omega) _).setCell (by simp; omega) _).setCell (by simp; omega) _)
end Go.Proofs.YtmaillakhhdkfaaGreatDoor
/-
  The shelf's contracts of slices.Grow and slices.SortFunc, laid at this seat, in plain words (made by the kit's own tool).
-/
namespace Go.Proofs.YtmaillakhhdkfaaGreatDoor
set_option maxRecDepth 20000
open Go.Shelf
def growS_ren : Go.Shelf.Ren := ⟨fun | 4 => 137 | n => n, fun | 22 => 36 | 25 => 25 | 3 => 3 | 4 => 4 | 9 => 9 | 20 => 20 | 0 => 0 | n => n, fun | n => n⟩
theorem growS : Go.Proofs.Lays8.n4 Tryz.prog growS_ren := {
  mixed := by kernel_rfl
  f4 := ⟨Tryz.f137.name, by decide, Tryz.func137.trans (congrArg some (by kernel_rfl))⟩
  t0 := Tryz.underlying0
  a0 := Tryz.isAgg0
  z0 := Tryz.sizeOf0
  v0 := Tryz.zeroValue0
  t3 := Tryz.underlying3
  a3 := Tryz.isAgg3
  z3 := Tryz.sizeOf3
  v3 := Tryz.zeroValue3
  t4 := Tryz.underlying4
  a4 := Tryz.isAgg4
  z4 := Tryz.sizeOf4
  v4 := Tryz.zeroValue4
  t9 := Tryz.underlying9
  a9 := Tryz.isAgg9
  z9 := Tryz.sizeOf9
  v9 := Tryz.zeroValue9
  t20 := Tryz.underlying20
  a20 := Tryz.isAgg20
  z20 := Tryz.sizeOf20
  v20 := Tryz.zeroValue20
  t22 := Tryz.underlying36
  a22 := Tryz.isAgg36
  z22 := Tryz.sizeOf36
  v22 := Tryz.zeroValue36 }
def sortS_ren : Go.Shelf.Ren := ⟨fun | 6 => 160 | 15 => 169 | 14 => 168 | 28 => 180 | 29 => 181 | 20 => 172 | 21 => 173 | 22 => 174 | 23 => 175 | 24 => 176 | 25 => 177 | 26 => 178 | 27 => 179 | 46 => 190 | 47 => 191 | 48 => 192 | 49 => 193 | 50 => 194 | 57 => 198 | n => n, fun | 22 => 36 | 24 => 25 | 25 => 220 | 3 => 3 | 39 => 173 | 0 => 0 | 53 => 256 | 55 => 258 | 4 => 4 | 46 => 249 | 45 => 248 | 50 => 253 | 5 => 5 | 9 => 9 | 66 => 264 | 70 => 268 | 76 => 272 | 77 => 273 | n => n, fun | n => n⟩
theorem sortS : Go.Proofs.SlLaysF0.n6 Tryz.prog sortS_ren := {
  mixed := by kernel_rfl
  f6 := ⟨Tryz.f160.name, by decide, Tryz.func160.trans (congrArg some (by kernel_rfl))⟩
  f14 := ⟨Tryz.f168.name, by decide, Tryz.func168.trans (congrArg some (by kernel_rfl))⟩
  f15 := Tryz.func169.trans (congrArg some (by kernel_rfl))
  f20 := ⟨Tryz.f172.name, by decide, Tryz.func172.trans (congrArg some (by kernel_rfl))⟩
  f21 := ⟨Tryz.f173.name, by decide, Tryz.func173.trans (congrArg some (by kernel_rfl))⟩
  f22 := ⟨Tryz.f174.name, by decide, Tryz.func174.trans (congrArg some (by kernel_rfl))⟩
  f23 := ⟨Tryz.f175.name, by decide, Tryz.func175.trans (congrArg some (by kernel_rfl))⟩
  f24 := ⟨Tryz.f176.name, by decide, Tryz.func176.trans (congrArg some (by kernel_rfl))⟩
  f25 := ⟨Tryz.f177.name, by decide, Tryz.func177.trans (congrArg some (by kernel_rfl))⟩
  f26 := ⟨Tryz.f178.name, by decide, Tryz.func178.trans (congrArg some (by kernel_rfl))⟩
  f27 := ⟨Tryz.f179.name, by decide, Tryz.func179.trans (congrArg some (by kernel_rfl))⟩
  f28 := Tryz.func180.trans (congrArg some (by kernel_rfl))
  f29 := Tryz.func181.trans (congrArg some (by kernel_rfl))
  f46 := ⟨Tryz.f190.name, by decide, Tryz.func190.trans (congrArg some (by kernel_rfl))⟩
  f47 := Tryz.func191.trans (congrArg some (by kernel_rfl))
  f48 := Tryz.func192.trans (congrArg some (by kernel_rfl))
  f49 := ⟨Tryz.f193.name, by decide, Tryz.func193.trans (congrArg some (by kernel_rfl))⟩
  f50 := ⟨Tryz.f194.name, by decide, Tryz.func194.trans (congrArg some (by kernel_rfl))⟩
  f57 := ⟨Tryz.f198.name, by decide, Tryz.func198.trans (congrArg some (by kernel_rfl))⟩
  t0 := Tryz.underlying0
  a0 := Tryz.isAgg0
  z0 := Tryz.sizeOf0
  v0 := Tryz.zeroValue0
  t3 := Tryz.underlying3
  a3 := Tryz.isAgg3
  z3 := Tryz.sizeOf3
  v3 := Tryz.zeroValue3
  t4 := Tryz.underlying4
  a4 := Tryz.isAgg4
  z4 := Tryz.sizeOf4
  v4 := Tryz.zeroValue4
  t5 := Tryz.underlying5
  a5 := Tryz.isAgg5
  z5 := Tryz.sizeOf5
  v5 := Tryz.zeroValue5
  t9 := Tryz.underlying9
  a9 := Tryz.isAgg9
  z9 := Tryz.sizeOf9
  v9 := Tryz.zeroValue9
  t22 := Tryz.underlying36
  a22 := Tryz.isAgg36
  z22 := Tryz.sizeOf36
  v22 := Tryz.zeroValue36
  t25 := Tryz.underlying220
  a25 := Tryz.isAgg220
  z25 := Tryz.sizeOf220
  v25 := Tryz.zeroValue220
  t39 := Tryz.underlying173
  a39 := Tryz.isAgg173
  z39 := Tryz.sizeOf173
  v39 := Tryz.zeroValue173
  t45 := Tryz.underlying248
  a45 := Tryz.isAgg248
  z45 := Tryz.sizeOf248
  v45 := Tryz.zeroValue248
  t46 := Tryz.underlying249
  a46 := Tryz.isAgg249
  z46 := Tryz.sizeOf249
  v46 := Tryz.zeroValue249
  t50 := Tryz.underlying253
  a50 := Tryz.isAgg253
  z50 := Tryz.sizeOf253
  v50 := Tryz.zeroValue253
  t53 := Tryz.underlying256
  a53 := Tryz.isAgg256
  z53 := Tryz.sizeOf256
  v53 := Tryz.zeroValue256
  t55 := Tryz.underlying258
  a55 := Tryz.isAgg258
  z55 := Tryz.sizeOf258
  v55 := Tryz.zeroValue258
  t66 := Tryz.underlying264
  a66 := Tryz.isAgg264
  z66 := Tryz.sizeOf264
  v66 := Tryz.zeroValue264
  t70 := Tryz.underlying268
  a70 := Tryz.isAgg268
  z70 := Tryz.sizeOf268
  v70 := Tryz.zeroValue268
  t76 := Tryz.underlying272
  a76 := Tryz.isAgg272
  z76 := Tryz.sizeOf272
  v76 := Tryz.zeroValue272
  t77 := Tryz.underlying273
  a77 := Tryz.isAgg273
  z77 := Tryz.sizeOf273
  v77 := Tryz.zeroValue273 }
def growH_ren : Go.Shelf.Ren := ⟨fun | 4 => 138 | n => n, fun | 22 => 37 | 25 => 75 | 3 => 3 | 4 => 4 | 9 => 9 | 20 => 20 | 0 => 0 | n => n, fun | n => n⟩
theorem growH : Go.Proofs.Lays8.n4 Tryz.prog growH_ren := {
  mixed := by kernel_rfl
  f4 := ⟨Tryz.f138.name, by decide, Tryz.func138.trans (congrArg some (by kernel_rfl))⟩
  t0 := Tryz.underlying0
  a0 := Tryz.isAgg0
  z0 := Tryz.sizeOf0
  v0 := Tryz.zeroValue0
  t3 := Tryz.underlying3
  a3 := Tryz.isAgg3
  z3 := Tryz.sizeOf3
  v3 := Tryz.zeroValue3
  t4 := Tryz.underlying4
  a4 := Tryz.isAgg4
  z4 := Tryz.sizeOf4
  v4 := Tryz.zeroValue4
  t9 := Tryz.underlying9
  a9 := Tryz.isAgg9
  z9 := Tryz.sizeOf9
  v9 := Tryz.zeroValue9
  t20 := Tryz.underlying20
  a20 := Tryz.isAgg20
  z20 := Tryz.sizeOf20
  v20 := Tryz.zeroValue20
  t22 := Tryz.underlying37
  a22 := Tryz.isAgg37
  z22 := Tryz.sizeOf37
  v22 := Tryz.zeroValue37 }
def sortQ_ren : Go.Shelf.Ren := ⟨fun | 6 => 164 | 15 => 169 | 14 => 171 | 28 => 180 | 29 => 181 | 20 => 182 | 21 => 183 | 22 => 184 | 23 => 185 | 24 => 186 | 25 => 187 | 26 => 188 | 27 => 189 | 46 => 195 | 47 => 191 | 48 => 192 | 49 => 196 | 50 => 197 | 57 => 199 | n => n, fun | 22 => 224 | 24 => 222 | 25 => 230 | 3 => 3 | 39 => 173 | 0 => 0 | 53 => 256 | 55 => 258 | 4 => 4 | 46 => 249 | 45 => 248 | 50 => 253 | 5 => 5 | 9 => 9 | 66 => 264 | 70 => 268 | 76 => 272 | 77 => 273 | n => n, fun | n => n⟩
theorem sortQ : Go.Proofs.SlLaysF0.n6 Tryz.prog sortQ_ren := {
  mixed := by kernel_rfl
  f6 := ⟨Tryz.f164.name, by decide, Tryz.func164.trans (congrArg some (by kernel_rfl))⟩
  f14 := ⟨Tryz.f171.name, by decide, Tryz.func171.trans (congrArg some (by kernel_rfl))⟩
  f15 := Tryz.func169.trans (congrArg some (by kernel_rfl))
  f20 := ⟨Tryz.f182.name, by decide, Tryz.func182.trans (congrArg some (by kernel_rfl))⟩
  f21 := ⟨Tryz.f183.name, by decide, Tryz.func183.trans (congrArg some (by kernel_rfl))⟩
  f22 := ⟨Tryz.f184.name, by decide, Tryz.func184.trans (congrArg some (by kernel_rfl))⟩
  f23 := ⟨Tryz.f185.name, by decide, Tryz.func185.trans (congrArg some (by kernel_rfl))⟩
  f24 := ⟨Tryz.f186.name, by decide, Tryz.func186.trans (congrArg some (by kernel_rfl))⟩
  f25 := ⟨Tryz.f187.name, by decide, Tryz.func187.trans (congrArg some (by kernel_rfl))⟩
  f26 := ⟨Tryz.f188.name, by decide, Tryz.func188.trans (congrArg some (by kernel_rfl))⟩
  f27 := ⟨Tryz.f189.name, by decide, Tryz.func189.trans (congrArg some (by kernel_rfl))⟩
  f28 := Tryz.func180.trans (congrArg some (by kernel_rfl))
  f29 := Tryz.func181.trans (congrArg some (by kernel_rfl))
  f46 := ⟨Tryz.f195.name, by decide, Tryz.func195.trans (congrArg some (by kernel_rfl))⟩
  f47 := Tryz.func191.trans (congrArg some (by kernel_rfl))
  f48 := Tryz.func192.trans (congrArg some (by kernel_rfl))
  f49 := ⟨Tryz.f196.name, by decide, Tryz.func196.trans (congrArg some (by kernel_rfl))⟩
  f50 := ⟨Tryz.f197.name, by decide, Tryz.func197.trans (congrArg some (by kernel_rfl))⟩
  f57 := ⟨Tryz.f199.name, by decide, Tryz.func199.trans (congrArg some (by kernel_rfl))⟩
  t0 := Tryz.underlying0
  a0 := Tryz.isAgg0
  z0 := Tryz.sizeOf0
  v0 := Tryz.zeroValue0
  t3 := Tryz.underlying3
  a3 := Tryz.isAgg3
  z3 := Tryz.sizeOf3
  v3 := Tryz.zeroValue3
  t4 := Tryz.underlying4
  a4 := Tryz.isAgg4
  z4 := Tryz.sizeOf4
  v4 := Tryz.zeroValue4
  t5 := Tryz.underlying5
  a5 := Tryz.isAgg5
  z5 := Tryz.sizeOf5
  v5 := Tryz.zeroValue5
  t9 := Tryz.underlying9
  a9 := Tryz.isAgg9
  z9 := Tryz.sizeOf9
  v9 := Tryz.zeroValue9
  t22 := Tryz.underlying224
  a22 := Tryz.isAgg224
  z22 := Tryz.sizeOf224
  v22 := Tryz.zeroValue224
  t25 := Tryz.underlying230
  a25 := Tryz.isAgg230
  z25 := Tryz.sizeOf230
  v25 := Tryz.zeroValue230
  t39 := Tryz.underlying173
  a39 := Tryz.isAgg173
  z39 := Tryz.sizeOf173
  v39 := Tryz.zeroValue173
  t45 := Tryz.underlying248
  a45 := Tryz.isAgg248
  z45 := Tryz.sizeOf248
  v45 := Tryz.zeroValue248
  t46 := Tryz.underlying249
  a46 := Tryz.isAgg249
  z46 := Tryz.sizeOf249
  v46 := Tryz.zeroValue249
  t50 := Tryz.underlying253
  a50 := Tryz.isAgg253
  z50 := Tryz.sizeOf253
  v50 := Tryz.zeroValue253
  t53 := Tryz.underlying256
  a53 := Tryz.isAgg256
  z53 := Tryz.sizeOf256
  v53 := Tryz.zeroValue256
  t55 := Tryz.underlying258
  a55 := Tryz.isAgg258
  z55 := Tryz.sizeOf258
  v55 := Tryz.zeroValue258
  t66 := Tryz.underlying264
  a66 := Tryz.isAgg264
  z66 := Tryz.sizeOf264
  v66 := Tryz.zeroValue264
  t70 := Tryz.underlying268
  a70 := Tryz.isAgg268
  z70 := Tryz.sizeOf268
  v70 := Tryz.zeroValue268
  t76 := Tryz.underlying272
  a76 := Tryz.isAgg272
  z76 := Tryz.sizeOf272
  v76 := Tryz.zeroValue272
  t77 := Tryz.underlying273
  a77 := Tryz.isAgg273
  z77 := Tryz.sizeOf273
  v77 := Tryz.zeroValue273 }
end Go.Proofs.YtmaillakhhdkfaaGreatDoor
/-
  slices.Grow of nothing, and slices.Concat of rows of samples.
-/
namespace Go.Proofs.YtmaillakhhdkfaaGreatDoor
set_option maxRecDepth 20000
open Go.RowKit Go.Shelf
set_option linter.unusedSimpArgs false
set_option linter.unusedVariables false

theorem growNone (n : Nat) (hn : n ≤ 100000) (w : World) :
    Calls Tryz.prog 137 #[.slice none 0 0, .int .i64 (n : Int)] w fun e w' => ∃ A c, e = .returned (.slice A 0 c) ∧ Ow eS w' w.heap.size A 0 c [] ∧ Below w.heap.size w w' := by
  rcases Nat.eq_zero_or_pos n with h0 | h0
  · subst h0
    have h : Calls Tryz.prog 137 #[.slice none 0 0, .int .i64 ((0 : Nat) : Int)] w fun e w' => e = .returned (.slice none 0 0) ∧ w' = w :=
      Any8.slices_Grow_room growS none 0 0 0 w (by omega) (by omega) (by omega) (by omega)
    refine h.mono ?_
    rintro e w' ⟨rfl, rfl⟩
    exact ⟨none, 0, rfl, Ow.nil, Below.refl _ _⟩
  · obtain ⟨i, hi, hz, hsz, hby⟩ := info_parts info_smp
    have h : Calls Tryz.prog 137 #[.slice none 0 0, .int .i64 (n : Int)] w fun e w' => e = .returned (.slice (some ⟨w.heap.size, 0, none⟩) 0 (grownCap w (0 + n) 0 25)) ∧
        w' = w.drew.alloc (.cells (([] : List Value).toArray ++ Builtin.zeroCells (Value.agg #[.int .i64 0, .int .i64 0, .int .i64 0, .int .i64 0]).cells (0 + n - 0) ++ Builtin.zeroCells (Value.agg #[.int .i64 0, .int .i64 0, .int .i64 0, .int .i64 0]).cells (grownCap w (0 + n) 0 25 - (0 + n))) 25) :=
      Any8.slices_Grow_grow growS i _ hi hz (by omega) none 0 0 n [] w (by omega) (by omega) (by rw [hby]; omega) (by omega) (by simp) (fun _ => rfl) (fun a ha => by cases ha)
    refine h.mono ?_
    rintro e w' ⟨rfl, rfl⟩
    have hge := grownCap_ge w (0 + n) 0 25
    have hle := grownCap_le_maxLen w (0 + n) 0 25 (by unfold maxLen; omega)
    generalize grownCap w (0 + n) 0 25 = G at hge hle ⊢
    refine ⟨_, G, rfl, ?_, (Below.refl w.heap.size w).drew.alloc (Nat.le_refl _) _⟩
    have hm := World.ownsRow_made (base := w.heap.size) (e := 25) (size := 4) w.drew (([] : List Value).toArray ++ Builtin.zeroCells (Value.agg #[.int .i64 0, .int .i64 0, .int .i64 0, .int .i64 0]).cells (0 + n - 0) ++ Builtin.zeroCells (Value.agg #[.int .i64 0, .int .i64 0, .int .i64 0, .int .i64 0]).cells (G - (0 + n))) G (Nat.le_refl _) hle (by
      rw [Array.size_append, Array.size_append, size_zeroCells, size_zeroCells]
      simp [Value.cells]
      omega)
    exact hm

abbrev Row4 := Option Addr × Nat × Nat × List Smp
def flat (rows : List Row4) : List Smp := rows.flatMap (·.2.2.2)
theorem flat_next {rows : List Row4} {j : Nat} {r : Row4} (h : rows[j]? = some r) : flat (rows.take (j + 1)) = flat (rows.take j) ++ r.2.2.2 := by
  unfold flat
  rw [List.take_add_one, h, List.flatMap_append]
  simp
theorem flat_len : ∀ {rows : List Row4}, (∀ r, r ∈ rows → r.2.2.2.length ≤ 1000) → (flat rows).length ≤ rows.length * 1000
  | [], _ => by simp [flat]
  | r :: rows, h => by
    have h1 := flat_len (rows := rows) (fun x hx => h x (by simp [hx]))
    have h2 := h r (by simp)
    unfold flat at h1 ⊢
    rw [List.flatMap_cons, List.length_append, List.length_cons]
    omega

/-- Block G holds these slices, each of which reads its list. -/
def Rows4 (w : World) (G : Nat) (rows : List Row4) : Prop :=
  ∀ (i : Nat) (r : Row4), rows[i]? = some r → w.cell? ⟨G, i, none⟩ = some (.slice r.1 r.2.1 r.2.2.1) ∧ Rd eS w w.heap.size r.1 r.2.2.2 ∧ r.2.2.2.length = r.2.1 ∧ r.2.1 ≤ 1000
theorem Rows4.below {w w' : World} {G : Nat} {rows : List Row4} (h : Rows4 w G rows) (hb : Below w.heap.size w w') (hG : G < w.heap.size) : Rows4 w' G rows := fun i r hr => by
  obtain ⟨h1, h2, h3, h4⟩ := h i r hr
  exact ⟨(hb.cell (p := ⟨G, i, none⟩) hG).trans h1, h2.lift hb, h3, h4⟩

set_option maxHeartbeats 2000000 in
theorem concatS (G k c : Nat) (rows : List Row4) (w : World) (hR : Rows4 w G rows) (hG : G < w.heap.size) (hk : rows.length = k) (hk4 : k ≤ 4) :
    Calls Tryz.prog 95 #[.slice (some ⟨G, 0, none⟩) k c] w fun e w' => ∃ A n c', e = .returned (.slice A n c') ∧ Ow eS w' w.heap.size A n c' (flat rows) ∧ Below w.heap.size w w' := by
  have hlen : ∀ j, j ≤ k → (flat (rows.take j)).length ≤ 4000 := fun j hj => by
    have h1 := flat_len (rows := rows.take j) (fun r hr => by
      obtain ⟨i, hi⟩ := List.mem_iff_getElem?.1 (List.mem_of_mem_take hr)
      obtain ⟨_, _, h3, h4⟩ := hR i r hi
      omega)
    rw [List.length_take] at h1
    have : min j rows.length * 1000 ≤ 4000 := by
      have : min j rows.length ≤ 4 := by omega
      omega
    omega
  have Hlen := Lib.hid hlen
  have Hk := Lib.hid hk
  clear hk hlen
  go_enter Tryz.func95, Tryz.ntmps95
  go_wp2
  go_loopw [3, 11] (fun sz i wr => ∃ j : Nat, j ≤ k ∧ i = .int .i64 j ∧ sz = .int .i64 ((flat (rows.take j)).length : Int) ∧ w = wr) (fun _ i _ => k - (intOf i).toNat)
  case atStart => exact ⟨0, Nat.zero_le _, rfl, rfl, rfl⟩
  case round =>
    obtain ⟨j, hj, rfl, rfl, rfl⟩ := hrel
    by_cases hlt : j < k
    · obtain ⟨r, hr⟩ : ∃ r, rows[j]? = some r := ⟨rows[j]'(by rw [Hk.out]; exact hlt), List.getElem?_eq_getElem _⟩
      obtain ⟨hc, -, h3, -⟩ := hR j r hr
      have h5 := Hlen.out (j + 1) hlt
      have h6 : (flat (rows.take (j + 1))).length = (flat (rows.take j)).length + r.2.1 := by rw [flat_next hr, List.length_append, h3]
      have H6 := Lib.hid h6
      have hw : wrap64 (((flat (rows.take j)).length : Int) + (r.2.1 : Int)) = ((flat (rows.take j)).length : Int) + (r.2.1 : Int) := by unfold wrap64; omega
      have hneg : ¬ ((flat (rows.take j)).length : Int) + (r.2.1 : Int) < 0 := by omega
      clear h3 hr h6
      have Hw := Lib.hid hw
      go_wp2
      exact ⟨⟨j + 1, by omega, by go_num, by rw [Hw.out, H6.out]; simp, trivial⟩, by simp [intOf]; omega⟩
    · obtain rfl : j = k := by omega
      have hz := Hlen.out j (Nat.le_refl _)
      have hq := growNone (flat (rows.take j)).length (by omega) w
      go_wp2_with fail
      refine hq.mono ?_
      rintro e w1 ⟨A0, c0, rfl, ow0, hb0⟩
      go_wp2
      go_loopw [6, 27] (fun o i wr => ∃ (t : Nat) (A : Option Addr) (n c' : Nat), t ≤ j ∧ i = .int .i64 t ∧ o = .slice A n c' ∧ Ow eS wr w.heap.size A n c' (flat (rows.take t)) ∧ Below w.heap.size w wr) (fun _ i _ => j - (intOf i).toNat)
      case atStart => exact ⟨0, A0, 0, c0, Nat.zero_le _, rfl, rfl, ow0, hb0⟩
      case round =>
        obtain ⟨t, A, n, c', ht, rfl, rfl, how, hbel⟩ := hrel
        by_cases hlt : t < j
        · obtain ⟨r, hr⟩ : ∃ r, rows[t]? = some r := ⟨rows[t]'(by rw [Hk.out]; exact hlt), List.getElem?_eq_getElem _⟩
          obtain ⟨hc, hX, h3, h4⟩ := (hR.below hbel hG) t r hr
          have hn := Hlen.out t (by omega)
          have hnl := Ow.len okS how
          have Hf := Lib.hid (flat_next hr)
          have H3 := Lib.hid h3
          have hn4 : n ≤ 4000 := by omega
          clear hr h3 hn hnl
          go_wp2_with (at_builtin; refine wpList_append_ow okS _ rfl _ _ 36 rfl w.heap.size info_smp Tryz.underlying36 rfl A n c' (flat (rows.take t)) rfl how r.1 r.2.1 r.2.2.1 wr.heap.size r.2.2.2 rfl hX H3.out (by unfold maxLen; omega) (by omega) hbel.size ?_; intro A1 c1 w2 ow2 hg2 hA2)
          refine ⟨⟨t + 1, A1, n + r.2.1, c1, by omega, by go_num, rfl, by rw [Hf.out]; exact ow2, hbel.grown hg2 hbel.size (fun k e => (how.lt k e).1)⟩, by simp [intOf]; omega⟩
        · obtain rfl : t = j := by omega
          have Hq := Lib.hid (show flat (rows.take t) = flat rows by rw [List.take_of_length_le (by rw [Hk.out]; exact Nat.le_refl _)])
          go_wp2
          go_ret
          exact ⟨A, n, c', rfl, by rw [← Hq.out]; exact how, hbel⟩
end Go.Proofs.YtmaillakhhdkfaaGreatDoor
/-
  slices.Grow of nothing, and slices.Concat of rows of hints.
-/
namespace Go.Proofs.YtmaillakhhdkfaaGreatDoor
set_option maxRecDepth 20000
open Go.RowKit Go.Shelf
set_option linter.unusedSimpArgs false
set_option linter.unusedVariables false

theorem growNoneH (n : Nat) (hn : n ≤ 100000) (w : World) :
    Calls Tryz.prog 138 #[.slice none 0 0, .int .i64 (n : Int)] w fun e w' => ∃ A c, e = .returned (.slice A 0 c) ∧ Ow eH w' w.heap.size A 0 c [] ∧ Below w.heap.size w w' := by
  rcases Nat.eq_zero_or_pos n with h0 | h0
  · subst h0
    have h : Calls Tryz.prog 138 #[.slice none 0 0, .int .i64 ((0 : Nat) : Int)] w fun e w' => e = .returned (.slice none 0 0) ∧ w' = w :=
      Any8.slices_Grow_room growH none 0 0 0 w (by omega) (by omega) (by omega) (by omega)
    refine h.mono ?_
    rintro e w' ⟨rfl, rfl⟩
    exact ⟨none, 0, rfl, Ow.nil, Below.refl _ _⟩
  · obtain ⟨i, hi, hz, hsz, hby⟩ := info_parts info_hnt
    have h : Calls Tryz.prog 138 #[.slice none 0 0, .int .i64 (n : Int)] w fun e w' => e = .returned (.slice (some ⟨w.heap.size, 0, none⟩) 0 (grownCap w (0 + n) 0 75)) ∧
        w' = w.drew.alloc (.cells (([] : List Value).toArray ++ Builtin.zeroCells (Value.agg #[.int .i64 0, .int .i64 0, .int .i64 0, .int .i64 0, .int .i64 0, .int .i64 0, .int .i64 0]).cells (0 + n - 0) ++ Builtin.zeroCells (Value.agg #[.int .i64 0, .int .i64 0, .int .i64 0, .int .i64 0, .int .i64 0, .int .i64 0, .int .i64 0]).cells (grownCap w (0 + n) 0 75 - (0 + n))) 75) :=
      Any8.slices_Grow_grow growH i _ hi hz (by omega) none 0 0 n [] w (by omega) (by omega) (by rw [hby]; omega) (by omega) (by simp) (fun _ => rfl) (fun a ha => by cases ha)
    refine h.mono ?_
    rintro e w' ⟨rfl, rfl⟩
    have hge := grownCap_ge w (0 + n) 0 75
    have hle := grownCap_le_maxLen w (0 + n) 0 75 (by unfold maxLen; omega)
    generalize grownCap w (0 + n) 0 75 = G at hge hle ⊢
    refine ⟨_, G, rfl, ?_, (Below.refl w.heap.size w).drew.alloc (Nat.le_refl _) _⟩
    have hm := World.ownsRow_made (base := w.heap.size) (e := 75) (size := 7) w.drew (([] : List Value).toArray ++ Builtin.zeroCells (Value.agg #[.int .i64 0, .int .i64 0, .int .i64 0, .int .i64 0, .int .i64 0, .int .i64 0, .int .i64 0]).cells (0 + n - 0) ++ Builtin.zeroCells (Value.agg #[.int .i64 0, .int .i64 0, .int .i64 0, .int .i64 0, .int .i64 0, .int .i64 0, .int .i64 0]).cells (G - (0 + n))) G (Nat.le_refl _) hle (by
      rw [Array.size_append, Array.size_append, size_zeroCells, size_zeroCells]
      simp [Value.cells]
      omega)
    exact hm

abbrev Row4H := Option Addr × Nat × Nat × List Hnt
def flatH (rows : List Row4H) : List Hnt := rows.flatMap (·.2.2.2)
theorem flatH_next {rows : List Row4H} {j : Nat} {r : Row4H} (h : rows[j]? = some r) : flatH (rows.take (j + 1)) = flatH (rows.take j) ++ r.2.2.2 := by
  unfold flatH
  rw [List.take_add_one, h, List.flatMap_append]
  simp
theorem flatH_len : ∀ {rows : List Row4H}, (∀ r, r ∈ rows → r.2.2.2.length ≤ 1000) → (flatH rows).length ≤ rows.length * 1000
  | [], _ => by simp [flatH]
  | r :: rows, h => by
    have h1 := flatH_len (rows := rows) (fun x hx => h x (by simp [hx]))
    have h2 := h r (by simp)
    unfold flatH at h1 ⊢
    rw [List.flatMap_cons, List.length_append, List.length_cons]
    omega

/-- Block G holds these slices, each of which reads its list. -/
def Rows4H (w : World) (G : Nat) (rows : List Row4H) : Prop :=
  ∀ (i : Nat) (r : Row4H), rows[i]? = some r → w.cell? ⟨G, i, none⟩ = some (.slice r.1 r.2.1 r.2.2.1) ∧ Rd eH w w.heap.size r.1 r.2.2.2 ∧ r.2.2.2.length = r.2.1 ∧ r.2.1 ≤ 1000
theorem Rows4H.below {w w' : World} {G : Nat} {rows : List Row4H} (h : Rows4H w G rows) (hb : Below w.heap.size w w') (hG : G < w.heap.size) : Rows4H w' G rows := fun i r hr => by
  obtain ⟨h1, h2, h3, h4⟩ := h i r hr
  exact ⟨(hb.cell (p := ⟨G, i, none⟩) hG).trans h1, h2.lift hb, h3, h4⟩

set_option maxHeartbeats 2000000 in
theorem concatH (G k c : Nat) (rows : List Row4H) (w : World) (hR : Rows4H w G rows) (hG : G < w.heap.size) (hk : rows.length = k) (hk4 : k ≤ 4) :
    Calls Tryz.prog 96 #[.slice (some ⟨G, 0, none⟩) k c] w fun e w' => ∃ A n c', e = .returned (.slice A n c') ∧ Ow eH w' w.heap.size A n c' (flatH rows) ∧ Below w.heap.size w w' := by
  have hlen : ∀ j, j ≤ k → (flatH (rows.take j)).length ≤ 4000 := fun j hj => by
    have h1 := flatH_len (rows := rows.take j) (fun r hr => by
      obtain ⟨i, hi⟩ := List.mem_iff_getElem?.1 (List.mem_of_mem_take hr)
      obtain ⟨_, _, h3, h4⟩ := hR i r hi
      omega)
    rw [List.length_take] at h1
    have : min j rows.length * 1000 ≤ 4000 := by
      have : min j rows.length ≤ 4 := by omega
      omega
    omega
  have Hlen := Lib.hid hlen
  have Hk := Lib.hid hk
  clear hk hlen
  go_enter Tryz.func96, Tryz.ntmps96
  go_wp2
  go_loopw [3, 11] (fun sz i wr => ∃ j : Nat, j ≤ k ∧ i = .int .i64 j ∧ sz = .int .i64 ((flatH (rows.take j)).length : Int) ∧ w = wr) (fun _ i _ => k - (intOf i).toNat)
  case atStart => exact ⟨0, Nat.zero_le _, rfl, rfl, rfl⟩
  case round =>
    obtain ⟨j, hj, rfl, rfl, rfl⟩ := hrel
    by_cases hlt : j < k
    · obtain ⟨r, hr⟩ : ∃ r, rows[j]? = some r := ⟨rows[j]'(by rw [Hk.out]; exact hlt), List.getElem?_eq_getElem _⟩
      obtain ⟨hc, -, h3, -⟩ := hR j r hr
      have h5 := Hlen.out (j + 1) hlt
      have h6 : (flatH (rows.take (j + 1))).length = (flatH (rows.take j)).length + r.2.1 := by rw [flatH_next hr, List.length_append, h3]
      have H6 := Lib.hid h6
      have hw : wrap64 (((flatH (rows.take j)).length : Int) + (r.2.1 : Int)) = ((flatH (rows.take j)).length : Int) + (r.2.1 : Int) := by unfold wrap64; omega
      have hneg : ¬ ((flatH (rows.take j)).length : Int) + (r.2.1 : Int) < 0 := by omega
      clear h3 hr h6
      have Hw := Lib.hid hw
      go_wp2
      exact ⟨⟨j + 1, by omega, by go_num, by rw [Hw.out, H6.out]; simp, trivial⟩, by simp [intOf]; omega⟩
    · obtain rfl : j = k := by omega
      have hz := Hlen.out j (Nat.le_refl _)
      have hq := growNoneH (flatH (rows.take j)).length (by omega) w
      go_wp2_with fail
      refine hq.mono ?_
      rintro e w1 ⟨A0, c0, rfl, ow0, hb0⟩
      go_wp2
      go_loopw [6, 27] (fun o i wr => ∃ (t : Nat) (A : Option Addr) (n c' : Nat), t ≤ j ∧ i = .int .i64 t ∧ o = .slice A n c' ∧ Ow eH wr w.heap.size A n c' (flatH (rows.take t)) ∧ Below w.heap.size w wr) (fun _ i _ => j - (intOf i).toNat)
      case atStart => exact ⟨0, A0, 0, c0, Nat.zero_le _, rfl, rfl, ow0, hb0⟩
      case round =>
        obtain ⟨t, A, n, c', ht, rfl, rfl, how, hbel⟩ := hrel
        by_cases hlt : t < j
        · obtain ⟨r, hr⟩ : ∃ r, rows[t]? = some r := ⟨rows[t]'(by rw [Hk.out]; exact hlt), List.getElem?_eq_getElem _⟩
          obtain ⟨hc, hX, h3, h4⟩ := (hR.below hbel hG) t r hr
          have hn := Hlen.out t (by omega)
          have hnl := Ow.len okH how
          have Hf := Lib.hid (flatH_next hr)
          have H3 := Lib.hid h3
          have hn4 : n ≤ 4000 := by omega
          clear hr h3 hn hnl
          go_wp2_with (at_builtin; refine wpList_append_ow okH _ rfl _ _ 37 rfl w.heap.size info_hnt Tryz.underlying37 rfl A n c' (flatH (rows.take t)) rfl how r.1 r.2.1 r.2.2.1 wr.heap.size r.2.2.2 rfl hX H3.out (by unfold maxLen; omega) (by omega) hbel.size ?_; intro A1 c1 w2 ow2 hg2 hA2)
          refine ⟨⟨t + 1, A1, n + r.2.1, c1, by omega, by go_num, rfl, by rw [Hf.out]; exact ow2, hbel.grown hg2 hbel.size (fun k e => (how.lt k e).1)⟩, by simp [intOf]; omega⟩
        · obtain rfl : t = j := by omega
          have Hq := Lib.hid (show flatH (rows.take t) = flatH rows by rw [List.take_of_length_le (by rw [Hk.out]; exact Nat.le_refl _)])
          go_wp2
          go_ret
          exact ⟨A, n, c', rfl, by rw [← Hq.out]; exact how, hbel⟩
end Go.Proofs.YtmaillakhhdkfaaGreatDoor
