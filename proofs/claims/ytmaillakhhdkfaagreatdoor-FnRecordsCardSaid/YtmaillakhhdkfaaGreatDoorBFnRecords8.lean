/-
  Texts of one proof, joined: each has its own namespace.
-/
import Derived.Test.YtmaillakhhdkfaaGreatDoorBFnRecords4
import Derived.Test.YtmaillakhhdkfaaGreatDoorBFnRecords7
import Derived.Test.YtmaillakhhdkfaaGreatDoorBFnRecords2
import Derived.Test.YtmaillakhhdkfaaGreatDoorBFnRecords0
import Derived.Handy
import Derived.Test.YtmaillakhhdkfaaGreatDoorBFnRecords1
import Derived.Maps.Own
import Derived.Deep.DeepCutAuto
import Derived.Test.YtmaillakhhdkfaaGreatDoorBFnRecords3
import Derived.Sort.LotA
import Derived.Sort.Grow
import Derived.RangeFuncNested
import Derived.RangeFuncBound
import Derived.RangeFuncLeaves
import Derived.OwnWalkIn
import Derived.TacticsInMore
import Derived.RegionIn
import Derived.LoopNIn
import Derived.LoopIn
import Derived.Shelf.Abstract
import Derived.Shelf.AbstractIn
/-
  A state copied: the program's.
-/
namespace Go.Proofs.YtmaillakhhdkfaaGreatDoor
set_option maxRecDepth 20000
open Go.RowKit
set_option linter.unusedSimpArgs false
set_option linter.unusedVariables false
attribute [local irreducible] mixW

theorem rowsOneS {w : World} {G n c : Nat} {A : Option Addr} {t : TypeId} {l : List Smp} (h : At w G t #[.slice A n c]) (ha : Rd eS w w.heap.size A l) (hn : l.length = n) (h1 : n ≤ 1000) : Rows4 w G [(A, n, c, l)] := by
  intro i r hr
  match i, hr with
  | 0, hr =>
    obtain rfl : (A, n, c, l) = r := by simpa using hr
    exact ⟨h.cell 0, ha, hn, h1⟩
  | i + 1, hr => simp at hr
theorem rowsOneH {w : World} {G n c : Nat} {A : Option Addr} {t : TypeId} {l : List Hnt} (h : At w G t #[.slice A n c]) (ha : Rd eH w w.heap.size A l) (hn : l.length = n) (h1 : n ≤ 1000) : Rows4H w G [(A, n, c, l)] := by
  intro i r hr
  match i, hr with
  | 0, hr =>
    obtain rfl : (A, n, c, l) = r := by simpa using hr
    exact ⟨h.cell 0, ha, hn, h1⟩
  | i + 1, hr => simp at hr
theorem concatOne (G n c d : Nat) (A : Option Addr) (t : TypeId) (l : List Smp) (w : World) (h : At w G t #[.slice A n c]) (ha : Rd eS w w.heap.size A l) (hn : l.length = n) (h1 : n ≤ 1000) :
    Calls Tryz.prog 95 #[.slice (some ⟨G, 0, none⟩) 1 d] w fun e w' => ∃ A' c', e = .returned (.slice A' n c') ∧ Ow eS w' w.heap.size A' n c' l ∧ Below w.heap.size w w' := by
  refine (concatS G 1 d [(A, n, c, l)] w (rowsOneS h ha hn h1) h.lt rfl (by omega)).mono ?_
  rintro e w' ⟨A', n', c', rfl, ow, hb⟩
  have hf : flat [(A, n, c, l)] = l := by simp [flat]
  rw [hf] at ow
  obtain rfl : n = n' := hn.symm.trans (ow.len okS)
  exact ⟨A', c', rfl, ow, hb⟩
theorem concatOneH (G n c d : Nat) (A : Option Addr) (t : TypeId) (l : List Hnt) (w : World) (h : At w G t #[.slice A n c]) (ha : Rd eH w w.heap.size A l) (hn : l.length = n) (h1 : n ≤ 1000) :
    Calls Tryz.prog 96 #[.slice (some ⟨G, 0, none⟩) 1 d] w fun e w' => ∃ A' c', e = .returned (.slice A' n c') ∧ Ow eH w' w.heap.size A' n c' l ∧ Below w.heap.size w w' := by
  refine (concatH G 1 d [(A, n, c, l)] w (rowsOneH h ha hn h1) h.lt rfl (by omega)).mono ?_
  rintro e w' ⟨A', n', c', rfl, ow, hb⟩
  have hf : flatH [(A, n, c, l)] = l := by simp [flatH]
  rw [hf] at ow
  obtain rfl : n = n' := hn.symm.trans (ow.len okH)
  exact ⟨A', c', rfl, ow, hb⟩

set_option maxHeartbeats 8000000 in
theorem copyState (A B : Option Addr) (n c m d : Nat) (l : List Smp) (h : List Hnt) (x : Int) (w : World) (ha : Rd eS w w.heap.size A l) (hb : Rd eH w w.heap.size B h) (hn : l.length = n) (hm : h.length = m) (hn1 : n ≤ 1000) (hm1 : m ≤ 1000) :
    Calls Tryz.prog 49 #[.agg #[.slice A n c, .slice B m d, .int .i64 x]] w fun e w' => ∃ A' c' B' d', e = .returned (.agg #[.slice A' n c', .slice B' m d', .int .i64 x]) ∧ Ow eS w' w.heap.size A' n c' l ∧ Ow eH w' w.heap.size B' m d' h ∧ Below w.heap.size w w' := by
  have hB0 : Below w.heap.size w ((w.alloc (.cells #[.slice A n c, .slice B m d, .int .i64 x] 39)).alloc (.cells #[.slice none 0 0, .slice none 0 0, .int .i64 0] 39)) := ((Below.refl _ _).alloc (Nat.le_refl _) _).alloc (by simp) _
  have x0 := (At.new w 39 #[.slice A n c, .slice B m d, .int .i64 x]).alloc (.cells #[.slice none 0 0, .slice none 0 0, .int .i64 0] 39)
  have zz : At ((w.alloc (.cells #[.slice A n c, .slice B m d, .int .i64 x] 39)).alloc (.cells #[.slice none 0 0, .slice none 0 0, .int .i64 0] 39)) (w.heap.size + 1) 39 #[.slice none 0 0, .slice none 0 0, .int .i64 0] := by
    have := At.new (w.alloc (.cells #[.slice A n c, .slice B m d, .int .i64 x] 39)) 39 #[.slice none 0 0, .slice none 0 0, .int .i64 0]
    simpa using this
  have ha0 := ha.lift hB0
  have hb0 := hb.lift hB0
  have Hn := Lib.hid hn
  have Hm := Lib.hid hm
  have lzz := zz.lt
  clear hn hm ha hb
  go_enter Tryz.func49, Tryz.ntmps49
  go_wp2
  refine any_start (fun u => At u w.heap.size 39 #[.slice A n c, .slice B m d, .int .i64 x]) (by kernel_rfl) x0.drew (fun _ => ?_)
  have bxd := x0.drew
  have hBd := hB0.drew
  have ha0d : _ := ha0.lift ((Below.refl _ _).drew)
  have hb0d : _ := hb0.lift ((Below.refl _ _).drew)
  have zzd := zz.drew
  refine any_pure (v := ?_) 0 rfl (by kernel_rfl) (fun _ _ _ _ _ h => h) (by rfl) (fun u hu => ?_) bxd ?_
  rotate_left
  · obtain ⟨_, _, _, _, _, _⟩ := At.three hu
    go_simp
    (with_reducible rfl)
  (try simp only [Act.put, List.setIfInBounds_toArray, List.set_cons_zero, List.set_cons_succ])
  refine any_pure (v := ?_) 1 rfl (by kernel_rfl) (fun _ _ _ _ _ h => h) (by rfl) (fun u hu => ?_) bxd ?_
  rotate_left
  · obtain ⟨_, _, _, _, _, _⟩ := At.three hu
    go_simp
    (with_reducible rfl)
  (try simp only [Act.put, List.setIfInBounds_toArray, List.set_cons_zero, List.set_cons_succ])
  refine any_pure (v := ?_) 4 rfl (by kernel_rfl) (fun _ _ _ _ _ h => h) (by rfl) (fun u hu => ?_) bxd ?_
  rotate_left
  · obtain ⟨_, _, _, _, _, _⟩ := At.three hu
    go_simp
    (with_reducible rfl)
  (try simp only [Act.put, List.setIfInBounds_toArray, List.set_cons_zero, List.set_cons_succ])
  refine any_pure (v := ?_) 5 rfl (by kernel_rfl) (fun _ _ _ _ _ h => h) (by rfl) (fun u hu => ?_) bxd ?_
  rotate_left
  · obtain ⟨_, _, _, _, _, _⟩ := At.three hu
    go_simp
    (with_reducible rfl)
  (try simp only [Act.put, List.setIfInBounds_toArray, List.set_cons_zero, List.set_cons_succ])
  refine any_pure (v := ?_) 8 rfl (by kernel_rfl) (fun _ _ _ _ _ h => h) (by rfl) (fun u hu => ?_) bxd ?_
  rotate_left
  · obtain ⟨_, _, _, _, _, _⟩ := At.three hu
    go_simp
    (with_reducible rfl)
  (try simp only [Act.put, List.setIfInBounds_toArray, List.set_cons_zero, List.set_cons_succ])
  refine any_pure (v := ?_) 9 rfl (by kernel_rfl) (fun _ _ _ _ _ h => h) (by rfl) (fun u hu => ?_) bxd ?_
  rotate_left
  · obtain ⟨_, _, _, _, _, _⟩ := At.three hu
    go_simp
    (with_reducible rfl)
  (try simp only [Act.put, List.setIfInBounds_toArray, List.set_cons_zero, List.set_cons_succ])
  refine any_two 2 6 rfl rfl (by kernel_rfl) (by rfl) (by rfl) ?_ ?_
  · go_simp
    have bs101 := At.newAt' (w := ((w.alloc (.cells #[.slice A n c, .slice B m d, .int .i64 x] 39)).alloc (.cells #[.slice none 0 0, .slice none 0 0, .int .i64 0] 39)).drew) (t := 36) (cs := #[.slice A n c]) (show ((w.alloc (.cells #[.slice A n c, .slice B m d, .int .i64 x] 39)).alloc (.cells #[.slice none 0 0, .slice none 0 0, .int .i64 0] 39)).drew.heap.size = w.heap.size + 1 + 1 by first | rfl | simp)
    have gl101 : w.heap.size ≤ w.heap.size + 1 + 1 := by first | exact hBd.size | exact Nat.le_refl _ | (have := hBd.size; simp at this ⊢; try omega)
    have hal101 := (Below.refl ((w.alloc (.cells #[.slice A n c, .slice B m d, .int .i64 x] 39)).alloc (.cells #[.slice none 0 0, .slice none 0 0, .int .i64 0] 39)).drew.heap.size ((w.alloc (.cells #[.slice A n c, .slice B m d, .int .i64 x] 39)).alloc (.cells #[.slice none 0 0, .slice none 0 0, .int .i64 0] 39)).drew).alloc (Nat.le_refl _) (.cells #[.slice A n c] 36)
    have hB101 := hBd.alloc hBd.size (.cells #[.slice A n c] 36)
    have bx101 := bxd.alloc (.cells #[.slice A n c] 36)
    have zz_101 := zzd.alloc (.cells #[.slice A n c] 36)
    have ha0_101 := ha0d.lift hal101
    have hb0_101 := hb0d.lift hal101
    refine ⟨(fun u => At u w.heap.size 39 #[.slice A n c, .slice B m d, .int .i64 x]), fun _ h => h, bx101, ?_⟩
    (try simp only [Act.put, List.setIfInBounds_toArray, List.set_cons_zero, List.set_cons_succ])
    refine any_two 3 6 rfl rfl (by kernel_rfl) (by rfl) (by rfl) ?_ ?_
    · go_simp
      refine (concatOne _ n c _ A _ l _ bs101 ha0_101 Hn.out hn1).mono ?_
      rintro e w102 ⟨A102, c102, rfl, oa102, hb102⟩
      have hB102 := hB101.trans (hb102.mono hB101.size)
      have bx102 := bx101.below hb102 bx101.lt
      have zz_102 := zz_101.below hb102 zz_101.lt
      have bs_102 := bs101.below hb102 bs101.lt
      have ha0_102 := ha0_101.lift hb102
      have hb0_102 := hb0_101.lift hb102
      refine ⟨(fun u => At u w.heap.size 39 #[.slice A n c, .slice B m d, .int .i64 x]), fun _ h => h, bx102, ?_⟩
      (try simp only [Act.put, List.setIfInBounds_toArray, List.set_cons_zero, List.set_cons_succ])
      refine any_one 6 rfl (by kernel_rfl) (by rfl) ?_
      go_simp
      have bh103 := At.newAt' (w := w102) (t := 37) (cs := #[.slice B m d]) (show w102.heap.size = w102.heap.size by first | rfl | simp)
      have gl103 : w.heap.size ≤ w102.heap.size := by first | exact hB102.size | exact Nat.le_refl _ | (have := hB102.size; simp at this ⊢; try omega)
      have hal103 := (Below.refl w102.heap.size w102).alloc (Nat.le_refl _) (.cells #[.slice B m d] 37)
      have hB103 := hB102.alloc hB102.size (.cells #[.slice B m d] 37)
      have bx103 := bx102.alloc (.cells #[.slice B m d] 37)
      have zz_103 := zz_102.alloc (.cells #[.slice B m d] 37)
      have bs_103 := bs_102.alloc (.cells #[.slice B m d] 37)
      have oa_103 := oa102.alloc (.cells #[.slice B m d] 37)
      have ha0_103 := ha0_102.lift hal103
      have hb0_103 := hb0_102.lift hal103
      refine ⟨(fun u => At u w.heap.size 39 #[.slice A n c, .slice B m d, .int .i64 x]), fun _ h => h, bx103, ?_⟩
      (try simp only [Act.put, List.setIfInBounds_toArray, List.set_cons_zero, List.set_cons_succ])
      refine any_one 7 rfl (by kernel_rfl) (by rfl) ?_
      go_simp
      refine (concatOneH _ m d _ B _ h _ bh103 hb0_103 Hm.out hm1).mono ?_
      rintro e w104 ⟨B104, d104, rfl, ob104, hb104⟩
      have hB104 := hB103.trans (hb104.mono hB103.size)
      have bx104 := bx103.below hb104 bx103.lt
      have zz_104 := zz_103.below hb104 zz_103.lt
      have bs_104 := bs_103.below hb104 bs_103.lt
      have bh_104 := bh103.below hb104 bh103.lt
      have oa_104 := oa_103.below hb104 (Nat.le_refl _)
      have ha0_104 := ha0_103.lift hb104
      have hb0_104 := hb0_103.lift hb104
      refine ⟨(fun u => At u w.heap.size 39 #[.slice A n c, .slice B m d, .int .i64 x]), fun _ h => h, bx104, ?_⟩
      (try simp only [Act.put, List.setIfInBounds_toArray, List.set_cons_zero, List.set_cons_succ])
      refine any_pure (v := ?_) 10 rfl (by kernel_rfl) (fun _ _ _ _ _ h => h) (by rfl) (fun u hu => ?_) bx104 ?_
      rotate_left
      · skip
        go_simp
        (with_reducible rfl)
      (try simp only [Act.put, List.setIfInBounds_toArray, List.set_cons_zero, List.set_cons_succ])
      obtain ⟨p0, p1, p2, f0, f1, f2⟩ := zz_104.three
      skip
      refine any_one 11 rfl (by kernel_rfl) (by rfl) ?_
      go_simp
      refine ⟨(fun u => At u w.heap.size 39 #[.slice A n c, .slice B m d, .int .i64 x]), fun _ h => h, (((bx104.far (p := ⟨w.heap.size + 1, 0, none⟩) (by simp) _).far (p := ⟨w.heap.size + 1, 1, none⟩) (by simp) _).far (p := ⟨w.heap.size + 1, 2, none⟩) (by simp) _), ?_⟩
      (try simp only [Act.put, List.setIfInBounds_toArray, List.set_cons_zero, List.set_cons_succ])
      refine any_done (by kernel_rfl) ?_
      go_wp2
      refine bodyPost_ret (v := .agg #[.slice A102 n c102, .slice B104 m d104, .int .i64 x]) (by simp [results, Tryz.results49, go_sem, p0, p1, p2]) rfl ?_
      exact ⟨A102, c102, B104, d104, rfl, (((oa_104.under (p := ⟨w.heap.size + 1, 0, none⟩) zz_101.lt _).under (p := ⟨w.heap.size + 1, 1, none⟩) zz_101.lt _).under (p := ⟨w.heap.size + 1, 2, none⟩) zz_101.lt _).from_ hB101.size, (((ob104.under (p := ⟨w.heap.size + 1, 0, none⟩) zz_103.lt _).under (p := ⟨w.heap.size + 1, 1, none⟩) zz_103.lt _).under (p := ⟨w.heap.size + 1, 2, none⟩) zz_103.lt _).from_ hB103.size, (((hB104.setCell (by simp) _).setCell (by simp) _).setCell (by simp) _)⟩
    · go_simp
      have bh105 := At.newAt' (w := (((w.alloc (.cells #[.slice A n c, .slice B m d, .int .i64 x] 39)).alloc (.cells #[.slice none 0 0, .slice none 0 0, .int .i64 0] 39)).drew.alloc (.cells #[.slice A n c] 36))) (t := 37) (cs := #[.slice B m d]) (show (((w.alloc (.cells #[.slice A n c, .slice B m d, .int .i64 x] 39)).alloc (.cells #[.slice none 0 0, .slice none 0 0, .int .i64 0] 39)).drew.alloc (.cells #[.slice A n c] 36)).heap.size = w.heap.size + 1 + 1 + 1 by first | rfl | simp)
      have gl105 : w.heap.size ≤ w.heap.size + 1 + 1 + 1 := by first | exact hB101.size | exact Nat.le_refl _ | (have := hB101.size; simp at this ⊢; try omega)
      have hal105 := (Below.refl (((w.alloc (.cells #[.slice A n c, .slice B m d, .int .i64 x] 39)).alloc (.cells #[.slice none 0 0, .slice none 0 0, .int .i64 0] 39)).drew.alloc (.cells #[.slice A n c] 36)).heap.size (((w.alloc (.cells #[.slice A n c, .slice B m d, .int .i64 x] 39)).alloc (.cells #[.slice none 0 0, .slice none 0 0, .int .i64 0] 39)).drew.alloc (.cells #[.slice A n c] 36))).alloc (Nat.le_refl _) (.cells #[.slice B m d] 37)
      have hB105 := hB101.alloc hB101.size (.cells #[.slice B m d] 37)
      have bx105 := bx101.alloc (.cells #[.slice B m d] 37)
      have zz_105 := zz_101.alloc (.cells #[.slice B m d] 37)
      have bs_105 := bs101.alloc (.cells #[.slice B m d] 37)
      have ha0_105 := ha0_101.lift hal105
      have hb0_105 := hb0_101.lift hal105
      refine ⟨(fun u => At u w.heap.size 39 #[.slice A n c, .slice B m d, .int .i64 x]), fun _ h => h, bx105, ?_⟩
      (try simp only [Act.put, List.setIfInBounds_toArray, List.set_cons_zero, List.set_cons_succ])
      refine any_one 3 rfl (by kernel_rfl) (by rfl) ?_
      go_simp
      refine (concatOne _ n c _ A _ l _ bs_105 ha0_105 Hn.out hn1).mono ?_
      rintro e w106 ⟨A106, c106, rfl, oa106, hb106⟩
      have hB106 := hB105.trans (hb106.mono hB105.size)
      have bx106 := bx105.below hb106 bx105.lt
      have zz_106 := zz_105.below hb106 zz_105.lt
      have bs_106 := bs_105.below hb106 bs_105.lt
      have bh_106 := bh105.below hb106 bh105.lt
      have ha0_106 := ha0_105.lift hb106
      have hb0_106 := hb0_105.lift hb106
      refine ⟨(fun u => At u w.heap.size 39 #[.slice A n c, .slice B m d, .int .i64 x]), fun _ h => h, bx106, ?_⟩
      (try simp only [Act.put, List.setIfInBounds_toArray, List.set_cons_zero, List.set_cons_succ])
      refine any_one 7 rfl (by kernel_rfl) (by rfl) ?_
      go_simp
      refine (concatOneH _ m d _ B _ h _ bh_106 hb0_106 Hm.out hm1).mono ?_
      rintro e w107 ⟨B107, d107, rfl, ob107, hb107⟩
      have hB107 := hB106.trans (hb107.mono hB106.size)
      have bx107 := bx106.below hb107 bx106.lt
      have zz_107 := zz_106.below hb107 zz_106.lt
      have bs_107 := bs_106.below hb107 bs_106.lt
      have bh_107 := bh_106.below hb107 bh_106.lt
      have oa_107 := oa106.below hb107 (Nat.le_refl _)
      have ha0_107 := ha0_106.lift hb107
      have hb0_107 := hb0_106.lift hb107
      refine ⟨(fun u => At u w.heap.size 39 #[.slice A n c, .slice B m d, .int .i64 x]), fun _ h => h, bx107, ?_⟩
      (try simp only [Act.put, List.setIfInBounds_toArray, List.set_cons_zero, List.set_cons_succ])
      refine any_pure (v := ?_) 10 rfl (by kernel_rfl) (fun _ _ _ _ _ h => h) (by rfl) (fun u hu => ?_) bx107 ?_
      rotate_left
      · skip
        go_simp
        (with_reducible rfl)
      (try simp only [Act.put, List.setIfInBounds_toArray, List.set_cons_zero, List.set_cons_succ])
      obtain ⟨p0, p1, p2, f0, f1, f2⟩ := zz_107.three
      skip
      refine any_one 11 rfl (by kernel_rfl) (by rfl) ?_
      go_simp
      refine ⟨(fun u => At u w.heap.size 39 #[.slice A n c, .slice B m d, .int .i64 x]), fun _ h => h, (((bx107.far (p := ⟨w.heap.size + 1, 0, none⟩) (by simp) _).far (p := ⟨w.heap.size + 1, 1, none⟩) (by simp) _).far (p := ⟨w.heap.size + 1, 2, none⟩) (by simp) _), ?_⟩
      (try simp only [Act.put, List.setIfInBounds_toArray, List.set_cons_zero, List.set_cons_succ])
      refine any_done (by kernel_rfl) ?_
      go_wp2
      refine bodyPost_ret (v := .agg #[.slice A106 n c106, .slice B107 m d107, .int .i64 x]) (by simp [results, Tryz.results49, go_sem, p0, p1, p2]) rfl ?_
      exact ⟨A106, c106, B107, d107, rfl, (((oa_107.under (p := ⟨w.heap.size + 1, 0, none⟩) zz_105.lt _).under (p := ⟨w.heap.size + 1, 1, none⟩) zz_105.lt _).under (p := ⟨w.heap.size + 1, 2, none⟩) zz_105.lt _).from_ hB105.size, (((ob107.under (p := ⟨w.heap.size + 1, 0, none⟩) zz_106.lt _).under (p := ⟨w.heap.size + 1, 1, none⟩) zz_106.lt _).under (p := ⟨w.heap.size + 1, 2, none⟩) zz_106.lt _).from_ hB106.size, (((hB107.setCell (by simp) _).setCell (by simp) _).setCell (by simp) _)⟩
  · go_simp
    have bh108 := At.newAt' (w := ((w.alloc (.cells #[.slice A n c, .slice B m d, .int .i64 x] 39)).alloc (.cells #[.slice none 0 0, .slice none 0 0, .int .i64 0] 39)).drew) (t := 37) (cs := #[.slice B m d]) (show ((w.alloc (.cells #[.slice A n c, .slice B m d, .int .i64 x] 39)).alloc (.cells #[.slice none 0 0, .slice none 0 0, .int .i64 0] 39)).drew.heap.size = w.heap.size + 1 + 1 by first | rfl | simp)
    have gl108 : w.heap.size ≤ w.heap.size + 1 + 1 := by first | exact hBd.size | exact Nat.le_refl _ | (have := hBd.size; simp at this ⊢; try omega)
    have hal108 := (Below.refl ((w.alloc (.cells #[.slice A n c, .slice B m d, .int .i64 x] 39)).alloc (.cells #[.slice none 0 0, .slice none 0 0, .int .i64 0] 39)).drew.heap.size ((w.alloc (.cells #[.slice A n c, .slice B m d, .int .i64 x] 39)).alloc (.cells #[.slice none 0 0, .slice none 0 0, .int .i64 0] 39)).drew).alloc (Nat.le_refl _) (.cells #[.slice B m d] 37)
    have hB108 := hBd.alloc hBd.size (.cells #[.slice B m d] 37)
    have bx108 := bxd.alloc (.cells #[.slice B m d] 37)
    have zz_108 := zzd.alloc (.cells #[.slice B m d] 37)
    have ha0_108 := ha0d.lift hal108
    have hb0_108 := hb0d.lift hal108
    refine ⟨(fun u => At u w.heap.size 39 #[.slice A n c, .slice B m d, .int .i64 x]), fun _ h => h, bx108, ?_⟩
    (try simp only [Act.put, List.setIfInBounds_toArray, List.set_cons_zero, List.set_cons_succ])
    refine any_one 2 rfl (by kernel_rfl) (by rfl) ?_
    go_simp
    have bs109 := At.newAt' (w := (((w.alloc (.cells #[.slice A n c, .slice B m d, .int .i64 x] 39)).alloc (.cells #[.slice none 0 0, .slice none 0 0, .int .i64 0] 39)).drew.alloc (.cells #[.slice B m d] 37))) (t := 36) (cs := #[.slice A n c]) (show (((w.alloc (.cells #[.slice A n c, .slice B m d, .int .i64 x] 39)).alloc (.cells #[.slice none 0 0, .slice none 0 0, .int .i64 0] 39)).drew.alloc (.cells #[.slice B m d] 37)).heap.size = w.heap.size + 1 + 1 + 1 by first | rfl | simp)
    have gl109 : w.heap.size ≤ w.heap.size + 1 + 1 + 1 := by first | exact hB108.size | exact Nat.le_refl _ | (have := hB108.size; simp at this ⊢; try omega)
    have hal109 := (Below.refl (((w.alloc (.cells #[.slice A n c, .slice B m d, .int .i64 x] 39)).alloc (.cells #[.slice none 0 0, .slice none 0 0, .int .i64 0] 39)).drew.alloc (.cells #[.slice B m d] 37)).heap.size (((w.alloc (.cells #[.slice A n c, .slice B m d, .int .i64 x] 39)).alloc (.cells #[.slice none 0 0, .slice none 0 0, .int .i64 0] 39)).drew.alloc (.cells #[.slice B m d] 37))).alloc (Nat.le_refl _) (.cells #[.slice A n c] 36)
    have hB109 := hB108.alloc hB108.size (.cells #[.slice A n c] 36)
    have bx109 := bx108.alloc (.cells #[.slice A n c] 36)
    have zz_109 := zz_108.alloc (.cells #[.slice A n c] 36)
    have bh_109 := bh108.alloc (.cells #[.slice A n c] 36)
    have ha0_109 := ha0_108.lift hal109
    have hb0_109 := hb0_108.lift hal109
    refine ⟨(fun u => At u w.heap.size 39 #[.slice A n c, .slice B m d, .int .i64 x]), fun _ h => h, bx109, ?_⟩
    (try simp only [Act.put, List.setIfInBounds_toArray, List.set_cons_zero, List.set_cons_succ])
    refine any_one 3 rfl (by kernel_rfl) (by rfl) ?_
    go_simp
    refine (concatOne _ n c _ A _ l _ bs109 ha0_109 Hn.out hn1).mono ?_
    rintro e w110 ⟨A110, c110, rfl, oa110, hb110⟩
    have hB110 := hB109.trans (hb110.mono hB109.size)
    have bx110 := bx109.below hb110 bx109.lt
    have zz_110 := zz_109.below hb110 zz_109.lt
    have bh_110 := bh_109.below hb110 bh_109.lt
    have bs_110 := bs109.below hb110 bs109.lt
    have ha0_110 := ha0_109.lift hb110
    have hb0_110 := hb0_109.lift hb110
    refine ⟨(fun u => At u w.heap.size 39 #[.slice A n c, .slice B m d, .int .i64 x]), fun _ h => h, bx110, ?_⟩
    (try simp only [Act.put, List.setIfInBounds_toArray, List.set_cons_zero, List.set_cons_succ])
    refine any_one 7 rfl (by kernel_rfl) (by rfl) ?_
    go_simp
    refine (concatOneH _ m d _ B _ h _ bh_110 hb0_110 Hm.out hm1).mono ?_
    rintro e w111 ⟨B111, d111, rfl, ob111, hb111⟩
    have hB111 := hB110.trans (hb111.mono hB110.size)
    have bx111 := bx110.below hb111 bx110.lt
    have zz_111 := zz_110.below hb111 zz_110.lt
    have bh_111 := bh_110.below hb111 bh_110.lt
    have bs_111 := bs_110.below hb111 bs_110.lt
    have oa_111 := oa110.below hb111 (Nat.le_refl _)
    have ha0_111 := ha0_110.lift hb111
    have hb0_111 := hb0_110.lift hb111
    refine ⟨(fun u => At u w.heap.size 39 #[.slice A n c, .slice B m d, .int .i64 x]), fun _ h => h, bx111, ?_⟩
    (try simp only [Act.put, List.setIfInBounds_toArray, List.set_cons_zero, List.set_cons_succ])
    refine any_pure (v := ?_) 10 rfl (by kernel_rfl) (fun _ _ _ _ _ h => h) (by rfl) (fun u hu => ?_) bx111 ?_
    rotate_left
    · skip
      go_simp
      (with_reducible rfl)
    (try simp only [Act.put, List.setIfInBounds_toArray, List.set_cons_zero, List.set_cons_succ])
    obtain ⟨p0, p1, p2, f0, f1, f2⟩ := zz_111.three
    skip
    refine any_one 11 rfl (by kernel_rfl) (by rfl) ?_
    go_simp
    refine ⟨(fun u => At u w.heap.size 39 #[.slice A n c, .slice B m d, .int .i64 x]), fun _ h => h, (((bx111.far (p := ⟨w.heap.size + 1, 0, none⟩) (by simp) _).far (p := ⟨w.heap.size + 1, 1, none⟩) (by simp) _).far (p := ⟨w.heap.size + 1, 2, none⟩) (by simp) _), ?_⟩
    (try simp only [Act.put, List.setIfInBounds_toArray, List.set_cons_zero, List.set_cons_succ])
    refine any_done (by kernel_rfl) ?_
    go_wp2
    refine bodyPost_ret (v := .agg #[.slice A110 n c110, .slice B111 m d111, .int .i64 x]) (by simp [results, Tryz.results49, go_sem, p0, p1, p2]) rfl ?_
    exact ⟨A110, c110, B111, d111, rfl, (((oa_111.under (p := ⟨w.heap.size + 1, 0, none⟩) zz_109.lt _).under (p := ⟨w.heap.size + 1, 1, none⟩) zz_109.lt _).under (p := ⟨w.heap.size + 1, 2, none⟩) zz_109.lt _).from_ hB109.size, (((ob111.under (p := ⟨w.heap.size + 1, 0, none⟩) zz_110.lt _).under (p := ⟨w.heap.size + 1, 1, none⟩) zz_110.lt _).under (p := ⟨w.heap.size + 1, 2, none⟩) zz_110.lt _).from_ hB110.size, (((hB111.setCell (by simp) _).setCell (by simp) _).setCell (by simp) _)⟩
end Go.Proofs.YtmaillakhhdkfaaGreatDoor
/-
  A record as an entry of its own kind: the program's.
-/
namespace Go.Proofs.YtmaillakhhdkfaaGreatDoor
set_option maxRecDepth 20000
open Go.RowKit
set_option linter.unusedSimpArgs false
set_option linter.unusedVariables false

/-- The entry of a record; nil where the record has not the form of its kind. -/
def entV (r : Rcd) : Value := if recFormM r = true then (if r.1 = 1 then .iface 90 (.agg #[.int .i64 r.2.2.1.1, .int .i64 r.2.2.1.2.1, .int .i64 r.2.2.1.2.2.1, .int .i64 r.2.2.1.2.2.2]) else if r.1 = 2 then .iface 93 (.agg #[.int .i64 r.2.1, .int .i64 r.2.2.1.1, .int .i64 r.2.2.1.2.1, .int .i64 r.2.2.1.2.2.1, .int .i64 r.2.2.1.2.2.2]) else if r.1 = 3 then .iface 96 (.agg #[.int .i64 r.2.1, .int .i64 r.2.2.2]) else .iface 101 (.agg #[.int .i64 r.2.2.2])) else .nilIface
theorem entV_no {r : Rcd} (h : recFormM r = false) : entV r = .nilIface := by unfold entV; rw [if_neg (by simp [h])]
theorem entV_1 {a1 a2 a3 a4 a5 a6 : Int} (h : recFormM (1, a1, (a2, a3, a4, a5), a6) = true) : entV (1, a1, (a2, a3, a4, a5), a6) = .iface 90 (.agg #[.int .i64 a2, .int .i64 a3, .int .i64 a4, .int .i64 a5]) := by unfold entV; rw [if_pos h, if_pos rfl]
theorem entV_2 {a1 a2 a3 a4 a5 a6 : Int} (h : recFormM (2, a1, (a2, a3, a4, a5), a6) = true) : entV (2, a1, (a2, a3, a4, a5), a6) = .iface 93 (.agg #[.int .i64 a1, .int .i64 a2, .int .i64 a3, .int .i64 a4, .int .i64 a5]) := by unfold entV; rw [if_pos h, if_neg (show ¬ ((2 : Int) = 1) by decide), if_pos rfl]
theorem entV_3 {a1 a2 a3 a4 a5 a6 : Int} (h : recFormM (3, a1, (a2, a3, a4, a5), a6) = true) : entV (3, a1, (a2, a3, a4, a5), a6) = .iface 96 (.agg #[.int .i64 a1, .int .i64 a6]) := by unfold entV; rw [if_pos h, if_neg (show ¬ ((3 : Int) = 1) by decide), if_neg (show ¬ ((3 : Int) = 2) by decide), if_pos rfl]
theorem entV_4 {a1 a2 a3 a4 a5 a6 : Int} (h : recFormM (4, a1, (a2, a3, a4, a5), a6) = true) : entV (4, a1, (a2, a3, a4, a5), a6) = .iface 101 (.agg #[.int .i64 a6]) := by unfold entV; rw [if_pos h, if_neg (show ¬ ((4 : Int) = 1) by decide), if_neg (show ¬ ((4 : Int) = 2) by decide), if_neg (show ¬ ((4 : Int) = 3) by decide)]
theorem neqR1 (a1 a2 a3 a4 a5 a6 : Int) (u : World) : (binOp .neq 27 (.agg #[.int .i64 1, .int .i64 0, .int .i64 a2, .int .i64 a3, .int .i64 a4, .int .i64 a5, .int .i64 0]) (.agg #[.int .i64 1, .int .i64 a1, .int .i64 a2, .int .i64 a3, .int .i64 a4, .int .i64 a5, .int .i64 a6])).run Tryz.prog u = .ok (.bool (!(recFormM (1, a1, (a2, a3, a4, a5), a6)))) u := by
  have e : recFormM (1, a1, (a2, a3, a4, a5), a6) = ((decide (a1 = 0) && (decide (a6 = 0)))) := by unfold recFormM formM; simp [Bool.decide_and]
  rw [e]
  clear e
  go_simp
  by_cases ha1 : a1 = 0
  rotate_left
  · have ga1 : ¬ (0 : Int) = a1 := fun q => ha1 q.symm
    simp [ha1, ga1]
  by_cases ha6 : a6 = 0
  rotate_left
  · have ga6 : ¬ (0 : Int) = a6 := fun q => ha6 q.symm
    simp [ha1, ha6, ga6]
  · simp [ha1, ha6]
theorem neqR2 (a1 a2 a3 a4 a5 a6 : Int) (u : World) : (binOp .neq 27 (.agg #[.int .i64 2, .int .i64 a1, .int .i64 a2, .int .i64 a3, .int .i64 a4, .int .i64 a5, .int .i64 0]) (.agg #[.int .i64 2, .int .i64 a1, .int .i64 a2, .int .i64 a3, .int .i64 a4, .int .i64 a5, .int .i64 a6])).run Tryz.prog u = .ok (.bool (!(recFormM (2, a1, (a2, a3, a4, a5), a6)))) u := by
  have e : recFormM (2, a1, (a2, a3, a4, a5), a6) = ((decide (a6 = 0))) := by unfold recFormM formM; simp [Bool.decide_and]
  rw [e]
  clear e
  go_simp
  by_cases ha6 : a6 = 0
  rotate_left
  · have ga6 : ¬ (0 : Int) = a6 := fun q => ha6 q.symm
    simp [ha6, ga6]
  · simp [ha6]
theorem neqR3 (a1 a2 a3 a4 a5 a6 : Int) (u : World) : (binOp .neq 27 (.agg #[.int .i64 3, .int .i64 a1, .int .i64 0, .int .i64 0, .int .i64 0, .int .i64 0, .int .i64 a6]) (.agg #[.int .i64 3, .int .i64 a1, .int .i64 a2, .int .i64 a3, .int .i64 a4, .int .i64 a5, .int .i64 a6])).run Tryz.prog u = .ok (.bool (!(recFormM (3, a1, (a2, a3, a4, a5), a6)))) u := by
  have e : recFormM (3, a1, (a2, a3, a4, a5), a6) = ((decide (a2 = 0) && (decide (a3 = 0) && (decide (a4 = 0) && (decide (a5 = 0)))))) := by unfold recFormM formM; simp [Bool.decide_and]
  rw [e]
  clear e
  go_simp
  by_cases ha2 : a2 = 0
  rotate_left
  · have ga2 : ¬ (0 : Int) = a2 := fun q => ha2 q.symm
    simp [ha2, ga2]
  by_cases ha3 : a3 = 0
  rotate_left
  · have ga3 : ¬ (0 : Int) = a3 := fun q => ha3 q.symm
    simp [ha2, ha3, ga3]
  by_cases ha4 : a4 = 0
  rotate_left
  · have ga4 : ¬ (0 : Int) = a4 := fun q => ha4 q.symm
    simp [ha2, ha3, ha4, ga4]
  by_cases ha5 : a5 = 0
  rotate_left
  · have ga5 : ¬ (0 : Int) = a5 := fun q => ha5 q.symm
    simp [ha2, ha3, ha4, ha5, ga5]
  · simp [ha2, ha3, ha4, ha5]
theorem neqR4 (a1 a2 a3 a4 a5 a6 : Int) (u : World) : (binOp .neq 27 (.agg #[.int .i64 4, .int .i64 0, .int .i64 0, .int .i64 0, .int .i64 0, .int .i64 0, .int .i64 a6]) (.agg #[.int .i64 4, .int .i64 a1, .int .i64 a2, .int .i64 a3, .int .i64 a4, .int .i64 a5, .int .i64 a6])).run Tryz.prog u = .ok (.bool (!(recFormM (4, a1, (a2, a3, a4, a5), a6)))) u := by
  have e : recFormM (4, a1, (a2, a3, a4, a5), a6) = ((decide (a1 = 0) && (decide (a2 = 0) && (decide (a3 = 0) && (decide (a4 = 0) && (decide (a5 = 0))))))) := by unfold recFormM formM; simp [Bool.decide_and]
  rw [e]
  clear e
  go_simp
  by_cases ha1 : a1 = 0
  rotate_left
  · have ga1 : ¬ (0 : Int) = a1 := fun q => ha1 q.symm
    simp [ha1, ga1]
  by_cases ha2 : a2 = 0
  rotate_left
  · have ga2 : ¬ (0 : Int) = a2 := fun q => ha2 q.symm
    simp [ha1, ha2, ga2]
  by_cases ha3 : a3 = 0
  rotate_left
  · have ga3 : ¬ (0 : Int) = a3 := fun q => ha3 q.symm
    simp [ha1, ha2, ha3, ga3]
  by_cases ha4 : a4 = 0
  rotate_left
  · have ga4 : ¬ (0 : Int) = a4 := fun q => ha4 q.symm
    simp [ha1, ha2, ha3, ha4, ga4]
  by_cases ha5 : a5 = 0
  rotate_left
  · have ga5 : ¬ (0 : Int) = a5 := fun q => ha5 q.symm
    simp [ha1, ha2, ha3, ha4, ha5, ga5]
  · simp [ha1, ha2, ha3, ha4, ha5]
set_option maxHeartbeats 1000000 in
theorem recOf1 (a2 a3 a4 a5 : Int) (w : World) :
    Calls Tryz.prog 215 #[.agg #[.int .i64 a2, .int .i64 a3, .int .i64 a4, .int .i64 a5]] w fun e w' => e = .returned (.agg #[.int .i64 1, .int .i64 0, .int .i64 a2, .int .i64 a3, .int .i64 a4, .int .i64 a5, .int .i64 0]) ∧ Below w.heap.size w w' := by
  have hB0 : Below w.heap.size w ((w.alloc (.cells #[.int .i64 a2, .int .i64 a3, .int .i64 a4, .int .i64 a5] 90)).alloc (.cells #[.int .i64 0, .int .i64 0, .int .i64 0, .int .i64 0, .int .i64 0, .int .i64 0, .int .i64 0] 27)) := ((Below.refl _ _).alloc (Nat.le_refl _) _).alloc (by simp) _
  go_enter Tryz.func215, Tryz.ntmps215
  go_wp2
  refine bodyPost_ret (v := .agg #[.int .i64 1, .int .i64 0, .int .i64 a2, .int .i64 a3, .int .i64 a4, .int .i64 a5, .int .i64 0]) (by simp [results, Tryz.results215, go_sem]) rfl ?_
  exact ⟨rfl, by repeat (first | exact Below.refl _ _ | refine Below.setCell ?_ (by simp) _ | refine Below.alloc ?_ (by simp) _)⟩
set_option maxHeartbeats 1000000 in
theorem recOf2 (a1 a2 a3 a4 a5 : Int) (w : World) :
    Calls Tryz.prog 216 #[.agg #[.int .i64 a1, .int .i64 a2, .int .i64 a3, .int .i64 a4, .int .i64 a5]] w fun e w' => e = .returned (.agg #[.int .i64 2, .int .i64 a1, .int .i64 a2, .int .i64 a3, .int .i64 a4, .int .i64 a5, .int .i64 0]) ∧ Below w.heap.size w w' := by
  have hB0 : Below w.heap.size w ((w.alloc (.cells #[.int .i64 a1, .int .i64 a2, .int .i64 a3, .int .i64 a4, .int .i64 a5] 93)).alloc (.cells #[.int .i64 0, .int .i64 0, .int .i64 0, .int .i64 0, .int .i64 0, .int .i64 0, .int .i64 0] 27)) := ((Below.refl _ _).alloc (Nat.le_refl _) _).alloc (by simp) _
  go_enter Tryz.func216, Tryz.ntmps216
  go_wp2
  refine bodyPost_ret (v := .agg #[.int .i64 2, .int .i64 a1, .int .i64 a2, .int .i64 a3, .int .i64 a4, .int .i64 a5, .int .i64 0]) (by simp [results, Tryz.results216, go_sem]) rfl ?_
  exact ⟨rfl, by repeat (first | exact Below.refl _ _ | refine Below.setCell ?_ (by simp) _ | refine Below.alloc ?_ (by simp) _)⟩
set_option maxHeartbeats 1000000 in
theorem recOf3 (a1 a6 : Int) (w : World) :
    Calls Tryz.prog 217 #[.agg #[.int .i64 a1, .int .i64 a6]] w fun e w' => e = .returned (.agg #[.int .i64 3, .int .i64 a1, .int .i64 0, .int .i64 0, .int .i64 0, .int .i64 0, .int .i64 a6]) ∧ Below w.heap.size w w' := by
  have hB0 : Below w.heap.size w ((w.alloc (.cells #[.int .i64 a1, .int .i64 a6] 96)).alloc (.cells #[.int .i64 0, .int .i64 0, .int .i64 0, .int .i64 0, .int .i64 0, .int .i64 0, .int .i64 0] 27)) := ((Below.refl _ _).alloc (Nat.le_refl _) _).alloc (by simp) _
  go_enter Tryz.func217, Tryz.ntmps217
  go_wp2
  refine bodyPost_ret (v := .agg #[.int .i64 3, .int .i64 a1, .int .i64 0, .int .i64 0, .int .i64 0, .int .i64 0, .int .i64 a6]) (by simp [results, Tryz.results217, go_sem]) rfl ?_
  exact ⟨rfl, by repeat (first | exact Below.refl _ _ | refine Below.setCell ?_ (by simp) _ | refine Below.alloc ?_ (by simp) _)⟩
set_option maxHeartbeats 1000000 in
theorem recOf4 (a6 : Int) (w : World) :
    Calls Tryz.prog 218 #[.agg #[.int .i64 a6]] w fun e w' => e = .returned (.agg #[.int .i64 4, .int .i64 0, .int .i64 0, .int .i64 0, .int .i64 0, .int .i64 0, .int .i64 a6]) ∧ Below w.heap.size w w' := by
  have hB0 : Below w.heap.size w ((w.alloc (.cells #[.int .i64 a6] 101)).alloc (.cells #[.int .i64 0, .int .i64 0, .int .i64 0, .int .i64 0, .int .i64 0, .int .i64 0, .int .i64 0] 27)) := ((Below.refl _ _).alloc (Nat.le_refl _) _).alloc (by simp) _
  go_enter Tryz.func218, Tryz.ntmps218
  go_wp2
  refine bodyPost_ret (v := .agg #[.int .i64 4, .int .i64 0, .int .i64 0, .int .i64 0, .int .i64 0, .int .i64 0, .int .i64 a6]) (by simp [results, Tryz.results218, go_sem]) rfl ?_
  exact ⟨rfl, by repeat (first | exact Below.refl _ _ | refine Below.setCell ?_ (by simp) _ | refine Below.alloc ?_ (by simp) _)⟩
theorem as0_1 (w : World) : (Instr.typeAssert .nilIface 66 90 true).run Tryz.prog w = .ok (.tuple #[.agg #[.int .i64 0, .int .i64 0, .int .i64 0, .int .i64 0], .bool false]) w := by kernel_rfl
theorem as0_2 (w : World) : (Instr.typeAssert .nilIface 66 93 true).run Tryz.prog w = .ok (.tuple #[.agg #[.int .i64 0, .int .i64 0, .int .i64 0, .int .i64 0, .int .i64 0], .bool false]) w := by kernel_rfl
theorem as0_3 (w : World) : (Instr.typeAssert .nilIface 66 96 true).run Tryz.prog w = .ok (.tuple #[.agg #[.int .i64 0, .int .i64 0], .bool false]) w := by kernel_rfl
theorem as0_4 (w : World) : (Instr.typeAssert .nilIface 66 101 true).run Tryz.prog w = .ok (.tuple #[.agg #[.int .i64 0], .bool false]) w := by kernel_rfl
theorem as1_1 (v : Value) (w : World) : (Instr.typeAssert (.iface 90 v) 66 90 true).run Tryz.prog w = .ok (.tuple #[v, .bool true]) w := by kernel_rfl
theorem as2_1 (v : Value) (w : World) : (Instr.typeAssert (.iface 93 v) 66 90 true).run Tryz.prog w = .ok (.tuple #[.agg #[.int .i64 0, .int .i64 0, .int .i64 0, .int .i64 0], .bool false]) w := by kernel_rfl
theorem as2_2 (v : Value) (w : World) : (Instr.typeAssert (.iface 93 v) 66 93 true).run Tryz.prog w = .ok (.tuple #[v, .bool true]) w := by kernel_rfl
theorem as3_1 (v : Value) (w : World) : (Instr.typeAssert (.iface 96 v) 66 90 true).run Tryz.prog w = .ok (.tuple #[.agg #[.int .i64 0, .int .i64 0, .int .i64 0, .int .i64 0], .bool false]) w := by kernel_rfl
theorem as3_2 (v : Value) (w : World) : (Instr.typeAssert (.iface 96 v) 66 93 true).run Tryz.prog w = .ok (.tuple #[.agg #[.int .i64 0, .int .i64 0, .int .i64 0, .int .i64 0, .int .i64 0], .bool false]) w := by kernel_rfl
theorem as3_3 (v : Value) (w : World) : (Instr.typeAssert (.iface 96 v) 66 96 true).run Tryz.prog w = .ok (.tuple #[v, .bool true]) w := by kernel_rfl
theorem as4_1 (v : Value) (w : World) : (Instr.typeAssert (.iface 101 v) 66 90 true).run Tryz.prog w = .ok (.tuple #[.agg #[.int .i64 0, .int .i64 0, .int .i64 0, .int .i64 0], .bool false]) w := by kernel_rfl
theorem as4_2 (v : Value) (w : World) : (Instr.typeAssert (.iface 101 v) 66 93 true).run Tryz.prog w = .ok (.tuple #[.agg #[.int .i64 0, .int .i64 0, .int .i64 0, .int .i64 0, .int .i64 0], .bool false]) w := by kernel_rfl
theorem as4_3 (v : Value) (w : World) : (Instr.typeAssert (.iface 101 v) 66 96 true).run Tryz.prog w = .ok (.tuple #[.agg #[.int .i64 0, .int .i64 0], .bool false]) w := by kernel_rfl
theorem as4_4 (v : Value) (w : World) : (Instr.typeAssert (.iface 101 v) 66 101 true).run Tryz.prog w = .ok (.tuple #[v, .bool true]) w := by kernel_rfl

set_option maxHeartbeats 4000000 in
theorem entryOf (a0 a1 a2 a3 a4 a5 a6 : Int) (w : World) :
    Calls Tryz.prog 38 #[.agg #[.int .i64 a0, .int .i64 a1, .int .i64 a2, .int .i64 a3, .int .i64 a4, .int .i64 a5, .int .i64 a6]] w fun e w' => e = .returned (entV (a0, a1, (a2, a3, a4, a5), a6)) ∧ Below w.heap.size w w' := by
  have hB0 : Below w.heap.size w (w.alloc (.cells #[.int .i64 a0, .int .i64 a1, .int .i64 a2, .int .i64 a3, .int .i64 a4, .int .i64 a5, .int .i64 a6] 27)) := (Below.refl _ _).alloc (Nat.le_refl _) _
  have r0 := At.new w 27 #[.int .i64 a0, .int .i64 a1, .int .i64 a2, .int .i64 a3, .int .i64 a4, .int .i64 a5, .int .i64 a6]
  obtain ⟨c0, c1, c2, c3, c4, c5, c6⟩ := r0.seven
  by_cases k1 : a0 = 1
  rotate_left
  by_cases k2 : a0 = 2
  rotate_left
  by_cases k3 : a0 = 3
  rotate_left
  by_cases k4 : a0 = 4
  rotate_left
  · have b1 : (a0 == 1) = false := by simpa using k1
    have b2 : (a0 == 2) = false := by simpa using k2
    have b3 : (a0 == 3) = false := by simpa using k3
    have b4 : (a0 == 4) = false := by simpa using k4
    have Hr := Lib.hid (entV_no (r := (a0, a1, (a2, a3, a4, a5), a6)) (by unfold recFormM; rw [if_neg k1, if_neg k2, if_neg k3, if_neg k4]))
    clear k1 k2 k3 k4
    go_enter Tryz.func38, Tryz.ntmps38
    go_wp2
    refine wp_region_mix [(0, false), (1, false), (2, false), (3, false), (5, false), (4, true), (6, false), (7, false)] (fun u => At u w.heap.size 27 #[.int .i64 a0, .int .i64 a1, .int .i64 a2, .int .i64 a3, .int .i64 a4, .int .i64 a5, .int .i64 a6]) (by kernel_rfl) (by kernel_rfl) (fun _ _ _ _ _ h => h) r0.drew ?_
    simp only [mixOps, List.map_cons, List.map_nil, List.getElem?_cons_succ, List.getElem?_cons_zero, Option.getD_some]
    repeat (first
      | (refine mix_skip (by rfl) ?_
         (try simp only [Act.put, List.setIfInBounds_toArray, List.set_cons_zero, List.set_cons_succ]))
      | (refine mix_pure (v := ?_) (by rfl) (fun u hu => ?_) ?_
         rotate_left
         · obtain ⟨_, _, _, _, _, _, _⟩ := hu.seven
           go_simp
           (with_reducible rfl)
         (try simp only [Act.put, List.setIfInBounds_toArray, List.set_cons_zero, List.set_cons_succ])))
    refine mix_nil ?_
    go_wp2
    go_ret
    exact ⟨by rw [Hr.out]; rfl, hB0.drew⟩
  · subst k1
    have NQ := neqR1 a1 a2 a3 a4 a5 a6
    rcases hf : recFormM (1, a1, (a2, a3, a4, a5), a6)
    · have Hr := Lib.hid (entV_no hf)
      rw [hf] at NQ
      clear hf
      go_enter Tryz.func38, Tryz.ntmps38
      go_wp2
      refine wp_region_mix [(0, false), (1, false), (2, false), (3, false), (5, false), (4, true), (6, false), (7, false)] (fun u => At u w.heap.size 27 #[.int .i64 1, .int .i64 a1, .int .i64 a2, .int .i64 a3, .int .i64 a4, .int .i64 a5, .int .i64 a6]) (by kernel_rfl) (by kernel_rfl) (fun _ _ _ _ _ h => h) r0.drew ?_
      simp only [mixOps, List.map_cons, List.map_nil, List.getElem?_cons_succ, List.getElem?_cons_zero, Option.getD_some]
      repeat (first
        | (refine mix_skip (by rfl) ?_
           (try simp only [Act.put, List.setIfInBounds_toArray, List.set_cons_zero, List.set_cons_succ]))
        | (refine mix_pure (v := ?_) (by rfl) (fun u hu => ?_) ?_
           rotate_left
           · obtain ⟨_, _, _, _, _, _, _⟩ := hu.seven
             go_simp
             (with_reducible rfl)
           (try simp only [Act.put, List.setIfInBounds_toArray, List.set_cons_zero, List.set_cons_succ])))
      refine mix_call (by rfl) (fun K hK => ?_)
      go_simp
      go_upon
      refine (recOf1 a2 a3 a4 a5 _).mono ?_
      rintro e w1 ⟨rfl, hb1⟩
      have hB1 := hB0.drew.trans (hb1.mono hB0.drew.size)
      have r1 := r0.drew.below hb1 r0.drew.lt
      refine hK _ _ (fun u => At u w.heap.size 27 #[.int .i64 1, .int .i64 a1, .int .i64 a2, .int .i64 a3, .int .i64 a4, .int .i64 a5, .int .i64 a6]) (fun _ h => h) r1 ?_
      clear hK K
      (try simp only [Act.put, List.setIfInBounds_toArray, List.set_cons_zero, List.set_cons_succ])
      repeat (first
        | (refine mix_skip (by rfl) ?_
           (try simp only [Act.put, List.setIfInBounds_toArray, List.set_cons_zero, List.set_cons_succ]))
        | (refine mix_pure (v := ?_) (by rfl) (fun u hu => ?_) ?_
           rotate_left
           · go_simp
             (with_reducible rfl)
           (try simp only [Act.put, List.setIfInBounds_toArray, List.set_cons_zero, List.set_cons_succ])))
      refine mix_nil ?_
      go_wp2
      go_ret
      exact ⟨by rw [Hr.out]; rfl, hB1⟩
    · have Hr := Lib.hid (entV_1 hf)
      rw [hf] at NQ
      clear hf
      go_enter Tryz.func38, Tryz.ntmps38
      go_wp2
      refine wp_region_mix [(0, false), (1, false), (2, false), (3, false), (5, false), (4, true), (6, false), (7, false)] (fun u => At u w.heap.size 27 #[.int .i64 1, .int .i64 a1, .int .i64 a2, .int .i64 a3, .int .i64 a4, .int .i64 a5, .int .i64 a6]) (by kernel_rfl) (by kernel_rfl) (fun _ _ _ _ _ h => h) r0.drew ?_
      simp only [mixOps, List.map_cons, List.map_nil, List.getElem?_cons_succ, List.getElem?_cons_zero, Option.getD_some]
      repeat (first
        | (refine mix_skip (by rfl) ?_
           (try simp only [Act.put, List.setIfInBounds_toArray, List.set_cons_zero, List.set_cons_succ]))
        | (refine mix_pure (v := ?_) (by rfl) (fun u hu => ?_) ?_
           rotate_left
           · obtain ⟨_, _, _, _, _, _, _⟩ := hu.seven
             go_simp
             (with_reducible rfl)
           (try simp only [Act.put, List.setIfInBounds_toArray, List.set_cons_zero, List.set_cons_succ])))
      refine mix_call (by rfl) (fun K hK => ?_)
      go_simp
      go_upon
      refine (recOf1 a2 a3 a4 a5 _).mono ?_
      rintro e w1 ⟨rfl, hb1⟩
      have hB1 := hB0.drew.trans (hb1.mono hB0.drew.size)
      have r1 := r0.drew.below hb1 r0.drew.lt
      refine hK _ _ (fun u => At u w.heap.size 27 #[.int .i64 1, .int .i64 a1, .int .i64 a2, .int .i64 a3, .int .i64 a4, .int .i64 a5, .int .i64 a6]) (fun _ h => h) r1 ?_
      clear hK K
      (try simp only [Act.put, List.setIfInBounds_toArray, List.set_cons_zero, List.set_cons_succ])
      repeat (first
        | (refine mix_skip (by rfl) ?_
           (try simp only [Act.put, List.setIfInBounds_toArray, List.set_cons_zero, List.set_cons_succ]))
        | (refine mix_pure (v := ?_) (by rfl) (fun u hu => ?_) ?_
           rotate_left
           · go_simp
             (with_reducible rfl)
           (try simp only [Act.put, List.setIfInBounds_toArray, List.set_cons_zero, List.set_cons_succ])))
      refine mix_nil ?_
      go_wp2
      go_ret
      exact ⟨by rw [Hr.out]; rfl, hB1⟩
  · subst k2
    clear k1
    have NQ := neqR2 a1 a2 a3 a4 a5 a6
    rcases hf : recFormM (2, a1, (a2, a3, a4, a5), a6)
    · have Hr := Lib.hid (entV_no hf)
      rw [hf] at NQ
      clear hf
      go_enter Tryz.func38, Tryz.ntmps38
      go_wp2
      refine wp_region_mix [(0, false), (1, false), (2, false), (3, false), (5, false), (4, true), (6, false), (7, false)] (fun u => At u w.heap.size 27 #[.int .i64 2, .int .i64 a1, .int .i64 a2, .int .i64 a3, .int .i64 a4, .int .i64 a5, .int .i64 a6]) (by kernel_rfl) (by kernel_rfl) (fun _ _ _ _ _ h => h) r0.drew ?_
      simp only [mixOps, List.map_cons, List.map_nil, List.getElem?_cons_succ, List.getElem?_cons_zero, Option.getD_some]
      repeat (first
        | (refine mix_skip (by rfl) ?_
           (try simp only [Act.put, List.setIfInBounds_toArray, List.set_cons_zero, List.set_cons_succ]))
        | (refine mix_pure (v := ?_) (by rfl) (fun u hu => ?_) ?_
           rotate_left
           · obtain ⟨_, _, _, _, _, _, _⟩ := hu.seven
             go_simp
             (with_reducible rfl)
           (try simp only [Act.put, List.setIfInBounds_toArray, List.set_cons_zero, List.set_cons_succ])))
      refine mix_call (by rfl) (fun K hK => ?_)
      go_simp
      go_upon
      refine (recOf2 a1 a2 a3 a4 a5 _).mono ?_
      rintro e w1 ⟨rfl, hb1⟩
      have hB1 := hB0.drew.trans (hb1.mono hB0.drew.size)
      have r1 := r0.drew.below hb1 r0.drew.lt
      refine hK _ _ (fun u => At u w.heap.size 27 #[.int .i64 2, .int .i64 a1, .int .i64 a2, .int .i64 a3, .int .i64 a4, .int .i64 a5, .int .i64 a6]) (fun _ h => h) r1 ?_
      clear hK K
      (try simp only [Act.put, List.setIfInBounds_toArray, List.set_cons_zero, List.set_cons_succ])
      repeat (first
        | (refine mix_skip (by rfl) ?_
           (try simp only [Act.put, List.setIfInBounds_toArray, List.set_cons_zero, List.set_cons_succ]))
        | (refine mix_pure (v := ?_) (by rfl) (fun u hu => ?_) ?_
           rotate_left
           · go_simp
             (with_reducible rfl)
           (try simp only [Act.put, List.setIfInBounds_toArray, List.set_cons_zero, List.set_cons_succ])))
      refine mix_nil ?_
      go_wp2
      go_ret
      exact ⟨by rw [Hr.out]; rfl, hB1⟩
    · have Hr := Lib.hid (entV_2 hf)
      rw [hf] at NQ
      clear hf
      go_enter Tryz.func38, Tryz.ntmps38
      go_wp2
      refine wp_region_mix [(0, false), (1, false), (2, false), (3, false), (5, false), (4, true), (6, false), (7, false)] (fun u => At u w.heap.size 27 #[.int .i64 2, .int .i64 a1, .int .i64 a2, .int .i64 a3, .int .i64 a4, .int .i64 a5, .int .i64 a6]) (by kernel_rfl) (by kernel_rfl) (fun _ _ _ _ _ h => h) r0.drew ?_
      simp only [mixOps, List.map_cons, List.map_nil, List.getElem?_cons_succ, List.getElem?_cons_zero, Option.getD_some]
      repeat (first
        | (refine mix_skip (by rfl) ?_
           (try simp only [Act.put, List.setIfInBounds_toArray, List.set_cons_zero, List.set_cons_succ]))
        | (refine mix_pure (v := ?_) (by rfl) (fun u hu => ?_) ?_
           rotate_left
           · obtain ⟨_, _, _, _, _, _, _⟩ := hu.seven
             go_simp
             (with_reducible rfl)
           (try simp only [Act.put, List.setIfInBounds_toArray, List.set_cons_zero, List.set_cons_succ])))
      refine mix_call (by rfl) (fun K hK => ?_)
      go_simp
      go_upon
      refine (recOf2 a1 a2 a3 a4 a5 _).mono ?_
      rintro e w1 ⟨rfl, hb1⟩
      have hB1 := hB0.drew.trans (hb1.mono hB0.drew.size)
      have r1 := r0.drew.below hb1 r0.drew.lt
      refine hK _ _ (fun u => At u w.heap.size 27 #[.int .i64 2, .int .i64 a1, .int .i64 a2, .int .i64 a3, .int .i64 a4, .int .i64 a5, .int .i64 a6]) (fun _ h => h) r1 ?_
      clear hK K
      (try simp only [Act.put, List.setIfInBounds_toArray, List.set_cons_zero, List.set_cons_succ])
      repeat (first
        | (refine mix_skip (by rfl) ?_
           (try simp only [Act.put, List.setIfInBounds_toArray, List.set_cons_zero, List.set_cons_succ]))
        | (refine mix_pure (v := ?_) (by rfl) (fun u hu => ?_) ?_
           rotate_left
           · go_simp
             (with_reducible rfl)
           (try simp only [Act.put, List.setIfInBounds_toArray, List.set_cons_zero, List.set_cons_succ])))
      refine mix_nil ?_
      go_wp2
      go_ret
      exact ⟨by rw [Hr.out]; rfl, hB1⟩
  · subst k3
    clear k1 k2
    have NQ := neqR3 a1 a2 a3 a4 a5 a6
    rcases hf : recFormM (3, a1, (a2, a3, a4, a5), a6)
    · have Hr := Lib.hid (entV_no hf)
      rw [hf] at NQ
      clear hf
      go_enter Tryz.func38, Tryz.ntmps38
      go_wp2
      refine wp_region_mix [(0, false), (1, false), (2, false), (3, false), (5, false), (4, true), (6, false), (7, false)] (fun u => At u w.heap.size 27 #[.int .i64 3, .int .i64 a1, .int .i64 a2, .int .i64 a3, .int .i64 a4, .int .i64 a5, .int .i64 a6]) (by kernel_rfl) (by kernel_rfl) (fun _ _ _ _ _ h => h) r0.drew ?_
      simp only [mixOps, List.map_cons, List.map_nil, List.getElem?_cons_succ, List.getElem?_cons_zero, Option.getD_some]
      repeat (first
        | (refine mix_skip (by rfl) ?_
           (try simp only [Act.put, List.setIfInBounds_toArray, List.set_cons_zero, List.set_cons_succ]))
        | (refine mix_pure (v := ?_) (by rfl) (fun u hu => ?_) ?_
           rotate_left
           · obtain ⟨_, _, _, _, _, _, _⟩ := hu.seven
             go_simp
             (with_reducible rfl)
           (try simp only [Act.put, List.setIfInBounds_toArray, List.set_cons_zero, List.set_cons_succ])))
      refine mix_call (by rfl) (fun K hK => ?_)
      go_simp
      go_upon
      refine (recOf3 a1 a6 _).mono ?_
      rintro e w1 ⟨rfl, hb1⟩
      have hB1 := hB0.drew.trans (hb1.mono hB0.drew.size)
      have r1 := r0.drew.below hb1 r0.drew.lt
      refine hK _ _ (fun u => At u w.heap.size 27 #[.int .i64 3, .int .i64 a1, .int .i64 a2, .int .i64 a3, .int .i64 a4, .int .i64 a5, .int .i64 a6]) (fun _ h => h) r1 ?_
      clear hK K
      (try simp only [Act.put, List.setIfInBounds_toArray, List.set_cons_zero, List.set_cons_succ])
      repeat (first
        | (refine mix_skip (by rfl) ?_
           (try simp only [Act.put, List.setIfInBounds_toArray, List.set_cons_zero, List.set_cons_succ]))
        | (refine mix_pure (v := ?_) (by rfl) (fun u hu => ?_) ?_
           rotate_left
           · go_simp
             (with_reducible rfl)
           (try simp only [Act.put, List.setIfInBounds_toArray, List.set_cons_zero, List.set_cons_succ])))
      refine mix_nil ?_
      go_wp2
      go_ret
      exact ⟨by rw [Hr.out]; rfl, hB1⟩
    · have Hr := Lib.hid (entV_3 hf)
      rw [hf] at NQ
      clear hf
      go_enter Tryz.func38, Tryz.ntmps38
      go_wp2
      refine wp_region_mix [(0, false), (1, false), (2, false), (3, false), (5, false), (4, true), (6, false), (7, false)] (fun u => At u w.heap.size 27 #[.int .i64 3, .int .i64 a1, .int .i64 a2, .int .i64 a3, .int .i64 a4, .int .i64 a5, .int .i64 a6]) (by kernel_rfl) (by kernel_rfl) (fun _ _ _ _ _ h => h) r0.drew ?_
      simp only [mixOps, List.map_cons, List.map_nil, List.getElem?_cons_succ, List.getElem?_cons_zero, Option.getD_some]
      repeat (first
        | (refine mix_skip (by rfl) ?_
           (try simp only [Act.put, List.setIfInBounds_toArray, List.set_cons_zero, List.set_cons_succ]))
        | (refine mix_pure (v := ?_) (by rfl) (fun u hu => ?_) ?_
           rotate_left
           · obtain ⟨_, _, _, _, _, _, _⟩ := hu.seven
             go_simp
             (with_reducible rfl)
           (try simp only [Act.put, List.setIfInBounds_toArray, List.set_cons_zero, List.set_cons_succ])))
      refine mix_call (by rfl) (fun K hK => ?_)
      go_simp
      go_upon
      refine (recOf3 a1 a6 _).mono ?_
      rintro e w1 ⟨rfl, hb1⟩
      have hB1 := hB0.drew.trans (hb1.mono hB0.drew.size)
      have r1 := r0.drew.below hb1 r0.drew.lt
      refine hK _ _ (fun u => At u w.heap.size 27 #[.int .i64 3, .int .i64 a1, .int .i64 a2, .int .i64 a3, .int .i64 a4, .int .i64 a5, .int .i64 a6]) (fun _ h => h) r1 ?_
      clear hK K
      (try simp only [Act.put, List.setIfInBounds_toArray, List.set_cons_zero, List.set_cons_succ])
      repeat (first
        | (refine mix_skip (by rfl) ?_
           (try simp only [Act.put, List.setIfInBounds_toArray, List.set_cons_zero, List.set_cons_succ]))
        | (refine mix_pure (v := ?_) (by rfl) (fun u hu => ?_) ?_
           rotate_left
           · go_simp
             (with_reducible rfl)
           (try simp only [Act.put, List.setIfInBounds_toArray, List.set_cons_zero, List.set_cons_succ])))
      refine mix_nil ?_
      go_wp2
      go_ret
      exact ⟨by rw [Hr.out]; rfl, hB1⟩
  · subst k4
    clear k1 k2 k3
    have NQ := neqR4 a1 a2 a3 a4 a5 a6
    rcases hf : recFormM (4, a1, (a2, a3, a4, a5), a6)
    · have Hr := Lib.hid (entV_no hf)
      rw [hf] at NQ
      clear hf
      go_enter Tryz.func38, Tryz.ntmps38
      go_wp2
      refine wp_region_mix [(0, false), (1, false), (2, false), (3, false), (5, false), (4, true), (6, false), (7, false)] (fun u => At u w.heap.size 27 #[.int .i64 4, .int .i64 a1, .int .i64 a2, .int .i64 a3, .int .i64 a4, .int .i64 a5, .int .i64 a6]) (by kernel_rfl) (by kernel_rfl) (fun _ _ _ _ _ h => h) r0.drew ?_
      simp only [mixOps, List.map_cons, List.map_nil, List.getElem?_cons_succ, List.getElem?_cons_zero, Option.getD_some]
      repeat (first
        | (refine mix_skip (by rfl) ?_
           (try simp only [Act.put, List.setIfInBounds_toArray, List.set_cons_zero, List.set_cons_succ]))
        | (refine mix_pure (v := ?_) (by rfl) (fun u hu => ?_) ?_
           rotate_left
           · obtain ⟨_, _, _, _, _, _, _⟩ := hu.seven
             go_simp
             (with_reducible rfl)
           (try simp only [Act.put, List.setIfInBounds_toArray, List.set_cons_zero, List.set_cons_succ])))
      refine mix_call (by rfl) (fun K hK => ?_)
      go_simp
      go_upon
      refine (recOf4 a6 _).mono ?_
      rintro e w1 ⟨rfl, hb1⟩
      have hB1 := hB0.drew.trans (hb1.mono hB0.drew.size)
      have r1 := r0.drew.below hb1 r0.drew.lt
      refine hK _ _ (fun u => At u w.heap.size 27 #[.int .i64 4, .int .i64 a1, .int .i64 a2, .int .i64 a3, .int .i64 a4, .int .i64 a5, .int .i64 a6]) (fun _ h => h) r1 ?_
      clear hK K
      (try simp only [Act.put, List.setIfInBounds_toArray, List.set_cons_zero, List.set_cons_succ])
      repeat (first
        | (refine mix_skip (by rfl) ?_
           (try simp only [Act.put, List.setIfInBounds_toArray, List.set_cons_zero, List.set_cons_succ]))
        | (refine mix_pure (v := ?_) (by rfl) (fun u hu => ?_) ?_
           rotate_left
           · go_simp
             (with_reducible rfl)
           (try simp only [Act.put, List.setIfInBounds_toArray, List.set_cons_zero, List.set_cons_succ])))
      refine mix_nil ?_
      go_wp2
      go_ret
      exact ⟨by rw [Hr.out]; rfl, hB1⟩
    · have Hr := Lib.hid (entV_4 hf)
      rw [hf] at NQ
      clear hf
      go_enter Tryz.func38, Tryz.ntmps38
      go_wp2
      refine wp_region_mix [(0, false), (1, false), (2, false), (3, false), (5, false), (4, true), (6, false), (7, false)] (fun u => At u w.heap.size 27 #[.int .i64 4, .int .i64 a1, .int .i64 a2, .int .i64 a3, .int .i64 a4, .int .i64 a5, .int .i64 a6]) (by kernel_rfl) (by kernel_rfl) (fun _ _ _ _ _ h => h) r0.drew ?_
      simp only [mixOps, List.map_cons, List.map_nil, List.getElem?_cons_succ, List.getElem?_cons_zero, Option.getD_some]
      repeat (first
        | (refine mix_skip (by rfl) ?_
           (try simp only [Act.put, List.setIfInBounds_toArray, List.set_cons_zero, List.set_cons_succ]))
        | (refine mix_pure (v := ?_) (by rfl) (fun u hu => ?_) ?_
           rotate_left
           · obtain ⟨_, _, _, _, _, _, _⟩ := hu.seven
             go_simp
             (with_reducible rfl)
           (try simp only [Act.put, List.setIfInBounds_toArray, List.set_cons_zero, List.set_cons_succ])))
      refine mix_call (by rfl) (fun K hK => ?_)
      go_simp
      go_upon
      refine (recOf4 a6 _).mono ?_
      rintro e w1 ⟨rfl, hb1⟩
      have hB1 := hB0.drew.trans (hb1.mono hB0.drew.size)
      have r1 := r0.drew.below hb1 r0.drew.lt
      refine hK _ _ (fun u => At u w.heap.size 27 #[.int .i64 4, .int .i64 a1, .int .i64 a2, .int .i64 a3, .int .i64 a4, .int .i64 a5, .int .i64 a6]) (fun _ h => h) r1 ?_
      clear hK K
      (try simp only [Act.put, List.setIfInBounds_toArray, List.set_cons_zero, List.set_cons_succ])
      repeat (first
        | (refine mix_skip (by rfl) ?_
           (try simp only [Act.put, List.setIfInBounds_toArray, List.set_cons_zero, List.set_cons_succ]))
        | (refine mix_pure (v := ?_) (by rfl) (fun u hu => ?_) ?_
           rotate_left
           · go_simp
             (with_reducible rfl)
           (try simp only [Act.put, List.setIfInBounds_toArray, List.set_cons_zero, List.set_cons_succ])))
      refine mix_nil ?_
      go_wp2
      go_ret
      exact ⟨by rw [Hr.out]; rfl, hB1⟩
end Go.Proofs.YtmaillakhhdkfaaGreatDoor
/-
  A map of samples by their keys, as it lies in memory: asked, filled, counted.
-/
namespace Go.Proofs.YtmaillakhhdkfaaGreatDoor
set_option maxRecDepth 20000
open Go.RowKit
open Go.ChangeMaps (setBlock heap_setBlock_same heap_setBlock_other)
set_option linter.unusedSimpArgs false
set_option linter.unusedVariables false

abbrev keyV (x : Smp) : Value := .agg #[.int .i64 x.1, .int .i64 x.2.1, .int .i64 x.2.2.1]
abbrev smpV (x : Smp) : Value := .agg #[.int .i64 x.1, .int .i64 x.2.1, .int .i64 x.2.2.1, .int .i64 x.2.2.2]
def firstS (L : List Smp) (y : Smp) : Option Smp := L.find? (fun x => sameKeyM y x)

theorem keyEqual (x y : Smp) (w : World) : (Op.equal 219 (keyV x) (keyV y)).run Tryz.prog w = .ok (sameKeyM x y) w := by
  show (Op.equalIn 10000 219 (keyV x) (keyV y)).run Tryz.prog w = _
  unfold sameKeyM
  go_simp
  by_cases h0 : x.1 = y.1 <;> by_cases h1 : x.2.1 = y.2.1 <;> by_cases h2 : x.2.2.1 = y.2.2.1 <;> simp [h0, h1, h2]
theorem keyChecks (e : Bool) (x : Smp) (w : World) : (Instr.checkKey e 10000 219 (keyV x)).run Tryz.prog w = .ok () w := by kernel_rfl
theorem zeroS (w : World) : (zeroValue 25).run Tryz.prog w = .ok (smpV (0, 0, 0, 0)) w := by kernel_rfl

theorem findAsk (y : Smp) (w : World) : ∀ (L : List Smp) (es : List MapEntry) (i : Nat), es.map (fun e => (e.key, e.val)) = L.map (fun x => (keyV x, smpV x)) →
    ∃ r, (Instr.findAsking 219 (keyV y) es i).run Tryz.prog w = .ok r w ∧ r.map (·.2) = (firstS L y).map smpV
  | [], es, i, h => by
    obtain rfl : es = [] := by simpa using h
    exact ⟨none, by simp [Instr.findAsking], rfl⟩
  | x :: L, es, i, h => by
    match es, h with
    | e :: es, h =>
      simp only [List.map_cons, List.cons.injEq, Prod.mk.injEq] at h
      obtain ⟨⟨hk, hv⟩, h⟩ := h
      have he : (Op.equal 219 (keyV y) e.key).run Tryz.prog w = .ok (sameKeyM y x) w := by rw [hk]; exact keyEqual y x w
      rcases hs : sameKeyM y x
      · obtain ⟨r, h1, h2⟩ := findAsk y w L es (i + 1) h
        refine ⟨r, by simp [Instr.findAsking, he, hs, h1, Result.andThen], ?_⟩
        rw [h2]
        simp [firstS, List.find?_cons, hs]
      · refine ⟨some (i, e.val), by simp [Instr.findAsking, he, hs, Result.andThen], ?_⟩
        simp [firstS, List.find?_cons, hs, hv]

theorem findKeyS (y : Smp) (w : World) (L : List Smp) (es : List MapEntry) (h : es.map (fun e => (e.key, e.val)) = L.map (fun x => (keyV x, smpV x))) :
    ∃ r, (Instr.findKey 219 (keyV y) es).run Tryz.prog w = .ok r w ∧ r.map (·.2) = (firstS L y).map smpV := by
  obtain ⟨r, h1, h2⟩ := findAsk y w L es 0 h
  match es, h with
  | [], h =>
    obtain rfl : L = [] := by simpa using h
    exact ⟨none, by simp [Instr.findKey, run_underlying Tryz.underlying219, Instr.findNow, Result.andThen], rfl⟩
  | e :: es, h =>
    refine ⟨r, ?_, h2⟩
    simp only [Instr.findKey, Sem.run_bind, run_underlying Tryz.underlying219, Result.andThen]
    exact h1

/-- Block b is a map that holds these samples by their keys, the eldest first. -/
def SMap (w : World) (b : Nat) (L : List Smp) : Prop :=
  ∃ es clock, w.heap[b]? = some (.map es clock) ∧ es.toList.map (fun e => (e.key, e.val)) = L.map (fun x => (keyV x, smpV x)) ∧ (∀ e ∈ es.toList, e.born < clock) ∧ (es.toList.map (·.born)).Nodup

section
variable {w w' : World} {b : Nat} {L : List Smp}
theorem SMap.lt (h : SMap w b L) : b < w.heap.size := by
  obtain ⟨es, clock, hb, _⟩ := h
  exact (Array.getElem?_eq_some_iff.1 hb).1
theorem SMap.kept {row : Option Nat} (h : SMap w b L) (hg : w.grownBy w' row) (hne : some b ≠ row) : SMap w' b L := by
  have hlt := h.lt
  obtain ⟨es, clock, hb, r⟩ := h
  exact ⟨es, clock, (hg.block b hlt hne).trans hb, r⟩
theorem SMap.below {B : Nat} (h : SMap w b L) (hb : Below B w w') (hB : b < B) : SMap w' b L := by
  obtain ⟨es, clock, h1, r⟩ := h
  exact ⟨es, clock, (hb.block b hB).trans h1, r⟩
theorem SMap.alloc (h : SMap w b L) (o : Obj) : SMap (w.alloc o) b L := h.kept (World.grownBy_alloc w o none) (by simp)
theorem SMap.drew (h : SMap w b L) : SMap w.drew b L := h
theorem SMap.made (w : World) : SMap (w.alloc (.map #[] 0)) w.heap.size [] := ⟨#[], 0, heap_alloc_new w _, rfl, by simp, by simp⟩
theorem SMap.size (h : SMap w b L) : ∃ es clock, w.heap[b]? = some (.map es clock) ∧ es.size = L.length := by
  obtain ⟨es, clock, hb, hm, _⟩ := h
  refine ⟨es, clock, hb, ?_⟩
  have := congrArg List.length hm
  simpa using this
theorem SMap.len (h : SMap w b L) (ty : TypeId) : (Builtin.len_ #[212] ty #[.map (some b)]).run Tryz.prog w = .ok (.int .i64 (L.length : Int)) w := by
  obtain ⟨es, clock, hb, hs⟩ := h.size
  rw [← hs]
  simp [Builtin.len_, run_underlying Tryz.underlying212, MapKept.run_getObj_map hb, Result.andThen]
  try rfl
theorem SMap.look (h : SMap w b L) (y : Smp) : (Instr.lookup 212 (.map (some b)) (keyV y) true).run Tryz.prog w = .ok (.tuple #[smpV ((firstS L y).getD (0, 0, 0, 0)), .bool (firstS L y).isSome]) w := by
  obtain ⟨es, clock, hb, hm, _⟩ := h
  obtain ⟨r, h1, h2⟩ := findKeyS y w L es.toList hm
  rcases hf : firstS L y with _ | x
  · rw [hf] at h2
    obtain rfl : r = none := by simpa using h2
    simp [Instr.lookup, run_underlying Tryz.underlying212, MapKept.run_getObj_map hb, keyChecks, h1, zeroS, Result.andThen]
  · rw [hf] at h2
    obtain ⟨⟨i, v⟩, rfl, hv⟩ := Option.map_eq_some_iff.1 h2
    simp only at hv
    subst hv
    simp [Instr.lookup, run_underlying Tryz.underlying212, MapKept.run_getObj_map hb, keyChecks, h1, Result.andThen]
theorem SMap.put (h : SMap w b L) (y : Smp) (hn : firstS L y = none) : ∃ w', (Instr.mapUpdate 212 (.map (some b)) (keyV y) (smpV y)).run Tryz.prog w = .ok () w' ∧ SMap w' b (L ++ [y]) ∧ w.grownBy w' (some b) := by
  obtain ⟨es, clock, hb, hm, hc, hd⟩ := h
  obtain ⟨r, h1, h2⟩ := findKeyS y w L es.toList hm
  rw [hn] at h2
  obtain rfl : r = none := by simpa using h2
  refine ⟨setBlock w b (.map (es.push ⟨keyV y, smpV y, clock⟩) (clock + 1)), ?_, ⟨_, _, heap_setBlock_same hb _, ?_, ?_, ?_⟩, ⟨rfl, rfl, rfl, by simp [setBlock], fun i _ hi => heap_setBlock_other hb _ (fun e => hi (by rw [e]))⟩⟩
  · simp [Instr.mapUpdate, run_underlying Tryz.underlying212, MapKept.run_getObj_map hb, keyChecks, h1, MapKept.run_setObj_map _ hb, Result.andThen, setBlock]
  · simp [hm]
  · intro e he
    simp only [Array.toList_push, List.mem_append, List.mem_singleton] at he
    rcases he with he | rfl
    · have := hc e he
      omega
    · simp
  · rw [Array.toList_push, List.map_append, List.nodup_append]
    refine ⟨hd, by simp, fun a ha c hc' => ?_⟩
    obtain ⟨e, he, rfl⟩ := List.mem_map.1 ha
    obtain rfl : c = clock := by simpa using hc'
    have := hc e he
    omega
end
end Go.Proofs.YtmaillakhhdkfaaGreatDoor
/-
  samplesByKey: the first sample of each key, in a map.
-/
namespace Go.Proofs.YtmaillakhhdkfaaGreatDoor
set_option maxRecDepth 20000
open Go.RowKit Go.Shelf
set_option linter.unusedSimpArgs false
set_option linter.unusedVariables false

def keyStep (acc : List Smp) (x : Smp) : List Smp := if (firstS acc x).isSome then acc else acc ++ [x]
def byKeyM (l : List Smp) : List Smp := l.foldl keyStep []
theorem byKey_next {l : List Smp} {k : Nat} {x : Smp} (h : l[k]? = some x) : byKeyM (l.take (k + 1)) = keyStep (byKeyM (l.take k)) x := by
  unfold byKeyM
  rw [take_next h, List.foldl_append]
  rfl

theorem implKeyOf (a0 a1 a2 a3 : Int) (w : World) :
    Calls Tryz.prog 158 #[.agg #[.int .i64 a0, .int .i64 a1, .int .i64 a2, .int .i64 a3]] w fun e w' => e = .returned (.agg #[.int .i64 a0, .int .i64 a1, .int .i64 a2]) ∧ Below w.heap.size w w' := by
  go_enter Tryz.func158, Tryz.ntmps158
  go_wp2
  refine bodyPost_ret (v := .agg #[.int .i64 a0, .int .i64 a1, .int .i64 a2]) (by simp [results, Tryz.results158, go_sem]) rfl ?_
  exact ⟨rfl, ((Below.refl _ _).alloc (Nat.le_refl _) _).alloc (by simp) _⟩

theorem S4.grown {w w' : World} {row : Option Nat} {g p : Nat} {a0 a1 a2 a3 : Int} (h : S4 w g p a0 a1 a2 a3) (hg : w.grownBy w' row) (hne : some g ≠ row) : S4 w' g p a0 a1 a2 a3 :=
  ⟨hg.cell h.1 hne, hg.cell h.2.1 hne, hg.cell h.2.2.1 hne, hg.cell h.2.2.2 hne⟩

theorem wp_mapPut {P : Program} {o : Oper} {a : Act} {w w' : World} {K : Act → World → Prop} {Q : Exit → Act → World → Prop} (m k v : Operand) (t : TypeId) (hop : o.op = Op.mapUpdate t m k v) {mv kv vv : Value} (hm : a.eval m = mv) (hk : a.eval k = kv) (hv : a.eval v = vv)
    (hrun : (Instr.mapUpdate t mv kv vv).run P w = .ok () w') (h : K (a.put o.dst undef) w') : o.wp P a w K Q := by
  unfold Oper.wp
  simp [execOp, hop, hm, hk, hv, hrun, Result.andThen]
  exact h

set_option maxRecDepth 100000 in
set_option maxHeartbeats 4000000 in
theorem byKeyS (G k c : Nat) (rows : List Row4) (w : World) (hR : Rows4 w G rows) (hG : G < w.heap.size) (hk : rows.length = k) (hk4 : k ≤ 4) :
    Calls Tryz.prog 149 #[.slice (some ⟨G, 0, none⟩) k c] w fun e w' => ∃ b, e = .returned (.map (some b)) ∧ w.heap.size ≤ b ∧ SMap w' b (byKeyM (flat rows)) ∧ Below w.heap.size w w' := by
  have hB0 : Below w.heap.size w (w.alloc (.map #[] 0)) := (Below.refl _ _).alloc (Nat.le_refl _) _
  have hC := concatS G k c rows (w.alloc (.map #[] 0)) (hR.below hB0 hG) (Nat.lt_of_lt_of_le hG hB0.size) hk hk4
  have hmm := @run_makeMap Tryz.prog
  have s0 := SMap.made w
  clear hR hk
  go_enter Tryz.func149, Tryz.ntmps149
  go_wp2_with fail
  refine hC.mono ?_
  rintro e w1 ⟨A, n, c', rfl, ow1, hb1⟩
  have s1 := s0.below hb1 (by simp)
  have hB1 := hB0.trans (hb1.mono hB0.size)
  have hnl := Ow.len okS ow1
  have hnm := ow1.small
  rw [World.size_alloc] at ow1
  obtain ⟨l, hl0⟩ : ∃ l, flat rows = l := ⟨_, rfl⟩
  rw [hl0] at ow1 hnl
  have Hl := Lib.hid hl0
  clear hl0
  have Hn := Lib.hid hnl
  clear hC hnl s0 hmm
  unfold maxLen at hnm
  go_wp2
  go_loopw [12] (fun i wr => ∃ t : Nat, t ≤ n ∧ i = .int .i64 t ∧ SMap wr w.heap.size (byKeyM (l.take t)) ∧ Ow eS wr (w.heap.size + 1) A n c' l ∧ Below w.heap.size w wr) (fun i _ => n - (intOf i).toNat)
  case atStart => exact ⟨0, Nat.zero_le _, rfl, s1, ow1, hB1⟩
  case round =>
    obtain ⟨t, ht, rfl, hs, how, hbel⟩ := hrel
    by_cases hlt : t < n
    · obtain ⟨g, o, a0, a1, a2, a3, rfl, hg, hx, c0, c1, c2, c3⟩ := (how.rd okS).smp (k := t) (by rw [Hn.out]; exact hlt)
      have hAl := (Below.refl wr.heap.size wr).alloc (Nat.le_refl _) (.cells #[.int .i64 a0, .int .i64 a1, .int .i64 a2, .int .i64 a3] 25)
      have hbA := hbel.trans (hAl.mono hbel.size)
      have hsA := hs.alloc (.cells #[.int .i64 a0, .int .i64 a1, .int .i64 a2, .int .i64 a3] 25)
      have owA := how.alloc (.cells #[.int .i64 a0, .int .i64 a1, .int .i64 a2, .int .i64 a3] 25)
      have atX := At.new wr 25 #[.int .i64 a0, .int .i64 a1, .int .i64 a2, .int .i64 a3]
      have Hx := Lib.hid (byKey_next hx)
      clear hx
      go_wp2_with fail
      refine (implKeyOf a0 a1 a2 a3 _).mono ?_
      rintro e w2 ⟨rfl, hb2⟩
      have hs2 := hsA.below hb2 hsA.lt
      have ow2 := owA.below hb2 (Nat.le_refl _)
      have hB2 := hbA.trans (hb2.mono hbA.size)
      have atX2 := atX.below hb2 atX.lt
      have hl : (Instr.lookup 212 (.map (some w.heap.size)) (.agg #[.int .i64 a0, .int .i64 a1, .int .i64 a2]) true).run Tryz.prog w2 = _ := hs2.look (a0, a1, a2, a3)
      rcases hf : firstS (byKeyM (l.take t)) (a0, a1, a2, a3) with _ | ⟨y0, y1, y2, y3⟩
      · rw [hf] at hl
        simp only [Option.getD_none, Option.isSome_none] at hl
        have Hst := Lib.hid (show byKeyM (l.take (t + 1)) = byKeyM (l.take t) ++ [(a0, a1, a2, a3)] by rw [Hx.out]; unfold keyStep; rw [hf]; rfl)
        have Hf := Lib.hid hf
        clear hf
        go_wp2
        have hAl5 := (Below.refl w2.heap.size w2).alloc (Nat.le_refl _) (.cells #[.int .i64 0, .int .i64 0, .int .i64 0, .int .i64 0] 25)
        have hB5 := hB2.alloc hB2.size (.cells #[.int .i64 0, .int .i64 0, .int .i64 0, .int .i64 0] 25)
        have hs5 := hs2.alloc (.cells #[.int .i64 0, .int .i64 0, .int .i64 0, .int .i64 0] 25)
        have ow5 := ow2.alloc (.cells #[.int .i64 0, .int .i64 0, .int .i64 0, .int .i64 0] 25)
        have atX5 := atX2.alloc (.cells #[.int .i64 0, .int .i64 0, .int .i64 0, .int .i64 0] 25)
        have c5 : S4 (w2.alloc (.cells #[.int .i64 0, .int .i64 0, .int .i64 0, .int .i64 0] 25)) wr.heap.size 0 a0 a1 a2 a3 := by
          obtain ⟨h0, h1, h2, h3, _⟩ := atX5.four
          exact ⟨h0, h1, h2, h3⟩
        have hg5 := atX5.lt
        refine wp_region_mix [(0, false), (1, false), (3, false), (2, true), (4, true)] (fun u => S4 u wr.heap.size 0 a0 a1 a2 a3) (by kernel_rfl) (by kernel_rfl) (fun _ _ _ _ _ h => h) c5.drew ?_
        simp only [mixOps, List.map_cons, List.map_nil, List.getElem?_cons_succ, List.getElem?_cons_zero, Option.getD_some]
        iterate 3 (
          refine mix_pure (v := ?_) (by rfl) (fun u hu => ?_) ?_
          rotate_left
          · obtain ⟨_, _, _, _⟩ := hu
            go_simp
            (with_reducible rfl)
          (try simp only [Act.put, List.setIfInBounds_toArray, List.set_cons_zero, List.set_cons_succ]))
        refine mix_call (by rfl) (fun K hK => ?_)
        go_simp
        refine (implKeyOf a0 a1 a2 a3 _).mono ?_
        rintro e w6 ⟨rfl, hb6⟩
        have hs6 := hs5.drew.below hb6 hs5.lt
        have ow6 := (ow5.drewN 1).below hb6 (Nat.le_refl _)
        have hB6 := hB5.drew.trans (hb6.mono hB5.size)
        have c6 := c5.drew.below hb6 hg5
        obtain ⟨w7, hrun, hs7, hg7⟩ := hs6.put (a0, a1, a2, a3) Hf.out
        have ow7 := ow6.grown hg7 (fun x hx e => by
          have := (ow6.lt x hx).1
          simp only [Option.some.injEq] at e
          omega)
        have hB7 := hB6.grown hg7 hB6.size (fun x e => by cases e; exact Nat.le_refl _)
        refine hK _ _ _ (fun _ h => h) c6 ?_
        (try simp only [Act.put, List.setIfInBounds_toArray, List.set_cons_zero, List.set_cons_succ])
        refine mix_call (by rfl) (fun K hK => ?_)
        refine wp_mapPut _ _ _ _ rfl rfl rfl rfl hrun ?_
        refine hK _ _ _ (fun _ h => h) (c6.grown hg7 (fun e => by
          have := hbel.size
          have := hs.lt
          simp only [Option.some.injEq] at e
          omega)) ?_
        (try simp only [Act.put, List.setIfInBounds_toArray, List.set_cons_zero, List.set_cons_succ])
        refine mix_nil ?_
        go_wp2
        exact ⟨⟨t + 1, by omega, by go_num, by rw [Hst.out]; exact hs7, ow7, hB7⟩, by simp [intOf]; omega⟩
      · rw [hf] at hl
        simp only [Option.getD_some, Option.isSome_some] at hl
        have Hst := Lib.hid (show byKeyM (l.take (t + 1)) = byKeyM (l.take t) by rw [Hx.out]; unfold keyStep; rw [hf]; rfl)
        clear hf
        go_wp2
        exact ⟨⟨t + 1, by omega, by go_num, by rw [Hst.out]; exact hs2.alloc _, ow2.alloc _, hB2.alloc hB2.size _⟩, by simp [intOf]; omega⟩
    · obtain rfl : t = n := by omega
      have Hq := Lib.hid (show l.take t = l by rw [List.take_of_length_le (by rw [Hn.out]; exact Nat.le_refl _)])
      go_wp2
      go_ret
      exact ⟨_, rfl, Nat.le_refl _, by rw [Hl.out, ← Hq.out]; exact hs, hbel⟩
end Go.Proofs.YtmaillakhhdkfaaGreatDoor
/-
  The program's StoreFault: a list held against what a store is.
-/
namespace Go.Proofs.YtmaillakhhdkfaaGreatDoor
set_option maxRecDepth 20000
open Go.RowKit
set_option linter.unusedSimpArgs false

theorem risesM_no {l : List Smp} {k : Nat} (hk : k < l.length) (hs : stepM l k = false) : risesM l = false := by
  unfold risesM
  rw [List.all_eq_false]
  exact ⟨k, List.mem_range.2 hk, by simp [hs]⟩
theorem risesM_yes {l : List Smp} {n : Nat} (hn : l.length = n) (hal : ∀ j, j + 1 < n → stepM l j = true) : risesM l = true := by
  unfold risesM
  rw [List.all_eq_true]
  intro j hj
  have hj' := List.mem_range.1 hj
  rcases Nat.lt_or_ge (j + 1) n with h1 | h1
  · exact hal j h1
  · unfold stepM
    rw [List.getElem?_eq_none (l := l) (i := j + 1) (by omega)]
    cases l[j]? <;> rfl

set_option maxHeartbeats 2000000 in
theorem implIsRising (A : Option Addr) (n c : Nat) (l : List Smp) (w : World) (ha : Rd eS w w.heap.size A l) (hn : l.length = n) (hm : n ≤ 1000) :
    Calls Tryz.prog 112 #[.slice A n c] w fun e w' => e = .returned (.bool (risesM l)) ∧ Below w.heap.size w w' := by
  have Hn := Lib.hid hn
  clear hn
  go_enter Tryz.func112, Tryz.ntmps112
  go_wp2
  go_loopw [3] (fun i wr => RiseRel w l n i wr) (fun i _ => n - (intOf i).toNat)
  case atStart => exact ⟨0, .inr rfl, rfl, fun _ h => absurd h (by omega), Below.refl _ _⟩
  case round =>
    obtain ⟨k, hk, rfl, hal, hbel⟩ := hrel
    have Hal := Lib.hid hal
    clear hal
    by_cases hlt : k + 1 < n
    · obtain ⟨g, o, a0, a1, a2, a3, rfl, hg, hx, ca⟩ := (ha.below hbel (Nat.le_refl _)).smp (k := k) (by rw [Hn.out]; omega)
      obtain ⟨g', o', b0, b1, b2, b3, e', hg', hy, cb⟩ := (ha.below hbel (Nat.le_refl _)).smp (k := k + 1) (by rw [Hn.out]; omega)
      obtain ⟨rfl, rfl⟩ : g = g' ∧ o = o' := by simpa using Option.some.inj e'
      have Hst := Lib.hid (stepM_at hx hy)
      clear hx hy e'
      have hbd := hbel.drew
      have hw : IntKind.i64.wrap (k : Int) = (k : Int) := IntWalk.i64_in _ (by omega)
      have i1 : (k : Int) < (n : Int) := by omega
      have i2 : (k : Int) + 1 < (n : Int) := by omega
      have i3 : (0 : Int) ≤ (k : Int) + 1 := by omega
      have i4 : ((k : Int) + 1).toNat = k + 1 := by omega
      go_wp2
      refine wp_region_mix [(0, false), (1, false), (2, false), (3, false), (4, false), (5, false), (6, false), (7, false), (8, false), (9, true), (10, false)] (fun u => S4 u g (o + k * 4) a0 a1 a2 a3 ∧ S4 u g (o + (k + 1) * 4) b0 b1 b2 b3) (by kernel_rfl) (by kernel_rfl) (fun _ _ _ _ _ h => h) ⟨ca.drew, cb.drew⟩ ?_
      simp only [mixOps, List.map_cons, List.map_nil, List.getElem?_cons_succ, List.getElem?_cons_zero, Option.getD_some]
      repeat (first
        | (refine mix_skip (by rfl) ?_
           (try simp only [Act.put, List.setIfInBounds_toArray, List.set_cons_zero, List.set_cons_succ]))
        | (refine mix_pure (v := ?_) (by rfl) (fun u hu => ?_) ?_
           rotate_left
           · obtain ⟨⟨_, _, _, _⟩, _, _, _, _⟩ := hu
             go_simp
             (with_reducible rfl)
           (try simp only [Act.put, List.setIfInBounds_toArray, List.set_cons_zero, List.set_cons_succ])))
      refine mix_call (by rfl) (fun K hK => ?_)
      go_simp
      refine (implIsAhead a0 a1 a2 a3 b0 b1 b2 b3 _).mono ?_
      rintro e w1 ⟨rfl, hb1⟩
      have hB1 := hbd.trans (hb1.mono hbd.size)
      refine hK _ _ _ (fun _ h => h) ⟨ca.drew.below hb1 (Nat.lt_of_lt_of_le hg hbd.size), cb.drew.below hb1 (Nat.lt_of_lt_of_le hg hbd.size)⟩ ?_
      (try simp only [Act.put, List.setIfInBounds_toArray, List.set_cons_zero, List.set_cons_succ])
      rw [← Hst.out]
      rcases hs : stepM l k
      · have Hf := Lib.hid (risesM_no (show k < l.length by rw [Hn.out]; omega) hs)
        clear hs
        refine mix_pure (v := ?_) (by rfl) (fun u hu => ?_) ?_
        rotate_left
        · go_simp
          (with_reducible rfl)
        (try simp only [Act.put, List.setIfInBounds_toArray, List.set_cons_zero, List.set_cons_succ])
        refine mix_nil ?_
        go_wp2
        go_ret
        exact ⟨by rw [Hf.out]; rfl, hB1⟩
      · have Hs := Lib.hid hs
        clear hs
        refine mix_pure (v := ?_) (by rfl) (fun u hu => ?_) ?_
        rotate_left
        · go_simp
          (with_reducible rfl)
        (try simp only [Act.put, List.setIfInBounds_toArray, List.set_cons_zero, List.set_cons_succ])
        refine mix_nil ?_
        go_wp2
        refine ⟨⟨k + 1, .inl (by omega), by go_num, fun j hj => ?_, hB1⟩, by simp [intOf]; omega⟩
        rcases Nat.lt_or_ge j k with h | h
        · exact Hal.out j h
        · obtain rfl : j = k := by omega
          exact Hs.out
    · have hq := risesM_yes Hn.out (fun j hj => Hal.out j (by omega))
      have Hq := Lib.hid hq
      clear hq
      have i5 : ¬ (k : Int) + 1 < (n : Int) := by omega
      go_wp2
      go_ret
      exact ⟨by rw [Hq.out]; rfl, hbel⟩

theorem storeFault_is {l : List Smp} (h : ¬ 160 < l.length) (hr : rightM l = true) : storeFaultM l = if risesM l = false then 1 else 0 := by
  unfold storeFaultM
  rw [if_neg h, if_neg (by simp [hr])]

set_option maxHeartbeats 2000000 in
theorem implStoreFault (A : Option Addr) (n c : Nat) (l : List Smp) (w : World) (ha : Rd eS w w.heap.size A l) (hn : l.length = n) (hF : Flds w) :
    Calls Tryz.prog 63 #[.slice A n c] w fun e w' => e = .returned (.int .i64 (storeFaultM l)) ∧ Below w.heap.size w w' := by
  by_cases hbig : 160 < n
  · have hb : (160 : Int) < (n : Int) := by omega
    rw [storeFault_many (by omega)]
    go_enter Tryz.func63, Tryz.ntmps63
    go_wp2
    go_ret
    exact ⟨rfl, Below.refl _ _⟩
  have hb : (n : Int) ≤ 160 := by omega
  have hn160 : n ≤ 160 := by omega
  have Hbig := Lib.hid (show ¬ 160 < l.length by omega)
  have Hn := Lib.hid hn
  clear hn hbig
  go_enter Tryz.func63, Tryz.ntmps63
  go_wp2
  go_loopw [11] (fun i wr => RightRel w l n i wr) (fun i _ => n - (intOf i).toNat)
  case atStart => exact ⟨0, Nat.zero_le _, rfl, fun _ _ h => absurd h (by omega), Below.refl _ _⟩
  case round =>
    obtain ⟨k, hk, rfl, hal, hbel⟩ := hrel
    have Hal := Lib.hid hal
    clear hal
    by_cases hlt : k < n
    · obtain ⟨g, o, a0, a1, a2, a3, rfl, hg, hx, c0, c1, c2, c3⟩ := (ha.below hbel (Nat.le_refl _)).smp (k := k) (by rw [Hn.out]; exact hlt)
      have hbA := hbel.alloc hbel.size (.cells #[.int .i64 a0, .int .i64 a1, .int .i64 a2, .int .i64 a3] 25)
      rcases faultM_or (a0, a1, a2, a3) with hf | hf
      · have hq := implSampleFault a0 a1 a2 a3 _ (hF.below hbA)
        rw [hf] at hq
        have Hx := Lib.hid hx
        have Hf := Lib.hid hf
        clear hx hf
        go_wp2_with fail
        refine hq.mono ?_
        rintro e w2 ⟨rfl, hb2⟩
        have hB2 := hbA.trans (hb2.mono hbA.size)
        go_wp2
        refine ⟨⟨k + 1, by omega, by go_num, fun j x hj hx => ?_, hB2⟩, by simp [intOf]; omega⟩
        rcases Nat.lt_or_ge j k with h | h
        · exact Hal.out j x h hx
        · obtain rfl : j = k := by omega
          obtain rfl := Option.some.inj (Hx.out.symm.trans hx)
          exact Hf.out
      · have hq := implSampleFault a0 a1 a2 a3 _ (hF.below hbA)
        rw [hf] at hq
        have Hr := Lib.hid (storeFault_wrong Hbig.out hx hf)
        clear hx hf
        go_wp2_with fail
        refine hq.mono ?_
        rintro e w2 ⟨rfl, hb2⟩
        have hB2 := hbA.trans (hb2.mono hbA.size)
        go_wp2
        go_ret
        exact ⟨by rw [Hr.out]; rfl, hB2⟩
    · obtain rfl : n = k := by omega
      have hright := rightM_of Hn.out Hal.out
      have Hq := Lib.hid (storeFault_is Hbig.out hright)
      have hq := implIsRising A n c l wr (ha.lift hbel) Hn.out (by omega)
      clear Hal hright
      go_wp2_with fail
      refine hq.mono ?_
      rintro e w2 ⟨rfl, hb2⟩
      have hB2 := hbel.trans (hb2.mono hbel.size)
      have Hs := Lib.hid Hq.out
      rcases hr : risesM l
      · have Hf := Lib.hid (show storeFaultM l = 1 by rw [Hq.out, hr]; rfl)
        clear hr
        go_wp2
        go_ret
        exact ⟨by rw [Hf.out]; rfl, hB2⟩
      · have Hf := Lib.hid (show storeFaultM l = 0 by rw [Hq.out, hr]; rfl)
        clear hr
        go_wp2
        go_ret
        exact ⟨by rw [Hf.out]; rfl, hB2⟩

end Go.Proofs.YtmaillakhhdkfaaGreatDoor
/-
  The program's FindSample.
-/
namespace Go.Proofs.YtmaillakhhdkfaaGreatDoor
set_option maxRecDepth 20000
open Go.RowKit Go.Shelf
set_option linter.unusedSimpArgs false
set_option linter.unusedVariables false

theorem sameKey_symm (a b : Smp) : sameKeyM a b = sameKeyM b a := by
  unfold sameKeyM
  by_cases h0 : a.1 = b.1 <;> by_cases h1 : a.2.1 = b.2.1 <;> by_cases h2 : a.2.2.1 = b.2.2.1 <;> simp [h0, h1, h2, eq_comm]
theorem sameKey_iff {a b : Smp} : sameKeyM a b = true ↔ a.1 = b.1 ∧ a.2.1 = b.2.1 ∧ a.2.2.1 = b.2.2.1 := by simp [sameKeyM]
theorem sameKey_trans {a b c : Smp} (h : sameKeyM a b = true) (k : sameKeyM b c = true) : sameKeyM a c = true := by
  rw [sameKey_iff] at *
  exact ⟨h.1.trans k.1, h.2.1.trans k.2.1, h.2.2.trans k.2.2⟩
theorem first_cons (x : Smp) (L : List Smp) (y : Smp) : firstS (x :: L) y = if sameKeyM y x then some x else firstS L y := by
  unfold firstS
  rw [List.find?_cons]
  cases sameKeyM y x <;> rfl
theorem first_append (L M : List Smp) (y : Smp) : firstS (L ++ M) y = (firstS L y).or (firstS M y) := by
  unfold firstS
  rw [List.find?_append]
theorem first_same {L : List Smp} {y x : Smp} (h : sameKeyM y x = true) : firstS L y = firstS L x := by
  unfold firstS
  congr 1
  funext z
  rw [Bool.eq_iff_iff]
  constructor
  · exact fun k => sameKey_trans (by rw [sameKey_symm]; exact h) k
  · exact fun k => sameKey_trans h k
/-- The first of a key is the same in what samplesByKey keeps. -/
theorem first_step (acc : List Smp) (x y : Smp) : firstS (keyStep acc x) y = firstS (acc ++ [x]) y := by
  unfold keyStep
  split
  · rename_i h
    rw [first_append, first_cons]
    rcases hs : sameKeyM y x
    · simp [firstS]
    · rw [first_same hs]
      obtain ⟨z, hz⟩ := Option.isSome_iff_exists.1 h
      rw [hz]
      rfl
  · rfl
theorem first_fold : ∀ (l acc : List Smp) (y : Smp), firstS (l.foldl keyStep acc) y = firstS (acc ++ l) y
  | [], acc, y => by simp
  | x :: l, acc, y => by
    rw [List.foldl_cons, first_fold l, first_append, first_step, ← first_append]
    simp
theorem first_byKey (l : List Smp) (y : Smp) : firstS (byKeyM l) y = firstS l y := by
  unfold byKeyM
  rw [first_fold]
  rfl
end Go.Proofs.YtmaillakhhdkfaaGreatDoor
/-
  What is sorted of what samplesByKey keeps is what the model merges.
-/
namespace Go.Proofs.YtmaillakhhdkfaaGreatDoor
set_option maxRecDepth 20000
open Go.RowKit Go.Sort
set_option linter.unusedSimpArgs false
set_option linter.unusedVariables false

theorem ahead_self (x : Smp) : aheadM x x = false := by
  rcases h : aheadM x x
  · rfl
  · have := (ahead_iff x x).1 h
    omega
theorem ltOf_keys (x y : Smp) : ltOf keysM x y = aheadM x y := keysM_ahead x y
theorem swoKeys : SWO (ltOf keysM) where
  irrefl x := by rw [ltOf_keys]; exact ahead_self x
  trans x y z h k := by rw [ltOf_keys] at *; exact ahead_trans h k
  ntrans x y z h k := by
    rw [ltOf_keys] at *
    rcases hc : aheadM x z
    · rfl
    · have h1 := (ahead_iff x z).1 hc
      have h2 : ¬ (x.1 < y.1 ∨ (x.1 = y.1 ∧ (x.2.1 < y.2.1 ∨ (x.2.1 = y.2.1 ∧ x.2.2.1 < y.2.2.1)))) := fun e => by rw [(ahead_iff x y).2 e] at h; cases h
      have h3 : ¬ (y.1 < z.1 ∨ (y.1 = z.1 ∧ (y.2.1 < z.2.1 ∨ (y.2.1 = z.2.1 ∧ y.2.2.1 < z.2.2.1)))) := fun e => by rw [(ahead_iff y z).2 e] at k; cases k
      omega

def Apart (l : List Smp) : Prop := l.Pairwise fun a b => sameKeyM a b = false
theorem asc_apart {l : List Smp} (h : Asc l) : Apart l := h.imp fun {a b} k => ahead_not_same k
theorem first_none {L : List Smp} {y : Smp} : firstS L y = none ↔ ∀ x ∈ L, sameKeyM y x = false := by
  unfold firstS
  rw [List.find?_eq_none]
  simp
theorem step_apart {acc : List Smp} {x : Smp} (h : Apart acc) : Apart (keyStep acc x) := by
  unfold keyStep
  split
  · exact h
  · rename_i hn
    have hn' : firstS acc x = none := by
      rcases hf : firstS acc x with _ | y
      · rfl
      · rw [hf] at hn; simp at hn
    refine List.pairwise_append.2 ⟨h, List.pairwise_singleton _ _, fun a ha b hb => ?_⟩
    obtain rfl : b = x := by simpa using hb
    rw [same_symm]
    exact first_none.1 hn' a ha
theorem fold_apart : ∀ (l acc : List Smp), Apart acc → Apart (l.foldl keyStep acc)
  | [], _, h => h
  | x :: l, acc, h => fold_apart l _ (step_apart h)
theorem byKey_apart (l : List Smp) : Apart (byKeyM l) := fold_apart l [] List.Pairwise.nil
theorem mem_step (acc : List Smp) (x y : Smp) : y ∈ keyStep acc x ↔ y ∈ acc ∨ (y = x ∧ firstS acc x = none) := by
  unfold keyStep
  split
  · rename_i h
    constructor
    · exact fun k => .inl k
    · rintro (k | ⟨rfl, k⟩)
      · exact k
      · rw [k] at h; cases h
  · rename_i h
    have hn : firstS acc x = none := by
      rcases hf : firstS acc x with _ | z
      · rfl
      · rw [hf] at h; simp at h
    simp [hn]
theorem mem_fold : ∀ (l : List Smp), Apart l → ∀ (acc : List Smp) (y : Smp), y ∈ l.foldl keyStep acc ↔ y ∈ acc ∨ (y ∈ l ∧ firstS acc y = none)
  | [], _, acc, y => by simp
  | x :: l, h, acc, y => by
    obtain ⟨h1, h2⟩ := List.pairwise_cons.1 h
    rw [List.foldl_cons, mem_fold l h2, mem_step]
    have key : y ∈ l → (firstS (keyStep acc x) y = none ↔ firstS acc y = none) := fun hy => by
      rw [first_step, first_append, first_cons, same_symm, h1 y hy]
      simp [firstS]
    constructor
    · rintro ((k | ⟨rfl, k⟩) | ⟨k, k2⟩)
      · exact .inl k
      · exact .inr ⟨List.mem_cons_self, k⟩
      · exact .inr ⟨List.mem_cons_of_mem _ k, (key k).1 k2⟩
    · rintro (k | ⟨k, k2⟩)
      · exact .inl (.inl k)
      · rcases List.mem_cons.1 k with rfl | k
        · exact .inl (.inr ⟨rfl, k2⟩)
        · exact .inr ⟨k, (key k).2 k2⟩
theorem mem_both {a b : List Smp} (ha : Asc a) (hb : Asc b) (y : Smp) : y ∈ byKeyM (a ++ b) ↔ y ∈ a ∨ (y ∈ b ∧ findI a y < 0) := by
  have e : byKeyM (a ++ b) = b.foldl keyStep (byKeyM a) := by unfold byKeyM; rw [List.foldl_append]
  have ea : y ∈ byKeyM a ↔ y ∈ a := by
    unfold byKeyM
    rw [mem_fold a (asc_apart ha)]
    simp [firstS]
  rw [e, mem_fold b (asc_apart hb), ea, first_byKey, first_none, findI_neg]
  constructor
  · rintro (k | ⟨k, k2⟩)
    · exact .inl k
    · exact .inr ⟨k, fun z hz => by rw [same_symm]; exact k2 z hz⟩
  · rintro (k | ⟨k, k2⟩)
    · exact .inl k
    · exact .inr ⟨k, fun z hz => by rw [same_symm]; exact k2 z hz⟩
theorem mem_mergeFold (a : List Smp) : ∀ (b out : List Smp) (y : Smp), y ∈ b.foldl (mergeStep a) out ↔ y ∈ out ∨ (y ∈ b ∧ findI a y < 0)
  | [], out, y => by simp
  | x :: b, out, y => by
    rw [List.foldl_cons, mem_mergeFold a b]
    unfold mergeStep
    by_cases h : findI a x < 0
    · rw [if_pos h, mem_insM]
      constructor
      · rintro ((rfl | k) | ⟨k, k2⟩)
        · exact .inr ⟨List.mem_cons_self, h⟩
        · exact .inl k
        · exact .inr ⟨List.mem_cons_of_mem _ k, k2⟩
      · rintro (k | ⟨k, k2⟩)
        · exact .inl (.inr k)
        · rcases List.mem_cons.1 k with rfl | k
          · exact .inl (.inl rfl)
          · exact .inr ⟨k, k2⟩
    · rw [if_neg h]
      constructor
      · rintro (k | ⟨k, k2⟩)
        · exact .inl k
        · exact .inr ⟨List.mem_cons_of_mem _ k, k2⟩
      · rintro (k | ⟨k, k2⟩)
        · exact .inl k
        · rcases List.mem_cons.1 k with rfl | k
          · exact absurd k2 h
          · exact .inr ⟨k, k2⟩

theorem asc_nodup {l : List Smp} (h : Asc l) : l.Nodup := h.imp fun {a b} k e => by
  subst e
  rw [ahead_self] at k
  cases k
theorem asc_eq {l m : List Smp} (hl : Asc l) (hm : Asc m) (h : ∀ y, y ∈ l ↔ y ∈ m) : l = m := by
  refine List.Perm.eq_of_pairwise (le := fun x y => aheadM x y = true) ?_ hl hm ((List.perm_ext_iff_of_nodup (asc_nodup hl) (asc_nodup hm)).2 h)
  intro a b _ _ h1 h2
  rcases keyOrd a b with ⟨_, k, _⟩ | ⟨k, _⟩ | ⟨k, _⟩
  · rw [k] at h2; cases h2
  · rw [k] at h1; cases h1
  · rw [k] at h1; cases h1
theorem merge_asc {a b : List Smp} (ha : storeFaultM a = 0) (hb : storeFaultM b = 0) : Asc (mergeM a b) := by
  obtain ⟨_, ra, sa⟩ := (storeFault_iff a).1 ha
  obtain ⟨_, rb, sb⟩ := (storeFault_iff b).1 hb
  exact (merge_facts a sa ra b sb rb a sa ra (fun _ h => h) (fun y hy => .inl ⟨y, hy, rfl⟩)).1
/-- What is in order and holds just what samplesByKey keeps is what the model merges. -/
theorem merge_is {a b ys : List Smp} (ha : storeFaultM a = 0) (hb : storeFaultM b = 0) (hp : ys.Perm (byKeyM (a ++ b))) (hs : ys.Pairwise fun x y => aheadM y x = false) : ys = mergeM a b := by
  obtain ⟨_, _, sa⟩ := (storeFault_iff a).1 ha
  obtain ⟨_, _, sb⟩ := (storeFault_iff b).1 hb
  have hap : Apart ys := (hp.symm.pairwise_iff (fun {x y} (k : sameKeyM x y = false) => by rw [same_symm]; exact k)).1 (byKey_apart _)
  have hasc : Asc ys := by
    refine (hs.and hap).imp fun {x y} k => ?_
    rcases keyOrd x y with ⟨k1, _⟩ | ⟨_, k1, _⟩ | ⟨_, _, k1⟩
    · exact k1
    · rw [k.1] at k1; cases k1
    · rw [k.2] at k1; cases k1
  refine asc_eq hasc (merge_asc ha hb) fun y => ?_
  rw [hp.mem_iff, mem_both sa sb]
  unfold mergeM
  rw [mem_mergeFold]
/-- A row as the sort leaves it. -/
theorem sorted_pairs {d : Array Smp} (h : SortedIn (ltOf keysM) 0 d.size d) : d.toList.Pairwise fun x y => aheadM y x = false := by
  rw [List.pairwise_iff_getElem]
  intro i j hi hj hij
  have hi' : i < d.size := by simpa using hi
  have hj' : j < d.size := by simpa using hj
  have := h i j (Nat.zero_le _) hij hj'
  rw [ltOf_keys, getElem!_pos d j hj', getElem!_pos d i hi'] at this
  simpa using this
end Go.Proofs.YtmaillakhhdkfaaGreatDoor
/-
  compareKeys once more, with the very world behind it: what the sort asks of it.
-/
namespace Go.Proofs.YtmaillakhhdkfaaGreatDoor
set_option maxRecDepth 20000
open Go.RowKit Go.Sort
set_option linter.unusedSimpArgs false

theorem grown3 (w : World) (a b c : Obj) : ∃ q os', ((w.alloc a).alloc b |>.alloc c).drew = grow (w.drewN q) os' := by
  refine ⟨1, #[a] ++ #[b] ++ #[c], ?_⟩
  rw [alloc_eq_grow, alloc_eq_grow, alloc_eq_grow, grow_grow, grow_grow]
  rfl

set_option maxHeartbeats 1000000 in
set_option maxRecDepth 20000 in
theorem compareKeysG (a0 a1 a2 a3 b0 b1 b2 b3 : Int) (w : World) :
    Calls Tryz.prog 152 #[.agg #[.int .i64 a0, .int .i64 a1, .int .i64 a2, .int .i64 a3], .agg #[.int .i64 b0, .int .i64 b1, .int .i64 b2, .int .i64 b3]] w fun e w' =>
      e = .returned (.int .i64 (keysM (a0, a1, a2, a3) (b0, b1, b2, b3))) ∧ ∃ q os', w' = grow (w.drewN q) os' := by
  go_enter Tryz.func152, Tryz.ntmps152
  go_wp2
  refine wp_region_mix [(0, false), (1, false), (2, false), (3, false), (5, false), (6, false), (7, false), (8, false), (10, false), (11, false), (12, false), (13, false), (4, true), (9, true), (14, true), (15, true), (16, true), (17, false)] (fun u => u.cell? ⟨w.heap.size, 0, none⟩ = some (.int .i64 a0) ∧ u.cell? ⟨w.heap.size, 1, none⟩ = some (.int .i64 a1) ∧ u.cell? ⟨w.heap.size, 2, none⟩ = some (.int .i64 a2) ∧ u.cell? ⟨w.heap.size + 1, 0, none⟩ = some (.int .i64 b0) ∧ u.cell? ⟨w.heap.size + 1, 1, none⟩ = some (.int .i64 b1) ∧ u.cell? ⟨w.heap.size + 1, 2, none⟩ = some (.int .i64 b2)) (by kernel_rfl) (by kernel_rfl) (fun _ _ _ _ _ h => h) (by go_simp) ?_
  simp only [mixOps, List.map_cons, List.map_nil, List.getElem?_cons_succ, List.getElem?_cons_zero, Option.getD_some]
  repeat (first
    | (refine mix_skip (by rfl) ?_
       (try simp only [Act.put, List.setIfInBounds_toArray, List.set_cons_zero, List.set_cons_succ]))
    | (refine mix_pure (v := ?_) (by rfl) (fun u hu => ?_) ?_
       rotate_left
       · obtain ⟨_, _, _, _, _, _⟩ := hu
         go_simp
         (with_reducible rfl)
       (try simp only [Act.put, List.setIfInBounds_toArray, List.set_cons_zero, List.set_cons_succ])))
  iterate 3
    refine mix_call (by rfl) (fun K hK => ?_)
    go_simp
    refine (cmpCompare _ _ _).mono ?_
    rintro e w1 ⟨rfl, rfl⟩
    refine hK _ _ _ (fun _ h => h) (by go_simp) ?_
    (try simp only [Act.put, List.setIfInBounds_toArray, List.set_cons_zero, List.set_cons_succ])
  refine mix_call (by rfl) (fun K hK => ?_)
  go_simp
  refine hK _ _ _ (fun _ h => h) (by go_simp) ?_
  (try simp only [Act.put, List.setIfInBounds_toArray, List.set_cons_zero, List.set_cons_succ])
  refine mix_call (by rfl) (fun K hK => ?_)
  go_simp
  refine (cmpOr _ 3 _ [cmpM a0 b0, cmpM a1 b1, cmpM a2 b2] _ (ints_three (by simp)) rfl (by omega)).mono ?_
  rintro e w1 ⟨rfl, rfl⟩
  refine hK _ _ _ (fun _ h => h) (by go_simp) ?_
  (try simp only [Act.put, List.setIfInBounds_toArray, List.set_cons_zero, List.set_cons_succ])
  refine mix_pure (v := ?_) (by rfl) (fun u hu => ?_) ?_
  rotate_left
  · go_simp
    (with_reducible rfl)
  (try simp only [Act.put, List.setIfInBounds_toArray, List.set_cons_zero, List.set_cons_succ])
  refine mix_nil ?_
  go_wp2
  go_ret
  exact ⟨rfl, grown3 _ _ _ _⟩
end Go.Proofs.YtmaillakhhdkfaaGreatDoor
/-
  slices.SortFunc over a row of samples of the call's own, by compareKeys.
-/
namespace Go.Proofs.YtmaillakhhdkfaaGreatDoor
set_option maxRecDepth 20000
open Go.RowKit Go.Sort Go.Shelf
set_option linter.unusedSimpArgs false
set_option linter.unusedVariables false

theorem cell_row {x : Smp} {j : Nat} (hj : j < 4) : (smpCells x)[j]? = some ((smpCells x)[j]!) := by
  have : j < (smpCells x).length := hj
  rw [List.getElem?_eq_getElem this, getElem!_pos (smpCells x) j this]
theorem flatK_row (d : Array Smp) : (flatK smpCells 4 d).toList = eS.row d.toList := by
  apply List.ext_getElem?
  intro i
  rcases Nat.lt_or_ge i (d.size * 4) with h | h
  · have hk : i / 4 < d.size := by omega
    have hd : d.toList[i / 4]? = some d[i / 4]! := by
      rw [Array.getElem?_toList, Array.getElem?_eq_getElem hk, getElem!_pos d _ hk]
    have h1 := okS.row_at d.toList (i / 4) (i % 4) _ hd (Nat.mod_lt _ (by decide))
    rw [show i / 4 * eS.size + i % 4 = i by show i / 4 * 4 + i % 4 = i; omega] at h1
    rw [h1, Array.getElem?_toList]
    have hs : i < (flatK smpCells 4 d).size := by simpa using h
    have h2 := get_flatK smpCells 4 d i h
    rw [getElem!_pos (flatK smpCells 4 d) i hs] at h2
    rw [Array.getElem?_eq_getElem hs, h2]
    exact (cell_row (Nat.mod_lt _ (by decide))).symm
  · rw [List.getElem?_eq_none (by simpa using h), List.getElem?_eq_none (by rw [okS.row_len]; simpa [eS] using h)]
theorem holdsK_of {w : World} {base g n c : Nat} {l : List Smp} (how : Ow eS w base (some ⟨g, 0, none⟩) n c l) : HoldsK smpCells 4 w g 0 l.toArray := fun j hj => by
  have hs : (flatK smpCells 4 l.toArray).size = l.length * 4 := by simp
  have hlen := Ow.len okS how
  have h1 : (eS.row l)[j]? = some (flatK smpCells 4 l.toArray)[j]! := by
    have := flatK_row l.toArray
    rw [show (l.toArray).toList = l from rfl] at this
    rw [← this, Array.getElem?_toList, Array.getElem?_eq_getElem hj, getElem!_pos (flatK smpCells 4 l.toArray) j hj]
  refine ⟨?_, how.frozenAt _⟩
  rw [World.ownsRow.cellAt how _ (by rw [hs] at hj; show 0 + j < n * 4; omega), Nat.zero_add, h1]
  rfl
theorem ow_sorted {w : World} {base g n c m : Nat} {l : List Smp} {d : Array Smp} {os : Array Obj} (how : Ow eS w base (some ⟨g, 0, none⟩) n c l) (hd : d.size = n) :
    Ow eS (sortWorldK smpCells 4 w g 0 m d os) base (some ⟨g, 0, none⟩) n c d.toList := by
  refine ⟨by rw [okS.row_len]; simp [hd], .inr ?_⟩
  rcases how.2 with ⟨h0, _⟩ | ⟨g', cap, cur, hv, hb, hg, h1, h2, h3, h4⟩
  · simp at h0
  · simp only [Value.slice.injEq, Option.some.injEq, Addr.mk.injEq, true_and, and_true] at hv
    obtain ⟨rfl, rfl⟩ := hv
    have hF : (flatK smpCells 4 d).size = n * 4 := by simp [hd]
    have hlt : g < w.heap.size := (Array.getElem?_eq_some_iff.1 hg).1
    refine ⟨g, c, putCells id 0 (flatK smpCells 4 d) cur, rfl, hb, ?_, h1, h2, by unfold putCells; simpa using h3, ?_⟩
    · show ((w.heap.modify g (onCells (putCells id 0 (flatK smpCells 4 d)))) ++ os)[g]? = _
      rw [Array.getElem?_append_left (by rw [Array.size_modify]; exact hlt), Array.getElem?_modify, if_pos rfl, hg]
      rfl
    · rw [← flatK_row]
      apply List.ext_getElem?
      intro j
      rw [List.getElem?_take]
      have hcs : n * 4 ≤ cur.size := by
        rw [h3]
        exact Nat.mul_le_mul_right _ h1
      split
      · rename_i hj
        have hj' : j < n * 4 := hj
        have hjc : j < cur.size := by omega
        unfold putCells
        rw [Array.getElem?_toList, Array.getElem?_mapIdx, Array.getElem?_eq_getElem hjc, Option.map_some, if_pos ⟨Nat.zero_le _, by omega⟩, Nat.sub_zero, Array.getElem?_toList, Array.getElem?_eq_getElem (by omega), getElem!_pos (flatK smpCells 4 d) j (by omega)]
        rfl
      · rename_i hj
        rw [List.getElem?_eq_none]
        have : ¬ j < n * 4 := hj
        simp
        omega

set_option maxHeartbeats 1000000 in
theorem sortSmp (A : Option Addr) (n c base : Nat) (l : List Smp) (w : World) (how : Ow eS w base A n c l) (hn : n ≤ 1000) :
    Calls Tryz.prog 160 #[.slice A n c, .func (.func 152) #[] #[]] w fun e w' =>
      e = .returned (.tuple #[]) ∧ ∃ ys : List Smp, ys.Perm l ∧ (ys.Pairwise fun x y => aheadM y x = false) ∧ Ow eS w' base A n c ys ∧ Below base w w' := by
  have hlen := Ow.len okS how
  rcases Nat.eq_zero_or_pos n with h0 | h0
  · subst h0
    obtain rfl : l = [] := List.eq_nil_of_length_eq_zero hlen
    have h : Calls Tryz.prog 160 #[.slice A 0 c, .func (.func 152) #[] #[]] w fun e w' => e = .returned (.tuple #[]) ∧ w' = w :=
      AnyF.slices_SortFunc_none sortS A c _ w
    refine h.mono ?_
    rintro e w' ⟨rfl, rfl⟩
    exact ⟨rfl, [], List.Perm.refl _, List.Pairwise.nil, how, Below.refl _ _⟩
  · obtain ⟨g, rfl, hb, hg⟩ := how.form h0
    have hsz : l.toArray.size = n := by simpa using hlen
    have hcmp : CmpLays Tryz.prog 152 #[] smpCells 4 keysM g 0 l.toArray.size w := fun m os dk _ x y => by
      obtain ⟨a0, a1, a2, a3⟩ := x
      obtain ⟨b0, b1, b2, b3⟩ := y
      exact compareKeysG a0 a1 a2 a3 b0 b1 b2 b3 _
    have h : Calls Tryz.prog 160 #[.slice (some ⟨g, 0, none⟩) l.toArray.size c, .func (.func 152) #[] #[]] w fun e w' =>
        e = .returned (.tuple #[]) ∧ ∃ d' n os, PermIn 0 l.toArray.size l.toArray d' ∧ SortedIn (ltOf keysM) 0 l.toArray.size d' ∧ w' = sortWorldK smpCells 4 w g 0 n d' os :=
      AnyQ.slices_SortFunc sortS 4 (fun w => Tryz.isAgg25 w) (fun w => Tryz.sizeOf25 w) smpCells (fun _ => rfl) (fun x v hv => okS.one x v hv) keysM swoKeys 152 #[] g 0 c l.toArray w
        (enters_of Tryz.func152 (by kernel_rfl) rfl) hcmp (holdsK_of how) hg (by omega)
    rw [hsz] at h
    refine h.mono ?_
    rintro e w' ⟨rfl, d, m, os, ⟨hp1, _, hp2⟩, hso, rfl⟩
    have hds : d.size = n := hp1.trans hsz
    have e1 : d.extract 0 n = d := by rw [← hds]; exact Array.extract_size
    have e2 : l.toArray.extract 0 n = l.toArray := by rw [← hsz]; exact Array.extract_size
    rw [e1, e2] at hp2
    refine ⟨rfl, d.toList, hp2, sorted_pairs (by rw [hds]; exact hso), ow_sorted how hds, ?_⟩
    refine ⟨rfl, rfl, rfl, ?_, fun k hk => ?_⟩
    · show w.heap.size ≤ ((w.heap.modify g (onCells (putCells id 0 (flatK smpCells 4 d)))) ++ os).size
      rw [Array.size_append, Array.size_modify]
      omega
    · show ((w.heap.modify g (onCells (putCells id 0 (flatK smpCells 4 d)))) ++ os)[k]? = w.heap[k]?
      rw [Array.getElem?_append_left (by rw [Array.size_modify]; omega), Array.getElem?_modify, if_neg (by omega)]
end Go.Proofs.YtmaillakhhdkfaaGreatDoor
/-
  Samples that come out of an iterator: the contract of an iterator (SeqStopsK, with what a round keeps: walks, and what lay below), slices.AppendSeq and slices.Collect over whatever such iterator.
-/
namespace Go.Proofs.YtmaillakhhdkfaaGreatDoor
set_option maxRecDepth 20000
open Go.RowKit Go.Shelf
set_option linter.unusedSimpArgs false
set_option linter.unusedVariables false

attribute [local go_sem] Oper.semAt_some

theorem wpListIn_append_ow {F : Fence} {k : Nat} {P : Program} {α : Type} {E : Enc α} (hE : EncOk E) (w : World) {ops : Array Oper} {rest : List Oper} {o : Oper} {a : Act} {Q : Exit → Act → World → Prop} (hgd : o.guard = none) (s x : Operand) (t : TypeId)
    (ho : o.op = .call { callee := .builtin .append, args := #[s, x], argTypes := #[t, t] })
    (base : Nat) {z : Value} {bytes : Nat} (hinfo : (P.info? E.tid).map (fun i => (i.zero, i.size, i.bytes)) = some (some z, E.size, bytes)) (ht : P.underlying t = some (.slice E.tid)) (hzs : z.cells.size = E.size)
    (A : Option Addr) (n c : Nat) (l : List α) (hs : a.eval s = .slice A n c) (hown : Ow E w base A n c l)
    (X : Option Addr) (m d hi' : Nat) (news : List α) (hx : a.eval x = .slice X m d) (hX : Rd E w hi' X news) (hm : news.length = m)
    (h63 : n + m ≤ maxLen) (hbytes : (n + m) * bytes ≤ 140737488355328) (hbase : base ≤ w.heap.size)
    (h : ∀ A' c' w', Ow E w' base A' (n + m) c' (l ++ news) → w.grownBy w' (A.map (·.block)) → (A'.map (·.block) = A.map (·.block) ∨ A'.map (·.block) = some w.heap.size) → wpListIn F k P ops Q rest (a.put o.dst (.slice A' (n + m) c')) w') : wpListIn F k P ops Q (o :: rest) a w := by
  obtain ⟨i, hi, hz, hsz, hby⟩ := info_parts hinfo
  obtain ⟨A', c', w', hrun, h2, h3, h4⟩ := run_append_ow (P := P) hE w base t o.type i z bytes ht hi hz hsz hby hzs A n c l hown X m d hi' news hX hm h63 hbytes hbase
  refine wpListIn_plain hgd fun K hK' => ?_
  unfold Oper.wpIn
  refine ⟨?_, ?_⟩
  · simp [Oper.about, ho, resolve, Target.leads, Sem.run_pure]
  · rw [Oper.semAt_plain F _ _ (by rw [ho]; intro c hc'; cases hc')]
    simp [execOp, ho, resolve, invoke, builtin, hs, hx, hrun, Result.andThen]
    exact hK' _ _ (h A' c' w' h2 h3 h4)

/-- What a round keeps: maps and walks; whatever lay below n₀. -/
def Kp2 (n₀ : Nat) (W W' : World) : Prop := KeepsWalks W W' ∧ Below n₀ W W'
theorem Kp2.t {n₀ : Nat} {A B C : World} (h : Kp2 n₀ A B) (k : Kp2 n₀ B C) : Kp2 n₀ A C := ⟨h.1.trans k.1, h.2.trans k.2⟩
theorem Kp2.b {n₀ : Nat} {w : World} (hn : n₀ ≤ w.heap.size) (W : World) (l : Nat) (o o' : Obj) (hl : w.heap.size ≤ l) (h : W.heap[l]? = some o) (h1 : o.isCells = false) (h2 : o.isWalk = false) : Kp2 n₀ W (W.putObj l o') :=
  ⟨walksK_b (w := w) W l o o' hl h h1 h2, belowK_b hn W l o o' hl h h1 h2⟩

def encS (x : Smp) : Array Value := #[.agg #[.int .i64 x.1, .int .i64 x.2.1, .int .i64 x.2.2.1, .int .i64 x.2.2.2]]
abbrev smpArr (x : Smp) : Array Value := #[.int .i64 x.1, .int .i64 x.2.1, .int .i64 x.2.2.1, .int .i64 x.2.2.2]

theorem At.keptBy {W W' : World} {row : Option Nat} {g : Nat} {t : TypeId} {cs : Array Value} (h : At W g t cs) (hg : W.grownBy W' row) (hr : ∀ r, row = some r → ∃ o : Obj, W.heap[r]? = some o ∧ o.isCells = false) : At W' g t cs := by
  refine h.grown hg (fun e => ?_)
  obtain ⟨o, ho, hc⟩ := hr g e
  rw [show W.heap[g]? = _ from h] at ho
  cases ho
  cases hc
theorem Ow.keptBy {α : Type} {E : Enc α} {W W' : World} {row : Option Nat} {base n c : Nat} {A : Option Addr} {l : List α} (h : Ow E W base A n c l) (hg : W.grownBy W' row) (hr : ∀ r, row = some r → ∃ o : Obj, W.heap[r]? = some o ∧ o.isCells = false) : Ow E W' base A n c l := by
  refine h.grown hg (fun g hA e => ?_)
  obtain ⟨o, ho, hc⟩ := hr g e
  rcases h.2 with ⟨h0, _⟩ | ⟨g', cap, cur, hv, _, hgb, _⟩
  · simp only [Value.slice.injEq] at h0
    rw [h0.1] at hA
    cases hA
  · simp only [Value.slice.injEq] at hv
    rw [hv.1] at hA
    obtain rfl : g' = g := by simpa using hA
    rw [hgb] at ho
    cases ho
    cases hc

theorem Ow.cellsAt {α : Type} {E : Enc α} {W : World} {base n c : Nat} {A : Option Addr} {l : List α} (h : Ow E W base A n c l) {j : Nat} {o : Obj} (e : A.map (·.block) = some j) (hj : W.heap[j]? = some o) : o.isCells = true := by
  rcases h.2 with ⟨h0, _⟩ | ⟨g', cap, cur, hv, _, hgb, _⟩
  · simp only [Value.slice.injEq] at h0
    rw [h0.1] at e
    cases e
  · simp only [Value.slice.injEq] at hv
    rw [hv.1] at e
    obtain rfl : g' = j := by simpa using e
    rw [hgb] at hj
    cases hj
    rfl
/-- Between two rounds: the box holds a row of the call's own: what has come. -/
def Gath (n₀ B N : Nat) (pre : List Smp) (W : World) : Prop :=
  ∃ A c, At W B 36 #[.slice A pre.length c] ∧ Ow eS W (n₀ + 1) A pre.length c pre ∧ pre.length ≤ N
theorem Gath.own (n₀ B N : Nat) : Own (Gath n₀ B N) := fun s X Y row ⟨A, c, h1, h2, h3⟩ hg hr => ⟨A, c, h1.keptBy hg hr, h2.keptBy hg hr, h3⟩

set_option maxRecDepth 100000 in
set_option maxHeartbeats 2000000 in
theorem appendSeq (n : Nat) (hn : 3 ≤ n) (gf : Nat) (lb : Array Value) (eg : ∀ args w, (callFunc gf args).run Tryz.prog w = .ok (.enter gf args) w) (S Sp : List Smp → Prop) (N : Nat) (hN : N ≤ 1000) (n0 : Nat) (w : World) (hn0 : n0 ≤ w.heap.size)
    (hseq : SeqStopsK Fence.wide (n - 1) Tryz.prog gf lb encS (Kp2 n0) S Sp N w) :
    CallsIn Fence.wide n Tryz.prog 167 #[.slice none 0 0, .func (.func gf) #[] lb] w fun e W' =>
      ∃ A c xs, e = .returned (.slice A xs.length c) ∧ S xs ∧ Ow eS W' w.heap.size A xs.length c xs ∧ Below w.heap.size w W' := by
  have hro : Fence.wide.round = none := rfl
  have h1 : 1 ≤ n := by omega
  have hT : Fence.wide.fn 167 := trivial
  refine callsIn_of_wp_marks Tryz.func167 rfl hT ?_ hro
  simp only [Tryz.ntmps167, List.size_toArray, List.length_cons, List.length_nil, Nat.reduceAdd, Nat.reduceSub, Array.replicate_succ, Array.replicate_zero, List.push_toArray, List.append_toArray, List.nil_append, List.cons_append]
  gi_wp2
  have bO := At.new w 36 #[.slice none 0 0]
  have hB0 := (Below.refl w.heap.size w).alloc (Nat.le_refl _) (.cells #[.slice none 0 0] 36)
  obtain ⟨W0, hW0⟩ : ∃ W0, w.alloc (.cells #[.slice none 0 0] 36) = W0 := ⟨_, rfl⟩
  have hsz : W0.heap.size = w.heap.size + 1 := by rw [← hW0]; simp
  rw [hW0] at bO hB0 ⊢
  clear hW0
  refine wpIn_rangeFunc_ownH hro h1 (gf := gf) (lb := lb) rfl trivial eg hseq Kp2.t (Kp2.b (by omega)) hB0 (fun _ => rfl)
    (fun pre W => Gath w.heap.size w.heap.size N pre W ∧ Below w.heap.size w W)
    (fun _ _ _ => False)
    (OwnFrom.and (Own.from (Gath.own _ _ _) _) (ownFrom_below (Nat.le_refl _) (by omega)))
    (fun _ _ _ _ _ hs _ _ => hs)
    ⟨⟨none, 0, bO, Ow.nil, Nat.zero_le _⟩, hB0⟩
    (fun x a' W => ∃ Bx, w.heap.size < Bx ∧ At W Bx 25 (smpArr x) ∧ a' = { tmps := #[.slice none 0 0, .func (.func gf) #[] lb, .pointer (some ⟨w.heap.size, 0, none⟩), undef, .slice none 0 0, .pointer (some ⟨Bx, 0, none⟩), .func (.func gf) #[] lb, .agg (smpArr x), undef, undef, undef, undef, undef], defers := [] })
    (fun x a' _ X Y row hs hg hr => by obtain ⟨Bx, h1, h2, h3⟩ := hs; exact ⟨Bx, h1, h2.keptBy hg (fun r e => (hr r e).2), h3⟩)
    ?assign ?body ?done ?stop
  case assign =>
    rintro l pre x W K ⟨⟨A, c, hA, hO, hN1⟩, hB⟩ hK
    have hsW := hB.size
    dsimp only [encS]
    gi_wp2
    exact hK _ _ ((KeepsOthers.alloc _ _).from _) ⟨KeepsWalks.alloc _ _, (Below.refl _ W).alloc (by omega) _⟩ ⟨⟨A, c, hA.alloc _, hO.alloc _, hN1⟩, hB.alloc hB.size _⟩ ⟨W.heap.size, hA.lt, At.new W _ _, rfl⟩
  case body =>
    rintro l pre x a' W hl ⟨r, hr⟩ ⟨⟨A, c, hA, hO, hN1⟩, hB⟩ ⟨Bx, hBx, bX, rfl⟩ hlt
    have hsW := hB.size
    have cA := hA.cell 0
    obtain ⟨cx0, cx1, cx2, cx3, _⟩ := bX.four
    gi_wp2_with (gi_at_builtin; refine wpListIn_append_ow okS _ rfl _ _ 36 rfl (w.heap.size + 1) info_smp Tryz.underlying36 rfl A pre.length c pre rfl (hO.alloc _) (some ⟨W.heap.size, 0, none⟩) 1 1 (W.heap.size + 1) [x] rfl (rd_lit okS W 25 [x] _ rfl) rfl (by unfold maxLen; omega) (by omega) (by simp; omega) ?_; intro A' c' w1 hO1 hg1 hA1; have hAa := hA.alloc (.cells (smpArr x) 25); have hA2 := hAa.grown hg1 (fun e => by have := (hO.lt _ e).1; omega); have cA2 := hA2.cell 0; have fA2 := hA2.frozen 0)
    have hgB : Below w.heap.size w w1 := (hB.alloc hB.size _).grown hg1 (by simp; omega) (fun k e => by have := (hO.lt k e).1; omega)
    have hlt' : ∀ g, A'.map (·.block) = some g → w.heap.size + 1 ≤ g := fun g e => (hO1.lt g e).1
    have hK : KeepsOthers W (w1.setCell ⟨w.heap.size, 0, none⟩ (.slice A' (pre.length + 1) c')) :=
      ((KeepsOthers.alloc W _).trans (KeepsOthers.of_grownBy hg1 fun j o ej hj => (hO.alloc _).cellsAt ej hj)).trans (KeepsOthers.setCell _ _ _)
    refine ⟨hK.from _, ⟨hK.walks, ?_⟩, ⟨A', c', ?_, ?_, ?_⟩, ?_⟩
    · exact (((Below.refl n0 W).alloc (by omega) _).grown hg1 (by simp; omega) (fun k e => by have := (hO.lt k e).1; omega)).setCell (p := ⟨w.heap.size, 0, none⟩) hn0 _
    · have := hA2.set 0 (.slice A' (pre.length + 1) c')
      simpa using this
    · have := hO1.under (p := ⟨w.heap.size, 0, none⟩) (by simp) (.slice A' (pre.length + 1) c')
      simpa using this
    · simp
      omega
    · exact hgB.setCell (p := ⟨w.heap.size, 0, none⟩) (Nat.le_refl _) _
  case done =>
    rintro D ys W hD hS ⟨⟨A, c, hA, hO, hN1⟩, hB⟩ hK
    have cA := hA.cell 0
    gi_wp2
    refine ⟨by simp, .inl ⟨_, _, rfl, run_takeDeferred hK, ?_⟩⟩
    exact ⟨_, results_tmp rfl _ _ _, A, c, ys, rfl, hS, (hO.keptBy (grownBy_putObj' W D _) (fun r e => by cases e; exact ⟨_, hK, rfl⟩)).from_ (by omega), hB.trans (belowK_b (w := w) (Nat.le_refl _) W D _ _ (by omega) hK rfl rfl)⟩
  case stop =>
    rintro D c pre W _ _ h _
    exact h.elim

/-- slices.Collect over whatever such iterator. -/
theorem collectSeq (n : Nat) (hn : 3 ≤ n) (gf : Nat) (lb : Array Value) (eg : ∀ args w, (callFunc gf args).run Tryz.prog w = .ok (.enter gf args) w) (S Sp : List Smp → Prop) (N : Nat) (hN : N ≤ 1000) (n0 : Nat) (w : World) (hn0 : n0 ≤ w.heap.size)
    (hseq : SeqStopsK Fence.wide (n - 1) Tryz.prog gf lb encS (Kp2 n0) S Sp N w) :
    Calls Tryz.prog 159 #[.func (.func gf) #[] lb] w fun e W' =>
      ∃ A c xs, e = .returned (.slice A xs.length c) ∧ S xs ∧ Ow eS W' w.heap.size A xs.length c xs ∧ Below w.heap.size w W' := by
  have hq := callsIn_wide.1 (appendSeq n hn gf lb eg S Sp N hN n0 w hn0 hseq)
  clear hseq
  go_enter Tryz.func159, Tryz.ntmps159
  go_wp2_with (go_at_call 167; refine hq.mono ?_; rintro e w1 ⟨A, c, xs, rfl, hS, hO, hB⟩)
  go_ret
  exact ⟨A, c, xs, rfl, hS, hO, hB⟩
end Go.Proofs.YtmaillakhhdkfaaGreatDoor
/-
  What is asked for of a store: the program's iterator over it, and QueryStore.
-/
namespace Go.Proofs.YtmaillakhhdkfaaGreatDoor
set_option maxRecDepth 20000
open Go.RowKit Go.Shelf
set_option linter.unusedSimpArgs false
set_option linter.unusedVariables false

attribute [local go_sem] Oper.semAt_some

theorem abides_below {β : Type} {B : Nat} {J : β → World → Prop} (h : AbidesFrom B J) {x : β} {W W' : World} (hJ : J x W) (hb : Below W.heap.size W W') : J x W' := h x W W' none hJ (grown_below hb (Nat.le_refl _)) (fun r e => by cases e)
end Go.Proofs.YtmaillakhhdkfaaGreatDoor
