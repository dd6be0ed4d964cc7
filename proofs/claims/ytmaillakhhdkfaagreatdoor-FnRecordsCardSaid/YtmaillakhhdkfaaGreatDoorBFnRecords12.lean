/-
  Texts of one proof, joined: each has its own namespace.
-/
import Derived.Test.YtmaillakhhdkfaaGreatDoorBFnRecords5
import Derived.Test.YtmaillakhhdkfaaGreatDoorBFnRecords8
import Derived.Deep.DeepCutAuto
import Derived.Test.YtmaillakhhdkfaaGreatDoorBFnRecords4
import Derived.Test.YtmaillakhhdkfaaGreatDoorBFnRecords11
/-
  A right record put to a state of one's own: the model's.
-/
namespace Go.Proofs.YtmaillakhhdkfaaGreatDoor
set_option maxRecDepth 20000
open Go.RowKit
set_option linter.unusedSimpArgs false
set_option linter.unusedVariables false
attribute [local irreducible] mixW

theorem step1 {s : Sta} {p : Int} {y : Smp} {k : Int} {z : Int} {b : Bool} {st : List Smp} (h : insertM s.1 y = (z, b, st)) : stepR s (1, p, y, k) = if z = 0 then (0, (st, s.2.1, s.2.2)) else (z, s) := by unfold stepR; rw [if_pos rfl, h]
theorem step2 {s : Sta} {p : Int} {y : Smp} {k : Int} {z : Int} {st : List Hnt} (h : addM s.2.1 p y = (z, st)) : stepR s (2, p, y, k) = if z = 0 then (0, (s.1, st, s.2.2)) else (z, s) := by unfold stepR; rw [if_neg ne21, if_pos rfl, h]
theorem step3 {s : Sta} {p : Int} {y : Smp} {k : Int} {z : Int} {st : List Hnt} (h : doneM s.2.1 p k = (z, st)) : stepR s (3, p, y, k) = if z = 0 then (0, (s.1, st, s.2.2)) else (z, s) := by unfold stepR; rw [if_neg ne31, if_neg ne32, if_pos rfl, h]
theorem step4 {s : Sta} {r0 p : Int} {y : Smp} {k : Int} (h1 : r0 ≠ 1) (h2 : r0 ≠ 2) (h3 : r0 ≠ 3) : stepR s (r0, p, y, k) = if k < s.2.2 then (8, s) else (0, (s.1, s.2.1, k)) := by unfold stepR; rw [if_neg h1, if_neg h2, if_neg h3]

/-- What the state's block and rows are behind the step. -/
def StaAt (w : World) (g base : Nat) (s : Sta) : Prop := ∃ A n c B m d, At w g 39 #[.slice A n c, .slice B m d, .int .i64 s.2.2] ∧ Ow eS w base A n c s.1 ∧ Ow eH w base B m d s.2.1
set_option maxHeartbeats 8000000 in
theorem l5Apply (g gr base : Nat) (A B : Option Addr) (n c m d : Nat) (l : List Smp) (h : List Hnt) (x a0 a1 a2 a3 a4 a5 a6 : Int) (w : World) (hx : At w g 39 #[.slice A n c, .slice B m d, .int .i64 x]) (hr : At w gr 27 #[.int .i64 a0, .int .i64 a1, .int .i64 a2, .int .i64 a3, .int .i64 a4, .int .i64 a5, .int .i64 a6]) (oa : Ow eS w base A n c l) (ob : Ow eH w base B m d h) (hbase : base ≤ w.heap.size) (hn1 : n ≤ 1048576) :
    Calls Tryz.prog 55 #[.pointer (some ⟨g, 0, none⟩), .pointer (some ⟨gr, 0, none⟩)] w fun e w' => e = .returned (.int .i64 (stepR (l, h, x) (a0, a1, (a2, a3, a4, a5), a6)).1) ∧ StaAt w' g base (stepR (l, h, x) (a0, a1, (a2, a3, a4, a5), a6)).2 ∧ w.grownBy w' (some g) := by
  have lx := hx.lt
  have lr := hr.lt
  have x2 : At2 w g 39 #[.slice A n c, .slice B m d, .int .i64 x] gr 27 #[.int .i64 a0, .int .i64 a1, .int .i64 a2, .int .i64 a3, .int .i64 a4, .int .i64 a5, .int .i64 a6] := ⟨hx, hr⟩
  have Hn := Lib.hid (oa.len okS)
  have Hm := Lib.hid (ob.len okH)
  have ra := oa.rd okS
  have rb := ob.rd okH
  have hdc := ob.cap
  obtain ⟨c0, c1, c2, cf0, cf1, cf2⟩ := hx.three
  obtain ⟨r0, r1, r2, r3, r4, r5, r6⟩ := hr.seven
  by_cases k1 : a0 = 1
  · subst k1
    obtain ⟨z, nw, st, hz⟩ : ∃ z b st, insertM l (a2, a3, a4, a5) = (z, b, st) := ⟨_, _, _, rfl⟩
    have Hs := Lib.hid (step1 (s := (l, h, x)) (p := a1) (k := a6) hz)
    have SI := specInsertSample A n c l a2 a3 a4 a5
    rw [hz] at SI
    clear hz
    go_enter Tryz.func55, Tryz.ntmps55
    go_upto_region 3 with fail
    go_cut [5] (fun s wx => ∃ gx Ax kx cx, s = .pointer (some ⟨gx, 0, none⟩) ∧ At wx gx 135 #[.int .i64 z, .bool nw, .slice Ax kx cx] ∧ Ow eS wx w.heap.size Ax kx cx st ∧ Below w.heap.size w wx)
    case first =>
      refine any_start (fun u => At2 u g 39 #[.slice A n c, .slice B m d, .int .i64 x] gr 27 #[.int .i64 1, .int .i64 a1, .int .i64 a2, .int .i64 a3, .int .i64 a4, .int .i64 a5, .int .i64 a6]) (by kernel_rfl) x2.drew (fun _ => ?_)
      have bxd := x2.drew
      have hBd := (Below.refl w.heap.size w).drew
      have rad : _ := ra.lift ((Below.refl _ _).drew)
      refine any_pure (v := ?_) 0 rfl (by kernel_rfl) (fun _ _ _ _ _ h => h) (by rfl) (fun u hu => ?_) bxd ?_
      rotate_left
      · (obtain ⟨hu1, hu2⟩ := hu; obtain ⟨_, _, _, _, _, _⟩ := At.three hu1; obtain ⟨_, _, _, _, _, _, _⟩ := At.seven hu2)
        go_simp
        (with_reducible rfl)
      (try simp only [Act.put, List.setIfInBounds_toArray, List.set_cons_zero, List.set_cons_succ])
      refine any_pure (v := ?_) 1 rfl (by kernel_rfl) (fun _ _ _ _ _ h => h) (by rfl) (fun u hu => ?_) bxd ?_
      rotate_left
      · (obtain ⟨hu1, hu2⟩ := hu; obtain ⟨_, _, _, _, _, _⟩ := At.three hu1; obtain ⟨_, _, _, _, _, _, _⟩ := At.seven hu2)
        go_simp
        (with_reducible rfl)
      (try simp only [Act.put, List.setIfInBounds_toArray, List.set_cons_zero, List.set_cons_succ])
      refine any_pure (v := ?_) 2 rfl (by kernel_rfl) (fun _ _ _ _ _ h => h) (by rfl) (fun u hu => ?_) bxd ?_
      rotate_left
      · (obtain ⟨hu1, hu2⟩ := hu; obtain ⟨_, _, _, _, _, _⟩ := At.three hu1; obtain ⟨_, _, _, _, _, _, _⟩ := At.seven hu2)
        go_simp
        (with_reducible rfl)
      (try simp only [Act.put, List.setIfInBounds_toArray, List.set_cons_zero, List.set_cons_succ])
      refine any_pure (v := ?_) 3 rfl (by kernel_rfl) (fun _ _ _ _ _ h => h) (by rfl) (fun u hu => ?_) bxd ?_
      rotate_left
      · (obtain ⟨hu1, hu2⟩ := hu; obtain ⟨_, _, _, _, _, _⟩ := At.three hu1; obtain ⟨_, _, _, _, _, _, _⟩ := At.seven hu2)
        go_simp
        (with_reducible rfl)
      (try simp only [Act.put, List.setIfInBounds_toArray, List.set_cons_zero, List.set_cons_succ])
      refine any_pure (v := ?_) 4 rfl (by kernel_rfl) (fun _ _ _ _ _ h => h) (by rfl) (fun u hu => ?_) bxd ?_
      rotate_left
      · (obtain ⟨hu1, hu2⟩ := hu; obtain ⟨_, _, _, _, _, _⟩ := At.three hu1; obtain ⟨_, _, _, _, _, _, _⟩ := At.seven hu2)
        go_simp
        (with_reducible rfl)
      (try simp only [Act.put, List.setIfInBounds_toArray, List.set_cons_zero, List.set_cons_succ])
      refine any_pure (v := ?_) 5 rfl (by kernel_rfl) (fun _ _ _ _ _ h => h) (by rfl) (fun u hu => ?_) bxd ?_
      rotate_left
      · (obtain ⟨hu1, hu2⟩ := hu; obtain ⟨_, _, _, _, _, _⟩ := At.three hu1; obtain ⟨_, _, _, _, _, _, _⟩ := At.seven hu2)
        go_simp
        (with_reducible rfl)
      (try simp only [Act.put, List.setIfInBounds_toArray, List.set_cons_zero, List.set_cons_succ])
      refine any_pure (v := ?_) 6 rfl (by kernel_rfl) (fun _ _ _ _ _ h => h) (by rfl) (fun u hu => ?_) bxd ?_
      rotate_left
      · (obtain ⟨hu1, hu2⟩ := hu; obtain ⟨_, _, _, _, _, _⟩ := At.three hu1; obtain ⟨_, _, _, _, _, _, _⟩ := At.seven hu2)
        go_simp
        (with_reducible rfl)
      (try simp only [Act.put, List.setIfInBounds_toArray, List.set_cons_zero, List.set_cons_succ])
      refine any_pure (v := ?_) 7 rfl (by kernel_rfl) (fun _ _ _ _ _ h => h) (by rfl) (fun u hu => ?_) bxd ?_
      rotate_left
      · (obtain ⟨hu1, hu2⟩ := hu; obtain ⟨_, _, _, _, _, _⟩ := At.three hu1; obtain ⟨_, _, _, _, _, _, _⟩ := At.seven hu2)
        go_simp
        (with_reducible rfl)
      (try simp only [Act.put, List.setIfInBounds_toArray, List.set_cons_zero, List.set_cons_succ])
      refine any_two 8 9 rfl rfl (by kernel_rfl) (by rfl) (by rfl) ?_ ?_
      · go_simp
        refine (SI _ rad Hn.out hn1).mono ?_
        rintro e w101 ⟨A101, k101, c101, rfl, ow101, hb101⟩
        have hB101 := hBd.trans (hb101.mono hBd.size)
        have bx101 := bxd.below hb101 bxd.lt
        have ra_101 := rad.lift hb101
        refine ⟨(fun u => At2 u g 39 #[.slice A n c, .slice B m d, .int .i64 x] gr 27 #[.int .i64 1, .int .i64 a1, .int .i64 a2, .int .i64 a3, .int .i64 a4, .int .i64 a5, .int .i64 a6]), fun _ h => h, bx101, ?_⟩
        (try simp only [Act.put, List.setIfInBounds_toArray, List.set_cons_zero, List.set_cons_succ])
        refine any_one 9 rfl (by kernel_rfl) (by rfl) ?_
        go_simp
        have ag102 := At.newAt' (w := w101) (t := 135) (cs := #[.int .i64 0, .bool false, .slice none 0 0]) (show w101.heap.size = w101.heap.size by first | rfl | simp)
        have gl102 : w.heap.size ≤ w101.heap.size := by first | exact hB101.size | exact Nat.le_refl _ | (have := hB101.size; simp at this ⊢; try omega)
        have hal102 := (Below.refl w101.heap.size w101).alloc (Nat.le_refl _) (.cells #[.int .i64 0, .bool false, .slice none 0 0] 135)
        have hB102 := hB101.alloc hB101.size (.cells #[.int .i64 0, .bool false, .slice none 0 0] 135)
        have bx102 := bx101.alloc (.cells #[.int .i64 0, .bool false, .slice none 0 0] 135)
        have ow_102 := ow101.alloc (.cells #[.int .i64 0, .bool false, .slice none 0 0] 135)
        have ra_102 := ra_101.lift hal102
        refine ⟨(fun u => At2 u g 39 #[.slice A n c, .slice B m d, .int .i64 x] gr 27 #[.int .i64 1, .int .i64 a1, .int .i64 a2, .int .i64 a3, .int .i64 a4, .int .i64 a5, .int .i64 a6]), fun _ h => h, bx102, ?_⟩
        (try simp only [Act.put, List.setIfInBounds_toArray, List.set_cons_zero, List.set_cons_succ])
        refine any_one 10 rfl (by kernel_rfl) (by rfl) ?_
        go_simp
        have AG103 := At.newAt' (w := w101) (t := 135) (cs := #[.int .i64 z, .bool nw, .slice A101 k101 c101]) (show w101.heap.size = w101.heap.size by first | rfl | simp)
        have hal103 := (Below.refl w101.heap.size w101).alloc (Nat.le_refl _) (.cells #[.int .i64 z, .bool nw, .slice A101 k101 c101] 135)
        have hB103 := hB101.alloc hB101.size (.cells #[.int .i64 z, .bool nw, .slice A101 k101 c101] 135)
        have bx103 := bx101.alloc (.cells #[.int .i64 z, .bool nw, .slice A101 k101 c101] 135)
        have ow_103 := ow101.alloc (.cells #[.int .i64 z, .bool nw, .slice A101 k101 c101] 135)
        have ra_103 := ra_101.lift hal103
        refine ⟨(fun u => At2 u g 39 #[.slice A n c, .slice B m d, .int .i64 x] gr 27 #[.int .i64 1, .int .i64 a1, .int .i64 a2, .int .i64 a3, .int .i64 a4, .int .i64 a5, .int .i64 a6]), fun _ h => h, bx103, ?_⟩
        (try simp only [Act.put, List.setIfInBounds_toArray, List.set_cons_zero, List.set_cons_succ])
        refine any_done (by kernel_rfl) ?_
        go_wp2
        go_meet
        exact ⟨_, _, _, _, rfl, AG103, ow_103.from_ hBd.size, hB103⟩
      · go_simp
        have ag104 := At.newAt' (w := w.drew) (t := 135) (cs := #[.int .i64 0, .bool false, .slice none 0 0]) (show w.drew.heap.size = w.heap.size by first | rfl | simp)
        have gl104 : w.heap.size ≤ w.heap.size := by first | exact hBd.size | exact Nat.le_refl _ | (have := hBd.size; simp at this ⊢; try omega)
        have hal104 := (Below.refl w.drew.heap.size w.drew).alloc (Nat.le_refl _) (.cells #[.int .i64 0, .bool false, .slice none 0 0] 135)
        have hB104 := hBd.alloc hBd.size (.cells #[.int .i64 0, .bool false, .slice none 0 0] 135)
        have bx104 := bxd.alloc (.cells #[.int .i64 0, .bool false, .slice none 0 0] 135)
        have ra_104 := rad.lift hal104
        refine ⟨(fun u => At2 u g 39 #[.slice A n c, .slice B m d, .int .i64 x] gr 27 #[.int .i64 1, .int .i64 a1, .int .i64 a2, .int .i64 a3, .int .i64 a4, .int .i64 a5, .int .i64 a6]), fun _ h => h, bx104, ?_⟩
        (try simp only [Act.put, List.setIfInBounds_toArray, List.set_cons_zero, List.set_cons_succ])
        refine any_one 8 rfl (by kernel_rfl) (by rfl) ?_
        go_simp
        refine (SI _ ra_104 Hn.out hn1).mono ?_
        rintro e w105 ⟨A105, k105, c105, rfl, ow105, hb105⟩
        have hB105 := hB104.trans (hb105.mono hB104.size)
        have bx105 := bx104.below hb105 bx104.lt
        have ag_105 := ag104.below hb105 ag104.lt
        have ra_105 := ra_104.lift hb105
        refine ⟨(fun u => At2 u g 39 #[.slice A n c, .slice B m d, .int .i64 x] gr 27 #[.int .i64 1, .int .i64 a1, .int .i64 a2, .int .i64 a3, .int .i64 a4, .int .i64 a5, .int .i64 a6]), fun _ h => h, bx105, ?_⟩
        (try simp only [Act.put, List.setIfInBounds_toArray, List.set_cons_zero, List.set_cons_succ])
        refine any_one 10 rfl (by kernel_rfl) (by rfl) ?_
        obtain ⟨k0, k1, k2, k3, k4, k5⟩ := ag_105.three
        go_simp
        have hltg106 : w.heap.size < w105.heap.size := ag_105.lt
        have AG106 : At (((w105.setCell ⟨w.heap.size, 0, none⟩ (.int .i64 z)).setCell ⟨w.heap.size, 1, none⟩ (.bool nw)).setCell ⟨w.heap.size, 2, none⟩ (.slice A105 k105 c105)) w.heap.size 135 #[.int .i64 z, .bool nw, .slice A105 k105 c105] := (((ag_105.set 0 (.int .i64 z)).set 1 (.bool nw)).set 2 (.slice A105 k105 c105))
        have bx106 := (((bx105.far (p := ⟨w.heap.size, 0, none⟩) (by show g ≠ w.heap.size ∧ gr ≠ w.heap.size; have := gl104; omega) (.int .i64 z)).far (p := ⟨w.heap.size, 1, none⟩) (by show g ≠ w.heap.size ∧ gr ≠ w.heap.size; have := gl104; omega) (.bool nw)).far (p := ⟨w.heap.size, 2, none⟩) (by show g ≠ w.heap.size ∧ gr ≠ w.heap.size; have := gl104; omega) (.slice A105 k105 c105))
        have hB106 := (((hB105.setCell (p := ⟨w.heap.size, 0, none⟩) gl104 (.int .i64 z)).setCell (p := ⟨w.heap.size, 1, none⟩) gl104 (.bool nw)).setCell (p := ⟨w.heap.size, 2, none⟩) gl104 (.slice A105 k105 c105))
        have ow_106 := ow105
        have ow_106 := ow_106.apart (by decide) ag_105 0 (.int .i64 z)
        have ow_106 := ow_106.apart (by decide) ((ag_105.set 0 (.int .i64 z))) 1 (.bool nw)
        have ow_106 := ow_106.apart (by decide) (((ag_105.set 0 (.int .i64 z)).set 1 (.bool nw))) 2 (.slice A105 k105 c105)
        refine ⟨(fun u => At2 u g 39 #[.slice A n c, .slice B m d, .int .i64 x] gr 27 #[.int .i64 1, .int .i64 a1, .int .i64 a2, .int .i64 a3, .int .i64 a4, .int .i64 a5, .int .i64 a6]), fun _ h => h, bx106, ?_⟩
        (try simp only [Act.put, List.setIfInBounds_toArray, List.set_cons_zero, List.set_cons_succ])
        refine any_done (by kernel_rfl) ?_
        go_wp2
        go_meet
        exact ⟨_, _, _, _, rfl, AG106, ow_106.from_ hB104.size, hB106⟩
    case rest =>
      obtain ⟨gx, Ax, kx, cx, rfl, AX1, OW1, HB1⟩ := hcut
      obtain ⟨q0, q1, q2, _, _, _⟩ := AX1.three
      have hxc := hx.below HB1 lx
      clear c0 c1 c2 cf0 cf1 cf2 r0 r1 r2 r3 r4 r5 r6
      obtain ⟨c0, c1, c2, cf0, cf1, cf2⟩ := hxc.three
      have hne : ¬ g = gx := by
        intro e
        subst e
        have := hxc.symm.trans AX1
        simp at this
      by_cases hz0 : z = 0
      · subst hz0
        have Hr := Lib.hid (show stepR (l, h, x) (1, a1, (a2, a3, a4, a5), a6) = (0, (st, h, x)) by rw [Hs.out, if_pos rfl])
        go_wp2
        go_ret
        rw [Hr.out]
        exact ⟨rfl, ⟨Ax, kx, cx, B, m, d, hxc.set 0 (.slice Ax kx cx), (OW1.from_ hbase).apart (by decide) hxc 0 _, (ob.below HB1 (Nat.le_refl _)).apart (by decide) hxc 0 _⟩, grown_trans (grown_any (grown_below HB1 (Nat.le_refl _)) _) (grown_setCell _ ⟨g, 0, none⟩ _)⟩
      · have hzb : (z == 0) = false := by simpa using hz0
        have Hr := Lib.hid (show stepR (l, h, x) (1, a1, (a2, a3, a4, a5), a6) = (z, (l, h, x)) by rw [Hs.out, if_neg hz0])
        clear hz0
        go_wp2
        go_ret
        rw [Hr.out]
        exact ⟨rfl, ⟨A, n, c, B, m, d, hxc, oa.below HB1 (Nat.le_refl _), ob.below HB1 (Nat.le_refl _)⟩, grown_any (grown_below HB1 (Nat.le_refl _)) _⟩
  by_cases k2 : a0 = 2
  · subst k2
    obtain ⟨z, st, hz⟩ : ∃ z st, addM h a1 (a2, a3, a4, a5) = (z, st) := ⟨_, _, rfl⟩
    have Hs := Lib.hid (step2 (s := (l, h, x)) (k := a6) hz)
    have SI := specAddHint B m d h a1 a2 a3 a4 a5
    rw [hz] at SI
    clear hz
    go_enter Tryz.func55, Tryz.ntmps55
    go_upto_region 8 with fail
    go_cut [6] (fun s wx => ∃ gx Ax kx cx, s = .pointer (some ⟨gx, 0, none⟩) ∧ At wx gx 138 #[.int .i64 z, .slice Ax kx cx] ∧ Ow eH wx w.heap.size Ax kx cx st ∧ Below w.heap.size w wx)
    case first =>
      refine any_start (fun u => At2 u g 39 #[.slice A n c, .slice B m d, .int .i64 x] gr 27 #[.int .i64 2, .int .i64 a1, .int .i64 a2, .int .i64 a3, .int .i64 a4, .int .i64 a5, .int .i64 a6]) (by kernel_rfl) x2.drew (fun _ => ?_)
      have bxd := x2.drew
      have hBd := (Below.refl w.heap.size w).drew
      have rbd : _ := rb.lift ((Below.refl _ _).drew)
      refine any_pure (v := ?_) 0 rfl (by kernel_rfl) (fun _ _ _ _ _ h => h) (by rfl) (fun u hu => ?_) bxd ?_
      rotate_left
      · (obtain ⟨hu1, hu2⟩ := hu; obtain ⟨_, _, _, _, _, _⟩ := At.three hu1; obtain ⟨_, _, _, _, _, _, _⟩ := At.seven hu2)
        go_simp
        (with_reducible rfl)
      (try simp only [Act.put, List.setIfInBounds_toArray, List.set_cons_zero, List.set_cons_succ])
      refine any_pure (v := ?_) 1 rfl (by kernel_rfl) (fun _ _ _ _ _ h => h) (by rfl) (fun u hu => ?_) bxd ?_
      rotate_left
      · (obtain ⟨hu1, hu2⟩ := hu; obtain ⟨_, _, _, _, _, _⟩ := At.three hu1; obtain ⟨_, _, _, _, _, _, _⟩ := At.seven hu2)
        go_simp
        (with_reducible rfl)
      (try simp only [Act.put, List.setIfInBounds_toArray, List.set_cons_zero, List.set_cons_succ])
      refine any_pure (v := ?_) 2 rfl (by kernel_rfl) (fun _ _ _ _ _ h => h) (by rfl) (fun u hu => ?_) bxd ?_
      rotate_left
      · (obtain ⟨hu1, hu2⟩ := hu; obtain ⟨_, _, _, _, _, _⟩ := At.three hu1; obtain ⟨_, _, _, _, _, _, _⟩ := At.seven hu2)
        go_simp
        (with_reducible rfl)
      (try simp only [Act.put, List.setIfInBounds_toArray, List.set_cons_zero, List.set_cons_succ])
      refine any_pure (v := ?_) 3 rfl (by kernel_rfl) (fun _ _ _ _ _ h => h) (by rfl) (fun u hu => ?_) bxd ?_
      rotate_left
      · (obtain ⟨hu1, hu2⟩ := hu; obtain ⟨_, _, _, _, _, _⟩ := At.three hu1; obtain ⟨_, _, _, _, _, _, _⟩ := At.seven hu2)
        go_simp
        (with_reducible rfl)
      (try simp only [Act.put, List.setIfInBounds_toArray, List.set_cons_zero, List.set_cons_succ])
      refine any_pure (v := ?_) 4 rfl (by kernel_rfl) (fun _ _ _ _ _ h => h) (by rfl) (fun u hu => ?_) bxd ?_
      rotate_left
      · (obtain ⟨hu1, hu2⟩ := hu; obtain ⟨_, _, _, _, _, _⟩ := At.three hu1; obtain ⟨_, _, _, _, _, _, _⟩ := At.seven hu2)
        go_simp
        (with_reducible rfl)
      (try simp only [Act.put, List.setIfInBounds_toArray, List.set_cons_zero, List.set_cons_succ])
      refine any_pure (v := ?_) 5 rfl (by kernel_rfl) (fun _ _ _ _ _ h => h) (by rfl) (fun u hu => ?_) bxd ?_
      rotate_left
      · (obtain ⟨hu1, hu2⟩ := hu; obtain ⟨_, _, _, _, _, _⟩ := At.three hu1; obtain ⟨_, _, _, _, _, _, _⟩ := At.seven hu2)
        go_simp
        (with_reducible rfl)
      (try simp only [Act.put, List.setIfInBounds_toArray, List.set_cons_zero, List.set_cons_succ])
      refine any_pure (v := ?_) 6 rfl (by kernel_rfl) (fun _ _ _ _ _ h => h) (by rfl) (fun u hu => ?_) bxd ?_
      rotate_left
      · (obtain ⟨hu1, hu2⟩ := hu; obtain ⟨_, _, _, _, _, _⟩ := At.three hu1; obtain ⟨_, _, _, _, _, _, _⟩ := At.seven hu2)
        go_simp
        (with_reducible rfl)
      (try simp only [Act.put, List.setIfInBounds_toArray, List.set_cons_zero, List.set_cons_succ])
      refine any_pure (v := ?_) 7 rfl (by kernel_rfl) (fun _ _ _ _ _ h => h) (by rfl) (fun u hu => ?_) bxd ?_
      rotate_left
      · (obtain ⟨hu1, hu2⟩ := hu; obtain ⟨_, _, _, _, _, _⟩ := At.three hu1; obtain ⟨_, _, _, _, _, _, _⟩ := At.seven hu2)
        go_simp
        (with_reducible rfl)
      (try simp only [Act.put, List.setIfInBounds_toArray, List.set_cons_zero, List.set_cons_succ])
      refine any_pure (v := ?_) 8 rfl (by kernel_rfl) (fun _ _ _ _ _ h => h) (by rfl) (fun u hu => ?_) bxd ?_
      rotate_left
      · (obtain ⟨hu1, hu2⟩ := hu; obtain ⟨_, _, _, _, _, _⟩ := At.three hu1; obtain ⟨_, _, _, _, _, _, _⟩ := At.seven hu2)
        go_simp
        (with_reducible rfl)
      (try simp only [Act.put, List.setIfInBounds_toArray, List.set_cons_zero, List.set_cons_succ])
      refine any_pure (v := ?_) 9 rfl (by kernel_rfl) (fun _ _ _ _ _ h => h) (by rfl) (fun u hu => ?_) bxd ?_
      rotate_left
      · (obtain ⟨hu1, hu2⟩ := hu; obtain ⟨_, _, _, _, _, _⟩ := At.three hu1; obtain ⟨_, _, _, _, _, _, _⟩ := At.seven hu2)
        go_simp
        (with_reducible rfl)
      (try simp only [Act.put, List.setIfInBounds_toArray, List.set_cons_zero, List.set_cons_succ])
      refine any_pure (v := ?_) 10 rfl (by kernel_rfl) (fun _ _ _ _ _ h => h) (by rfl) (fun u hu => ?_) bxd ?_
      rotate_left
      · (obtain ⟨hu1, hu2⟩ := hu; obtain ⟨_, _, _, _, _, _⟩ := At.three hu1; obtain ⟨_, _, _, _, _, _, _⟩ := At.seven hu2)
        go_simp
        (with_reducible rfl)
      (try simp only [Act.put, List.setIfInBounds_toArray, List.set_cons_zero, List.set_cons_succ])
      refine any_pure (v := ?_) 11 rfl (by kernel_rfl) (fun _ _ _ _ _ h => h) (by rfl) (fun u hu => ?_) bxd ?_
      rotate_left
      · (obtain ⟨hu1, hu2⟩ := hu; obtain ⟨_, _, _, _, _, _⟩ := At.three hu1; obtain ⟨_, _, _, _, _, _, _⟩ := At.seven hu2)
        go_simp
        (with_reducible rfl)
      (try simp only [Act.put, List.setIfInBounds_toArray, List.set_cons_zero, List.set_cons_succ])
      refine any_two 12 13 rfl rfl (by kernel_rfl) (by rfl) (by rfl) ?_ ?_
      · go_simp
        refine (SI _ rbd Hm.out).mono ?_
        rintro e w101 ⟨A101, k101, c101, rfl, ow101, hb101⟩
        have hB101 := hBd.trans (hb101.mono hBd.size)
        have bx101 := bxd.below hb101 bxd.lt
        have rb_101 := rbd.lift hb101
        refine ⟨(fun u => At2 u g 39 #[.slice A n c, .slice B m d, .int .i64 x] gr 27 #[.int .i64 2, .int .i64 a1, .int .i64 a2, .int .i64 a3, .int .i64 a4, .int .i64 a5, .int .i64 a6]), fun _ h => h, bx101, ?_⟩
        (try simp only [Act.put, List.setIfInBounds_toArray, List.set_cons_zero, List.set_cons_succ])
        refine any_one 13 rfl (by kernel_rfl) (by rfl) ?_
        go_simp
        have ag102 := At.newAt' (w := w101) (t := 138) (cs := #[.int .i64 0, .slice none 0 0]) (show w101.heap.size = w101.heap.size by first | rfl | simp)
        have gl102 : w.heap.size ≤ w101.heap.size := by first | exact hB101.size | exact Nat.le_refl _ | (have := hB101.size; simp at this ⊢; try omega)
        have hal102 := (Below.refl w101.heap.size w101).alloc (Nat.le_refl _) (.cells #[.int .i64 0, .slice none 0 0] 138)
        have hB102 := hB101.alloc hB101.size (.cells #[.int .i64 0, .slice none 0 0] 138)
        have bx102 := bx101.alloc (.cells #[.int .i64 0, .slice none 0 0] 138)
        have ow_102 := ow101.alloc (.cells #[.int .i64 0, .slice none 0 0] 138)
        have rb_102 := rb_101.lift hal102
        refine ⟨(fun u => At2 u g 39 #[.slice A n c, .slice B m d, .int .i64 x] gr 27 #[.int .i64 2, .int .i64 a1, .int .i64 a2, .int .i64 a3, .int .i64 a4, .int .i64 a5, .int .i64 a6]), fun _ h => h, bx102, ?_⟩
        (try simp only [Act.put, List.setIfInBounds_toArray, List.set_cons_zero, List.set_cons_succ])
        refine any_one 14 rfl (by kernel_rfl) (by rfl) ?_
        go_simp
        have AG103 := At.newAt' (w := w101) (t := 138) (cs := #[.int .i64 z, .slice A101 k101 c101]) (show w101.heap.size = w101.heap.size by first | rfl | simp)
        have hal103 := (Below.refl w101.heap.size w101).alloc (Nat.le_refl _) (.cells #[.int .i64 z, .slice A101 k101 c101] 138)
        have hB103 := hB101.alloc hB101.size (.cells #[.int .i64 z, .slice A101 k101 c101] 138)
        have bx103 := bx101.alloc (.cells #[.int .i64 z, .slice A101 k101 c101] 138)
        have ow_103 := ow101.alloc (.cells #[.int .i64 z, .slice A101 k101 c101] 138)
        have rb_103 := rb_101.lift hal103
        refine ⟨(fun u => At2 u g 39 #[.slice A n c, .slice B m d, .int .i64 x] gr 27 #[.int .i64 2, .int .i64 a1, .int .i64 a2, .int .i64 a3, .int .i64 a4, .int .i64 a5, .int .i64 a6]), fun _ h => h, bx103, ?_⟩
        (try simp only [Act.put, List.setIfInBounds_toArray, List.set_cons_zero, List.set_cons_succ])
        refine any_done (by kernel_rfl) ?_
        go_wp2
        go_meet
        exact ⟨_, _, _, _, rfl, AG103, ow_103.from_ hBd.size, hB103⟩
      · go_simp
        have ag104 := At.newAt' (w := w.drew) (t := 138) (cs := #[.int .i64 0, .slice none 0 0]) (show w.drew.heap.size = w.heap.size by first | rfl | simp)
        have gl104 : w.heap.size ≤ w.heap.size := by first | exact hBd.size | exact Nat.le_refl _ | (have := hBd.size; simp at this ⊢; try omega)
        have hal104 := (Below.refl w.drew.heap.size w.drew).alloc (Nat.le_refl _) (.cells #[.int .i64 0, .slice none 0 0] 138)
        have hB104 := hBd.alloc hBd.size (.cells #[.int .i64 0, .slice none 0 0] 138)
        have bx104 := bxd.alloc (.cells #[.int .i64 0, .slice none 0 0] 138)
        have rb_104 := rbd.lift hal104
        refine ⟨(fun u => At2 u g 39 #[.slice A n c, .slice B m d, .int .i64 x] gr 27 #[.int .i64 2, .int .i64 a1, .int .i64 a2, .int .i64 a3, .int .i64 a4, .int .i64 a5, .int .i64 a6]), fun _ h => h, bx104, ?_⟩
        (try simp only [Act.put, List.setIfInBounds_toArray, List.set_cons_zero, List.set_cons_succ])
        refine any_one 12 rfl (by kernel_rfl) (by rfl) ?_
        go_simp
        refine (SI _ rb_104 Hm.out).mono ?_
        rintro e w105 ⟨A105, k105, c105, rfl, ow105, hb105⟩
        have hB105 := hB104.trans (hb105.mono hB104.size)
        have bx105 := bx104.below hb105 bx104.lt
        have ag_105 := ag104.below hb105 ag104.lt
        have rb_105 := rb_104.lift hb105
        refine ⟨(fun u => At2 u g 39 #[.slice A n c, .slice B m d, .int .i64 x] gr 27 #[.int .i64 2, .int .i64 a1, .int .i64 a2, .int .i64 a3, .int .i64 a4, .int .i64 a5, .int .i64 a6]), fun _ h => h, bx105, ?_⟩
        (try simp only [Act.put, List.setIfInBounds_toArray, List.set_cons_zero, List.set_cons_succ])
        refine any_one 14 rfl (by kernel_rfl) (by rfl) ?_
        obtain ⟨k0, k1, k2, k3⟩ := ag_105.two
        go_simp
        have hltg106 : w.heap.size < w105.heap.size := ag_105.lt
        have AG106 : At ((w105.setCell ⟨w.heap.size, 0, none⟩ (.int .i64 z)).setCell ⟨w.heap.size, 1, none⟩ (.slice A105 k105 c105)) w.heap.size 138 #[.int .i64 z, .slice A105 k105 c105] := ((ag_105.set 0 (.int .i64 z)).set 1 (.slice A105 k105 c105))
        have bx106 := ((bx105.far (p := ⟨w.heap.size, 0, none⟩) (by show g ≠ w.heap.size ∧ gr ≠ w.heap.size; have := gl104; omega) (.int .i64 z)).far (p := ⟨w.heap.size, 1, none⟩) (by show g ≠ w.heap.size ∧ gr ≠ w.heap.size; have := gl104; omega) (.slice A105 k105 c105))
        have hB106 := ((hB105.setCell (p := ⟨w.heap.size, 0, none⟩) gl104 (.int .i64 z)).setCell (p := ⟨w.heap.size, 1, none⟩) gl104 (.slice A105 k105 c105))
        have ow_106 := ow105
        have ow_106 := ow_106.apart (by decide) ag_105 0 (.int .i64 z)
        have ow_106 := ow_106.apart (by decide) ((ag_105.set 0 (.int .i64 z))) 1 (.slice A105 k105 c105)
        refine ⟨(fun u => At2 u g 39 #[.slice A n c, .slice B m d, .int .i64 x] gr 27 #[.int .i64 2, .int .i64 a1, .int .i64 a2, .int .i64 a3, .int .i64 a4, .int .i64 a5, .int .i64 a6]), fun _ h => h, bx106, ?_⟩
        (try simp only [Act.put, List.setIfInBounds_toArray, List.set_cons_zero, List.set_cons_succ])
        refine any_done (by kernel_rfl) ?_
        go_wp2
        go_meet
        exact ⟨_, _, _, _, rfl, AG106, ow_106.from_ hB104.size, hB106⟩
    case rest =>
      obtain ⟨gx, Ax, kx, cx, rfl, AX1, OW1, HB1⟩ := hcut
      obtain ⟨q0, q1, _, _⟩ := AX1.two
      have hxc := hx.below HB1 lx
      clear c0 c1 c2 cf0 cf1 cf2 r0 r1 r2 r3 r4 r5 r6
      obtain ⟨c0, c1, c2, cf0, cf1, cf2⟩ := hxc.three
      have hne : ¬ g = gx := by
        intro e
        subst e
        have := hxc.symm.trans AX1
        simp at this
      by_cases hz0 : z = 0
      · subst hz0
        have Hr := Lib.hid (show stepR (l, h, x) (2, a1, (a2, a3, a4, a5), a6) = (0, (l, st, x)) by rw [Hs.out, if_pos rfl])
        go_wp2
        go_ret
        rw [Hr.out]
        exact ⟨rfl, ⟨A, n, c, Ax, kx, cx, hxc.set 1 (.slice Ax kx cx), (oa.below HB1 (Nat.le_refl _)).apart (by decide) hxc 1 _, (OW1.from_ hbase).apart (by decide) hxc 1 _⟩, grown_trans (grown_any (grown_below HB1 (Nat.le_refl _)) _) (grown_setCell _ ⟨g, 1, none⟩ _)⟩
      · have hzb : (z == 0) = false := by simpa using hz0
        have Hr := Lib.hid (show stepR (l, h, x) (2, a1, (a2, a3, a4, a5), a6) = (z, (l, h, x)) by rw [Hs.out, if_neg hz0])
        clear hz0
        go_wp2
        go_ret
        rw [Hr.out]
        exact ⟨rfl, ⟨A, n, c, B, m, d, hxc, oa.below HB1 (Nat.le_refl _), ob.below HB1 (Nat.le_refl _)⟩, grown_any (grown_below HB1 (Nat.le_refl _)) _⟩
  by_cases k3 : a0 = 3
  · subst k3
    obtain ⟨z, st, hz⟩ : ∃ z st, doneM h a1 a6 = (z, st) := ⟨_, _, rfl⟩
    have Hs := Lib.hid (step3 (s := (l, h, x)) (y := (a2, a3, a4, a5)) hz)
    have SI := specDoneHint B m d h a1 a6
    rw [hz] at SI
    clear hz
    go_enter Tryz.func55, Tryz.ntmps55
    go_upto_region 13 with fail
    go_cut [7] (fun s wx => ∃ gx Ax kx cx, s = .pointer (some ⟨gx, 0, none⟩) ∧ At wx gx 138 #[.int .i64 z, .slice Ax kx cx] ∧ Ow eH wx w.heap.size Ax kx cx st ∧ Below w.heap.size w wx)
    case first =>
      refine any_start (fun u => At2 u g 39 #[.slice A n c, .slice B m d, .int .i64 x] gr 27 #[.int .i64 3, .int .i64 a1, .int .i64 a2, .int .i64 a3, .int .i64 a4, .int .i64 a5, .int .i64 a6]) (by kernel_rfl) x2.drew (fun _ => ?_)
      have bxd := x2.drew
      have hBd := (Below.refl w.heap.size w).drew
      have rbd : _ := rb.lift ((Below.refl _ _).drew)
      refine any_pure (v := ?_) 0 rfl (by kernel_rfl) (fun _ _ _ _ _ h => h) (by rfl) (fun u hu => ?_) bxd ?_
      rotate_left
      · (obtain ⟨hu1, hu2⟩ := hu; obtain ⟨_, _, _, _, _, _⟩ := At.three hu1; obtain ⟨_, _, _, _, _, _, _⟩ := At.seven hu2)
        go_simp
        (with_reducible rfl)
      (try simp only [Act.put, List.setIfInBounds_toArray, List.set_cons_zero, List.set_cons_succ])
      refine any_pure (v := ?_) 1 rfl (by kernel_rfl) (fun _ _ _ _ _ h => h) (by rfl) (fun u hu => ?_) bxd ?_
      rotate_left
      · (obtain ⟨hu1, hu2⟩ := hu; obtain ⟨_, _, _, _, _, _⟩ := At.three hu1; obtain ⟨_, _, _, _, _, _, _⟩ := At.seven hu2)
        go_simp
        (with_reducible rfl)
      (try simp only [Act.put, List.setIfInBounds_toArray, List.set_cons_zero, List.set_cons_succ])
      refine any_pure (v := ?_) 2 rfl (by kernel_rfl) (fun _ _ _ _ _ h => h) (by rfl) (fun u hu => ?_) bxd ?_
      rotate_left
      · (obtain ⟨hu1, hu2⟩ := hu; obtain ⟨_, _, _, _, _, _⟩ := At.three hu1; obtain ⟨_, _, _, _, _, _, _⟩ := At.seven hu2)
        go_simp
        (with_reducible rfl)
      (try simp only [Act.put, List.setIfInBounds_toArray, List.set_cons_zero, List.set_cons_succ])
      refine any_pure (v := ?_) 3 rfl (by kernel_rfl) (fun _ _ _ _ _ h => h) (by rfl) (fun u hu => ?_) bxd ?_
      rotate_left
      · (obtain ⟨hu1, hu2⟩ := hu; obtain ⟨_, _, _, _, _, _⟩ := At.three hu1; obtain ⟨_, _, _, _, _, _, _⟩ := At.seven hu2)
        go_simp
        (with_reducible rfl)
      (try simp only [Act.put, List.setIfInBounds_toArray, List.set_cons_zero, List.set_cons_succ])
      refine any_pure (v := ?_) 4 rfl (by kernel_rfl) (fun _ _ _ _ _ h => h) (by rfl) (fun u hu => ?_) bxd ?_
      rotate_left
      · (obtain ⟨hu1, hu2⟩ := hu; obtain ⟨_, _, _, _, _, _⟩ := At.three hu1; obtain ⟨_, _, _, _, _, _, _⟩ := At.seven hu2)
        go_simp
        (with_reducible rfl)
      (try simp only [Act.put, List.setIfInBounds_toArray, List.set_cons_zero, List.set_cons_succ])
      refine any_pure (v := ?_) 5 rfl (by kernel_rfl) (fun _ _ _ _ _ h => h) (by rfl) (fun u hu => ?_) bxd ?_
      rotate_left
      · (obtain ⟨hu1, hu2⟩ := hu; obtain ⟨_, _, _, _, _, _⟩ := At.three hu1; obtain ⟨_, _, _, _, _, _, _⟩ := At.seven hu2)
        go_simp
        (with_reducible rfl)
      (try simp only [Act.put, List.setIfInBounds_toArray, List.set_cons_zero, List.set_cons_succ])
      refine any_pure (v := ?_) 6 rfl (by kernel_rfl) (fun _ _ _ _ _ h => h) (by rfl) (fun u hu => ?_) bxd ?_
      rotate_left
      · (obtain ⟨hu1, hu2⟩ := hu; obtain ⟨_, _, _, _, _, _⟩ := At.three hu1; obtain ⟨_, _, _, _, _, _, _⟩ := At.seven hu2)
        go_simp
        (with_reducible rfl)
      (try simp only [Act.put, List.setIfInBounds_toArray, List.set_cons_zero, List.set_cons_succ])
      refine any_pure (v := ?_) 7 rfl (by kernel_rfl) (fun _ _ _ _ _ h => h) (by rfl) (fun u hu => ?_) bxd ?_
      rotate_left
      · (obtain ⟨hu1, hu2⟩ := hu; obtain ⟨_, _, _, _, _, _⟩ := At.three hu1; obtain ⟨_, _, _, _, _, _, _⟩ := At.seven hu2)
        go_simp
        (with_reducible rfl)
      (try simp only [Act.put, List.setIfInBounds_toArray, List.set_cons_zero, List.set_cons_succ])
      refine any_pure (v := ?_) 8 rfl (by kernel_rfl) (fun _ _ _ _ _ h => h) (by rfl) (fun u hu => ?_) bxd ?_
      rotate_left
      · (obtain ⟨hu1, hu2⟩ := hu; obtain ⟨_, _, _, _, _, _⟩ := At.three hu1; obtain ⟨_, _, _, _, _, _, _⟩ := At.seven hu2)
        go_simp
        (with_reducible rfl)
      (try simp only [Act.put, List.setIfInBounds_toArray, List.set_cons_zero, List.set_cons_succ])
      refine any_pure (v := ?_) 9 rfl (by kernel_rfl) (fun _ _ _ _ _ h => h) (by rfl) (fun u hu => ?_) bxd ?_
      rotate_left
      · (obtain ⟨hu1, hu2⟩ := hu; obtain ⟨_, _, _, _, _, _⟩ := At.three hu1; obtain ⟨_, _, _, _, _, _, _⟩ := At.seven hu2)
        go_simp
        (with_reducible rfl)
      (try simp only [Act.put, List.setIfInBounds_toArray, List.set_cons_zero, List.set_cons_succ])
      refine any_pure (v := ?_) 10 rfl (by kernel_rfl) (fun _ _ _ _ _ h => h) (by rfl) (fun u hu => ?_) bxd ?_
      rotate_left
      · (obtain ⟨hu1, hu2⟩ := hu; obtain ⟨_, _, _, _, _, _⟩ := At.three hu1; obtain ⟨_, _, _, _, _, _, _⟩ := At.seven hu2)
        go_simp
        (with_reducible rfl)
      (try simp only [Act.put, List.setIfInBounds_toArray, List.set_cons_zero, List.set_cons_succ])
      refine any_pure (v := ?_) 11 rfl (by kernel_rfl) (fun _ _ _ _ _ h => h) (by rfl) (fun u hu => ?_) bxd ?_
      rotate_left
      · (obtain ⟨hu1, hu2⟩ := hu; obtain ⟨_, _, _, _, _, _⟩ := At.three hu1; obtain ⟨_, _, _, _, _, _, _⟩ := At.seven hu2)
        go_simp
        (with_reducible rfl)
      (try simp only [Act.put, List.setIfInBounds_toArray, List.set_cons_zero, List.set_cons_succ])
      refine any_two 12 13 rfl rfl (by kernel_rfl) (by rfl) (by rfl) ?_ ?_
      · go_simp
        refine (SI _ rbd Hm.out hdc).mono ?_
        rintro e w101 ⟨A101, k101, c101, rfl, ow101, hb101⟩
        have hB101 := hBd.trans (hb101.mono hBd.size)
        have bx101 := bxd.below hb101 bxd.lt
        have rb_101 := rbd.lift hb101
        refine ⟨(fun u => At2 u g 39 #[.slice A n c, .slice B m d, .int .i64 x] gr 27 #[.int .i64 3, .int .i64 a1, .int .i64 a2, .int .i64 a3, .int .i64 a4, .int .i64 a5, .int .i64 a6]), fun _ h => h, bx101, ?_⟩
        (try simp only [Act.put, List.setIfInBounds_toArray, List.set_cons_zero, List.set_cons_succ])
        refine any_one 13 rfl (by kernel_rfl) (by rfl) ?_
        go_simp
        have ag102 := At.newAt' (w := w101) (t := 138) (cs := #[.int .i64 0, .slice none 0 0]) (show w101.heap.size = w101.heap.size by first | rfl | simp)
        have gl102 : w.heap.size ≤ w101.heap.size := by first | exact hB101.size | exact Nat.le_refl _ | (have := hB101.size; simp at this ⊢; try omega)
        have hal102 := (Below.refl w101.heap.size w101).alloc (Nat.le_refl _) (.cells #[.int .i64 0, .slice none 0 0] 138)
        have hB102 := hB101.alloc hB101.size (.cells #[.int .i64 0, .slice none 0 0] 138)
        have bx102 := bx101.alloc (.cells #[.int .i64 0, .slice none 0 0] 138)
        have ow_102 := ow101.alloc (.cells #[.int .i64 0, .slice none 0 0] 138)
        have rb_102 := rb_101.lift hal102
        refine ⟨(fun u => At2 u g 39 #[.slice A n c, .slice B m d, .int .i64 x] gr 27 #[.int .i64 3, .int .i64 a1, .int .i64 a2, .int .i64 a3, .int .i64 a4, .int .i64 a5, .int .i64 a6]), fun _ h => h, bx102, ?_⟩
        (try simp only [Act.put, List.setIfInBounds_toArray, List.set_cons_zero, List.set_cons_succ])
        refine any_one 14 rfl (by kernel_rfl) (by rfl) ?_
        go_simp
        have AG103 := At.newAt' (w := w101) (t := 138) (cs := #[.int .i64 z, .slice A101 k101 c101]) (show w101.heap.size = w101.heap.size by first | rfl | simp)
        have hal103 := (Below.refl w101.heap.size w101).alloc (Nat.le_refl _) (.cells #[.int .i64 z, .slice A101 k101 c101] 138)
        have hB103 := hB101.alloc hB101.size (.cells #[.int .i64 z, .slice A101 k101 c101] 138)
        have bx103 := bx101.alloc (.cells #[.int .i64 z, .slice A101 k101 c101] 138)
        have ow_103 := ow101.alloc (.cells #[.int .i64 z, .slice A101 k101 c101] 138)
        have rb_103 := rb_101.lift hal103
        refine ⟨(fun u => At2 u g 39 #[.slice A n c, .slice B m d, .int .i64 x] gr 27 #[.int .i64 3, .int .i64 a1, .int .i64 a2, .int .i64 a3, .int .i64 a4, .int .i64 a5, .int .i64 a6]), fun _ h => h, bx103, ?_⟩
        (try simp only [Act.put, List.setIfInBounds_toArray, List.set_cons_zero, List.set_cons_succ])
        refine any_done (by kernel_rfl) ?_
        go_wp2
        go_meet
        exact ⟨_, _, _, _, rfl, AG103, ow_103.from_ hBd.size, hB103⟩
      · go_simp
        have ag104 := At.newAt' (w := w.drew) (t := 138) (cs := #[.int .i64 0, .slice none 0 0]) (show w.drew.heap.size = w.heap.size by first | rfl | simp)
        have gl104 : w.heap.size ≤ w.heap.size := by first | exact hBd.size | exact Nat.le_refl _ | (have := hBd.size; simp at this ⊢; try omega)
        have hal104 := (Below.refl w.drew.heap.size w.drew).alloc (Nat.le_refl _) (.cells #[.int .i64 0, .slice none 0 0] 138)
        have hB104 := hBd.alloc hBd.size (.cells #[.int .i64 0, .slice none 0 0] 138)
        have bx104 := bxd.alloc (.cells #[.int .i64 0, .slice none 0 0] 138)
        have rb_104 := rbd.lift hal104
        refine ⟨(fun u => At2 u g 39 #[.slice A n c, .slice B m d, .int .i64 x] gr 27 #[.int .i64 3, .int .i64 a1, .int .i64 a2, .int .i64 a3, .int .i64 a4, .int .i64 a5, .int .i64 a6]), fun _ h => h, bx104, ?_⟩
        (try simp only [Act.put, List.setIfInBounds_toArray, List.set_cons_zero, List.set_cons_succ])
        refine any_one 12 rfl (by kernel_rfl) (by rfl) ?_
        go_simp
        refine (SI _ rb_104 Hm.out hdc).mono ?_
        rintro e w105 ⟨A105, k105, c105, rfl, ow105, hb105⟩
        have hB105 := hB104.trans (hb105.mono hB104.size)
        have bx105 := bx104.below hb105 bx104.lt
        have ag_105 := ag104.below hb105 ag104.lt
        have rb_105 := rb_104.lift hb105
        refine ⟨(fun u => At2 u g 39 #[.slice A n c, .slice B m d, .int .i64 x] gr 27 #[.int .i64 3, .int .i64 a1, .int .i64 a2, .int .i64 a3, .int .i64 a4, .int .i64 a5, .int .i64 a6]), fun _ h => h, bx105, ?_⟩
        (try simp only [Act.put, List.setIfInBounds_toArray, List.set_cons_zero, List.set_cons_succ])
        refine any_one 14 rfl (by kernel_rfl) (by rfl) ?_
        obtain ⟨k0, k1, k2, k3⟩ := ag_105.two
        go_simp
        have hltg106 : w.heap.size < w105.heap.size := ag_105.lt
        have AG106 : At ((w105.setCell ⟨w.heap.size, 0, none⟩ (.int .i64 z)).setCell ⟨w.heap.size, 1, none⟩ (.slice A105 k105 c105)) w.heap.size 138 #[.int .i64 z, .slice A105 k105 c105] := ((ag_105.set 0 (.int .i64 z)).set 1 (.slice A105 k105 c105))
        have bx106 := ((bx105.far (p := ⟨w.heap.size, 0, none⟩) (by show g ≠ w.heap.size ∧ gr ≠ w.heap.size; have := gl104; omega) (.int .i64 z)).far (p := ⟨w.heap.size, 1, none⟩) (by show g ≠ w.heap.size ∧ gr ≠ w.heap.size; have := gl104; omega) (.slice A105 k105 c105))
        have hB106 := ((hB105.setCell (p := ⟨w.heap.size, 0, none⟩) gl104 (.int .i64 z)).setCell (p := ⟨w.heap.size, 1, none⟩) gl104 (.slice A105 k105 c105))
        have ow_106 := ow105
        have ow_106 := ow_106.apart (by decide) ag_105 0 (.int .i64 z)
        have ow_106 := ow_106.apart (by decide) ((ag_105.set 0 (.int .i64 z))) 1 (.slice A105 k105 c105)
        refine ⟨(fun u => At2 u g 39 #[.slice A n c, .slice B m d, .int .i64 x] gr 27 #[.int .i64 3, .int .i64 a1, .int .i64 a2, .int .i64 a3, .int .i64 a4, .int .i64 a5, .int .i64 a6]), fun _ h => h, bx106, ?_⟩
        (try simp only [Act.put, List.setIfInBounds_toArray, List.set_cons_zero, List.set_cons_succ])
        refine any_done (by kernel_rfl) ?_
        go_wp2
        go_meet
        exact ⟨_, _, _, _, rfl, AG106, ow_106.from_ hB104.size, hB106⟩
    case rest =>
      obtain ⟨gx, Ax, kx, cx, rfl, AX1, OW1, HB1⟩ := hcut
      obtain ⟨q0, q1, _, _⟩ := AX1.two
      have hxc := hx.below HB1 lx
      clear c0 c1 c2 cf0 cf1 cf2 r0 r1 r2 r3 r4 r5 r6
      obtain ⟨c0, c1, c2, cf0, cf1, cf2⟩ := hxc.three
      have hne : ¬ g = gx := by
        intro e
        subst e
        have := hxc.symm.trans AX1
        simp at this
      by_cases hz0 : z = 0
      · subst hz0
        have Hr := Lib.hid (show stepR (l, h, x) (3, a1, (a2, a3, a4, a5), a6) = (0, (l, st, x)) by rw [Hs.out, if_pos rfl])
        go_wp2
        go_ret
        rw [Hr.out]
        exact ⟨rfl, ⟨A, n, c, Ax, kx, cx, hxc.set 1 (.slice Ax kx cx), (oa.below HB1 (Nat.le_refl _)).apart (by decide) hxc 1 _, (OW1.from_ hbase).apart (by decide) hxc 1 _⟩, grown_trans (grown_any (grown_below HB1 (Nat.le_refl _)) _) (grown_setCell _ ⟨g, 1, none⟩ _)⟩
      · have hzb : (z == 0) = false := by simpa using hz0
        have Hr := Lib.hid (show stepR (l, h, x) (3, a1, (a2, a3, a4, a5), a6) = (z, (l, h, x)) by rw [Hs.out, if_neg hz0])
        clear hz0
        go_wp2
        go_ret
        rw [Hr.out]
        exact ⟨rfl, ⟨A, n, c, B, m, d, hxc, oa.below HB1 (Nat.le_refl _), ob.below HB1 (Nat.le_refl _)⟩, grown_any (grown_below HB1 (Nat.le_refl _)) _⟩
  · have Hs := Lib.hid (step4 (s := (l, h, x)) (p := a1) (y := (a2, a3, a4, a5)) (k := a6) k1 k2 k3)
    have b1 : (a0 == 1) = false := by simpa using k1
    have b2 : (a0 == 2) = false := by simpa using k2
    have b3 : (a0 == 3) = false := by simpa using k3
    clear k1 k2 k3
    by_cases hlt : a6 < x
    all_goals
      first
        | have Hr := Lib.hid (show stepR (l, h, x) (a0, a1, (a2, a3, a4, a5), a6) = (8, (l, h, x)) by rw [Hs.out, if_pos hlt])
        | have Hr := Lib.hid (show stepR (l, h, x) (a0, a1, (a2, a3, a4, a5), a6) = (0, (l, h, a6)) by rw [Hs.out, if_neg hlt])
      go_enter Tryz.func55, Tryz.ntmps55
      go_wp2
      refine wp_region_mix [(0, false), (1, false), (2, false), (3, false), (4, false), (5, false), (6, false), (7, false), (8, false)] (fun u => At2 u g 39 #[.slice A n c, .slice B m d, .int .i64 x] gr 27 #[.int .i64 a0, .int .i64 a1, .int .i64 a2, .int .i64 a3, .int .i64 a4, .int .i64 a5, .int .i64 a6]) (by kernel_rfl) (by kernel_rfl) (fun _ _ _ _ _ h => h) x2.drew ?_
      simp only [mixOps, List.map_cons, List.map_nil, List.getElem?_cons_succ, List.getElem?_cons_zero, Option.getD_some]
      repeat (first
        | (refine mix_skip (by rfl) ?_
           (try simp only [Act.put, List.setIfInBounds_toArray, List.set_cons_zero, List.set_cons_succ]))
        | (refine mix_pure (v := ?_) (by rfl) (fun u hu => ?_) ?_
           rotate_left
           · (obtain ⟨hu1, hu2⟩ := hu; obtain ⟨_, _, _, _, _, _⟩ := At.three hu1; obtain ⟨_, _, _, _, _, _, _⟩ := At.seven hu2)
             go_simp
             (with_reducible rfl)
           (try simp only [Act.put, List.setIfInBounds_toArray, List.set_cons_zero, List.set_cons_succ])))
      refine mix_nil ?_
      go_wp2
      go_ret
      rw [Hr.out]
    · exact ⟨rfl, ⟨A, n, c, B, m, d, hx, oa, ob⟩, grown_any (grown_below ((Below.refl w.heap.size w).drew) (Nat.le_refl _)) _⟩
    · exact ⟨rfl, ⟨A, n, c, B, m, d, (hx.set 2 (.int .i64 a6)).drew, (oa.apart (by decide) hx 2 (.int .i64 a6)).drewN 1, (ob.apart (by decide) hx 2 (.int .i64 a6)).drewN 1⟩, grown_trans (grown_setCell w ⟨g, 2, none⟩ (.int .i64 a6)) (grown_any (grown_below ((Below.refl _ (w.setCell ⟨g, 2, none⟩ (.int .i64 a6))).drew) (Nat.le_refl _)) _)⟩
end Go.Proofs.YtmaillakhhdkfaaGreatDoor
/-
  A record put to a state: the model's ApplyRecord.
-/
namespace Go.Proofs.YtmaillakhhdkfaaGreatDoor
set_option maxRecDepth 20000
open Go.RowKit
set_option linter.unusedSimpArgs false
set_option linter.unusedVariables false
attribute [local irreducible] mixW

/-- A code and a state of the call's own. -/
def RetSta (r : Int × Sta) (w : World) (e : Ending) (w' : World) : Prop := ∃ A n c B m d, e = .returned (.agg #[.int .i64 r.1, .slice A n c, .slice B m d, .int .i64 r.2.2.2]) ∧ Ow eS w' w.heap.size A n c r.2.1 ∧ Ow eH w' w.heap.size B m d r.2.2.1 ∧ Below w.heap.size w w'
theorem retSta_zero {w w' : World} {z : Int} (hb : Below w.heap.size w w') : RetSta (z, zeroSta) w (.returned (.agg #[.int .i64 z, .slice none 0 0, .slice none 0 0, .int .i64 0])) w' := ⟨none, 0, 0, none, 0, 0, rfl, Ow.nil, Ow.nil, hb⟩
set_option maxHeartbeats 8000000 in
theorem specApplyRecord (A B : Option Addr) (n c m d : Nat) (l : List Smp) (h : List Hnt) (x a0 a1 a2 a3 a4 a5 a6 : Int) (w : World) (ha : Rd eS w w.heap.size A l) (hb : Rd eH w w.heap.size B h) (hn : l.length = n) (hm : h.length = m) (hn1 : n ≤ 1048576) (hm1 : m ≤ 1048576) :
    Calls Tryz.prog 16 #[.agg #[.slice A n c, .slice B m d, .int .i64 x], .agg #[.int .i64 a0, .int .i64 a1, .int .i64 a2, .int .i64 a3, .int .i64 a4, .int .i64 a5, .int .i64 a6]] w (RetSta (applyM (l, h, x) (a0, a1, (a2, a3, a4, a5), a6)) w) := by
  have hB0 : Below w.heap.size w (((w.alloc (.cells #[.slice A n c, .slice B m d, .int .i64 x] 39)).alloc (.cells #[.int .i64 a0, .int .i64 a1, .int .i64 a2, .int .i64 a3, .int .i64 a4, .int .i64 a5, .int .i64 a6] 27)).alloc (.cells #[.int .i64 0, .slice none 0 0, .slice none 0 0, .int .i64 0] 43)) := (((Below.refl _ _).alloc (Nat.le_refl _) _).alloc (by simp) _).alloc (by simp; omega) _
  have sx := ((At.new w 39 #[.slice A n c, .slice B m d, .int .i64 x]).alloc (.cells #[.int .i64 a0, .int .i64 a1, .int .i64 a2, .int .i64 a3, .int .i64 a4, .int .i64 a5, .int .i64 a6] 27)).alloc (.cells #[.int .i64 0, .slice none 0 0, .slice none 0 0, .int .i64 0] 43)
  have rx : At (((w.alloc (.cells #[.slice A n c, .slice B m d, .int .i64 x] 39)).alloc (.cells #[.int .i64 a0, .int .i64 a1, .int .i64 a2, .int .i64 a3, .int .i64 a4, .int .i64 a5, .int .i64 a6] 27)).alloc (.cells #[.int .i64 0, .slice none 0 0, .slice none 0 0, .int .i64 0] 43)) (w.heap.size + 1) 27 #[.int .i64 a0, .int .i64 a1, .int .i64 a2, .int .i64 a3, .int .i64 a4, .int .i64 a5, .int .i64 a6] := by
    have := (At.new (w.alloc (.cells #[.slice A n c, .slice B m d, .int .i64 x] 39)) 27 #[.int .i64 a0, .int .i64 a1, .int .i64 a2, .int .i64 a3, .int .i64 a4, .int .i64 a5, .int .i64 a6]).alloc (.cells #[.int .i64 0, .slice none 0 0, .slice none 0 0, .int .i64 0] 43)
    simpa using this
  have zx : At (((w.alloc (.cells #[.slice A n c, .slice B m d, .int .i64 x] 39)).alloc (.cells #[.int .i64 a0, .int .i64 a1, .int .i64 a2, .int .i64 a3, .int .i64 a4, .int .i64 a5, .int .i64 a6] 27)).alloc (.cells #[.int .i64 0, .slice none 0 0, .slice none 0 0, .int .i64 0] 43)) (w.heap.size + 2) 43 #[.int .i64 0, .slice none 0 0, .slice none 0 0, .int .i64 0] := by
    have := At.new ((w.alloc (.cells #[.slice A n c, .slice B m d, .int .i64 x] 39)).alloc (.cells #[.int .i64 a0, .int .i64 a1, .int .i64 a2, .int .i64 a3, .int .i64 a4, .int .i64 a5, .int .i64 a6] 27)) 43 #[.int .i64 0, .slice none 0 0, .slice none 0 0, .int .i64 0]
    simpa using this
  have ha0 := ha.lift hB0
  have hb0 := hb.lift hB0
  have SF := specStateFault A B n c m d l h x _ ha0 hb0 hn hm
  have Hn := Lib.hid hn
  have Hm := Lib.hid hm
  clear hn hm ha hb
  obtain ⟨sc0, sc1, sc2, _, _, _⟩ := sx.three
  obtain ⟨zc0, zc1, zc2, zc3, zf0, zf1, zf2, zf3⟩ := zx.four
  by_cases hs : stateFaultM (l, h, x) = 0
  rotate_left
  · have Hr := Lib.hid (show applyM (l, h, x) (a0, a1, (a2, a3, a4, a5), a6) = (stateFaultM (l, h, x), zeroSta) from if_pos hs)
    have hne : (stateFaultM (l, h, x) != 0) = true := by rw [bne_iff_ne]; exact hs
    rw [Hr.out]
    clear Hr hs
    generalize stateFaultM (l, h, x) = sf at *
    go_enter Tryz.func16, Tryz.ntmps16
    go_wp2_with fail
    refine SF.mono ?_
    rintro e w1 ⟨rfl, hb1⟩
    have hB1 := hB0.trans (hb1.mono hB0.size)
    have zx1 := zx.below hb1 zx.lt
    clear zc0 zc1 zc2 zc3 zf0 zf1 zf2 zf3
    obtain ⟨zc0, zc1, zc2, zc3, zf0, zf1, zf2, zf3⟩ := zx1.four
    go_wp2_with fail
    refine bodyPost_ret (v := .agg #[.int .i64 sf, .slice none 0 0, .slice none 0 0, .int .i64 0]) (by simp [results, Tryz.results16, go_sem, zc0, zc1, zc2, zc3]) rfl ?_
    exact retSta_zero ((((hB1.setCell (by simp; omega) _).setCell (by simp; omega) _).setCell (by simp; omega) _).setCell (by simp; omega) _)
  rw [hs] at SF
  have hse : ((0 : Int) != 0) = false := by decide
  have RF := specRecordFault a0 a1 a2 a3 a4 a5 a6
  by_cases hr : recFaultM (a0, a1, (a2, a3, a4, a5), a6) = 0
  rotate_left
  · have Hr := Lib.hid (show applyM (l, h, x) (a0, a1, (a2, a3, a4, a5), a6) = (recFaultM (a0, a1, (a2, a3, a4, a5), a6), zeroSta) by unfold applyM; rw [if_neg (by simp [hs]), if_pos hr])
    have hne : (recFaultM (a0, a1, (a2, a3, a4, a5), a6) != 0) = true := by rw [bne_iff_ne]; exact hr
    rw [Hr.out]
    clear Hr hs hr
    generalize recFaultM (a0, a1, (a2, a3, a4, a5), a6) = sf at *
    go_enter Tryz.func16, Tryz.ntmps16
    go_wp2_with fail
    refine SF.mono ?_
    rintro e w1 ⟨rfl, hb1⟩
    have hB1 := hB0.trans (hb1.mono hB0.size)
    have zx1 := zx.below hb1 zx.lt
    have rx1 := rx.below hb1 rx.lt
    clear zc0 zc1 zc2 zc3 zf0 zf1 zf2 zf3
    obtain ⟨rc0, rc1, rc2, rc3, rc4, rc5, rc6⟩ := rx1.seven
    go_wp2_with fail
    refine (RF _).mono ?_
    rintro e w2 ⟨rfl, hb2⟩
    have hB2 := hB1.trans (hb2.mono hB1.size)
    have zx2 := zx1.below hb2 zx1.lt
    obtain ⟨zc0, zc1, zc2, zc3, zf0, zf1, zf2, zf3⟩ := zx2.four
    go_wp2_with fail
    refine bodyPost_ret (v := .agg #[.int .i64 sf, .slice none 0 0, .slice none 0 0, .int .i64 0]) (by simp [results, Tryz.results16, go_sem, zc0, zc1, zc2, zc3]) rfl ?_
    exact retSta_zero ((((hB2.setCell (by simp; omega) _).setCell (by simp; omega) _).setCell (by simp; omega) _).setCell (by simp; omega) _)
  rw [hr] at RF
  have Hr := Lib.hid (apply_right hs hr)
  rcases hq : stepR (l, h, x) (a0, a1, (a2, a3, a4, a5), a6) with ⟨tc, tl, th, tx⟩
  rw [hq] at Hr
  have LA := fun g gr base A B n c m d W hx hr oa ob hbase hn1 => l5Apply g gr base A B n c m d l h x a0 a1 a2 a3 a4 a5 a6 W hx hr oa ob hbase hn1
  rw [hq] at LA
  clear hq hs hr
  go_enter Tryz.func16, Tryz.ntmps16
  go_wp2_with fail
  refine SF.mono ?_
  rintro e w1 ⟨rfl, hb1⟩
  have hB1 := hB0.trans (hb1.mono hB0.size)
  have zx1 := zx.below hb1 zx.lt
  have rx1 := rx.below hb1 rx.lt
  have sx1 := sx.below hb1 sx.lt
  have ha1 := ha0.lift hb1
  have hbb1 := hb0.lift hb1
  clear zc0 zc1 zc2 zc3 zf0 zf1 zf2 zf3 sc0 sc1 sc2
  obtain ⟨rc0, rc1, rc2, rc3, rc4, rc5, rc6⟩ := rx1.seven
  go_wp2_with fail
  refine (RF _).mono ?_
  rintro e w2 ⟨rfl, hb2⟩
  have hB2 := hB1.trans (hb2.mono hB1.size)
  have zx2 := zx1.below hb2 zx1.lt
  have rx2 := rx1.below hb2 rx1.lt
  have sx2 := sx1.below hb2 sx1.lt
  go_wp2_with fail
  refine (l5Copy w.heap.size A B n c m d l h x _ sx2 (ha1.lift hb2) (hbb1.lift hb2) Hn.out Hm.out hn1 hm1).mono ?_
  rintro e w3 ⟨A1, c1, B1, d1, rfl, oa3, ob3, hb3⟩
  have hB3 := hB2.trans (hb3.mono hB2.size)
  have zx3 := zx2.below hb3 zx2.lt
  have rx3 := rx2.below hb3 rx2.lt
  have lz3 := zx3.lt
  have zx4 := zx3.alloc (.cells #[.slice A1 n c1, .slice B1 m d1, .int .i64 x] 39)
  have rx4 := rx3.alloc (.cells #[.slice A1 n c1, .slice B1 m d1, .int .i64 x] 39)
  have cx4 := At.new w3 39 #[.slice A1 n c1, .slice B1 m d1, .int .i64 x]
  have oa4 := oa3.alloc (.cells #[.slice A1 n c1, .slice B1 m d1, .int .i64 x] 39)
  have ob4 := ob3.alloc (.cells #[.slice A1 n c1, .slice B1 m d1, .int .i64 x] 39)
  have hB4 := hB3.alloc hB3.size (.cells #[.slice A1 n c1, .slice B1 m d1, .int .i64 x] 39)
  go_wp2_with fail
  refine (LA w3.heap.size (w.heap.size + 1) w2.heap.size A1 B1 n c1 m d1 _ cx4 rx4 oa4 ob4 (Nat.le_trans hb3.size (by simp)) hn1).mono ?_
  rintro e w5 ⟨rfl, ⟨A5, n5, c5, B5, m5, d5, cx5, oa5, ob5⟩, hg5⟩
  have zx5 := zx4.grown hg5 (by simp; omega)
  have hB5 : Below w.heap.size w w5 := hB4.grown hg5 hB4.size (fun k hk => by obtain rfl : w3.heap.size = k := (by simpa using hk); exact hB3.size)
  have lz2 := zx2.lt
  obtain ⟨zc0, zc1, zc2, zc3, zf0, zf1, zf2, zf3⟩ := zx5.four
  obtain ⟨cc0, cc1, cc2, _, _, _⟩ := cx5.three
  by_cases h0 : tc = 0
  · subst h0
    go_wp2_with fail
    refine bodyPost_ret (v := .agg #[.int .i64 0, .slice A5 n5 c5, .slice B5 m5 d5, .int .i64 tx]) (by simp [results, Tryz.results16, go_sem, zc0, zc1, zc2, zc3]) rfl ?_
    rw [Hr.out]
    first | rw [if_pos rfl] | rw [if_pos trivial]
    exact ⟨A5, n5, c5, B5, m5, d5, rfl, ((((oa5.under (p := ⟨w.heap.size + 2, 0, none⟩) lz2 _).under (p := ⟨w.heap.size + 2, 1, none⟩) lz2 _).under (p := ⟨w.heap.size + 2, 2, none⟩) lz2 _).under (p := ⟨w.heap.size + 2, 3, none⟩) lz2 _).from_ hB2.size, ((((ob5.under (p := ⟨w.heap.size + 2, 0, none⟩) lz2 _).under (p := ⟨w.heap.size + 2, 1, none⟩) lz2 _).under (p := ⟨w.heap.size + 2, 2, none⟩) lz2 _).under (p := ⟨w.heap.size + 2, 3, none⟩) lz2 _).from_ hB2.size, (((hB5.setCell (by simp; omega) _).setCell (by simp; omega) _).setCell (by simp; omega) _).setCell (by simp; omega) _⟩
  · have hne : (tc != 0) = true := by rw [bne_iff_ne]; exact h0
    have H0 := Lib.hid h0
    clear h0
    go_wp2_with fail
    refine bodyPost_ret (v := .agg #[.int .i64 tc, .slice none 0 0, .slice none 0 0, .int .i64 0]) (by simp [results, Tryz.results16, go_sem, zc0, zc1, zc2, zc3]) rfl ?_
    rw [Hr.out, if_neg H0.out]
    exact retSta_zero ((((hB5.setCell (by simp; omega) _).setCell (by simp; omega) _).setCell (by simp; omega) _).setCell (by simp; omega) _)
end Go.Proofs.YtmaillakhhdkfaaGreatDoor
