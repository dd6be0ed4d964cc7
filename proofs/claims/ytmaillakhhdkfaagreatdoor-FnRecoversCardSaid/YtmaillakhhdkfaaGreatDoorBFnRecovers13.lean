/-
  Texts of one proof, joined: each has its own namespace.
-/
import Derived.Test.YtmaillakhhdkfaaGreatDoorBFnRecovers7
import Derived.Test.YtmaillakhhdkfaaGreatDoorBFnRecovers10
import Derived.Deep.DeepCutAuto
import Derived.Test.YtmaillakhhdkfaaGreatDoorBFnRecovers6
import Derived.Test.YtmaillakhhdkfaaGreatDoorBFnRecovers11
import Derived.Test.YtmaillakhhdkfaaGreatDoorBFnRecovers5
import Derived.Test.YtmaillakhhdkfaaGreatDoorBFnRecovers12
/-
  A right record put to a state of one's own: the model's.
-/
namespace Go.Proofs.YtmaillakhhdkfaaGreatDoor
set_option maxRecDepth 20000
open Go.RowKit
set_option linter.unusedSimpArgs false
set_option linter.unusedVariables false
attribute [local irreducible] mixW

theorem step1 {s : Sta} {p : Int} {y : Smp} {k : Int} {z : Int} {b : Bool} {st : List Smp} (h : insertM s.1 y = (z, b, st)) : stepR s (1, p, y, k) = if z = 0 then (0, (st, s.2.1, s.2.2)) else (z, s) := by unfold stepR; rw [if_pos rfl, h]
theorem step2 {s : Sta} {p : Int} {y : Smp} {k : Int} {z : Int} {st : List Hnt} (h : addM s.2.1 p y = (z, st)) : stepR s (2, p, y, k) = if z = 0 then (0, (s.1, st, s.2.2)) else (z, s) := by unfold stepR; rw [if_neg ne21, if_pos rfl, h]
theorem step3 {s : Sta} {p : Int} {y : Smp} {k : Int} {z : Int} {st : List Hnt} (h : doneM s.2.1 p k = (z, st)) : stepR s (3, p, y, k) = if z = 0 then (0, (s.1, st, s.2.2)) else (z, s) := by unfold stepR; rw [if_neg ne31, if_neg ne32, if_pos rfl, h]
theorem step4 {s : Sta} {r0 p : Int} {y : Smp} {k : Int} (h1 : r0 ≠ 1) (h2 : r0 ≠ 2) (h3 : r0 ≠ 3) : stepR s (r0, p, y, k) = if k < s.2.2 then (8, s) else (0, (s.1, s.2.1, k)) := by unfold stepR; rw [if_neg h1, if_neg h2, if_neg h3]

/-- What the state's block and rows are behind the step. -/
def StaAt (w : World) (g base : Nat) (s : Sta) : Prop := ∃ A n c B m d, At w g 39 #[.slice A n c, .slice B m d, .int .i64 s.2.2] ∧ Ow eS w base A n c s.1 ∧ Ow eH w base B m d s.2.1
set_option maxHeartbeats 8000000 in
theorem l5Apply (g gr base : Nat) (A B : Option Addr) (n c m d : Nat) (l : List Smp) (h : List Hnt) (x a0 a1 a2 a3 a4 a5 a6 : Int) (w : World) (hx : At w g 39 #[.slice A n c, .slice B m d, .int .i64 x]) (hr : At w gr 27 #[.int .i64 a0, .int .i64 a1, .int .i64 a2, .int .i64 a3, .int .i64 a4, .int .i64 a5, .int .i64 a6]) (oa : Ow eS w base A n c l) (ob : Ow eH w base B m d h) (hbase : base ≤ w.heap.size) (hn1 : n ≤ 1048576) :
    Calls Tryz.prog 55 #[.pointer (some ⟨g, 0, none⟩), .pointer (some ⟨gr, 0, none⟩)] w fun e w' => e = .returned (.int .i64 (stepR (l, h, x) (a0, a1, (a2, a3, a4, a5), a6)).1) ∧ StaAt w' g base (stepR (l, h, x) (a0, a1, (a2, a3, a4, a5), a6)).2 ∧ w.grownBy w' (some g) := by
  have lx := hx.lt
  have lr := hr.lt
  have x2 : At2 w g 39 #[.slice A n c, .slice B m d, .int .i64 x] gr 27 #[.int .i64 a0, .int .i64 a1, .int .i64 a2, .int .i64 a3, .int .i64 a4, .int .i64 a5, .int .i64 a6] := ⟨hx, hr⟩
  have Hn := Lib.hid (oa.len okS)
  have Hm := Lib.hid (ob.len okH)
  have ra := oa.rd okS
  have rb := ob.rd okH
  have hdc := ob.cap
  obtain ⟨c0, c1, c2, cf0, cf1, cf2⟩ := hx.three
  obtain ⟨r0, r1, r2, r3, r4, r5, r6⟩ := hr.seven
  by_cases k1 : a0 = 1
  · subst k1
    obtain ⟨z, nw, st, hz⟩ : ∃ z b st, insertM l (a2, a3, a4, a5) = (z, b, st) := ⟨_, _, _, rfl⟩
    have Hs := Lib.hid (step1 (s := (l, h, x)) (p := a1) (k := a6) hz)
    have SI := specInsertSample A n c l a2 a3 a4 a5
    rw [hz] at SI
    clear hz
    go_enter Tryz.func55, Tryz.ntmps55
    go_upto_region 3 with fail
    go_cut [5] (fun s wx => ∃ gx Ax kx cx, s = .pointer (some ⟨gx, 0, none⟩) ∧ At wx gx 135 #[.int .i64 z, .bool nw, .slice Ax kx cx] ∧ Ow eS wx w.heap.size Ax kx cx st ∧ Below w.heap.size w wx)
    case first =>
      refine any_start (fun u => At2 u g 39 #[.slice A n c, .slice B m d, .int .i64 x] gr 27 #[.int .i64 1, .int .i64 a1, .int .i64 a2, .int .i64 a3, .int .i64 a4, .int .i64 a5, .int .i64 a6]) (by kernel_rfl) x2.drew (fun _ => ?_)
      have bxd := x2.drew
      have hBd := (Below.refl w.heap.size w).drew
      have rad : _ := ra.lift ((Below.refl _ _).drew)
      refine any_pure (v := ?_) 0 rfl (by kernel_rfl) (fun _ _ _ _ _ h => h) (by rfl) (fun u hu => ?_) bxd ?_
      rotate_left
      · (obtain ⟨hu1, hu2⟩ := hu; obtain ⟨_, _, _, _, _, _⟩ := At.three hu1; obtain ⟨_, _, _, _, _, _, _⟩ := At.seven hu2)
        go_simp
        (with_reducible rfl)
      (try simp only [Act.put, List.setIfInBounds_toArray, List.set_cons_zero, List.set_cons_succ])
      refine any_pure (v := ?_) 1 rfl (by kernel_rfl) (fun _ _ _ _ _ h => h) (by rfl) (fun u hu => ?_) bxd ?_
      rotate_left
      · (obtain ⟨hu1, hu2⟩ := hu; obtain ⟨_, _, _, _, _, _⟩ := At.three hu1; obtain ⟨_, _, _, _, _, _, _⟩ := At.seven hu2)
        go_simp
        (with_reducible rfl)
      (try simp only [Act.put, List.setIfInBounds_toArray, List.set_cons_zero, List.set_cons_succ])
      refine any_pure (v := ?_) 2 rfl (by kernel_rfl) (fun _ _ _ _ _ h => h) (by rfl) (fun u hu => ?_) bxd ?_
      rotate_left
      · (obtain ⟨hu1, hu2⟩ := hu; obtain ⟨_, _, _, _, _, _⟩ := At.three hu1; obtain ⟨_, _, _, _, _, _, _⟩ := At.seven hu2)
        go_simp
        (with_reducible rfl)
      (try simp only [Act.put, List.setIfInBounds_toArray, List.set_cons_zero, List.set_cons_succ])
      refine any_pure (v := ?_) 3 rfl (by kernel_rfl) (fun _ _ _ _ _ h => h) (by rfl) (fun u hu => ?_) bxd ?_
      rotate_left
      · (obtain ⟨hu1, hu2⟩ := hu; obtain ⟨_, _, _, _, _, _⟩ := At.three hu1; obtain ⟨_, _, _, _, _, _, _⟩ := At.seven hu2)
        go_simp
        (with_reducible rfl)
      (try simp only [Act.put, List.setIfInBounds_toArray, List.set_cons_zero, List.set_cons_succ])
      refine any_pure (v := ?_) 4 rfl (by kernel_rfl) (fun _ _ _ _ _ h => h) (by rfl) (fun u hu => ?_) bxd ?_
      rotate_left
      · (obtain ⟨hu1, hu2⟩ := hu; obtain ⟨_, _, _, _, _, _⟩ := At.three hu1; obtain ⟨_, _, _, _, _, _, _⟩ := At.seven hu2)
        go_simp
        (with_reducible rfl)
      (try simp only [Act.put, List.setIfInBounds_toArray, List.set_cons_zero, List.set_cons_succ])
      refine any_pure (v := ?_) 5 rfl (by kernel_rfl) (fun _ _ _ _ _ h => h) (by rfl) (fun u hu => ?_) bxd ?_
      rotate_left
      · (obtain ⟨hu1, hu2⟩ := hu; obtain ⟨_, _, _, _, _, _⟩ := At.three hu1; obtain ⟨_, _, _, _, _, _, _⟩ := At.seven hu2)
        go_simp
        (with_reducible rfl)
      (try simp only [Act.put, List.setIfInBounds_toArray, List.set_cons_zero, List.set_cons_succ])
      refine any_pure (v := ?_) 6 rfl (by kernel_rfl) (fun _ _ _ _ _ h => h) (by rfl) (fun u hu => ?_) bxd ?_
      rotate_left
      · (obtain ⟨hu1, hu2⟩ := hu; obtain ⟨_, _, _, _, _, _⟩ := At.three hu1; obtain ⟨_, _, _, _, _, _, _⟩ := At.seven hu2)
        go_simp
        (with_reducible rfl)
      (try simp only [Act.put, List.setIfInBounds_toArray, List.set_cons_zero, List.set_cons_succ])
      refine any_pure (v := ?_) 7 rfl (by kernel_rfl) (fun _ _ _ _ _ h => h) (by rfl) (fun u hu => ?_) bxd ?_
      rotate_left
      · (obtain ⟨hu1, hu2⟩ := hu; obtain ⟨_, _, _, _, _, _⟩ := At.three hu1; obtain ⟨_, _, _, _, _, _, _⟩ := At.seven hu2)
        go_simp
        (with_reducible rfl)
      (try simp only [Act.put, List.setIfInBounds_toArray, List.set_cons_zero, List.set_cons_succ])
      refine any_two 8 9 rfl rfl (by kernel_rfl) (by rfl) (by rfl) ?_ ?_
      · go_simp
        refine (SI _ rad Hn.out hn1).mono ?_
        rintro e w101 ⟨A101, k101, c101, rfl, ow101, hb101⟩
        have hB101 := hBd.trans (hb101.mono hBd.size)
        have bx101 := bxd.below hb101 bxd.lt
        have ra_101 := rad.lift hb101
        refine ⟨(fun u => At2 u g 39 #[.slice A n c, .slice B m d, .int .i64 x] gr 27 #[.int .i64 1, .int .i64 a1, .int .i64 a2, .int .i64 a3, .int .i64 a4, .int .i64 a5, .int .i64 a6]), fun _ h => h, bx101, ?_⟩
        (try simp only [Act.put, List.setIfInBounds_toArray, List.set_cons_zero, List.set_cons_succ])
        refine any_one 9 rfl (by kernel_rfl) (by rfl) ?_
        go_simp
        have ag102 := At.newAt' (w := w101) (t := 135) (cs := #[.int .i64 0, .bool false, .slice none 0 0]) (show w101.heap.size = w101.heap.size by first | rfl | simp)
        have gl102 : w.heap.size ≤ w101.heap.size := by first | exact hB101.size | exact Nat.le_refl _ | (have := hB101.size; simp at this ⊢; try omega)
        have hal102 := (Below.refl w101.heap.size w101).alloc (Nat.le_refl _) (.cells #[.int .i64 0, .bool false, .slice none 0 0] 135)
        have hB102 := hB101.alloc hB101.size (.cells #[.int .i64 0, .bool false, .slice none 0 0] 135)
        have bx102 := bx101.alloc (.cells #[.int .i64 0, .bool false, .slice none 0 0] 135)
        have ow_102 := ow101.alloc (.cells #[.int .i64 0, .bool false, .slice none 0 0] 135)
        have ra_102 := ra_101.lift hal102
        refine ⟨(fun u => At2 u g 39 #[.slice A n c, .slice B m d, .int .i64 x] gr 27 #[.int .i64 1, .int .i64 a1, .int .i64 a2, .int .i64 a3, .int .i64 a4, .int .i64 a5, .int .i64 a6]), fun _ h => h, bx102, ?_⟩
        (try simp only [Act.put, List.setIfInBounds_toArray, List.set_cons_zero, List.set_cons_succ])
        refine any_one 10 rfl (by kernel_rfl) (by rfl) ?_
        go_simp
        have AG103 := At.newAt' (w := w101) (t := 135) (cs := #[.int .i64 z, .bool nw, .slice A101 k101 c101]) (show w101.heap.size = w101.heap.size by first | rfl | simp)
        have hal103 := (Below.refl w101.heap.size w101).alloc (Nat.le_refl _) (.cells #[.int .i64 z, .bool nw, .slice A101 k101 c101] 135)
        have hB103 := hB101.alloc hB101.size (.cells #[.int .i64 z, .bool nw, .slice A101 k101 c101] 135)
        have bx103 := bx101.alloc (.cells #[.int .i64 z, .bool nw, .slice A101 k101 c101] 135)
        have ow_103 := ow101.alloc (.cells #[.int .i64 z, .bool nw, .slice A101 k101 c101] 135)
        have ra_103 := ra_101.lift hal103
        refine ⟨(fun u => At2 u g 39 #[.slice A n c, .slice B m d, .int .i64 x] gr 27 #[.int .i64 1, .int .i64 a1, .int .i64 a2, .int .i64 a3, .int .i64 a4, .int .i64 a5, .int .i64 a6]), fun _ h => h, bx103, ?_⟩
        (try simp only [Act.put, List.setIfInBounds_toArray, List.set_cons_zero, List.set_cons_succ])
        refine any_done (by kernel_rfl) ?_
        go_wp2
        go_meet
        exact ⟨_, _, _, _, rfl, AG103, ow_103.from_ hBd.size, hB103⟩
      · go_simp
        have ag104 := At.newAt' (w := w.drew) (t := 135) (cs := #[.int .i64 0, .bool false, .slice none 0 0]) (show w.drew.heap.size = w.heap.size by first | rfl | simp)
        have gl104 : w.heap.size ≤ w.heap.size := by first | exact hBd.size | exact Nat.le_refl _ | (have := hBd.size; simp at this ⊢; try omega)
        have hal104 := (Below.refl w.drew.heap.size w.drew).alloc (Nat.le_refl _) (.cells #[.int .i64 0, .bool false, .slice none 0 0] 135)
        have hB104 := hBd.alloc hBd.size (.cells #[.int .i64 0, .bool false, .slice none 0 0] 135)
        have bx104 := bxd.alloc (.cells #[.int .i64 0, .bool false, .slice none 0 0] 135)
        have ra_104 := rad.lift hal104
        refine ⟨(fun u => At2 u g 39 #[.slice A n c, .slice B m d, .int .i64 x] gr 27 #[.int .i64 1, .int .i64 a1, .int .i64 a2, .int .i64 a3, .int .i64 a4, .int .i64 a5, .int .i64 a6]), fun _ h => h, bx104, ?_⟩
        (try simp only [Act.put, List.setIfInBounds_toArray, List.set_cons_zero, List.set_cons_succ])
        refine any_one 8 rfl (by kernel_rfl) (by rfl) ?_
        go_simp
        refine (SI _ ra_104 Hn.out hn1).mono ?_
        rintro e w105 ⟨A105, k105, c105, rfl, ow105, hb105⟩
        have hB105 := hB104.trans (hb105.mono hB104.size)
        have bx105 := bx104.below hb105 bx104.lt
        have ag_105 := ag104.below hb105 ag104.lt
        have ra_105 := ra_104.lift hb105
        refine ⟨(fun u => At2 u g 39 #[.slice A n c, .slice B m d, .int .i64 x] gr 27 #[.int .i64 1, .int .i64 a1, .int .i64 a2, .int .i64 a3, .int .i64 a4, .int .i64 a5, .int .i64 a6]), fun _ h => h, bx105, ?_⟩
        (try simp only [Act.put, List.setIfInBounds_toArray, List.set_cons_zero, List.set_cons_succ])
        refine any_one 10 rfl (by kernel_rfl) (by rfl) ?_
        obtain ⟨k0, k1, k2, k3, k4, k5⟩ := ag_105.three
        go_simp
        have hltg106 : w.heap.size < w105.heap.size := ag_105.lt
        have AG106 : At (((w105.setCell ⟨w.heap.size, 0, none⟩ (.int .i64 z)).setCell ⟨w.heap.size, 1, none⟩ (.bool nw)).setCell ⟨w.heap.size, 2, none⟩ (.slice A105 k105 c105)) w.heap.size 135 #[.int .i64 z, .bool nw, .slice A105 k105 c105] := (((ag_105.set 0 (.int .i64 z)).set 1 (.bool nw)).set 2 (.slice A105 k105 c105))
        have bx106 := (((bx105.far (p := ⟨w.heap.size, 0, none⟩) (by show g ≠ w.heap.size ∧ gr ≠ w.heap.size; have := gl104; omega) (.int .i64 z)).far (p := ⟨w.heap.size, 1, none⟩) (by show g ≠ w.heap.size ∧ gr ≠ w.heap.size; have := gl104; omega) (.bool nw)).far (p := ⟨w.heap.size, 2, none⟩) (by show g ≠ w.heap.size ∧ gr ≠ w.heap.size; have := gl104; omega) (.slice A105 k105 c105))
        have hB106 := (((hB105.setCell (p := ⟨w.heap.size, 0, none⟩) gl104 (.int .i64 z)).setCell (p := ⟨w.heap.size, 1, none⟩) gl104 (.bool nw)).setCell (p := ⟨w.heap.size, 2, none⟩) gl104 (.slice A105 k105 c105))
        have ow_106 := ow105
        have ow_106 := ow_106.apart (by decide) ag_105 0 (.int .i64 z)
        have ow_106 := ow_106.apart (by decide) ((ag_105.set 0 (.int .i64 z))) 1 (.bool nw)
        have ow_106 := ow_106.apart (by decide) (((ag_105.set 0 (.int .i64 z)).set 1 (.bool nw))) 2 (.slice A105 k105 c105)
        refine ⟨(fun u => At2 u g 39 #[.slice A n c, .slice B m d, .int .i64 x] gr 27 #[.int .i64 1, .int .i64 a1, .int .i64 a2, .int .i64 a3, .int .i64 a4, .int .i64 a5, .int .i64 a6]), fun _ h => h, bx106, ?_⟩
        (try simp only [Act.put, List.setIfInBounds_toArray, List.set_cons_zero, List.set_cons_succ])
        refine any_done (by kernel_rfl) ?_
        go_wp2
        go_meet
        exact ⟨_, _, _, _, rfl, AG106, ow_106.from_ hB104.size, hB106⟩
    case rest =>
      obtain ⟨gx, Ax, kx, cx, rfl, AX1, OW1, HB1⟩ := hcut
      obtain ⟨q0, q1, q2, _, _, _⟩ := AX1.three
      have hxc := hx.below HB1 lx
      clear c0 c1 c2 cf0 cf1 cf2 r0 r1 r2 r3 r4 r5 r6
      obtain ⟨c0, c1, c2, cf0, cf1, cf2⟩ := hxc.three
      have hne : ¬ g = gx := by
        intro e
        subst e
        have := hxc.symm.trans AX1
        simp at this
      by_cases hz0 : z = 0
      · subst hz0
        have Hr := Lib.hid (show stepR (l, h, x) (1, a1, (a2, a3, a4, a5), a6) = (0, (st, h, x)) by rw [Hs.out, if_pos rfl])
        go_wp2
        go_ret
        rw [Hr.out]
        exact ⟨rfl, ⟨Ax, kx, cx, B, m, d, hxc.set 0 (.slice Ax kx cx), (OW1.from_ hbase).apart (by decide) hxc 0 _, (ob.below HB1 (Nat.le_refl _)).apart (by decide) hxc 0 _⟩, grown_trans (grown_any (grown_below HB1 (Nat.le_refl _)) _) (grown_setCell _ ⟨g, 0, none⟩ _)⟩
      · have hzb : (z == 0) = false := by simpa using hz0
        have Hr := Lib.hid (show stepR (l, h, x) (1, a1, (a2, a3, a4, a5), a6) = (z, (l, h, x)) by rw [Hs.out, if_neg hz0])
        clear hz0
        go_wp2
        go_ret
        rw [Hr.out]
        exact ⟨rfl, ⟨A, n, c, B, m, d, hxc, oa.below HB1 (Nat.le_refl _), ob.below HB1 (Nat.le_refl _)⟩, grown_any (grown_below HB1 (Nat.le_refl _)) _⟩
  by_cases k2 : a0 = 2
  · subst k2
    obtain ⟨z, st, hz⟩ : ∃ z st, addM h a1 (a2, a3, a4, a5) = (z, st) := ⟨_, _, rfl⟩
    have Hs := Lib.hid (step2 (s := (l, h, x)) (k := a6) hz)
    have SI := specAddHint B m d h a1 a2 a3 a4 a5
    rw [hz] at SI
    clear hz
    go_enter Tryz.func55, Tryz.ntmps55
    go_upto_region 8 with fail
    go_cut [6] (fun s wx => ∃ gx Ax kx cx, s = .pointer (some ⟨gx, 0, none⟩) ∧ At wx gx 138 #[.int .i64 z, .slice Ax kx cx] ∧ Ow eH wx w.heap.size Ax kx cx st ∧ Below w.heap.size w wx)
    case first =>
      refine any_start (fun u => At2 u g 39 #[.slice A n c, .slice B m d, .int .i64 x] gr 27 #[.int .i64 2, .int .i64 a1, .int .i64 a2, .int .i64 a3, .int .i64 a4, .int .i64 a5, .int .i64 a6]) (by kernel_rfl) x2.drew (fun _ => ?_)
      have bxd := x2.drew
      have hBd := (Below.refl w.heap.size w).drew
      have rbd : _ := rb.lift ((Below.refl _ _).drew)
      refine any_pure (v := ?_) 0 rfl (by kernel_rfl) (fun _ _ _ _ _ h => h) (by rfl) (fun u hu => ?_) bxd ?_
      rotate_left
      · (obtain ⟨hu1, hu2⟩ := hu; obtain ⟨_, _, _, _, _, _⟩ := At.three hu1; obtain ⟨_, _, _, _, _, _, _⟩ := At.seven hu2)
        go_simp
        (with_reducible rfl)
      (try simp only [Act.put, List.setIfInBounds_toArray, List.set_cons_zero, List.set_cons_succ])
      refine any_pure (v := ?_) 1 rfl (by kernel_rfl) (fun _ _ _ _ _ h => h) (by rfl) (fun u hu => ?_) bxd ?_
      rotate_left
      · (obtain ⟨hu1, hu2⟩ := hu; obtain ⟨_, _, _, _, _, _⟩ := At.three hu1; obtain ⟨_, _, _, _, _, _, _⟩ := At.seven hu2)
        go_simp
        (with_reducible rfl)
      (try simp only [Act.put, List.setIfInBounds_toArray, List.set_cons_zero, List.set_cons_succ])
      refine any_pure (v := ?_) 2 rfl (by kernel_rfl) (fun _ _ _ _ _ h => h) (by rfl) (fun u hu => ?_) bxd ?_
      rotate_left
      · (obtain ⟨hu1, hu2⟩ := hu; obtain ⟨_, _, _, _, _, _⟩ := At.three hu1; obtain ⟨_, _, _, _, _, _, _⟩ := At.seven hu2)
        go_simp
        (with_reducible rfl)
      (try simp only [Act.put, List.setIfInBounds_toArray, List.set_cons_zero, List.set_cons_succ])
      refine any_pure (v := ?_) 3 rfl (by kernel_rfl) (fun _ _ _ _ _ h => h) (by rfl) (fun u hu => ?_) bxd ?_
      rotate_left
      · (obtain ⟨hu1, hu2⟩ := hu; obtain ⟨_, _, _, _, _, _⟩ := At.three hu1; obtain ⟨_, _, _, _, _, _, _⟩ := At.seven hu2)
        go_simp
        (with_reducible rfl)
      (try simp only [Act.put, List.setIfInBounds_toArray, List.set_cons_zero, List.set_cons_succ])
      refine any_pure (v := ?_) 4 rfl (by kernel_rfl) (fun _ _ _ _ _ h => h) (by rfl) (fun u hu => ?_) bxd ?_
      rotate_left
      · (obtain ⟨hu1, hu2⟩ := hu; obtain ⟨_, _, _, _, _, _⟩ := At.three hu1; obtain ⟨_, _, _, _, _, _, _⟩ := At.seven hu2)
        go_simp
        (with_reducible rfl)
      (try simp only [Act.put, List.setIfInBounds_toArray, List.set_cons_zero, List.set_cons_succ])
      refine any_pure (v := ?_) 5 rfl (by kernel_rfl) (fun _ _ _ _ _ h => h) (by rfl) (fun u hu => ?_) bxd ?_
      rotate_left
      · (obtain ⟨hu1, hu2⟩ := hu; obtain ⟨_, _, _, _, _, _⟩ := At.three hu1; obtain ⟨_, _, _, _, _, _, _⟩ := At.seven hu2)
        go_simp
        (with_reducible rfl)
      (try simp only [Act.put, List.setIfInBounds_toArray, List.set_cons_zero, List.set_cons_succ])
      refine any_pure (v := ?_) 6 rfl (by kernel_rfl) (fun _ _ _ _ _ h => h) (by rfl) (fun u hu => ?_) bxd ?_
      rotate_left
      · (obtain ⟨hu1, hu2⟩ := hu; obtain ⟨_, _, _, _, _, _⟩ := At.three hu1; obtain ⟨_, _, _, _, _, _, _⟩ := At.seven hu2)
        go_simp
        (with_reducible rfl)
      (try simp only [Act.put, List.setIfInBounds_toArray, List.set_cons_zero, List.set_cons_succ])
      refine any_pure (v := ?_) 7 rfl (by kernel_rfl) (fun _ _ _ _ _ h => h) (by rfl) (fun u hu => ?_) bxd ?_
      rotate_left
      · (obtain ⟨hu1, hu2⟩ := hu; obtain ⟨_, _, _, _, _, _⟩ := At.three hu1; obtain ⟨_, _, _, _, _, _, _⟩ := At.seven hu2)
        go_simp
        (with_reducible rfl)
      (try simp only [Act.put, List.setIfInBounds_toArray, List.set_cons_zero, List.set_cons_succ])
      refine any_pure (v := ?_) 8 rfl (by kernel_rfl) (fun _ _ _ _ _ h => h) (by rfl) (fun u hu => ?_) bxd ?_
      rotate_left
      · (obtain ⟨hu1, hu2⟩ := hu; obtain ⟨_, _, _, _, _, _⟩ := At.three hu1; obtain ⟨_, _, _, _, _, _, _⟩ := At.seven hu2)
        go_simp
        (with_reducible rfl)
      (try simp only [Act.put, List.setIfInBounds_toArray, List.set_cons_zero, List.set_cons_succ])
      refine any_pure (v := ?_) 9 rfl (by kernel_rfl) (fun _ _ _ _ _ h => h) (by rfl) (fun u hu => ?_) bxd ?_
      rotate_left
      · (obtain ⟨hu1, hu2⟩ := hu; obtain ⟨_, _, _, _, _, _⟩ := At.three hu1; obtain ⟨_, _, _, _, _, _, _⟩ := At.seven hu2)
        go_simp
        (with_reducible rfl)
      (try simp only [Act.put, List.setIfInBounds_toArray, List.set_cons_zero, List.set_cons_succ])
      refine any_pure (v := ?_) 10 rfl (by kernel_rfl) (fun _ _ _ _ _ h => h) (by rfl) (fun u hu => ?_) bxd ?_
      rotate_left
      · (obtain ⟨hu1, hu2⟩ := hu; obtain ⟨_, _, _, _, _, _⟩ := At.three hu1; obtain ⟨_, _, _, _, _, _, _⟩ := At.seven hu2)
        go_simp
        (with_reducible rfl)
      (try simp only [Act.put, List.setIfInBounds_toArray, List.set_cons_zero, List.set_cons_succ])
      refine any_pure (v := ?_) 11 rfl (by kernel_rfl) (fun _ _ _ _ _ h => h) (by rfl) (fun u hu => ?_) bxd ?_
      rotate_left
      · (obtain ⟨hu1, hu2⟩ := hu; obtain ⟨_, _, _, _, _, _⟩ := At.three hu1; obtain ⟨_, _, _, _, _, _, _⟩ := At.seven hu2)
        go_simp
        (with_reducible rfl)
      (try simp only [Act.put, List.setIfInBounds_toArray, List.set_cons_zero, List.set_cons_succ])
      refine any_two 12 13 rfl rfl (by kernel_rfl) (by rfl) (by rfl) ?_ ?_
      · go_simp
        refine (SI _ rbd Hm.out).mono ?_
        rintro e w101 ⟨A101, k101, c101, rfl, ow101, hb101⟩
        have hB101 := hBd.trans (hb101.mono hBd.size)
        have bx101 := bxd.below hb101 bxd.lt
        have rb_101 := rbd.lift hb101
        refine ⟨(fun u => At2 u g 39 #[.slice A n c, .slice B m d, .int .i64 x] gr 27 #[.int .i64 2, .int .i64 a1, .int .i64 a2, .int .i64 a3, .int .i64 a4, .int .i64 a5, .int .i64 a6]), fun _ h => h, bx101, ?_⟩
        (try simp only [Act.put, List.setIfInBounds_toArray, List.set_cons_zero, List.set_cons_succ])
        refine any_one 13 rfl (by kernel_rfl) (by rfl) ?_
        go_simp
        have ag102 := At.newAt' (w := w101) (t := 138) (cs := #[.int .i64 0, .slice none 0 0]) (show w101.heap.size = w101.heap.size by first | rfl | simp)
        have gl102 : w.heap.size ≤ w101.heap.size := by first | exact hB101.size | exact Nat.le_refl _ | (have := hB101.size; simp at this ⊢; try omega)
        have hal102 := (Below.refl w101.heap.size w101).alloc (Nat.le_refl _) (.cells #[.int .i64 0, .slice none 0 0] 138)
        have hB102 := hB101.alloc hB101.size (.cells #[.int .i64 0, .slice none 0 0] 138)
        have bx102 := bx101.alloc (.cells #[.int .i64 0, .slice none 0 0] 138)
        have ow_102 := ow101.alloc (.cells #[.int .i64 0, .slice none 0 0] 138)
        have rb_102 := rb_101.lift hal102
        refine ⟨(fun u => At2 u g 39 #[.slice A n c, .slice B m d, .int .i64 x] gr 27 #[.int .i64 2, .int .i64 a1, .int .i64 a2, .int .i64 a3, .int .i64 a4, .int .i64 a5, .int .i64 a6]), fun _ h => h, bx102, ?_⟩
        (try simp only [Act.put, List.setIfInBounds_toArray, List.set_cons_zero, List.set_cons_succ])
        refine any_one 14 rfl (by kernel_rfl) (by rfl) ?_
        go_simp
        have AG103 := At.newAt' (w := w101) (t := 138) (cs := #[.int .i64 z, .slice A101 k101 c101]) (show w101.heap.size = w101.heap.size by first | rfl | simp)
        have hal103 := (Below.refl w101.heap.size w101).alloc (Nat.le_refl _) (.cells #[.int .i64 z, .slice A101 k101 c101] 138)
        have hB103 := hB101.alloc hB101.size (.cells #[.int .i64 z, .slice A101 k101 c101] 138)
        have bx103 := bx101.alloc (.cells #[.int .i64 z, .slice A101 k101 c101] 138)
        have ow_103 := ow101.alloc (.cells #[.int .i64 z, .slice A101 k101 c101] 138)
        have rb_103 := rb_101.lift hal103
        refine ⟨(fun u => At2 u g 39 #[.slice A n c, .slice B m d, .int .i64 x] gr 27 #[.int .i64 2, .int .i64 a1, .int .i64 a2, .int .i64 a3, .int .i64 a4, .int .i64 a5, .int .i64 a6]), fun _ h => h, bx103, ?_⟩
        (try simp only [Act.put, List.setIfInBounds_toArray, List.set_cons_zero, List.set_cons_succ])
        refine any_done (by kernel_rfl) ?_
        go_wp2
        go_meet
        exact ⟨_, _, _, _, rfl, AG103, ow_103.from_ hBd.size, hB103⟩
      · go_simp
        have ag104 := At.newAt' (w := w.drew) (t := 138) (cs := #[.int .i64 0, .slice none 0 0]) (show w.drew.heap.size = w.heap.size by first | rfl | simp)
        have gl104 : w.heap.size ≤ w.heap.size := by first | exact hBd.size | exact Nat.le_refl _ | (have := hBd.size; simp at this ⊢; try omega)
        have hal104 := (Below.refl w.drew.heap.size w.drew).alloc (Nat.le_refl _) (.cells #[.int .i64 0, .slice none 0 0] 138)
        have hB104 := hBd.alloc hBd.size (.cells #[.int .i64 0, .slice none 0 0] 138)
        have bx104 := bxd.alloc (.cells #[.int .i64 0, .slice none 0 0] 138)
        have rb_104 := rbd.lift hal104
        refine ⟨(fun u => At2 u g 39 #[.slice A n c, .slice B m d, .int .i64 x] gr 27 #[.int .i64 2, .int .i64 a1, .int .i64 a2, .int .i64 a3, .int .i64 a4, .int .i64 a5, .int .i64 a6]), fun _ h => h, bx104, ?_⟩
        (try simp only [Act.put, List.setIfInBounds_toArray, List.set_cons_zero, List.set_cons_succ])
        refine any_one 12 rfl (by kernel_rfl) (by rfl) ?_
        go_simp
        refine (SI _ rb_104 Hm.out).mono ?_
        rintro e w105 ⟨A105, k105, c105, rfl, ow105, hb105⟩
        have hB105 := hB104.trans (hb105.mono hB104.size)
        have bx105 := bx104.below hb105 bx104.lt
        have ag_105 := ag104.below hb105 ag104.lt
        have rb_105 := rb_104.lift hb105
        refine ⟨(fun u => At2 u g 39 #[.slice A n c, .slice B m d, .int .i64 x] gr 27 #[.int .i64 2, .int .i64 a1, .int .i64 a2, .int .i64 a3, .int .i64 a4, .int .i64 a5, .int .i64 a6]), fun _ h => h, bx105, ?_⟩
        (try simp only [Act.put, List.setIfInBounds_toArray, List.set_cons_zero, List.set_cons_succ])
        refine any_one 14 rfl (by kernel_rfl) (by rfl) ?_
        obtain ⟨k0, k1, k2, k3⟩ := ag_105.two
        go_simp
        have hltg106 : w.heap.size < w105.heap.size := ag_105.lt
        have AG106 : At ((w105.setCell ⟨w.heap.size, 0, none⟩ (.int .i64 z)).setCell ⟨w.heap.size, 1, none⟩ (.slice A105 k105 c105)) w.heap.size 138 #[.int .i64 z, .slice A105 k105 c105] := ((ag_105.set 0 (.int .i64 z)).set 1 (.slice A105 k105 c105))
        have bx106 := ((bx105.far (p := ⟨w.heap.size, 0, none⟩) (by show g ≠ w.heap.size ∧ gr ≠ w.heap.size; have := gl104; omega) (.int .i64 z)).far (p := ⟨w.heap.size, 1, none⟩) (by show g ≠ w.heap.size ∧ gr ≠ w.heap.size; have := gl104; omega) (.slice A105 k105 c105))
        have hB106 := ((hB105.setCell (p := ⟨w.heap.size, 0, none⟩) gl104 (.int .i64 z)).setCell (p := ⟨w.heap.size, 1, none⟩) gl104 (.slice A105 k105 c105))
        have ow_106 := ow105
        have ow_106 := ow_106.apart (by decide) ag_105 0 (.int .i64 z)
        have ow_106 := ow_106.apart (by decide) ((ag_105.set 0 (.int .i64 z))) 1 (.slice A105 k105 c105)
        refine ⟨(fun u => At2 u g 39 #[.slice A n c, .slice B m d, .int .i64 x] gr 27 #[.int .i64 2, .int .i64 a1, .int .i64 a2, .int .i64 a3, .int .i64 a4, .int .i64 a5, .int .i64 a6]), fun _ h => h, bx106, ?_⟩
        (try simp only [Act.put, List.setIfInBounds_toArray, List.set_cons_zero, List.set_cons_succ])
        refine any_done (by kernel_rfl) ?_
        go_wp2
        go_meet
        exact ⟨_, _, _, _, rfl, AG106, ow_106.from_ hB104.size, hB106⟩
    case rest =>
      obtain ⟨gx, Ax, kx, cx, rfl, AX1, OW1, HB1⟩ := hcut
      obtain ⟨q0, q1, _, _⟩ := AX1.two
      have hxc := hx.below HB1 lx
      clear c0 c1 c2 cf0 cf1 cf2 r0 r1 r2 r3 r4 r5 r6
      obtain ⟨c0, c1, c2, cf0, cf1, cf2⟩ := hxc.three
      have hne : ¬ g = gx := by
        intro e
        subst e
        have := hxc.symm.trans AX1
        simp at this
      by_cases hz0 : z = 0
      · subst hz0
        have Hr := Lib.hid (show stepR (l, h, x) (2, a1, (a2, a3, a4, a5), a6) = (0, (l, st, x)) by rw [Hs.out, if_pos rfl])
        go_wp2
        go_ret
        rw [Hr.out]
        exact ⟨rfl, ⟨A, n, c, Ax, kx, cx, hxc.set 1 (.slice Ax kx cx), (oa.below HB1 (Nat.le_refl _)).apart (by decide) hxc 1 _, (OW1.from_ hbase).apart (by decide) hxc 1 _⟩, grown_trans (grown_any (grown_below HB1 (Nat.le_refl _)) _) (grown_setCell _ ⟨g, 1, none⟩ _)⟩
      · have hzb : (z == 0) = false := by simpa using hz0
        have Hr := Lib.hid (show stepR (l, h, x) (2, a1, (a2, a3, a4, a5), a6) = (z, (l, h, x)) by rw [Hs.out, if_neg hz0])
        clear hz0
        go_wp2
        go_ret
        rw [Hr.out]
        exact ⟨rfl, ⟨A, n, c, B, m, d, hxc, oa.below HB1 (Nat.le_refl _), ob.below HB1 (Nat.le_refl _)⟩, grown_any (grown_below HB1 (Nat.le_refl _)) _⟩
  by_cases k3 : a0 = 3
  · subst k3
    obtain ⟨z, st, hz⟩ : ∃ z st, doneM h a1 a6 = (z, st) := ⟨_, _, rfl⟩
    have Hs := Lib.hid (step3 (s := (l, h, x)) (y := (a2, a3, a4, a5)) hz)
    have SI := specDoneHint B m d h a1 a6
    rw [hz] at SI
    clear hz
    go_enter Tryz.func55, Tryz.ntmps55
    go_upto_region 13 with fail
    go_cut [7] (fun s wx => ∃ gx Ax kx cx, s = .pointer (some ⟨gx, 0, none⟩) ∧ At wx gx 138 #[.int .i64 z, .slice Ax kx cx] ∧ Ow eH wx w.heap.size Ax kx cx st ∧ Below w.heap.size w wx)
    case first =>
      refine any_start (fun u => At2 u g 39 #[.slice A n c, .slice B m d, .int .i64 x] gr 27 #[.int .i64 3, .int .i64 a1, .int .i64 a2, .int .i64 a3, .int .i64 a4, .int .i64 a5, .int .i64 a6]) (by kernel_rfl) x2.drew (fun _ => ?_)
      have bxd := x2.drew
      have hBd := (Below.refl w.heap.size w).drew
      have rbd : _ := rb.lift ((Below.refl _ _).drew)
      refine any_pure (v := ?_) 0 rfl (by kernel_rfl) (fun _ _ _ _ _ h => h) (by rfl) (fun u hu => ?_) bxd ?_
      rotate_left
      · (obtain ⟨hu1, hu2⟩ := hu; obtain ⟨_, _, _, _, _, _⟩ := At.three hu1; obtain ⟨_, _, _, _, _, _, _⟩ := At.seven hu2)
        go_simp
        (with_reducible rfl)
      (try simp only [Act.put, List.setIfInBounds_toArray, List.set_cons_zero, List.set_cons_succ])
      refine any_pure (v := ?_) 1 rfl (by kernel_rfl) (fun _ _ _ _ _ h => h) (by rfl) (fun u hu => ?_) bxd ?_
      rotate_left
      · (obtain ⟨hu1, hu2⟩ := hu; obtain ⟨_, _, _, _, _, _⟩ := At.three hu1; obtain ⟨_, _, _, _, _, _, _⟩ := At.seven hu2)
        go_simp
        (with_reducible rfl)
      (try simp only [Act.put, List.setIfInBounds_toArray, List.set_cons_zero, List.set_cons_succ])
      refine any_pure (v := ?_) 2 rfl (by kernel_rfl) (fun _ _ _ _ _ h => h) (by rfl) (fun u hu => ?_) bxd ?_
      rotate_left
      · (obtain ⟨hu1, hu2⟩ := hu; obtain ⟨_, _, _, _, _, _⟩ := At.three hu1; obtain ⟨_, _, _, _, _, _, _⟩ := At.seven hu2)
        go_simp
        (with_reducible rfl)
      (try simp only [Act.put, List.setIfInBounds_toArray, List.set_cons_zero, List.set_cons_succ])
      refine any_pure (v := ?_) 3 rfl (by kernel_rfl) (fun _ _ _ _ _ h => h) (by rfl) (fun u hu => ?_) bxd ?_
      rotate_left
      · (obtain ⟨hu1, hu2⟩ := hu; obtain ⟨_, _, _, _, _, _⟩ := At.three hu1; obtain ⟨_, _, _, _, _, _, _⟩ := At.seven hu2)
        go_simp
        (with_reducible rfl)
      (try simp only [Act.put, List.setIfInBounds_toArray, List.set_cons_zero, List.set_cons_succ])
      refine any_pure (v := ?_) 4 rfl (by kernel_rfl) (fun _ _ _ _ _ h => h) (by rfl) (fun u hu => ?_) bxd ?_
      rotate_left
      · (obtain ⟨hu1, hu2⟩ := hu; obtain ⟨_, _, _, _, _, _⟩ := At.three hu1; obtain ⟨_, _, _, _, _, _, _⟩ := At.seven hu2)
        go_simp
        (with_reducible rfl)
      (try simp only [Act.put, List.setIfInBounds_toArray, List.set_cons_zero, List.set_cons_succ])
      refine any_pure (v := ?_) 5 rfl (by kernel_rfl) (fun _ _ _ _ _ h => h) (by rfl) (fun u hu => ?_) bxd ?_
      rotate_left
      · (obtain ⟨hu1, hu2⟩ := hu; obtain ⟨_, _, _, _, _, _⟩ := At.three hu1; obtain ⟨_, _, _, _, _, _, _⟩ := At.seven hu2)
        go_simp
        (with_reducible rfl)
      (try simp only [Act.put, List.setIfInBounds_toArray, List.set_cons_zero, List.set_cons_succ])
      refine any_pure (v := ?_) 6 rfl (by kernel_rfl) (fun _ _ _ _ _ h => h) (by rfl) (fun u hu => ?_) bxd ?_
      rotate_left
      · (obtain ⟨hu1, hu2⟩ := hu; obtain ⟨_, _, _, _, _, _⟩ := At.three hu1; obtain ⟨_, _, _, _, _, _, _⟩ := At.seven hu2)
        go_simp
        (with_reducible rfl)
      (try simp only [Act.put, List.setIfInBounds_toArray, List.set_cons_zero, List.set_cons_succ])
      refine any_pure (v := ?_) 7 rfl (by kernel_rfl) (fun _ _ _ _ _ h => h) (by rfl) (fun u hu => ?_) bxd ?_
      rotate_left
      · (obtain ⟨hu1, hu2⟩ := hu; obtain ⟨_, _, _, _, _, _⟩ := At.three hu1; obtain ⟨_, _, _, _, _, _, _⟩ := At.seven hu2)
        go_simp
        (with_reducible rfl)
      (try simp only [Act.put, List.setIfInBounds_toArray, List.set_cons_zero, List.set_cons_succ])
      refine any_pure (v := ?_) 8 rfl (by kernel_rfl) (fun _ _ _ _ _ h => h) (by rfl) (fun u hu => ?_) bxd ?_
      rotate_left
      · (obtain ⟨hu1, hu2⟩ := hu; obtain ⟨_, _, _, _, _, _⟩ := At.three hu1; obtain ⟨_, _, _, _, _, _, _⟩ := At.seven hu2)
        go_simp
        (with_reducible rfl)
      (try simp only [Act.put, List.setIfInBounds_toArray, List.set_cons_zero, List.set_cons_succ])
      refine any_pure (v := ?_) 9 rfl (by kernel_rfl) (fun _ _ _ _ _ h => h) (by rfl) (fun u hu => ?_) bxd ?_
      rotate_left
      · (obtain ⟨hu1, hu2⟩ := hu; obtain ⟨_, _, _, _, _, _⟩ := At.three hu1; obtain ⟨_, _, _, _, _, _, _⟩ := At.seven hu2)
        go_simp
        (with_reducible rfl)
      (try simp only [Act.put, List.setIfInBounds_toArray, List.set_cons_zero, List.set_cons_succ])
      refine any_pure (v := ?_) 10 rfl (by kernel_rfl) (fun _ _ _ _ _ h => h) (by rfl) (fun u hu => ?_) bxd ?_
      rotate_left
      · (obtain ⟨hu1, hu2⟩ := hu; obtain ⟨_, _, _, _, _, _⟩ := At.three hu1; obtain ⟨_, _, _, _, _, _, _⟩ := At.seven hu2)
        go_simp
        (with_reducible rfl)
      (try simp only [Act.put, List.setIfInBounds_toArray, List.set_cons_zero, List.set_cons_succ])
      refine any_pure (v := ?_) 11 rfl (by kernel_rfl) (fun _ _ _ _ _ h => h) (by rfl) (fun u hu => ?_) bxd ?_
      rotate_left
      · (obtain ⟨hu1, hu2⟩ := hu; obtain ⟨_, _, _, _, _, _⟩ := At.three hu1; obtain ⟨_, _, _, _, _, _, _⟩ := At.seven hu2)
        go_simp
        (with_reducible rfl)
      (try simp only [Act.put, List.setIfInBounds_toArray, List.set_cons_zero, List.set_cons_succ])
      refine any_two 12 13 rfl rfl (by kernel_rfl) (by rfl) (by rfl) ?_ ?_
      · go_simp
        refine (SI _ rbd Hm.out hdc).mono ?_
        rintro e w101 ⟨A101, k101, c101, rfl, ow101, hb101⟩
        have hB101 := hBd.trans (hb101.mono hBd.size)
        have bx101 := bxd.below hb101 bxd.lt
        have rb_101 := rbd.lift hb101
        refine ⟨(fun u => At2 u g 39 #[.slice A n c, .slice B m d, .int .i64 x] gr 27 #[.int .i64 3, .int .i64 a1, .int .i64 a2, .int .i64 a3, .int .i64 a4, .int .i64 a5, .int .i64 a6]), fun _ h => h, bx101, ?_⟩
        (try simp only [Act.put, List.setIfInBounds_toArray, List.set_cons_zero, List.set_cons_succ])
        refine any_one 13 rfl (by kernel_rfl) (by rfl) ?_
        go_simp
        have ag102 := At.newAt' (w := w101) (t := 138) (cs := #[.int .i64 0, .slice none 0 0]) (show w101.heap.size = w101.heap.size by first | rfl | simp)
        have gl102 : w.heap.size ≤ w101.heap.size := by first | exact hB101.size | exact Nat.le_refl _ | (have := hB101.size; simp at this ⊢; try omega)
        have hal102 := (Below.refl w101.heap.size w101).alloc (Nat.le_refl _) (.cells #[.int .i64 0, .slice none 0 0] 138)
        have hB102 := hB101.alloc hB101.size (.cells #[.int .i64 0, .slice none 0 0] 138)
        have bx102 := bx101.alloc (.cells #[.int .i64 0, .slice none 0 0] 138)
        have ow_102 := ow101.alloc (.cells #[.int .i64 0, .slice none 0 0] 138)
        have rb_102 := rb_101.lift hal102
        refine ⟨(fun u => At2 u g 39 #[.slice A n c, .slice B m d, .int .i64 x] gr 27 #[.int .i64 3, .int .i64 a1, .int .i64 a2, .int .i64 a3, .int .i64 a4, .int .i64 a5, .int .i64 a6]), fun _ h => h, bx102, ?_⟩
        (try simp only [Act.put, List.setIfInBounds_toArray, List.set_cons_zero, List.set_cons_succ])
        refine any_one 14 rfl (by kernel_rfl) (by rfl) ?_
        go_simp
        have AG103 := At.newAt' (w := w101) (t := 138) (cs := #[.int .i64 z, .slice A101 k101 c101]) (show w101.heap.size = w101.heap.size by first | rfl | simp)
        have hal103 := (Below.refl w101.heap.size w101).alloc (Nat.le_refl _) (.cells #[.int .i64 z, .slice A101 k101 c101] 138)
        have hB103 := hB101.alloc hB101.size (.cells #[.int .i64 z, .slice A101 k101 c101] 138)
        have bx103 := bx101.alloc (.cells #[.int .i64 z, .slice A101 k101 c101] 138)
        have ow_103 := ow101.alloc (.cells #[.int .i64 z, .slice A101 k101 c101] 138)
        have rb_103 := rb_101.lift hal103
        refine ⟨(fun u => At2 u g 39 #[.slice A n c, .slice B m d, .int .i64 x] gr 27 #[.int .i64 3, .int .i64 a1, .int .i64 a2, .int .i64 a3, .int .i64 a4, .int .i64 a5, .int .i64 a6]), fun _ h => h, bx103, ?_⟩
        (try simp only [Act.put, List.setIfInBounds_toArray, List.set_cons_zero, List.set_cons_succ])
        refine any_done (by kernel_rfl) ?_
        go_wp2
        go_meet
        exact ⟨_, _, _, _, rfl, AG103, ow_103.from_ hBd.size, hB103⟩
      · go_simp
        have ag104 := At.newAt' (w := w.drew) (t := 138) (cs := #[.int .i64 0, .slice none 0 0]) (show w.drew.heap.size = w.heap.size by first | rfl | simp)
        have gl104 : w.heap.size ≤ w.heap.size := by first | exact hBd.size | exact Nat.le_refl _ | (have := hBd.size; simp at this ⊢; try omega)
        have hal104 := (Below.refl w.drew.heap.size w.drew).alloc (Nat.le_refl _) (.cells #[.int .i64 0, .slice none 0 0] 138)
        have hB104 := hBd.alloc hBd.size (.cells #[.int .i64 0, .slice none 0 0] 138)
        have bx104 := bxd.alloc (.cells #[.int .i64 0, .slice none 0 0] 138)
        have rb_104 := rbd.lift hal104
        refine ⟨(fun u => At2 u g 39 #[.slice A n c, .slice B m d, .int .i64 x] gr 27 #[.int .i64 3, .int .i64 a1, .int .i64 a2, .int .i64 a3, .int .i64 a4, .int .i64 a5, .int .i64 a6]), fun _ h => h, bx104, ?_⟩
        (try simp only [Act.put, List.setIfInBounds_toArray, List.set_cons_zero, List.set_cons_succ])
        refine any_one 12 rfl (by kernel_rfl) (by rfl) ?_
        go_simp
        refine (SI _ rb_104 Hm.out hdc).mono ?_
        rintro e w105 ⟨A105, k105, c105, rfl, ow105, hb105⟩
        have hB105 := hB104.trans (hb105.mono hB104.size)
        have bx105 := bx104.below hb105 bx104.lt
        have ag_105 := ag104.below hb105 ag104.lt
        have rb_105 := rb_104.lift hb105
        refine ⟨(fun u => At2 u g 39 #[.slice A n c, .slice B m d, .int .i64 x] gr 27 #[.int .i64 3, .int .i64 a1, .int .i64 a2, .int .i64 a3, .int .i64 a4, .int .i64 a5, .int .i64 a6]), fun _ h => h, bx105, ?_⟩
        (try simp only [Act.put, List.setIfInBounds_toArray, List.set_cons_zero, List.set_cons_succ])
        refine any_one 14 rfl (by kernel_rfl) (by rfl) ?_
        obtain ⟨k0, k1, k2, k3⟩ := ag_105.two
        go_simp
        have hltg106 : w.heap.size < w105.heap.size := ag_105.lt
        have AG106 : At ((w105.setCell ⟨w.heap.size, 0, none⟩ (.int .i64 z)).setCell ⟨w.heap.size, 1, none⟩ (.slice A105 k105 c105)) w.heap.size 138 #[.int .i64 z, .slice A105 k105 c105] := ((ag_105.set 0 (.int .i64 z)).set 1 (.slice A105 k105 c105))
        have bx106 := ((bx105.far (p := ⟨w.heap.size, 0, none⟩) (by show g ≠ w.heap.size ∧ gr ≠ w.heap.size; have := gl104; omega) (.int .i64 z)).far (p := ⟨w.heap.size, 1, none⟩) (by show g ≠ w.heap.size ∧ gr ≠ w.heap.size; have := gl104; omega) (.slice A105 k105 c105))
        have hB106 := ((hB105.setCell (p := ⟨w.heap.size, 0, none⟩) gl104 (.int .i64 z)).setCell (p := ⟨w.heap.size, 1, none⟩) gl104 (.slice A105 k105 c105))
        have ow_106 := ow105
        have ow_106 := ow_106.apart (by decide) ag_105 0 (.int .i64 z)
        have ow_106 := ow_106.apart (by decide) ((ag_105.set 0 (.int .i64 z))) 1 (.slice A105 k105 c105)
        refine ⟨(fun u => At2 u g 39 #[.slice A n c, .slice B m d, .int .i64 x] gr 27 #[.int .i64 3, .int .i64 a1, .int .i64 a2, .int .i64 a3, .int .i64 a4, .int .i64 a5, .int .i64 a6]), fun _ h => h, bx106, ?_⟩
        (try simp only [Act.put, List.setIfInBounds_toArray, List.set_cons_zero, List.set_cons_succ])
        refine any_done (by kernel_rfl) ?_
        go_wp2
        go_meet
        exact ⟨_, _, _, _, rfl, AG106, ow_106.from_ hB104.size, hB106⟩
    case rest =>
      obtain ⟨gx, Ax, kx, cx, rfl, AX1, OW1, HB1⟩ := hcut
      obtain ⟨q0, q1, _, _⟩ := AX1.two
      have hxc := hx.below HB1 lx
      clear c0 c1 c2 cf0 cf1 cf2 r0 r1 r2 r3 r4 r5 r6
      obtain ⟨c0, c1, c2, cf0, cf1, cf2⟩ := hxc.three
      have hne : ¬ g = gx := by
        intro e
        subst e
        have := hxc.symm.trans AX1
        simp at this
      by_cases hz0 : z = 0
      · subst hz0
        have Hr := Lib.hid (show stepR (l, h, x) (3, a1, (a2, a3, a4, a5), a6) = (0, (l, st, x)) by rw [Hs.out, if_pos rfl])
        go_wp2
        go_ret
        rw [Hr.out]
        exact ⟨rfl, ⟨A, n, c, Ax, kx, cx, hxc.set 1 (.slice Ax kx cx), (oa.below HB1 (Nat.le_refl _)).apart (by decide) hxc 1 _, (OW1.from_ hbase).apart (by decide) hxc 1 _⟩, grown_trans (grown_any (grown_below HB1 (Nat.le_refl _)) _) (grown_setCell _ ⟨g, 1, none⟩ _)⟩
      · have hzb : (z == 0) = false := by simpa using hz0
        have Hr := Lib.hid (show stepR (l, h, x) (3, a1, (a2, a3, a4, a5), a6) = (z, (l, h, x)) by rw [Hs.out, if_neg hz0])
        clear hz0
        go_wp2
        go_ret
        rw [Hr.out]
        exact ⟨rfl, ⟨A, n, c, B, m, d, hxc, oa.below HB1 (Nat.le_refl _), ob.below HB1 (Nat.le_refl _)⟩, grown_any (grown_below HB1 (Nat.le_refl _)) _⟩
  · have Hs := Lib.hid (step4 (s := (l, h, x)) (p := a1) (y := (a2, a3, a4, a5)) (k := a6) k1 k2 k3)
    have b1 : (a0 == 1) = false := by simpa using k1
    have b2 : (a0 == 2) = false := by simpa using k2
    have b3 : (a0 == 3) = false := by simpa using k3
    clear k1 k2 k3
    by_cases hlt : a6 < x
    all_goals
      first
        | have Hr := Lib.hid (show stepR (l, h, x) (a0, a1, (a2, a3, a4, a5), a6) = (8, (l, h, x)) by rw [Hs.out, if_pos hlt])
        | have Hr := Lib.hid (show stepR (l, h, x) (a0, a1, (a2, a3, a4, a5), a6) = (0, (l, h, a6)) by rw [Hs.out, if_neg hlt])
      go_enter Tryz.func55, Tryz.ntmps55
      go_wp2
      refine wp_region_mix [(0, false), (1, false), (2, false), (3, false), (4, false), (5, false), (6, false), (7, false), (8, false)] (fun u => At2 u g 39 #[.slice A n c, .slice B m d, .int .i64 x] gr 27 #[.int .i64 a0, .int .i64 a1, .int .i64 a2, .int .i64 a3, .int .i64 a4, .int .i64 a5, .int .i64 a6]) (by kernel_rfl) (by kernel_rfl) (fun _ _ _ _ _ h => h) x2.drew ?_
      simp only [mixOps, List.map_cons, List.map_nil, List.getElem?_cons_succ, List.getElem?_cons_zero, Option.getD_some]
      repeat (first
        | (refine mix_skip (by rfl) ?_
           (try simp only [Act.put, List.setIfInBounds_toArray, List.set_cons_zero, List.set_cons_succ]))
        | (refine mix_pure (v := ?_) (by rfl) (fun u hu => ?_) ?_
           rotate_left
           · (obtain ⟨hu1, hu2⟩ := hu; obtain ⟨_, _, _, _, _, _⟩ := At.three hu1; obtain ⟨_, _, _, _, _, _, _⟩ := At.seven hu2)
             go_simp
             (with_reducible rfl)
           (try simp only [Act.put, List.setIfInBounds_toArray, List.set_cons_zero, List.set_cons_succ])))
      refine mix_nil ?_
      go_wp2
      go_ret
      rw [Hr.out]
    · exact ⟨rfl, ⟨A, n, c, B, m, d, hx, oa, ob⟩, grown_any (grown_below ((Below.refl w.heap.size w).drew) (Nat.le_refl _)) _⟩
    · exact ⟨rfl, ⟨A, n, c, B, m, d, (hx.set 2 (.int .i64 a6)).drew, (oa.apart (by decide) hx 2 (.int .i64 a6)).drewN 1, (ob.apart (by decide) hx 2 (.int .i64 a6)).drewN 1⟩, grown_trans (grown_setCell w ⟨g, 2, none⟩ (.int .i64 a6)) (grown_any (grown_below ((Below.refl _ (w.setCell ⟨g, 2, none⟩ (.int .i64 a6))).drew) (Nat.le_refl _)) _)⟩
end Go.Proofs.YtmaillakhhdkfaaGreatDoor
/-
  A record put to a state: the model's ApplyRecord.
-/
namespace Go.Proofs.YtmaillakhhdkfaaGreatDoor
set_option maxRecDepth 20000
open Go.RowKit
set_option linter.unusedSimpArgs false
set_option linter.unusedVariables false
attribute [local irreducible] mixW

/-- A code and a state of the call's own. -/
def RetSta (r : Int × Sta) (w : World) (e : Ending) (w' : World) : Prop := ∃ A n c B m d, e = .returned (.agg #[.int .i64 r.1, .slice A n c, .slice B m d, .int .i64 r.2.2.2]) ∧ Ow eS w' w.heap.size A n c r.2.1 ∧ Ow eH w' w.heap.size B m d r.2.2.1 ∧ Below w.heap.size w w'
theorem retSta_zero {w w' : World} {z : Int} (hb : Below w.heap.size w w') : RetSta (z, zeroSta) w (.returned (.agg #[.int .i64 z, .slice none 0 0, .slice none 0 0, .int .i64 0])) w' := ⟨none, 0, 0, none, 0, 0, rfl, Ow.nil, Ow.nil, hb⟩
end Go.Proofs.YtmaillakhhdkfaaGreatDoor
/-
  What a disk says: the model's.
-/
namespace Go.Proofs.YtmaillakhhdkfaaGreatDoor
set_option maxRecDepth 20000
open Go.RowKit
set_option linter.unusedSimpArgs false
set_option linter.unusedVariables false

/-- Blocks of two types are two. -/
theorem Ow.neBlk {α : Type} {E : Enc α} {w : World} {base n c : Nat} {A : Option Addr} {l : List α} {g : Nat} {t : TypeId} {cs : Array Value} (h : Ow E w base A n c l) (hne : E.tid ≠ t) (hx : At w g t cs) : ∀ k, A.map (·.block) = some k → (some g : Option Nat) ≠ some k := by
  intro k hk e
  obtain rfl : g = k := by simpa using e
  rcases h.2 with ⟨h0, _⟩ | ⟨g', cap, cur, hv, hb, hgg, rest⟩
  · simp only [Value.slice.injEq] at h0
    rw [h0.1] at hk
    simp at hk
  · simp only [Value.slice.injEq] at hv
    rw [hv.1] at hk
    obtain rfl : g' = g := by simpa using hk
    unfold At at hx
    rw [hx] at hgg
    simp only [Option.some.injEq, Obj.cells.injEq] at hgg
    exact hne hgg.2.1.symm
theorem Ow.neRow {α β : Type} {E : Enc α} {F : Enc β} {w : World} {base base' n c m d : Nat} {A B : Option Addr} {l : List α} {q : List β} (h : Ow E w base A n c l) (hne : E.tid ≠ F.tid) (k : Ow F w base' B m d q) : ∀ g, A.map (·.block) = some g → B.map (·.block) ≠ some g := by
  intro g hg e
  rcases k.2 with ⟨h0, _⟩ | ⟨g', cap, cur, hv, hb, hgg, rest⟩
  · simp only [Value.slice.injEq] at h0
    rw [h0.1] at e
    simp at e
  · simp only [Value.slice.injEq] at hv
    rw [hv.1] at e
    obtain rfl : g' = g := by simpa using e
    exact h.neBlk hne hgg g' hg rfl
theorem StaAt.below {w w' : World} {g base B : Nat} {s : Sta} (h : StaAt w g base s) (hb : Below B w w') (hB : w.heap.size ≤ B) : StaAt w' g base s := by
  obtain ⟨A, n, c, A', m, d, h1, h2, h3⟩ := h
  exact ⟨A, n, c, A', m, d, h1.below hb (Nat.lt_of_lt_of_le h1.lt hB), h2.below hb hB, h3.below hb hB⟩
theorem StaAt.alloc {w : World} {g base : Nat} {s : Sta} (h : StaAt w g base s) (o : Obj) : StaAt (w.alloc o) g base s := by
  obtain ⟨A, n, c, A', m, d, h1, h2, h3⟩ := h
  exact ⟨A, n, c, A', m, d, h1.alloc o, h2.alloc o, h3.alloc o⟩
/-- A row of records grows: the state stays. -/
theorem StaAt.grownR {w w' : World} {g base base' k kc : Nat} {R : Option Addr} {rs : List Rcd} {s : Sta} (h : StaAt w g base s) (ho : Ow eR w base' R k kc rs) (hg : w.grownBy w' (R.map (·.block))) : StaAt w' g base s := by
  obtain ⟨A, n, c, A', m, d, h1, h2, h3⟩ := h
  exact ⟨A, n, c, A', m, d, h1.grown hg (fun e => ho.neBlk (by decide) h1 g e rfl), h2.grown hg (h2.neRow (by decide) ho), h3.grown hg (h3.neRow (by decide) ho)⟩
theorem DOw.neRow {w : World} {base base' n c m d : Nat} {A B : Option Addr} {ps : List (List UInt8 × List Hd)} {q : List Rcd} (h : DOw eBB w base A n c ps) (k : Ow eR w base' B m d q) : ∀ g, B.map (·.block) = some g → g ∉ blkOf A ++ blks ps := by
  intro g hg hm
  rcases List.mem_append.1 hm with hm | hm
  · cases A with
    | none => simp [blkOf] at hm
    | some a => exact Ow.neRow h.1 (by decide) k g (by simpa [blkOf, eq_comm] using hm) hg
  · obtain ⟨p, hp, hm⟩ := List.mem_flatMap.1 hm
    obtain ⟨x, hx, hm⟩ := List.mem_flatMap.1 hm
    obtain ⟨r, hr, hat⟩ := (h.2.1 p hp).mem hx
    have hr' : r = ⟨5, 1, eB.row p.1⟩ := by simpa [eBB] using hr
    subst hr'
    have ho : Ow eB w base x.A x.n x.c p.1 := hat
    rcases hxa : x.A with _ | a
    · rw [hxa] at hm; simp [blkOf] at hm
    · rw [hxa] at hm ho
      exact ho.neRow (by decide) k g (by simpa [blkOf, eq_comm] using hm) hg
theorem right_small {s : Sta} (h : stateFaultM s = 0) : s.1.length ≤ 160 := by
  have h1 := ((stateFault_iff s).1 h).1
  rcases Nat.lt_or_ge 160 s.1.length with h2 | h2
  · rw [storeFault_many h2] at h1; cases h1
  · exact h2
/-- A disk's state, records, size. -/
def RetRcv (r : Sta × List Rcd × Nat) (w : World) (e : Ending) (w' : World) : Prop :=
  ∃ A n c B m d R k kc, e = .returned (.tuple #[.agg #[.slice A n c, .slice B m d, .int .i64 r.1.2.2], .slice R k kc, .int .i64 (r.2.2 : Nat)]) ∧ Ow eS w' w.heap.size A n c r.1.1 ∧ Ow eH w' w.heap.size B m d r.1.2.1 ∧ Ow eR w' w.heap.size R k kc r.2.1 ∧ Below w.heap.size w w'
def RcvRel (w : World) (bs : List (List UInt8)) (B1 : Option Addr) (J c1 : Nat) (ps : List (List UInt8 × List Hd)) (out size at_ : Value) (wr : World) : Prop :=
  ∃ (i : Nat) (s : Sta) (rs : List Rcd) (n : Nat) (R : Option Addr) (k kc : Nat), out = .slice R k kc ∧ size = .int .i64 (n : Nat) ∧ at_ = .int .i64 (i : Nat) ∧ StaAt wr (w.heap.size + 1) w.heap.size s ∧ Ow eR wr (w.heap.size + 2) R k kc rs ∧ k ≤ i ∧ i ≤ J ∧ n ≤ 43 * i
    ∧ recF zeroSta [] 0 bs = recF s rs n (bs.drop i) ∧ stateFaultM s = 0 ∧ DOw eBB wr (w.heap.size + 3) B1 J c1 ps ∧ At wr w.heap.size 39 #[.slice none 0 0, .slice none 0 0, .int .i64 0] ∧ Below w.heap.size w wr

set_option maxHeartbeats 4000000 in
theorem l5Recover (A : Option Addr) (n c : Nat) (d : List UInt8) (w : World) (hr : Rd eB w w.heap.size A d) (hn : d.length = n) (hc : n ≤ c) (hm : n ≤ 1048576) (hcm : c ≤ maxLen) :
    Calls Tryz.prog 72 #[.slice A n c] w fun e w' => ∃ J, EndF d J ∧ RetRcv (recF zeroSta [] 0 (bodF d J)) w e w' := by
  have H := Lib.hid fun (W : World) (hb : Below w.heap.size w W) => l1Frames A n c d W (hr.lift hb) hn hc hm hcm
  have Hj := Lib.hid fun (J : Nat) (hJ : EndF d J) => show J ≤ n ∧ ∀ b ∈ bodF d J, b.length ≤ 40 from ⟨by have := posF_ge hJ.2; have := posF_le d J; omega, fun b hb => ((bodF_frames d J hJ.2).2 b hb).2⟩
  clear hr hn
  have hB0 : Below w.heap.size w (((w.alloc (.cells #[.slice none 0 0, .slice none 0 0, .int .i64 0] 39)).alloc (.cells #[.slice none 0 0, .slice none 0 0, .int .i64 0] 39)).alloc (.cells #[] 27)) := (((Below.refl _ _).alloc (Nat.le_refl _) _).alloc (by simp) _).alloc (by simp; omega) _
  have az0 := ((At.new w 39 #[.slice none 0 0, .slice none 0 0, .int .i64 0]).alloc (.cells #[.slice none 0 0, .slice none 0 0, .int .i64 0] 39)).alloc (.cells #[] 27)
  have as0 : At (((w.alloc (.cells #[.slice none 0 0, .slice none 0 0, .int .i64 0] 39)).alloc (.cells #[.slice none 0 0, .slice none 0 0, .int .i64 0] 39)).alloc (.cells #[] 27)) (w.heap.size + 1) 39 #[.slice none 0 0, .slice none 0 0, .int .i64 0] := by
    have := (At.new (w.alloc (.cells #[.slice none 0 0, .slice none 0 0, .int .i64 0] 39)) 39 #[.slice none 0 0, .slice none 0 0, .int .i64 0]).alloc (.cells #[] 27)
    simpa using this
  have or0 : Ow eR (((w.alloc (.cells #[.slice none 0 0, .slice none 0 0, .int .i64 0] 39)).alloc (.cells #[.slice none 0 0, .slice none 0 0, .int .i64 0] 39)).alloc (.cells #[] 27)) (w.heap.size + 2) (some ⟨w.heap.size + 1 + 1, 0, none⟩) 0 0 [] := by
    have := Ow.lit (E := eR) (base := w.heap.size + 2) ((w.alloc (.cells #[.slice none 0 0, .slice none 0 0, .int .i64 0] 39)).alloc (.cells #[.slice none 0 0, .slice none 0 0, .int .i64 0] 39)) [] #[] 0 (by simp) (Nat.zero_le _) rfl rfl
    simpa [eR] using this
  go_enter Tryz.func72, Tryz.ntmps72
  go_wp2_with (go_at_call 122; refine (H.out _ hB0).mono ?_; rintro e w1 ⟨J, A1, c1, ps, rfl, hJ, dw, hps, hb1⟩)
  have hJn := (Hj.out J hJ).1
  have H40 := Lib.hid (Hj.out J hJ).2
  have HJ := Lib.hid hJ
  have hB1 := hB0.trans (hb1.mono hB0.size)
  have az1 := az0.below hb1 (by simp; omega)
  have as1 : StaAt w1 (w.heap.size + 1) w.heap.size zeroSta := ⟨none, 0, 0, none, 0, 0, as0.below hb1 (by simp), Ow.nil, Ow.nil⟩
  have or1 := or0.below hb1 (Nat.le_refl _)
  have dw1 : DOw eBB w1 (w.heap.size + 3) A1 J c1 ps := dw.from_ (by simp)
  have hpl : ps.length = J := Ow.len okBB dw.1
  clear hJ Hj H hb1 az0 as0 or0 dw hB0
  go_loopw [6, 7, 10, 11, 12] (fun out size i _ _ wr => RcvRel w (bodF d J) A1 J c1 ps out size i wr) (fun _ _ i _ _ _ => J - (intOf i).toNat)
  case atStart => exact ⟨0, zeroSta, [], 0, _, 0, 0, rfl, rfl, rfl, as1, or1, Nat.le_refl _, Nat.zero_le _, Nat.zero_le _, rfl, zero_state, dw1, az1, hB1⟩
  case round =>
    obtain ⟨i, s, rs, m, R, k, kc, rfl, rfl, rfl, ST, OR, hki, hiJ, hmi, hrec, hsr, dwi, AZ, HB⟩ := hrel
    clear as1 or1 dw1 az1 hB1
    by_cases hi : i < J
    rotate_left
    · obtain rfl : J = i := by omega
      obtain ⟨SA, sn, sc, SB, sm, sd, sx, sa, sb⟩ := ST
      obtain ⟨x0, x1, x2, xf0, xf1, xf2⟩ := sx.three
      obtain ⟨z0, z1, z2, zf0, zf1, zf2⟩ := AZ.three
      have F1 := AZ.set 0 (.slice SA sn sc)
      have F2 := F1.set 1 (.slice SB sm sd)
      have hfin : recF zeroSta [] 0 (bodF d J) = (s, rs, m) := by rw [hrec, List.drop_of_length_le (by rw [← hps, List.length_map]; omega)]; rfl
      go_wp2
      refine bodyPost_ret (v := .tuple #[.agg #[.slice SA sn sc, .slice SB sm sd, .int .i64 s.2.2], .slice R k kc, .int .i64 (m : Nat)]) (by simp [results, Tryz.results72, go_sem, z0, z1, z2]) rfl ?_
      refine ⟨J, HJ.out, ?_⟩
      rw [hfin]
      exact ⟨SA, sn, sc, SB, sm, sd, R, k, kc, rfl, ((sa.apart (by decide) AZ 0 _).apart (by decide) F1 1 _).apart (by decide) F2 2 _, ((sb.apart (by decide) AZ 0 _).apart (by decide) F1 1 _).apart (by decide) F2 2 _, (((OR.apart (by decide) AZ 0 _).apart (by decide) F1 1 _).apart (by decide) F2 2 _).from_ (by omega), ((HB.setCell (Nat.le_refl _) _).setCell (Nat.le_refl _) _).setCell (Nat.le_refl _) _⟩
    · obtain ⟨q, hq⟩ : ∃ q, ps[i]? = some q := ⟨_, List.getElem?_eq_getElem (by omega)⟩
      have hq1 : (bodF d J)[i]? = some q.1 := by rw [← hps, List.getElem?_map, hq]; rfl
      have hdr : (bodF d J).drop i = q.1 :: (bodF d J).drop (i + 1) := by
        obtain ⟨h1, h2⟩ := List.getElem?_eq_some_iff.1 hq1
        rw [List.drop_eq_getElem_cons h1, h2]
      have hq40 := H40.out q.1 (List.mem_of_getElem? hq1)
      have hrec2 : recF zeroSta [] 0 (bodF d J) = recF s rs m (q.1 :: (bodF d J).drop (i + 1)) := by rw [hrec, hdr]
      obtain ⟨g1, x, hA1, hx2, hcell, hrow⟩ := dwi.row hq
      subst hA1
      have hxl := hrow.len okB
      have hc3 := hrow.cap
      have D := l5Decode x.A x.n x.c q.1 wr (hrow.rd okB) hxl hc3 hrow.capMax
      obtain ⟨r, b, hrb⟩ : ∃ r b, decR q.1 = (r, b) := ⟨_, _, rfl⟩
      rw [hrb] at D
      have Hrb := Lib.hid hrb
      obtain ⟨a0, a1, ⟨a2, a3, a4, a5⟩, a6⟩ := r
      have hlt : (i : Int) < (J : Int) := by omega
      clear hrec hdr hrb hq1
      have hwr : w.heap.size + 2 ≤ wr.heap.size := by
        obtain ⟨_, _, _, _, _, _, hx, _, _⟩ := ST
        have := hx.lt
        omega
      have hx40 : x.n ≤ 40 := by omega
      rcases b
      · have hfn : recF s rs m (q.1 :: (bodF d J).drop (i + 1)) = (s, rs, m) := recF_no (by rw [Hrb.out]; rintro ⟨h, -⟩; cases h)
        go_wp2_with (
          go_at_call 54
          refine D.mono ?_
          rintro e w2 ⟨rfl, hb2⟩
          have hsz2 := Nat.le_trans hwr hb2.size
          have ST3 := (ST.below hb2 (Nat.le_refl _)).alloc (.cells #[.int .i64 a0, .int .i64 a1, .int .i64 a2, .int .i64 a3, .int .i64 a4, .int .i64 a5, .int .i64 a6] 27)
          have AZ3 := (AZ.below hb2 AZ.lt).alloc (.cells #[.int .i64 a0, .int .i64 a1, .int .i64 a2, .int .i64 a3, .int .i64 a4, .int .i64 a5, .int .i64 a6] 27)
          have OR3 := (OR.below hb2 (Nat.le_refl _)).alloc (.cells #[.int .i64 a0, .int .i64 a1, .int .i64 a2, .int .i64 a3, .int .i64 a4, .int .i64 a5, .int .i64 a6] 27)
          have DW3 := (dwi.below hb2 (Nat.le_refl _)).alloc (.cells #[.int .i64 a0, .int .i64 a1, .int .i64 a2, .int .i64 a3, .int .i64 a4, .int .i64 a5, .int .i64 a6] 27)
          have HB2 := HB.trans (hb2.mono HB.size)
          have HB3 := HB2.alloc HB2.size (.cells #[.int .i64 a0, .int .i64 a1, .int .i64 a2, .int .i64 a3, .int .i64 a4, .int .i64 a5, .int .i64 a6] 27)
          have AZ4 := AZ3
          have OR4 := OR3
          have HB4 := HB3
          obtain ⟨TA, tn, tc, TB, tm, td, tx, ta, tb⟩ := ST3
          obtain ⟨x0, x1, x2, xf0, xf1, xf2⟩ := tx.three
          obtain ⟨z0, z1, z2, zf0, zf1, zf2⟩ := AZ4.three)
        have F1 := AZ4.set 0 (.slice TA tn tc)
        have F2 := F1.set 1 (.slice TB tm td)
        have hfin : recF zeroSta [] 0 (bodF d J) = (s, rs, m) := by rw [hrec2, hfn]
        refine bodyPost_ret (v := .tuple #[.agg #[.slice TA tn tc, .slice TB tm td, .int .i64 s.2.2], .slice R k kc, .int .i64 (m : Nat)]) (by simp [results, Tryz.results72, go_sem, z0, z1, z2]) rfl ?_
        refine ⟨J, HJ.out, ?_⟩
        rw [hfin]
        exact ⟨TA, tn, tc, TB, tm, td, R, k, kc, rfl, ((ta.apart (by decide) AZ4 0 _).apart (by decide) F1 1 _).apart (by decide) F2 2 _, ((tb.apart (by decide) AZ4 0 _).apart (by decide) F1 1 _).apart (by decide) F2 2 _, (((OR4.apart (by decide) AZ4 0 _).apart (by decide) F1 1 _).apart (by decide) F2 2 _).from_ (by omega), ((HB4.setCell (Nat.le_refl _) _).setCell (Nat.le_refl _) _).setCell (Nat.le_refl _) _⟩
      · obtain ⟨sl, sh, slf⟩ := s
        obtain ⟨z, s', hz⟩ : ∃ z s', stepR (sl, sh, slf) (a0, a1, (a2, a3, a4, a5), a6) = (z, s') := ⟨_, _, rfl⟩
        have Hz := Lib.hid hz
        have hsm : sl.length ≤ 160 := right_small hsr
        have AP := fun (W : World) (SA SB : Option Addr) (sn sc sm sd : Nat) => l5Apply (w.heap.size + 1) W.heap.size w.heap.size SA SB sn sc sm sd sl sh slf a0 a1 a2 a3 a4 a5 a6 (W.alloc (.cells #[.int .i64 a0, .int .i64 a1, .int .i64 a2, .int .i64 a3, .int .i64 a4, .int .i64 a5, .int .i64 a6] 27))
        rw [hz] at AP
        clear hz
        have HAP := Lib.hid AP
        clear AP
        by_cases hz0 : z = 0
        · subst hz0
          go_wp2_with (first
            | (
               go_at_call 54
               refine D.mono ?_
               rintro e w2 ⟨rfl, hb2⟩
               have hsz2 := Nat.le_trans hwr hb2.size
               have ST3 := (ST.below hb2 (Nat.le_refl _)).alloc (.cells #[.int .i64 a0, .int .i64 a1, .int .i64 a2, .int .i64 a3, .int .i64 a4, .int .i64 a5, .int .i64 a6] 27)
               have AZ3 := (AZ.below hb2 AZ.lt).alloc (.cells #[.int .i64 a0, .int .i64 a1, .int .i64 a2, .int .i64 a3, .int .i64 a4, .int .i64 a5, .int .i64 a6] 27)
               have OR3 := (OR.below hb2 (Nat.le_refl _)).alloc (.cells #[.int .i64 a0, .int .i64 a1, .int .i64 a2, .int .i64 a3, .int .i64 a4, .int .i64 a5, .int .i64 a6] 27)
               have DW3 := (dwi.below hb2 (Nat.le_refl _)).alloc (.cells #[.int .i64 a0, .int .i64 a1, .int .i64 a2, .int .i64 a3, .int .i64 a4, .int .i64 a5, .int .i64 a6] 27)
               have HB2 := HB.trans (hb2.mono HB.size)
               have HB3 := HB2.alloc HB2.size (.cells #[.int .i64 a0, .int .i64 a1, .int .i64 a2, .int .i64 a3, .int .i64 a4, .int .i64 a5, .int .i64 a6] 27)
               obtain ⟨SA, sn, sc, SB, sm, sd, sx, sa, sb⟩ := ST3)
            | (go_at_call 55
               refine (HAP.out _ SA SB sn sc sm sd sx (At.new _ _ _) sa sb HB3.size (by have := sa.len okS; omega)).mono ?_
               rintro e w4 ⟨rfl, ST4, hg4⟩
               have hr4 := (At.new w2 27 #[.int .i64 a0, .int .i64 a1, .int .i64 a2, .int .i64 a3, .int .i64 a4, .int .i64 a5, .int .i64 a6]).grown hg4 (fun e => by have := Option.some.inj e; omega)
               obtain ⟨r0, r1, r2, r3, r4, r5, r6⟩ := hr4.seven
               have AZ4 := AZ3.grown hg4 (fun e => by have := Option.some.inj e; omega)
               have OR4 := OR3.grown hg4 (OR3.neBlk (by decide) sx)
               have DW4 := DW3.grown hg4 (fun g hg hmm => by have := (DOw.lt DW3 g hmm).1; have := Option.some.inj hg; omega)
               have HB4 := HB3.grown hg4 HB3.size (fun g hg => by have := Option.some.inj hg; omega)
               have OR5 := OR4.alloc (.cells #[.int .i64 a0, .int .i64 a1, .int .i64 a2, .int .i64 a3, .int .i64 a4, .int .i64 a5, .int .i64 a6] 27)
               have DW5 := DW4.alloc (.cells #[.int .i64 a0, .int .i64 a1, .int .i64 a2, .int .i64 a3, .int .i64 a4, .int .i64 a5, .int .i64 a6] 27)
               have HB5 := HB4.alloc HB4.size (.cells #[.int .i64 a0, .int .i64 a1, .int .i64 a2, .int .i64 a3, .int .i64 a4, .int .i64 a5, .int .i64 a6] 27)
               have rd5 := rd_lit okR w4 27 [(a0, a1, (a2, a3, a4, a5), a6)] #[.int .i64 a0, .int .i64 a1, .int .i64 a2, .int .i64 a3, .int .i64 a4, .int .i64 a5, .int .i64 a6] rfl)
            | (at_builtin
               refine wpList_append_ow okR _ rfl (.tmp 40) (.tmp 42) _ rfl (w.heap.size + 2) info_rcd Tryz.underlying51 rfl R k kc rs rfl OR5 (some ⟨w4.heap.size, 0, none⟩) 1 1 _ [(a0, a1, (a2, a3, a4, a5), a6)] rfl rd5 rfl (by unfold maxLen; omega) (by omega) (by have := ST4; have := hg4.size; simp at this ⊢; omega) ?_
               intro R6 kc6 w6 ow6 hg6 hat6
               have DW6 := DW5.grown hg6 (DW5.neRow OR5)
               have AZ6 := (AZ4.alloc (.cells #[.int .i64 a0, .int .i64 a1, .int .i64 a2, .int .i64 a3, .int .i64 a4, .int .i64 a5, .int .i64 a6] 27)).grown hg6 (OR5.neBlk (by decide) (AZ4.alloc (.cells #[.int .i64 a0, .int .i64 a1, .int .i64 a2, .int .i64 a3, .int .i64 a4, .int .i64 a5, .int .i64 a6] 27)) |> fun f e => f _ e rfl)
               have HB6 := HB5.grown hg6 HB5.size (fun g hg => by have := (OR5.lt g hg).1; omega)
               obtain ⟨g2, x', hA2, hx2', hcell6, hrow6⟩ := DW6.row hq
               obtain rfl : x = x' := by rw [hx2] at hx2'; simpa using hx2'
               obtain rfl : g2 = g1 := by simpa using hA2.symm))
          have h1 : (decR q.1).2 = true := by rw [Hrb.out]
          have h2 : (stepR (sl, sh, slf) (decR q.1).1).1 = 0 := by rw [Hrb.out, Hz.out]
          have hyes := recF_yes (rs := rs) (n := m) (bs := (bodF d J).drop (i + 1)) h1 h2
          have hright := step_right hsr (decR_right h1) h2
          rw [Hrb.out] at hyes hright
          dsimp only at hyes hright
          rw [Hz.out] at hyes hright
          rw [hxl] at hyes
          refine ⟨⟨i + 1, s', rs ++ [(a0, a1, (a2, a3, a4, a5), a6)], m + x.n + 3, R6, k + 1, kc6, rfl, ?_, ?_, (ST4.alloc (.cells #[.int .i64 a0, .int .i64 a1, .int .i64 a2, .int .i64 a3, .int .i64 a4, .int .i64 a5, .int .i64 a6] 27)).grownR OR5 hg6, ow6, by omega, by omega, by omega, by rw [hrec2, hyes], hright, DW6, AZ6, HB6⟩, by simp [intOf]; omega⟩
          · simp
          · simp
        · go_wp2_with (first
            | (
               go_at_call 54
               refine D.mono ?_
               rintro e w2 ⟨rfl, hb2⟩
               have hsz2 := Nat.le_trans hwr hb2.size
               have ST3 := (ST.below hb2 (Nat.le_refl _)).alloc (.cells #[.int .i64 a0, .int .i64 a1, .int .i64 a2, .int .i64 a3, .int .i64 a4, .int .i64 a5, .int .i64 a6] 27)
               have AZ3 := (AZ.below hb2 AZ.lt).alloc (.cells #[.int .i64 a0, .int .i64 a1, .int .i64 a2, .int .i64 a3, .int .i64 a4, .int .i64 a5, .int .i64 a6] 27)
               have OR3 := (OR.below hb2 (Nat.le_refl _)).alloc (.cells #[.int .i64 a0, .int .i64 a1, .int .i64 a2, .int .i64 a3, .int .i64 a4, .int .i64 a5, .int .i64 a6] 27)
               have DW3 := (dwi.below hb2 (Nat.le_refl _)).alloc (.cells #[.int .i64 a0, .int .i64 a1, .int .i64 a2, .int .i64 a3, .int .i64 a4, .int .i64 a5, .int .i64 a6] 27)
               have HB2 := HB.trans (hb2.mono HB.size)
               have HB3 := HB2.alloc HB2.size (.cells #[.int .i64 a0, .int .i64 a1, .int .i64 a2, .int .i64 a3, .int .i64 a4, .int .i64 a5, .int .i64 a6] 27)
               obtain ⟨SA, sn, sc, SB, sm, sd, sx, sa, sb⟩ := ST3)
            | (go_at_call 55
               refine (HAP.out _ SA SB sn sc sm sd sx (At.new _ _ _) sa sb HB3.size (by have := sa.len okS; omega)).mono ?_
               rintro e w4 ⟨rfl, ST4, hg4⟩
               have hss : s' = (sl, sh, slf) := by have := step_no (sl, sh, slf) (a0, a1, (a2, a3, a4, a5), a6) (by rw [Hz.out]; exact hz0); rw [Hz.out] at this; exact this
               subst hss
               have AZ4 := AZ3.grown hg4 (fun e => by have := Option.some.inj e; omega)
               have OR4 := OR3.grown hg4 (OR3.neBlk (by decide) sx)
               have HB4 := HB3.grown hg4 HB3.size (fun g hg => by have := Option.some.inj hg; omega)
               obtain ⟨TA, tn, tc, TB, tm, td, tx, ta, tb⟩ := ST4
               obtain ⟨x0, x1, x2, xf0, xf1, xf2⟩ := tx.three
               obtain ⟨z0, z1, z2, zf0, zf1, zf2⟩ := AZ4.three))
          have hfn : recF (sl, sh, slf) rs m (q.1 :: (bodF d J).drop (i + 1)) = ((sl, sh, slf), rs, m) := recF_no (by rw [Hrb.out, Hz.out]; exact fun h => hz0 h.2)
          have F1 := AZ4.set 0 (.slice TA tn tc)
          have F2 := F1.set 1 (.slice TB tm td)
          have hfin : recF zeroSta [] 0 (bodF d J) = ((sl, sh, slf), rs, m) := by rw [hrec2, hfn]
          refine bodyPost_ret (v := .tuple #[.agg #[.slice TA tn tc, .slice TB tm td, .int .i64 (sl, sh, slf).2.2], .slice R k kc, .int .i64 (m : Nat)]) (by simp [results, Tryz.results72, go_sem, z0, z1, z2]) rfl ?_
          refine ⟨J, HJ.out, ?_⟩
          rw [hfin]
          exact ⟨TA, tn, tc, TB, tm, td, R, k, kc, rfl, ((ta.apart (by decide) AZ4 0 _).apart (by decide) F1 1 _).apart (by decide) F2 2 _, ((tb.apart (by decide) AZ4 0 _).apart (by decide) F1 1 _).apart (by decide) F2 2 _, (((OR4.apart (by decide) AZ4 0 _).apart (by decide) F1 1 _).apart (by decide) F2 2 _).from_ (by omega), ((HB4.setCell (Nat.le_refl _) _).setCell (Nat.le_refl _) _).setCell (Nat.le_refl _) _⟩
end Go.Proofs.YtmaillakhhdkfaaGreatDoor
/-
  What a disk says: the model's.
-/
namespace Go.Proofs.YtmaillakhhdkfaaGreatDoor
set_option maxRecDepth 20000
open Go.RowKit
set_option linter.unusedSimpArgs false
set_option linter.unusedVariables false

/-- A disk's code, state, records, size. -/
def RetDsk (r : Int × Sta × List Rcd × Nat) (w : World) (e : Ending) (w' : World) : Prop :=
  ∃ A n c B m d R k kc, e = .returned (.agg #[.int .i64 r.1, .slice A n c, .slice B m d, .int .i64 r.2.1.2.2, .slice R k kc, .int .i64 (r.2.2.2 : Nat)]) ∧ Ow eS w' w.heap.size A n c r.2.1.1 ∧ Ow eH w' w.heap.size B m d r.2.1.2.1 ∧ Ow eR w' w.heap.size R k kc r.2.2.1 ∧ Below w.heap.size w w'
theorem At.sixC {w : World} {g : Nat} {t : TypeId} {a b c d e f : Value} (h : At w g t #[a, b, c, d, e, f]) : (w.cell? ⟨g, 0, none⟩ = some a ∧ w.cell? ⟨g, 1, none⟩ = some b ∧ w.cell? ⟨g, 2, none⟩ = some c ∧ w.cell? ⟨g, 3, none⟩ = some d ∧ w.cell? ⟨g, 4, none⟩ = some e ∧ w.cell? ⟨g, 5, none⟩ = some f) ∧ (w.frozen? ⟨g, 0, none⟩ = false ∧ w.frozen? ⟨g, 1, none⟩ = false ∧ w.frozen? ⟨g, 2, none⟩ = false ∧ w.frozen? ⟨g, 3, none⟩ = false ∧ w.frozen? ⟨g, 4, none⟩ = false ∧ w.frozen? ⟨g, 5, none⟩ = false) :=
  ⟨⟨h.cell 0, h.cell 1, h.cell 2, h.cell 3, h.cell 4, h.cell 5⟩, h.frozen 0, h.frozen 1, h.frozen 2, h.frozen 3, h.frozen 4, h.frozen 5⟩
theorem recoverM_big {d : List UInt8} (h : ¬ d.length ≤ 20000) : recoverM d = (2, zeroSta, [], 0) := by unfold recoverM; rw [if_neg h]
theorem recoverM_ok {d : List UInt8} {J : Nat} (h : d.length ≤ 20000) (hJ : EndF d J) : recoverM d = (0, recF zeroSta [] 0 (bodF d J)) := by unfold recoverM; rw [if_pos h, framesM_ok h hJ]
set_option maxHeartbeats 1000000 in
theorem specRecoverDisk (A : Option Addr) (n c : Nat) (d : List UInt8) (w : World) (hr : Rd eB w w.heap.size A d) (hn : d.length = n) (hc : n ≤ c) (hcm : c ≤ maxLen) :
    Calls Tryz.prog 25 #[.slice A n c] w fun e w' => RetDsk (recoverM d) w e w' := by
  by_cases h : n ≤ 20000
  rotate_left
  · have Hf := Lib.hid (recoverM_big (d := d) (by omega))
    have hgt : (20000 : Int) < (n : Int) := by omega
    clear hn h hr
    go_enter Tryz.func25, Tryz.ntmps25
    go_wp2
    refine bodyPost_ret (v := .agg #[.int .i64 2, .slice none 0 0, .slice none 0 0, .int .i64 0, .slice none 0 0, .int .i64 0]) (by simp [results, Tryz.results25, go_sem]) rfl ?_
    rw [Hf.out]
    exact ⟨none, 0, 0, none, 0, 0, none, 0, 0, rfl, Ow.nil, Ow.nil, Ow.nil, (Below.refl _ _).alloc (Nat.le_refl _) _⟩
  · have B1 := (Below.refl w.heap.size w).alloc (Nat.le_refl _) (.cells #[.int .i64 0, .slice none 0 0, .slice none 0 0, .int .i64 0, .slice none 0 0, .int .i64 0] 53)
    have H := Lib.hid (l5Recover A n c d _ (hr.lift B1) hn hc (by omega) hcm)
    have Hf := Lib.hid fun (J : Nat) (hJ : EndF d J) => recoverM_ok (d := d) (J := J) (by omega) hJ
    have hle : (n : Int) ≤ 20000 := by omega
    clear hn h hr
    go_enter Tryz.func25, Tryz.ntmps25
    go_wp2_with (
      go_at_call 72
      refine H.out.mono ?_
      rintro e w1 ⟨J, hJ, SA, sn, sc, SB, sm, sd, R, k, kc, rfl, os, oh, or, hb1⟩
      have Hf1 := Lib.hid (Hf.out J hJ)
      have a1 := ((At.new w 53 #[.int .i64 0, .slice none 0 0, .slice none 0 0, .int .i64 0, .slice none 0 0, .int .i64 0]).below hb1 (by simp)).alloc (.cells #[.slice SA sn sc, .slice SB sm sd, .int .i64 (recF zeroSta [] 0 (bodF d J)).1.2.2] 39)
      have b1 := (At.new w1 39 #[.slice SA sn sc, .slice SB sm sd, .int .i64 (recF zeroSta [] 0 (bodF d J)).1.2.2])
      obtain ⟨y0, y1, y2, yf0, yf1, yf2⟩ := b1.three
      obtain ⟨⟨r0, r1, r2, r3, r4, r5⟩, rf0, rf1, rf2, rf3, rf4, rf5⟩ := a1.sixC)
    have HB0 := (B1.trans (hb1.mono B1.size)).alloc (B1.trans (hb1.mono B1.size)).size (.cells #[.slice SA sn sc, .slice SB sm sd, .int .i64 (recF zeroSta [] 0 (bodF d J)).1.2.2] 39)
    have os0 := os.alloc (.cells #[.slice SA sn sc, .slice SB sm sd, .int .i64 (recF zeroSta [] 0 (bodF d J)).1.2.2] 39)
    have oh0 := oh.alloc (.cells #[.slice SA sn sc, .slice SB sm sd, .int .i64 (recF zeroSta [] 0 (bodF d J)).1.2.2] 39)
    have or0 := or.alloc (.cells #[.slice SA sn sc, .slice SB sm sd, .int .i64 (recF zeroSta [] 0 (bodF d J)).1.2.2] 39)
    have g0 := a1
    have os1 := os0.apart (by decide) g0 0 (.int .i64 0)
    have oh1 := oh0.apart (by decide) g0 0 (.int .i64 0)
    have or1 := or0.apart (by decide) g0 0 (.int .i64 0)
    have HB1 := HB0.setCell (p := ⟨w.heap.size, 0, none⟩) (Nat.le_refl _) (.int .i64 0)
    have g1 := g0.set 0 (.int .i64 0)
    have os2 := os1.apart (by decide) g1 1 (.slice SA sn sc)
    have oh2 := oh1.apart (by decide) g1 1 (.slice SA sn sc)
    have or2 := or1.apart (by decide) g1 1 (.slice SA sn sc)
    have HB2 := HB1.setCell (p := ⟨w.heap.size, 1, none⟩) (Nat.le_refl _) (.slice SA sn sc)
    have g2 := g1.set 1 (.slice SA sn sc)
    have os3 := os2.apart (by decide) g2 2 (.slice SB sm sd)
    have oh3 := oh2.apart (by decide) g2 2 (.slice SB sm sd)
    have or3 := or2.apart (by decide) g2 2 (.slice SB sm sd)
    have HB3 := HB2.setCell (p := ⟨w.heap.size, 2, none⟩) (Nat.le_refl _) (.slice SB sm sd)
    have g3 := g2.set 2 (.slice SB sm sd)
    have os4 := os3.apart (by decide) g3 3 (.int .i64 (recF zeroSta [] 0 (bodF d J)).1.2.2)
    have oh4 := oh3.apart (by decide) g3 3 (.int .i64 (recF zeroSta [] 0 (bodF d J)).1.2.2)
    have or4 := or3.apart (by decide) g3 3 (.int .i64 (recF zeroSta [] 0 (bodF d J)).1.2.2)
    have HB4 := HB3.setCell (p := ⟨w.heap.size, 3, none⟩) (Nat.le_refl _) (.int .i64 (recF zeroSta [] 0 (bodF d J)).1.2.2)
    have g4 := g3.set 3 (.int .i64 (recF zeroSta [] 0 (bodF d J)).1.2.2)
    have os5 := os4.apart (by decide) g4 4 (.slice R k kc)
    have oh5 := oh4.apart (by decide) g4 4 (.slice R k kc)
    have or5 := or4.apart (by decide) g4 4 (.slice R k kc)
    have HB5 := HB4.setCell (p := ⟨w.heap.size, 4, none⟩) (Nat.le_refl _) (.slice R k kc)
    have g5 := g4.set 4 (.slice R k kc)
    have os6 := os5.apart (by decide) g5 5 (.int .i64 ((recF zeroSta [] 0 (bodF d J)).2.2 : Nat))
    have oh6 := oh5.apart (by decide) g5 5 (.int .i64 ((recF zeroSta [] 0 (bodF d J)).2.2 : Nat))
    have or6 := or5.apart (by decide) g5 5 (.int .i64 ((recF zeroSta [] 0 (bodF d J)).2.2 : Nat))
    have HB6 := HB5.setCell (p := ⟨w.heap.size, 5, none⟩) (Nat.le_refl _) (.int .i64 ((recF zeroSta [] 0 (bodF d J)).2.2 : Nat))
    have g6 := g5.set 5 (.int .i64 ((recF zeroSta [] 0 (bodF d J)).2.2 : Nat))
    refine bodyPost_ret (v := .agg #[.int .i64 0, .slice SA sn sc, .slice SB sm sd, .int .i64 (recF zeroSta [] 0 (bodF d J)).1.2.2, .slice R k kc, .int .i64 ((recF zeroSta [] 0 (bodF d J)).2.2 : Nat)]) (by simp [results, Tryz.results25, go_sem, r0, r1, r2, r3, r4, r5]) rfl ?_
    rw [Hf1.out]
    exact ⟨SA, sn, sc, SB, sm, sd, R, k, kc, rfl, os6.from_ (by simp), oh6.from_ (by simp), or6.from_ (by simp), HB6⟩
end Go.Proofs.YtmaillakhhdkfaaGreatDoor
