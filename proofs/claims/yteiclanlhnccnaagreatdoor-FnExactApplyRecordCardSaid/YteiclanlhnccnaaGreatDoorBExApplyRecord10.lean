/-
  Texts of one proof, joined: each has its own namespace.
-/
import Derived.Test.YteiclanlhnccnaaGreatDoorBExApplyRecord7
import Derived.Test.YteiclanlhnccnaaGreatDoorBExApplyRecord9
import Derived.Deep.DeepCutAuto
import Derived.Test.YteiclanlhnccnaaGreatDoorBExApplyRecord3
import Derived.Test.YteiclanlhnccnaaGreatDoorBExApplyRecord5
/-
  A right record put to a state of one's own: the model's.
-/
namespace Go.Proofs.YteiclanlhnccnaaGreatDoor
set_option maxRecDepth 20000
open Go.RowKit
set_option linter.unusedSimpArgs false
set_option linter.unusedVariables false
attribute [local irreducible] mixW

theorem step1 {s : Sta} {p : Int} {y : Smp} {k : Int} {z : Int} {b : Bool} {st : List Smp} (h : insertM s.1 y = (z, b, st)) : stepR s (1, p, y, k) = if z = 0 then (0, (st, s.2.1, s.2.2)) else (z, s) := by unfold stepR; rw [if_pos rfl, h]
theorem step2 {s : Sta} {p : Int} {y : Smp} {k : Int} {z : Int} {st : List Hnt} (h : addM s.2.1 p y = (z, st)) : stepR s (2, p, y, k) = if z = 0 then (0, (s.1, st, s.2.2)) else (z, s) := by unfold stepR; rw [if_neg ne21, if_pos rfl, h]
theorem step3 {s : Sta} {p : Int} {y : Smp} {k : Int} {z : Int} {st : List Hnt} (h : doneM s.2.1 p k = (z, st)) : stepR s (3, p, y, k) = if z = 0 then (0, (s.1, st, s.2.2)) else (z, s) := by unfold stepR; rw [if_neg ne31, if_neg ne32, if_pos rfl, h]
theorem step4 {s : Sta} {r0 p : Int} {y : Smp} {k : Int} (h1 : r0 ≠ 1) (h2 : r0 ≠ 2) (h3 : r0 ≠ 3) : stepR s (r0, p, y, k) = if k < s.2.2 then (8, s) else (0, (s.1, s.2.1, k)) := by unfold stepR; rw [if_neg h1, if_neg h2, if_neg h3]

/-- What the state's block and rows are behind the step. -/
def StaAt (w : World) (g base : Nat) (s : Sta) : Prop := ∃ A n c B m d, At w g 39 #[.slice A n c, .slice B m d, .int .i64 s.2.2] ∧ Ow eS w base A n c s.1 ∧ Ow eH w base B m d s.2.1
set_option maxHeartbeats 8000000 in
theorem l5Apply (g gr base : Nat) (A B : Option Addr) (n c m d : Nat) (l : List Smp) (h : List Hnt) (x a0 a1 a2 a3 a4 a5 a6 : Int) (w : World) (hx : At w g 39 #[.slice A n c, .slice B m d, .int .i64 x]) (hr : At w gr 27 #[.int .i64 a0, .int .i64 a1, .int .i64 a2, .int .i64 a3, .int .i64 a4, .int .i64 a5, .int .i64 a6]) (oa : Ow eS w base A n c l) (ob : Ow eH w base B m d h) (hbase : base ≤ w.heap.size) (hn1 : n ≤ 1048576) :
    Calls Tryz.prog 64 #[.pointer (some ⟨g, 0, none⟩), .pointer (some ⟨gr, 0, none⟩)] w fun e w' => e = .returned (.int .i64 (stepR (l, h, x) (a0, a1, (a2, a3, a4, a5), a6)).1) ∧ StaAt w' g base (stepR (l, h, x) (a0, a1, (a2, a3, a4, a5), a6)).2 ∧ w.grownBy w' (some g) := by
  have lx := hx.lt
  have lr := hr.lt
  have x2 : At2 w g 39 #[.slice A n c, .slice B m d, .int .i64 x] gr 27 #[.int .i64 a0, .int .i64 a1, .int .i64 a2, .int .i64 a3, .int .i64 a4, .int .i64 a5, .int .i64 a6] := ⟨hx, hr⟩
  have Hn := Lib.hid (oa.len okS)
  have Hm := Lib.hid (ob.len okH)
  have ra := oa.rd okS
  have rb := ob.rd okH
  have hdc := ob.cap
  obtain ⟨c0, c1, c2, cf0, cf1, cf2⟩ := hx.three
  obtain ⟨r0, r1, r2, r3, r4, r5, r6⟩ := hr.seven
  by_cases k1 : a0 = 1
  · subst k1
    obtain ⟨z, nw, st, hz⟩ : ∃ z b st, insertM l (a2, a3, a4, a5) = (z, b, st) := ⟨_, _, _, rfl⟩
    have Hs := Lib.hid (step1 (s := (l, h, x)) (p := a1) (k := a6) hz)
    have SI := specInsertSample A n c l a2 a3 a4 a5
    rw [hz] at SI
    clear hz
    go_enter Tryz.func64, Tryz.ntmps64
    go_upto_region 3 with fail
    go_cut [5] (fun s wx => ∃ gx Ax kx cx, s = .pointer (some ⟨gx, 0, none⟩) ∧ At wx gx 155 #[.int .i64 z, .bool nw, .slice Ax kx cx] ∧ Ow eS wx w.heap.size Ax kx cx st ∧ Below w.heap.size w wx)
    case first =>
      refine any_start (fun u => At2 u g 39 #[.slice A n c, .slice B m d, .int .i64 x] gr 27 #[.int .i64 1, .int .i64 a1, .int .i64 a2, .int .i64 a3, .int .i64 a4, .int .i64 a5, .int .i64 a6]) (by kernel_rfl) x2.drew (fun _ => ?_)
      have bxd := x2.drew
      have hBd := (Below.refl w.heap.size w).drew
      have rad : _ := ra.lift ((Below.refl _ _).drew)
      refine any_pure (v := ?_) 0 rfl (by kernel_rfl) (fun _ _ _ _ _ h => h) (by rfl) (fun u hu => ?_) bxd ?_
      rotate_left
      · (obtain ⟨hu1, hu2⟩ := hu; obtain ⟨_, _, _, _, _, _⟩ := At.three hu1; obtain ⟨_, _, _, _, _, _, _⟩ := At.seven hu2)
        go_simp
        (with_reducible rfl)
      (try simp only [Act.put, List.setIfInBounds_toArray, List.set_cons_zero, List.set_cons_succ])
      refine any_pure (v := ?_) 1 rfl (by kernel_rfl) (fun _ _ _ _ _ h => h) (by rfl) (fun u hu => ?_) bxd ?_
      rotate_left
      · (obtain ⟨hu1, hu2⟩ := hu; obtain ⟨_, _, _, _, _, _⟩ := At.three hu1; obtain ⟨_, _, _, _, _, _, _⟩ := At.seven hu2)
        go_simp
        (with_reducible rfl)
      (try simp only [Act.put, List.setIfInBounds_toArray, List.set_cons_zero, List.set_cons_succ])
      refine any_pure (v := ?_) 2 rfl (by kernel_rfl) (fun _ _ _ _ _ h => h) (by rfl) (fun u hu => ?_) bxd ?_
      rotate_left
      · (obtain ⟨hu1, hu2⟩ := hu; obtain ⟨_, _, _, _, _, _⟩ := At.three hu1; obtain ⟨_, _, _, _, _, _, _⟩ := At.seven hu2)
        go_simp
        (with_reducible rfl)
      (try simp only [Act.put, List.setIfInBounds_toArray, List.set_cons_zero, List.set_cons_succ])
      refine any_pure (v := ?_) 3 rfl (by kernel_rfl) (fun _ _ _ _ _ h => h) (by rfl) (fun u hu => ?_) bxd ?_
      rotate_left
      · (obtain ⟨hu1, hu2⟩ := hu; obtain ⟨_, _, _, _, _, _⟩ := At.three hu1; obtain ⟨_, _, _, _, _, _, _⟩ := At.seven hu2)
        go_simp
        (with_reducible rfl)
      (try simp only [Act.put, List.setIfInBounds_toArray, List.set_cons_zero, List.set_cons_succ])
      refine any_pure (v := ?_) 4 rfl (by kernel_rfl) (fun _ _ _ _ _ h => h) (by rfl) (fun u hu => ?_) bxd ?_
      rotate_left
      · (obtain ⟨hu1, hu2⟩ := hu; obtain ⟨_, _, _, _, _, _⟩ := At.three hu1; obtain ⟨_, _, _, _, _, _, _⟩ := At.seven hu2)
        go_simp
        (with_reducible rfl)
      (try simp only [Act.put, List.setIfInBounds_toArray, List.set_cons_zero, List.set_cons_succ])
      refine any_pure (v := ?_) 5 rfl (by kernel_rfl) (fun _ _ _ _ _ h => h) (by rfl) (fun u hu => ?_) bxd ?_
      rotate_left
      · (obtain ⟨hu1, hu2⟩ := hu; obtain ⟨_, _, _, _, _, _⟩ := At.three hu1; obtain ⟨_, _, _, _, _, _, _⟩ := At.seven hu2)
        go_simp
        (with_reducible rfl)
      (try simp only [Act.put, List.setIfInBounds_toArray, List.set_cons_zero, List.set_cons_succ])
      refine any_pure (v := ?_) 6 rfl (by kernel_rfl) (fun _ _ _ _ _ h => h) (by rfl) (fun u hu => ?_) bxd ?_
      rotate_left
      · (obtain ⟨hu1, hu2⟩ := hu; obtain ⟨_, _, _, _, _, _⟩ := At.three hu1; obtain ⟨_, _, _, _, _, _, _⟩ := At.seven hu2)
        go_simp
        (with_reducible rfl)
      (try simp only [Act.put, List.setIfInBounds_toArray, List.set_cons_zero, List.set_cons_succ])
      refine any_pure (v := ?_) 7 rfl (by kernel_rfl) (fun _ _ _ _ _ h => h) (by rfl) (fun u hu => ?_) bxd ?_
      rotate_left
      · (obtain ⟨hu1, hu2⟩ := hu; obtain ⟨_, _, _, _, _, _⟩ := At.three hu1; obtain ⟨_, _, _, _, _, _, _⟩ := At.seven hu2)
        go_simp
        (with_reducible rfl)
      (try simp only [Act.put, List.setIfInBounds_toArray, List.set_cons_zero, List.set_cons_succ])
      refine any_two 8 9 rfl rfl (by kernel_rfl) (by rfl) (by rfl) ?_ ?_
      · go_simp
        refine (SI _ rad Hn.out hn1).mono ?_
        rintro e w101 ⟨A101, k101, c101, rfl, ow101, hb101⟩
        have hB101 := hBd.trans (hb101.mono hBd.size)
        have bx101 := bxd.below hb101 bxd.lt
        have ra_101 := rad.lift hb101
        refine ⟨(fun u => At2 u g 39 #[.slice A n c, .slice B m d, .int .i64 x] gr 27 #[.int .i64 1, .int .i64 a1, .int .i64 a2, .int .i64 a3, .int .i64 a4, .int .i64 a5, .int .i64 a6]), fun _ h => h, bx101, ?_⟩
        (try simp only [Act.put, List.setIfInBounds_toArray, List.set_cons_zero, List.set_cons_succ])
        refine any_one 9 rfl (by kernel_rfl) (by rfl) ?_
        go_simp
        have ag102 := At.newAt' (w := w101) (t := 155) (cs := #[.int .i64 0, .bool false, .slice none 0 0]) (show w101.heap.size = w101.heap.size by first | rfl | simp)
        have gl102 : w.heap.size ≤ w101.heap.size := by first | exact hB101.size | exact Nat.le_refl _ | (have := hB101.size; simp at this ⊢; try omega)
        have hal102 := (Below.refl w101.heap.size w101).alloc (Nat.le_refl _) (.cells #[.int .i64 0, .bool false, .slice none 0 0] 155)
        have hB102 := hB101.alloc hB101.size (.cells #[.int .i64 0, .bool false, .slice none 0 0] 155)
        have bx102 := bx101.alloc (.cells #[.int .i64 0, .bool false, .slice none 0 0] 155)
        have ow_102 := ow101.alloc (.cells #[.int .i64 0, .bool false, .slice none 0 0] 155)
        have ra_102 := ra_101.lift hal102
        refine ⟨(fun u => At2 u g 39 #[.slice A n c, .slice B m d, .int .i64 x] gr 27 #[.int .i64 1, .int .i64 a1, .int .i64 a2, .int .i64 a3, .int .i64 a4, .int .i64 a5, .int .i64 a6]), fun _ h => h, bx102, ?_⟩
        (try simp only [Act.put, List.setIfInBounds_toArray, List.set_cons_zero, List.set_cons_succ])
        refine any_one 10 rfl (by kernel_rfl) (by rfl) ?_
        go_simp
        have AG103 := At.newAt' (w := w101) (t := 155) (cs := #[.int .i64 z, .bool nw, .slice A101 k101 c101]) (show w101.heap.size = w101.heap.size by first | rfl | simp)
        have hal103 := (Below.refl w101.heap.size w101).alloc (Nat.le_refl _) (.cells #[.int .i64 z, .bool nw, .slice A101 k101 c101] 155)
        have hB103 := hB101.alloc hB101.size (.cells #[.int .i64 z, .bool nw, .slice A101 k101 c101] 155)
        have bx103 := bx101.alloc (.cells #[.int .i64 z, .bool nw, .slice A101 k101 c101] 155)
        have ow_103 := ow101.alloc (.cells #[.int .i64 z, .bool nw, .slice A101 k101 c101] 155)
        have ra_103 := ra_101.lift hal103
        refine ⟨(fun u => At2 u g 39 #[.slice A n c, .slice B m d, .int .i64 x] gr 27 #[.int .i64 1, .int .i64 a1, .int .i64 a2, .int .i64 a3, .int .i64 a4, .int .i64 a5, .int .i64 a6]), fun _ h => h, bx103, ?_⟩
        (try simp only [Act.put, List.setIfInBounds_toArray, List.set_cons_zero, List.set_cons_succ])
        refine any_done (by kernel_rfl) ?_
        go_wp2
        go_meet
        exact ⟨_, _, _, _, rfl, AG103, ow_103.from_ hBd.size, hB103⟩
      · go_simp
        have ag104 := At.newAt' (w := w.drew) (t := 155) (cs := #[.int .i64 0, .bool false, .slice none 0 0]) (show w.drew.heap.size = w.heap.size by first | rfl | simp)
        have gl104 : w.heap.size ≤ w.heap.size := by first | exact hBd.size | exact Nat.le_refl _ | (have := hBd.size; simp at this ⊢; try omega)
        have hal104 := (Below.refl w.drew.heap.size w.drew).alloc (Nat.le_refl _) (.cells #[.int .i64 0, .bool false, .slice none 0 0] 155)
        have hB104 := hBd.alloc hBd.size (.cells #[.int .i64 0, .bool false, .slice none 0 0] 155)
        have bx104 := bxd.alloc (.cells #[.int .i64 0, .bool false, .slice none 0 0] 155)
        have ra_104 := rad.lift hal104
        refine ⟨(fun u => At2 u g 39 #[.slice A n c, .slice B m d, .int .i64 x] gr 27 #[.int .i64 1, .int .i64 a1, .int .i64 a2, .int .i64 a3, .int .i64 a4, .int .i64 a5, .int .i64 a6]), fun _ h => h, bx104, ?_⟩
        (try simp only [Act.put, List.setIfInBounds_toArray, List.set_cons_zero, List.set_cons_succ])
        refine any_one 8 rfl (by kernel_rfl) (by rfl) ?_
        go_simp
        refine (SI _ ra_104 Hn.out hn1).mono ?_
        rintro e w105 ⟨A105, k105, c105, rfl, ow105, hb105⟩
        have hB105 := hB104.trans (hb105.mono hB104.size)
        have bx105 := bx104.below hb105 bx104.lt
        have ag_105 := ag104.below hb105 ag104.lt
        have ra_105 := ra_104.lift hb105
        refine ⟨(fun u => At2 u g 39 #[.slice A n c, .slice B m d, .int .i64 x] gr 27 #[.int .i64 1, .int .i64 a1, .int .i64 a2, .int .i64 a3, .int .i64 a4, .int .i64 a5, .int .i64 a6]), fun _ h => h, bx105, ?_⟩
        (try simp only [Act.put, List.setIfInBounds_toArray, List.set_cons_zero, List.set_cons_succ])
        refine any_one 10 rfl (by kernel_rfl) (by rfl) ?_
        obtain ⟨k0, k1, k2, k3, k4, k5⟩ := ag_105.three
        go_simp
        have hltg106 : w.heap.size < w105.heap.size := ag_105.lt
        have AG106 : At (((w105.setCell ⟨w.heap.size, 0, none⟩ (.int .i64 z)).setCell ⟨w.heap.size, 1, none⟩ (.bool nw)).setCell ⟨w.heap.size, 2, none⟩ (.slice A105 k105 c105)) w.heap.size 155 #[.int .i64 z, .bool nw, .slice A105 k105 c105] := (((ag_105.set 0 (.int .i64 z)).set 1 (.bool nw)).set 2 (.slice A105 k105 c105))
        have bx106 := (((bx105.far (p := ⟨w.heap.size, 0, none⟩) (by show g ≠ w.heap.size ∧ gr ≠ w.heap.size; have := gl104; omega) (.int .i64 z)).far (p := ⟨w.heap.size, 1, none⟩) (by show g ≠ w.heap.size ∧ gr ≠ w.heap.size; have := gl104; omega) (.bool nw)).far (p := ⟨w.heap.size, 2, none⟩) (by show g ≠ w.heap.size ∧ gr ≠ w.heap.size; have := gl104; omega) (.slice A105 k105 c105))
        have hB106 := (((hB105.setCell (p := ⟨w.heap.size, 0, none⟩) gl104 (.int .i64 z)).setCell (p := ⟨w.heap.size, 1, none⟩) gl104 (.bool nw)).setCell (p := ⟨w.heap.size, 2, none⟩) gl104 (.slice A105 k105 c105))
        have ow_106 := ow105
        have ow_106 := ow_106.apart (by decide) ag_105 0 (.int .i64 z)
        have ow_106 := ow_106.apart (by decide) ((ag_105.set 0 (.int .i64 z))) 1 (.bool nw)
        have ow_106 := ow_106.apart (by decide) (((ag_105.set 0 (.int .i64 z)).set 1 (.bool nw))) 2 (.slice A105 k105 c105)
        refine ⟨(fun u => At2 u g 39 #[.slice A n c, .slice B m d, .int .i64 x] gr 27 #[.int .i64 1, .int .i64 a1, .int .i64 a2, .int .i64 a3, .int .i64 a4, .int .i64 a5, .int .i64 a6]), fun _ h => h, bx106, ?_⟩
        (try simp only [Act.put, List.setIfInBounds_toArray, List.set_cons_zero, List.set_cons_succ])
        refine any_done (by kernel_rfl) ?_
        go_wp2
        go_meet
        exact ⟨_, _, _, _, rfl, AG106, ow_106.from_ hB104.size, hB106⟩
    case rest =>
      obtain ⟨gx, Ax, kx, cx, rfl, AX1, OW1, HB1⟩ := hcut
      obtain ⟨q0, q1, q2, _, _, _⟩ := AX1.three
      have hxc := hx.below HB1 lx
      clear c0 c1 c2 cf0 cf1 cf2 r0 r1 r2 r3 r4 r5 r6
      obtain ⟨c0, c1, c2, cf0, cf1, cf2⟩ := hxc.three
      have hne : ¬ g = gx := by
        intro e
        subst e
        have := hxc.symm.trans AX1
        simp at this
      by_cases hz0 : z = 0
      · subst hz0
        have Hr := Lib.hid (show stepR (l, h, x) (1, a1, (a2, a3, a4, a5), a6) = (0, (st, h, x)) by rw [Hs.out, if_pos rfl])
        go_wp2
        go_ret
        rw [Hr.out]
        exact ⟨rfl, ⟨Ax, kx, cx, B, m, d, hxc.set 0 (.slice Ax kx cx), (OW1.from_ hbase).apart (by decide) hxc 0 _, (ob.below HB1 (Nat.le_refl _)).apart (by decide) hxc 0 _⟩, grown_trans (grown_any (grown_below HB1 (Nat.le_refl _)) _) (grown_setCell _ ⟨g, 0, none⟩ _)⟩
      · have hzb : (z == 0) = false := by simpa using hz0
        have Hr := Lib.hid (show stepR (l, h, x) (1, a1, (a2, a3, a4, a5), a6) = (z, (l, h, x)) by rw [Hs.out, if_neg hz0])
        clear hz0
        go_wp2
        go_ret
        rw [Hr.out]
        exact ⟨rfl, ⟨A, n, c, B, m, d, hxc, oa.below HB1 (Nat.le_refl _), ob.below HB1 (Nat.le_refl _)⟩, grown_any (grown_below HB1 (Nat.le_refl _)) _⟩
  by_cases k2 : a0 = 2
  · subst k2
    obtain ⟨z, st, hz⟩ : ∃ z st, addM h a1 (a2, a3, a4, a5) = (z, st) := ⟨_, _, rfl⟩
    have Hs := Lib.hid (step2 (s := (l, h, x)) (k := a6) hz)
    have SI := specAddHint B m d h a1 a2 a3 a4 a5
    rw [hz] at SI
    clear hz
    go_enter Tryz.func64, Tryz.ntmps64
    go_upto_region 8 with fail
    go_cut [6] (fun s wx => ∃ gx Ax kx cx, s = .pointer (some ⟨gx, 0, none⟩) ∧ At wx gx 158 #[.int .i64 z, .slice Ax kx cx] ∧ Ow eH wx w.heap.size Ax kx cx st ∧ Below w.heap.size w wx)
    case first =>
      refine any_start (fun u => At2 u g 39 #[.slice A n c, .slice B m d, .int .i64 x] gr 27 #[.int .i64 2, .int .i64 a1, .int .i64 a2, .int .i64 a3, .int .i64 a4, .int .i64 a5, .int .i64 a6]) (by kernel_rfl) x2.drew (fun _ => ?_)
      have bxd := x2.drew
      have hBd := (Below.refl w.heap.size w).drew
      have rbd : _ := rb.lift ((Below.refl _ _).drew)
      refine any_pure (v := ?_) 0 rfl (by kernel_rfl) (fun _ _ _ _ _ h => h) (by rfl) (fun u hu => ?_) bxd ?_
      rotate_left
      · (obtain ⟨hu1, hu2⟩ := hu; obtain ⟨_, _, _, _, _, _⟩ := At.three hu1; obtain ⟨_, _, _, _, _, _, _⟩ := At.seven hu2)
        go_simp
        (with_reducible rfl)
      (try simp only [Act.put, List.setIfInBounds_toArray, List.set_cons_zero, List.set_cons_succ])
      refine any_pure (v := ?_) 1 rfl (by kernel_rfl) (fun _ _ _ _ _ h => h) (by rfl) (fun u hu => ?_) bxd ?_
      rotate_left
      · (obtain ⟨hu1, hu2⟩ := hu; obtain ⟨_, _, _, _, _, _⟩ := At.three hu1; obtain ⟨_, _, _, _, _, _, _⟩ := At.seven hu2)
        go_simp
        (with_reducible rfl)
      (try simp only [Act.put, List.setIfInBounds_toArray, List.set_cons_zero, List.set_cons_succ])
      refine any_pure (v := ?_) 2 rfl (by kernel_rfl) (fun _ _ _ _ _ h => h) (by rfl) (fun u hu => ?_) bxd ?_
      rotate_left
      · (obtain ⟨hu1, hu2⟩ := hu; obtain ⟨_, _, _, _, _, _⟩ := At.three hu1; obtain ⟨_, _, _, _, _, _, _⟩ := At.seven hu2)
        go_simp
        (with_reducible rfl)
      (try simp only [Act.put, List.setIfInBounds_toArray, List.set_cons_zero, List.set_cons_succ])
      refine any_pure (v := ?_) 3 rfl (by kernel_rfl) (fun _ _ _ _ _ h => h) (by rfl) (fun u hu => ?_) bxd ?_
      rotate_left
      · (obtain ⟨hu1, hu2⟩ := hu; obtain ⟨_, _, _, _, _, _⟩ := At.three hu1; obtain ⟨_, _, _, _, _, _, _⟩ := At.seven hu2)
        go_simp
        (with_reducible rfl)
      (try simp only [Act.put, List.setIfInBounds_toArray, List.set_cons_zero, List.set_cons_succ])
      refine any_pure (v := ?_) 4 rfl (by kernel_rfl) (fun _ _ _ _ _ h => h) (by rfl) (fun u hu => ?_) bxd ?_
      rotate_left
      · (obtain ⟨hu1, hu2⟩ := hu; obtain ⟨_, _, _, _, _, _⟩ := At.three hu1; obtain ⟨_, _, _, _, _, _, _⟩ := At.seven hu2)
        go_simp
        (with_reducible rfl)
      (try simp only [Act.put, List.setIfInBounds_toArray, List.set_cons_zero, List.set_cons_succ])
      refine any_pure (v := ?_) 5 rfl (by kernel_rfl) (fun _ _ _ _ _ h => h) (by rfl) (fun u hu => ?_) bxd ?_
      rotate_left
      · (obtain ⟨hu1, hu2⟩ := hu; obtain ⟨_, _, _, _, _, _⟩ := At.three hu1; obtain ⟨_, _, _, _, _, _, _⟩ := At.seven hu2)
        go_simp
        (with_reducible rfl)
      (try simp only [Act.put, List.setIfInBounds_toArray, List.set_cons_zero, List.set_cons_succ])
      refine any_pure (v := ?_) 6 rfl (by kernel_rfl) (fun _ _ _ _ _ h => h) (by rfl) (fun u hu => ?_) bxd ?_
      rotate_left
      · (obtain ⟨hu1, hu2⟩ := hu; obtain ⟨_, _, _, _, _, _⟩ := At.three hu1; obtain ⟨_, _, _, _, _, _, _⟩ := At.seven hu2)
        go_simp
        (with_reducible rfl)
      (try simp only [Act.put, List.setIfInBounds_toArray, List.set_cons_zero, List.set_cons_succ])
      refine any_pure (v := ?_) 7 rfl (by kernel_rfl) (fun _ _ _ _ _ h => h) (by rfl) (fun u hu => ?_) bxd ?_
      rotate_left
      · (obtain ⟨hu1, hu2⟩ := hu; obtain ⟨_, _, _, _, _, _⟩ := At.three hu1; obtain ⟨_, _, _, _, _, _, _⟩ := At.seven hu2)
        go_simp
        (with_reducible rfl)
      (try simp only [Act.put, List.setIfInBounds_toArray, List.set_cons_zero, List.set_cons_succ])
      refine any_pure (v := ?_) 8 rfl (by kernel_rfl) (fun _ _ _ _ _ h => h) (by rfl) (fun u hu => ?_) bxd ?_
      rotate_left
      · (obtain ⟨hu1, hu2⟩ := hu; obtain ⟨_, _, _, _, _, _⟩ := At.three hu1; obtain ⟨_, _, _, _, _, _, _⟩ := At.seven hu2)
        go_simp
        (with_reducible rfl)
      (try simp only [Act.put, List.setIfInBounds_toArray, List.set_cons_zero, List.set_cons_succ])
      refine any_pure (v := ?_) 9 rfl (by kernel_rfl) (fun _ _ _ _ _ h => h) (by rfl) (fun u hu => ?_) bxd ?_
      rotate_left
      · (obtain ⟨hu1, hu2⟩ := hu; obtain ⟨_, _, _, _, _, _⟩ := At.three hu1; obtain ⟨_, _, _, _, _, _, _⟩ := At.seven hu2)
        go_simp
        (with_reducible rfl)
      (try simp only [Act.put, List.setIfInBounds_toArray, List.set_cons_zero, List.set_cons_succ])
      refine any_pure (v := ?_) 10 rfl (by kernel_rfl) (fun _ _ _ _ _ h => h) (by rfl) (fun u hu => ?_) bxd ?_
      rotate_left
      · (obtain ⟨hu1, hu2⟩ := hu; obtain ⟨_, _, _, _, _, _⟩ := At.three hu1; obtain ⟨_, _, _, _, _, _, _⟩ := At.seven hu2)
        go_simp
        (with_reducible rfl)
      (try simp only [Act.put, List.setIfInBounds_toArray, List.set_cons_zero, List.set_cons_succ])
      refine any_pure (v := ?_) 11 rfl (by kernel_rfl) (fun _ _ _ _ _ h => h) (by rfl) (fun u hu => ?_) bxd ?_
      rotate_left
      · (obtain ⟨hu1, hu2⟩ := hu; obtain ⟨_, _, _, _, _, _⟩ := At.three hu1; obtain ⟨_, _, _, _, _, _, _⟩ := At.seven hu2)
        go_simp
        (with_reducible rfl)
      (try simp only [Act.put, List.setIfInBounds_toArray, List.set_cons_zero, List.set_cons_succ])
      refine any_two 12 13 rfl rfl (by kernel_rfl) (by rfl) (by rfl) ?_ ?_
      · go_simp
        refine (SI _ rbd Hm.out).mono ?_
        rintro e w101 ⟨A101, k101, c101, rfl, ow101, hb101⟩
        have hB101 := hBd.trans (hb101.mono hBd.size)
        have bx101 := bxd.below hb101 bxd.lt
        have rb_101 := rbd.lift hb101
        refine ⟨(fun u => At2 u g 39 #[.slice A n c, .slice B m d, .int .i64 x] gr 27 #[.int .i64 2, .int .i64 a1, .int .i64 a2, .int .i64 a3, .int .i64 a4, .int .i64 a5, .int .i64 a6]), fun _ h => h, bx101, ?_⟩
        (try simp only [Act.put, List.setIfInBounds_toArray, List.set_cons_zero, List.set_cons_succ])
        refine any_one 13 rfl (by kernel_rfl) (by rfl) ?_
        go_simp
        have ag102 := At.newAt' (w := w101) (t := 158) (cs := #[.int .i64 0, .slice none 0 0]) (show w101.heap.size = w101.heap.size by first | rfl | simp)
        have gl102 : w.heap.size ≤ w101.heap.size := by first | exact hB101.size | exact Nat.le_refl _ | (have := hB101.size; simp at this ⊢; try omega)
        have hal102 := (Below.refl w101.heap.size w101).alloc (Nat.le_refl _) (.cells #[.int .i64 0, .slice none 0 0] 158)
        have hB102 := hB101.alloc hB101.size (.cells #[.int .i64 0, .slice none 0 0] 158)
        have bx102 := bx101.alloc (.cells #[.int .i64 0, .slice none 0 0] 158)
        have ow_102 := ow101.alloc (.cells #[.int .i64 0, .slice none 0 0] 158)
        have rb_102 := rb_101.lift hal102
        refine ⟨(fun u => At2 u g 39 #[.slice A n c, .slice B m d, .int .i64 x] gr 27 #[.int .i64 2, .int .i64 a1, .int .i64 a2, .int .i64 a3, .int .i64 a4, .int .i64 a5, .int .i64 a6]), fun _ h => h, bx102, ?_⟩
        (try simp only [Act.put, List.setIfInBounds_toArray, List.set_cons_zero, List.set_cons_succ])
        refine any_one 14 rfl (by kernel_rfl) (by rfl) ?_
        go_simp
        have AG103 := At.newAt' (w := w101) (t := 158) (cs := #[.int .i64 z, .slice A101 k101 c101]) (show w101.heap.size = w101.heap.size by first | rfl | simp)
        have hal103 := (Below.refl w101.heap.size w101).alloc (Nat.le_refl _) (.cells #[.int .i64 z, .slice A101 k101 c101] 158)
        have hB103 := hB101.alloc hB101.size (.cells #[.int .i64 z, .slice A101 k101 c101] 158)
        have bx103 := bx101.alloc (.cells #[.int .i64 z, .slice A101 k101 c101] 158)
        have ow_103 := ow101.alloc (.cells #[.int .i64 z, .slice A101 k101 c101] 158)
        have rb_103 := rb_101.lift hal103
        refine ⟨(fun u => At2 u g 39 #[.slice A n c, .slice B m d, .int .i64 x] gr 27 #[.int .i64 2, .int .i64 a1, .int .i64 a2, .int .i64 a3, .int .i64 a4, .int .i64 a5, .int .i64 a6]), fun _ h => h, bx103, ?_⟩
        (try simp only [Act.put, List.setIfInBounds_toArray, List.set_cons_zero, List.set_cons_succ])
        refine any_done (by kernel_rfl) ?_
        go_wp2
        go_meet
        exact ⟨_, _, _, _, rfl, AG103, ow_103.from_ hBd.size, hB103⟩
      · go_simp
        have ag104 := At.newAt' (w := w.drew) (t := 158) (cs := #[.int .i64 0, .slice none 0 0]) (show w.drew.heap.size = w.heap.size by first | rfl | simp)
        have gl104 : w.heap.size ≤ w.heap.size := by first | exact hBd.size | exact Nat.le_refl _ | (have := hBd.size; simp at this ⊢; try omega)
        have hal104 := (Below.refl w.drew.heap.size w.drew).alloc (Nat.le_refl _) (.cells #[.int .i64 0, .slice none 0 0] 158)
        have hB104 := hBd.alloc hBd.size (.cells #[.int .i64 0, .slice none 0 0] 158)
        have bx104 := bxd.alloc (.cells #[.int .i64 0, .slice none 0 0] 158)
        have rb_104 := rbd.lift hal104
        refine ⟨(fun u => At2 u g 39 #[.slice A n c, .slice B m d, .int .i64 x] gr 27 #[.int .i64 2, .int .i64 a1, .int .i64 a2, .int .i64 a3, .int .i64 a4, .int .i64 a5, .int .i64 a6]), fun _ h => h, bx104, ?_⟩
        (try simp only [Act.put, List.setIfInBounds_toArray, List.set_cons_zero, List.set_cons_succ])
        refine any_one 12 rfl (by kernel_rfl) (by rfl) ?_
        go_simp
        refine (SI _ rb_104 Hm.out).mono ?_
        rintro e w105 ⟨A105, k105, c105, rfl, ow105, hb105⟩
        have hB105 := hB104.trans (hb105.mono hB104.size)
        have bx105 := bx104.below hb105 bx104.lt
        have ag_105 := ag104.below hb105 ag104.lt
        have rb_105 := rb_104.lift hb105
        refine ⟨(fun u => At2 u g 39 #[.slice A n c, .slice B m d, .int .i64 x] gr 27 #[.int .i64 2, .int .i64 a1, .int .i64 a2, .int .i64 a3, .int .i64 a4, .int .i64 a5, .int .i64 a6]), fun _ h => h, bx105, ?_⟩
        (try simp only [Act.put, List.setIfInBounds_toArray, List.set_cons_zero, List.set_cons_succ])
        refine any_one 14 rfl (by kernel_rfl) (by rfl) ?_
        obtain ⟨k0, k1, k2, k3⟩ := ag_105.two
        go_simp
        have hltg106 : w.heap.size < w105.heap.size := ag_105.lt
        have AG106 : At ((w105.setCell ⟨w.heap.size, 0, none⟩ (.int .i64 z)).setCell ⟨w.heap.size, 1, none⟩ (.slice A105 k105 c105)) w.heap.size 158 #[.int .i64 z, .slice A105 k105 c105] := ((ag_105.set 0 (.int .i64 z)).set 1 (.slice A105 k105 c105))
        have bx106 := ((bx105.far (p := ⟨w.heap.size, 0, none⟩) (by show g ≠ w.heap.size ∧ gr ≠ w.heap.size; have := gl104; omega) (.int .i64 z)).far (p := ⟨w.heap.size, 1, none⟩) (by show g ≠ w.heap.size ∧ gr ≠ w.heap.size; have := gl104; omega) (.slice A105 k105 c105))
        have hB106 := ((hB105.setCell (p := ⟨w.heap.size, 0, none⟩) gl104 (.int .i64 z)).setCell (p := ⟨w.heap.size, 1, none⟩) gl104 (.slice A105 k105 c105))
        have ow_106 := ow105
        have ow_106 := ow_106.apart (by decide) ag_105 0 (.int .i64 z)
        have ow_106 := ow_106.apart (by decide) ((ag_105.set 0 (.int .i64 z))) 1 (.slice A105 k105 c105)
        refine ⟨(fun u => At2 u g 39 #[.slice A n c, .slice B m d, .int .i64 x] gr 27 #[.int .i64 2, .int .i64 a1, .int .i64 a2, .int .i64 a3, .int .i64 a4, .int .i64 a5, .int .i64 a6]), fun _ h => h, bx106, ?_⟩
        (try simp only [Act.put, List.setIfInBounds_toArray, List.set_cons_zero, List.set_cons_succ])
        refine any_done (by kernel_rfl) ?_
        go_wp2
        go_meet
        exact ⟨_, _, _, _, rfl, AG106, ow_106.from_ hB104.size, hB106⟩
    case rest =>
      obtain ⟨gx, Ax, kx, cx, rfl, AX1, OW1, HB1⟩ := hcut
      obtain ⟨q0, q1, _, _⟩ := AX1.two
      have hxc := hx.below HB1 lx
      clear c0 c1 c2 cf0 cf1 cf2 r0 r1 r2 r3 r4 r5 r6
      obtain ⟨c0, c1, c2, cf0, cf1, cf2⟩ := hxc.three
      have hne : ¬ g = gx := by
        intro e
        subst e
        have := hxc.symm.trans AX1
        simp at this
      by_cases hz0 : z = 0
      · subst hz0
        have Hr := Lib.hid (show stepR (l, h, x) (2, a1, (a2, a3, a4, a5), a6) = (0, (l, st, x)) by rw [Hs.out, if_pos rfl])
        go_wp2
        go_ret
        rw [Hr.out]
        exact ⟨rfl, ⟨A, n, c, Ax, kx, cx, hxc.set 1 (.slice Ax kx cx), (oa.below HB1 (Nat.le_refl _)).apart (by decide) hxc 1 _, (OW1.from_ hbase).apart (by decide) hxc 1 _⟩, grown_trans (grown_any (grown_below HB1 (Nat.le_refl _)) _) (grown_setCell _ ⟨g, 1, none⟩ _)⟩
      · have hzb : (z == 0) = false := by simpa using hz0
        have Hr := Lib.hid (show stepR (l, h, x) (2, a1, (a2, a3, a4, a5), a6) = (z, (l, h, x)) by rw [Hs.out, if_neg hz0])
        clear hz0
        go_wp2
        go_ret
        rw [Hr.out]
        exact ⟨rfl, ⟨A, n, c, B, m, d, hxc, oa.below HB1 (Nat.le_refl _), ob.below HB1 (Nat.le_refl _)⟩, grown_any (grown_below HB1 (Nat.le_refl _)) _⟩
  by_cases k3 : a0 = 3
  · subst k3
    obtain ⟨z, st, hz⟩ : ∃ z st, doneM h a1 a6 = (z, st) := ⟨_, _, rfl⟩
    have Hs := Lib.hid (step3 (s := (l, h, x)) (y := (a2, a3, a4, a5)) hz)
    have SI := specDoneHint B m d h a1 a6
    rw [hz] at SI
    clear hz
    go_enter Tryz.func64, Tryz.ntmps64
    go_upto_region 13 with fail
    go_cut [7] (fun s wx => ∃ gx Ax kx cx, s = .pointer (some ⟨gx, 0, none⟩) ∧ At wx gx 158 #[.int .i64 z, .slice Ax kx cx] ∧ Ow eH wx w.heap.size Ax kx cx st ∧ Below w.heap.size w wx)
    case first =>
      refine any_start (fun u => At2 u g 39 #[.slice A n c, .slice B m d, .int .i64 x] gr 27 #[.int .i64 3, .int .i64 a1, .int .i64 a2, .int .i64 a3, .int .i64 a4, .int .i64 a5, .int .i64 a6]) (by kernel_rfl) x2.drew (fun _ => ?_)
      have bxd := x2.drew
      have hBd := (Below.refl w.heap.size w).drew
      have rbd : _ := rb.lift ((Below.refl _ _).drew)
      refine any_pure (v := ?_) 0 rfl (by kernel_rfl) (fun _ _ _ _ _ h => h) (by rfl) (fun u hu => ?_) bxd ?_
      rotate_left
      · (obtain ⟨hu1, hu2⟩ := hu; obtain ⟨_, _, _, _, _, _⟩ := At.three hu1; obtain ⟨_, _, _, _, _, _, _⟩ := At.seven hu2)
        go_simp
        (with_reducible rfl)
      (try simp only [Act.put, List.setIfInBounds_toArray, List.set_cons_zero, List.set_cons_succ])
      refine any_pure (v := ?_) 1 rfl (by kernel_rfl) (fun _ _ _ _ _ h => h) (by rfl) (fun u hu => ?_) bxd ?_
      rotate_left
      · (obtain ⟨hu1, hu2⟩ := hu; obtain ⟨_, _, _, _, _, _⟩ := At.three hu1; obtain ⟨_, _, _, _, _, _, _⟩ := At.seven hu2)
        go_simp
        (with_reducible rfl)
      (try simp only [Act.put, List.setIfInBounds_toArray, List.set_cons_zero, List.set_cons_succ])
      refine any_pure (v := ?_) 2 rfl (by kernel_rfl) (fun _ _ _ _ _ h => h) (by rfl) (fun u hu => ?_) bxd ?_
      rotate_left
      · (obtain ⟨hu1, hu2⟩ := hu; obtain ⟨_, _, _, _, _, _⟩ := At.three hu1; obtain ⟨_, _, _, _, _, _, _⟩ := At.seven hu2)
        go_simp
        (with_reducible rfl)
      (try simp only [Act.put, List.setIfInBounds_toArray, List.set_cons_zero, List.set_cons_succ])
      refine any_pure (v := ?_) 3 rfl (by kernel_rfl) (fun _ _ _ _ _ h => h) (by rfl) (fun u hu => ?_) bxd ?_
      rotate_left
      · (obtain ⟨hu1, hu2⟩ := hu; obtain ⟨_, _, _, _, _, _⟩ := At.three hu1; obtain ⟨_, _, _, _, _, _, _⟩ := At.seven hu2)
        go_simp
        (with_reducible rfl)
      (try simp only [Act.put, List.setIfInBounds_toArray, List.set_cons_zero, List.set_cons_succ])
      refine any_pure (v := ?_) 4 rfl (by kernel_rfl) (fun _ _ _ _ _ h => h) (by rfl) (fun u hu => ?_) bxd ?_
      rotate_left
      · (obtain ⟨hu1, hu2⟩ := hu; obtain ⟨_, _, _, _, _, _⟩ := At.three hu1; obtain ⟨_, _, _, _, _, _, _⟩ := At.seven hu2)
        go_simp
        (with_reducible rfl)
      (try simp only [Act.put, List.setIfInBounds_toArray, List.set_cons_zero, List.set_cons_succ])
      refine any_pure (v := ?_) 5 rfl (by kernel_rfl) (fun _ _ _ _ _ h => h) (by rfl) (fun u hu => ?_) bxd ?_
      rotate_left
      · (obtain ⟨hu1, hu2⟩ := hu; obtain ⟨_, _, _, _, _, _⟩ := At.three hu1; obtain ⟨_, _, _, _, _, _, _⟩ := At.seven hu2)
        go_simp
        (with_reducible rfl)
      (try simp only [Act.put, List.setIfInBounds_toArray, List.set_cons_zero, List.set_cons_succ])
      refine any_pure (v := ?_) 6 rfl (by kernel_rfl) (fun _ _ _ _ _ h => h) (by rfl) (fun u hu => ?_) bxd ?_
      rotate_left
      · (obtain ⟨hu1, hu2⟩ := hu; obtain ⟨_, _, _, _, _, _⟩ := At.three hu1; obtain ⟨_, _, _, _, _, _, _⟩ := At.seven hu2)
        go_simp
        (with_reducible rfl)
      (try simp only [Act.put, List.setIfInBounds_toArray, List.set_cons_zero, List.set_cons_succ])
      refine any_pure (v := ?_) 7 rfl (by kernel_rfl) (fun _ _ _ _ _ h => h) (by rfl) (fun u hu => ?_) bxd ?_
      rotate_left
      · (obtain ⟨hu1, hu2⟩ := hu; obtain ⟨_, _, _, _, _, _⟩ := At.three hu1; obtain ⟨_, _, _, _, _, _, _⟩ := At.seven hu2)
        go_simp
        (with_reducible rfl)
      (try simp only [Act.put, List.setIfInBounds_toArray, List.set_cons_zero, List.set_cons_succ])
      refine any_pure (v := ?_) 8 rfl (by kernel_rfl) (fun _ _ _ _ _ h => h) (by rfl) (fun u hu => ?_) bxd ?_
      rotate_left
      · (obtain ⟨hu1, hu2⟩ := hu; obtain ⟨_, _, _, _, _, _⟩ := At.three hu1; obtain ⟨_, _, _, _, _, _, _⟩ := At.seven hu2)
        go_simp
        (with_reducible rfl)
      (try simp only [Act.put, List.setIfInBounds_toArray, List.set_cons_zero, List.set_cons_succ])
      refine any_pure (v := ?_) 9 rfl (by kernel_rfl) (fun _ _ _ _ _ h => h) (by rfl) (fun u hu => ?_) bxd ?_
      rotate_left
      · (obtain ⟨hu1, hu2⟩ := hu; obtain ⟨_, _, _, _, _, _⟩ := At.three hu1; obtain ⟨_, _, _, _, _, _, _⟩ := At.seven hu2)
        go_simp
        (with_reducible rfl)
      (try simp only [Act.put, List.setIfInBounds_toArray, List.set_cons_zero, List.set_cons_succ])
      refine any_pure (v := ?_) 10 rfl (by kernel_rfl) (fun _ _ _ _ _ h => h) (by rfl) (fun u hu => ?_) bxd ?_
      rotate_left
      · (obtain ⟨hu1, hu2⟩ := hu; obtain ⟨_, _, _, _, _, _⟩ := At.three hu1; obtain ⟨_, _, _, _, _, _, _⟩ := At.seven hu2)
        go_simp
        (with_reducible rfl)
      (try simp only [Act.put, List.setIfInBounds_toArray, List.set_cons_zero, List.set_cons_succ])
      refine any_pure (v := ?_) 11 rfl (by kernel_rfl) (fun _ _ _ _ _ h => h) (by rfl) (fun u hu => ?_) bxd ?_
      rotate_left
      · (obtain ⟨hu1, hu2⟩ := hu; obtain ⟨_, _, _, _, _, _⟩ := At.three hu1; obtain ⟨_, _, _, _, _, _, _⟩ := At.seven hu2)
        go_simp
        (with_reducible rfl)
      (try simp only [Act.put, List.setIfInBounds_toArray, List.set_cons_zero, List.set_cons_succ])
      refine any_two 12 13 rfl rfl (by kernel_rfl) (by rfl) (by rfl) ?_ ?_
      · go_simp
        refine (SI _ rbd Hm.out hdc).mono ?_
        rintro e w101 ⟨A101, k101, c101, rfl, ow101, hb101⟩
        have hB101 := hBd.trans (hb101.mono hBd.size)
        have bx101 := bxd.below hb101 bxd.lt
        have rb_101 := rbd.lift hb101
        refine ⟨(fun u => At2 u g 39 #[.slice A n c, .slice B m d, .int .i64 x] gr 27 #[.int .i64 3, .int .i64 a1, .int .i64 a2, .int .i64 a3, .int .i64 a4, .int .i64 a5, .int .i64 a6]), fun _ h => h, bx101, ?_⟩
        (try simp only [Act.put, List.setIfInBounds_toArray, List.set_cons_zero, List.set_cons_succ])
        refine any_one 13 rfl (by kernel_rfl) (by rfl) ?_
        go_simp
        have ag102 := At.newAt' (w := w101) (t := 158) (cs := #[.int .i64 0, .slice none 0 0]) (show w101.heap.size = w101.heap.size by first | rfl | simp)
        have gl102 : w.heap.size ≤ w101.heap.size := by first | exact hB101.size | exact Nat.le_refl _ | (have := hB101.size; simp at this ⊢; try omega)
        have hal102 := (Below.refl w101.heap.size w101).alloc (Nat.le_refl _) (.cells #[.int .i64 0, .slice none 0 0] 158)
        have hB102 := hB101.alloc hB101.size (.cells #[.int .i64 0, .slice none 0 0] 158)
        have bx102 := bx101.alloc (.cells #[.int .i64 0, .slice none 0 0] 158)
        have ow_102 := ow101.alloc (.cells #[.int .i64 0, .slice none 0 0] 158)
        have rb_102 := rb_101.lift hal102
        refine ⟨(fun u => At2 u g 39 #[.slice A n c, .slice B m d, .int .i64 x] gr 27 #[.int .i64 3, .int .i64 a1, .int .i64 a2, .int .i64 a3, .int .i64 a4, .int .i64 a5, .int .i64 a6]), fun _ h => h, bx102, ?_⟩
        (try simp only [Act.put, List.setIfInBounds_toArray, List.set_cons_zero, List.set_cons_succ])
        refine any_one 14 rfl (by kernel_rfl) (by rfl) ?_
        go_simp
        have AG103 := At.newAt' (w := w101) (t := 158) (cs := #[.int .i64 z, .slice A101 k101 c101]) (show w101.heap.size = w101.heap.size by first | rfl | simp)
        have hal103 := (Below.refl w101.heap.size w101).alloc (Nat.le_refl _) (.cells #[.int .i64 z, .slice A101 k101 c101] 158)
        have hB103 := hB101.alloc hB101.size (.cells #[.int .i64 z, .slice A101 k101 c101] 158)
        have bx103 := bx101.alloc (.cells #[.int .i64 z, .slice A101 k101 c101] 158)
        have ow_103 := ow101.alloc (.cells #[.int .i64 z, .slice A101 k101 c101] 158)
        have rb_103 := rb_101.lift hal103
        refine ⟨(fun u => At2 u g 39 #[.slice A n c, .slice B m d, .int .i64 x] gr 27 #[.int .i64 3, .int .i64 a1, .int .i64 a2, .int .i64 a3, .int .i64 a4, .int .i64 a5, .int .i64 a6]), fun _ h => h, bx103, ?_⟩
        (try simp only [Act.put, List.setIfInBounds_toArray, List.set_cons_zero, List.set_cons_succ])
        refine any_done (by kernel_rfl) ?_
        go_wp2
        go_meet
        exact ⟨_, _, _, _, rfl, AG103, ow_103.from_ hBd.size, hB103⟩
      · go_simp
        have ag104 := At.newAt' (w := w.drew) (t := 158) (cs := #[.int .i64 0, .slice none 0 0]) (show w.drew.heap.size = w.heap.size by first | rfl | simp)
        have gl104 : w.heap.size ≤ w.heap.size := by first | exact hBd.size | exact Nat.le_refl _ | (have := hBd.size; simp at this ⊢; try omega)
        have hal104 := (Below.refl w.drew.heap.size w.drew).alloc (Nat.le_refl _) (.cells #[.int .i64 0, .slice none 0 0] 158)
        have hB104 := hBd.alloc hBd.size (.cells #[.int .i64 0, .slice none 0 0] 158)
        have bx104 := bxd.alloc (.cells #[.int .i64 0, .slice none 0 0] 158)
        have rb_104 := rbd.lift hal104
        refine ⟨(fun u => At2 u g 39 #[.slice A n c, .slice B m d, .int .i64 x] gr 27 #[.int .i64 3, .int .i64 a1, .int .i64 a2, .int .i64 a3, .int .i64 a4, .int .i64 a5, .int .i64 a6]), fun _ h => h, bx104, ?_⟩
        (try simp only [Act.put, List.setIfInBounds_toArray, List.set_cons_zero, List.set_cons_succ])
        refine any_one 12 rfl (by kernel_rfl) (by rfl) ?_
        go_simp
        refine (SI _ rb_104 Hm.out hdc).mono ?_
        rintro e w105 ⟨A105, k105, c105, rfl, ow105, hb105⟩
        have hB105 := hB104.trans (hb105.mono hB104.size)
        have bx105 := bx104.below hb105 bx104.lt
        have ag_105 := ag104.below hb105 ag104.lt
        have rb_105 := rb_104.lift hb105
        refine ⟨(fun u => At2 u g 39 #[.slice A n c, .slice B m d, .int .i64 x] gr 27 #[.int .i64 3, .int .i64 a1, .int .i64 a2, .int .i64 a3, .int .i64 a4, .int .i64 a5, .int .i64 a6]), fun _ h => h, bx105, ?_⟩
        (try simp only [Act.put, List.setIfInBounds_toArray, List.set_cons_zero, List.set_cons_succ])
        refine any_one 14 rfl (by kernel_rfl) (by rfl) ?_
        obtain ⟨k0, k1, k2, k3⟩ := ag_105.two
        go_simp
        have hltg106 : w.heap.size < w105.heap.size := ag_105.lt
        have AG106 : At ((w105.setCell ⟨w.heap.size, 0, none⟩ (.int .i64 z)).setCell ⟨w.heap.size, 1, none⟩ (.slice A105 k105 c105)) w.heap.size 158 #[.int .i64 z, .slice A105 k105 c105] := ((ag_105.set 0 (.int .i64 z)).set 1 (.slice A105 k105 c105))
        have bx106 := ((bx105.far (p := ⟨w.heap.size, 0, none⟩) (by show g ≠ w.heap.size ∧ gr ≠ w.heap.size; have := gl104; omega) (.int .i64 z)).far (p := ⟨w.heap.size, 1, none⟩) (by show g ≠ w.heap.size ∧ gr ≠ w.heap.size; have := gl104; omega) (.slice A105 k105 c105))
        have hB106 := ((hB105.setCell (p := ⟨w.heap.size, 0, none⟩) gl104 (.int .i64 z)).setCell (p := ⟨w.heap.size, 1, none⟩) gl104 (.slice A105 k105 c105))
        have ow_106 := ow105
        have ow_106 := ow_106.apart (by decide) ag_105 0 (.int .i64 z)
        have ow_106 := ow_106.apart (by decide) ((ag_105.set 0 (.int .i64 z))) 1 (.slice A105 k105 c105)
        refine ⟨(fun u => At2 u g 39 #[.slice A n c, .slice B m d, .int .i64 x] gr 27 #[.int .i64 3, .int .i64 a1, .int .i64 a2, .int .i64 a3, .int .i64 a4, .int .i64 a5, .int .i64 a6]), fun _ h => h, bx106, ?_⟩
        (try simp only [Act.put, List.setIfInBounds_toArray, List.set_cons_zero, List.set_cons_succ])
        refine any_done (by kernel_rfl) ?_
        go_wp2
        go_meet
        exact ⟨_, _, _, _, rfl, AG106, ow_106.from_ hB104.size, hB106⟩
    case rest =>
      obtain ⟨gx, Ax, kx, cx, rfl, AX1, OW1, HB1⟩ := hcut
      obtain ⟨q0, q1, _, _⟩ := AX1.two
      have hxc := hx.below HB1 lx
      clear c0 c1 c2 cf0 cf1 cf2 r0 r1 r2 r3 r4 r5 r6
      obtain ⟨c0, c1, c2, cf0, cf1, cf2⟩ := hxc.three
      have hne : ¬ g = gx := by
        intro e
        subst e
        have := hxc.symm.trans AX1
        simp at this
      by_cases hz0 : z = 0
      · subst hz0
        have Hr := Lib.hid (show stepR (l, h, x) (3, a1, (a2, a3, a4, a5), a6) = (0, (l, st, x)) by rw [Hs.out, if_pos rfl])
        go_wp2
        go_ret
        rw [Hr.out]
        exact ⟨rfl, ⟨A, n, c, Ax, kx, cx, hxc.set 1 (.slice Ax kx cx), (oa.below HB1 (Nat.le_refl _)).apart (by decide) hxc 1 _, (OW1.from_ hbase).apart (by decide) hxc 1 _⟩, grown_trans (grown_any (grown_below HB1 (Nat.le_refl _)) _) (grown_setCell _ ⟨g, 1, none⟩ _)⟩
      · have hzb : (z == 0) = false := by simpa using hz0
        have Hr := Lib.hid (show stepR (l, h, x) (3, a1, (a2, a3, a4, a5), a6) = (z, (l, h, x)) by rw [Hs.out, if_neg hz0])
        clear hz0
        go_wp2
        go_ret
        rw [Hr.out]
        exact ⟨rfl, ⟨A, n, c, B, m, d, hxc, oa.below HB1 (Nat.le_refl _), ob.below HB1 (Nat.le_refl _)⟩, grown_any (grown_below HB1 (Nat.le_refl _)) _⟩
  · have Hs := Lib.hid (step4 (s := (l, h, x)) (p := a1) (y := (a2, a3, a4, a5)) (k := a6) k1 k2 k3)
    have b1 : (a0 == 1) = false := by simpa using k1
    have b2 : (a0 == 2) = false := by simpa using k2
    have b3 : (a0 == 3) = false := by simpa using k3
    clear k1 k2 k3
    by_cases hlt : a6 < x
    all_goals
      first
        | have Hr := Lib.hid (show stepR (l, h, x) (a0, a1, (a2, a3, a4, a5), a6) = (8, (l, h, x)) by rw [Hs.out, if_pos hlt])
        | have Hr := Lib.hid (show stepR (l, h, x) (a0, a1, (a2, a3, a4, a5), a6) = (0, (l, h, a6)) by rw [Hs.out, if_neg hlt])
      go_enter Tryz.func64, Tryz.ntmps64
      go_wp2
      refine wp_region_mix [(0, false), (1, false), (2, false), (3, false), (4, false), (5, false), (6, false), (7, false), (8, false)] (fun u => At2 u g 39 #[.slice A n c, .slice B m d, .int .i64 x] gr 27 #[.int .i64 a0, .int .i64 a1, .int .i64 a2, .int .i64 a3, .int .i64 a4, .int .i64 a5, .int .i64 a6]) (by kernel_rfl) (by kernel_rfl) (fun _ _ _ _ _ h => h) x2.drew ?_
      simp only [mixOps, List.map_cons, List.map_nil, List.getElem?_cons_succ, List.getElem?_cons_zero, Option.getD_some]
      repeat (first
        | (refine mix_skip (by rfl) ?_
           (try simp only [Act.put, List.setIfInBounds_toArray, List.set_cons_zero, List.set_cons_succ]))
        | (refine mix_pure (v := ?_) (by rfl) (fun u hu => ?_) ?_
           rotate_left
           · (obtain ⟨hu1, hu2⟩ := hu; obtain ⟨_, _, _, _, _, _⟩ := At.three hu1; obtain ⟨_, _, _, _, _, _, _⟩ := At.seven hu2)
             go_simp
             (with_reducible rfl)
           (try simp only [Act.put, List.setIfInBounds_toArray, List.set_cons_zero, List.set_cons_succ])))
      refine mix_nil ?_
      go_wp2
      go_ret
      rw [Hr.out]
    · exact ⟨rfl, ⟨A, n, c, B, m, d, hx, oa, ob⟩, grown_any (grown_below ((Below.refl w.heap.size w).drew) (Nat.le_refl _)) _⟩
    · exact ⟨rfl, ⟨A, n, c, B, m, d, (hx.set 2 (.int .i64 a6)).drew, (oa.apart (by decide) hx 2 (.int .i64 a6)).drewN 1, (ob.apart (by decide) hx 2 (.int .i64 a6)).drewN 1⟩, grown_trans (grown_setCell w ⟨g, 2, none⟩ (.int .i64 a6)) (grown_any (grown_below ((Below.refl _ (w.setCell ⟨g, 2, none⟩ (.int .i64 a6))).drew) (Nat.le_refl _)) _)⟩
end Go.Proofs.YteiclanlhnccnaaGreatDoor
/-
  The model's faults of a record.
-/
namespace Go.Proofs.YteiclanlhnccnaaGreatDoor
set_option maxRecDepth 20000
open Go.RowKit
set_option linter.unusedSimpArgs false
set_option linter.unusedVariables false

theorem eqlZ (a2 a3 a4 a5 : Int) (u : World) : (binOp .eql 25 (.agg #[.int .i64 a2, .int .i64 a3, .int .i64 a4, .int .i64 a5]) (.agg #[.int .i64 0, .int .i64 0, .int .i64 0, .int .i64 0])).run Tryz.prog u = .ok (.bool (decide ((a2, a3, a4, a5) = ((0 : Int), (0 : Int), (0 : Int), (0 : Int))))) u := by
  go_simp
  (by_cases h0 : a2 = 0; rotate_left; simp [h0]; by_cases h1 : a3 = 0; rotate_left; simp [h0, h1]; by_cases h2 : a4 = 0; rotate_left; simp [h0, h1, h2]; by_cases h3 : a5 = 0; rotate_left; simp [h0, h1, h2, h3]; simp [h0, h1, h2, h3])

set_option maxHeartbeats 4000000 in
theorem l5Form (g : Nat) (a0 a1 a2 a3 a4 a5 a6 : Int) (nd sm nm : Bool) (w : World) (hx : At w g 27 #[.int .i64 a0, .int .i64 a1, .int .i64 a2, .int .i64 a3, .int .i64 a4, .int .i64 a5, .int .i64 a6]) :
    Calls Tryz.prog 118 #[.pointer (some ⟨g, 0, none⟩), .bool nd, .bool sm, .bool nm] w fun e w' => e = .returned (.bool (formM (a0, a1, (a2, a3, a4, a5), a6) nd sm nm)) ∧ w' = w := by
  obtain ⟨x0, x1, x2, x3, x4, x5, x6⟩ := hx.seven
  have Z := eqlZ a2 a3 a4 a5
  have e1 : (a1 == 0) = decide (a1 = 0) := rfl
  have e6 : (a6 == 0) = decide (a6 = 0) := rfl
  rcases h1 : decide (a1 = 0) <;> rcases h2 : decide ((a2, a3, a4, a5) = ((0 : Int), (0 : Int), (0 : Int), (0 : Int))) <;> rcases h6 : decide (a6 = 0) <;> rw [h2] at Z <;> rw [h1] at e1 <;> rw [h6] at e6 <;>
    (have Hr := Lib.hid (show ∀ a b c, formM (a0, a1, (a2, a3, a4, a5), a6) a b c = ((a || decide (a1 = 0)) && ((b || decide ((a2, a3, a4, a5) = ((0 : Int), (0 : Int), (0 : Int), (0 : Int)))) && (c || decide (a6 = 0)))) from fun _ _ _ => rfl)
     rw [h1, h2, h6] at Hr
     clear h1 h2 h6
     rcases nd <;> rcases sm <;> rcases nm <;>
      (go_enter Tryz.func118, Tryz.ntmps118
       go_wp2
       go_ret
       exact ⟨by rw [Hr.out]; rfl, rfl⟩))

set_option maxHeartbeats 4000000 in
theorem l5Range (g : Nat) (a0 a1 a2 a3 a4 a5 a6 m : Int) (w : World) (hx : At w g 27 #[.int .i64 a0, .int .i64 a1, .int .i64 a2, .int .i64 a3, .int .i64 a4, .int .i64 a5, .int .i64 a6]) :
    Calls Tryz.prog 119 #[.pointer (some ⟨g, 0, none⟩), .int .i64 m] w fun e w' => e = .returned (.int .i64 (rrangeM (a0, a1, (a2, a3, a4, a5), a6) m)) ∧ Below w.heap.size w w' := by
  obtain ⟨x0, x1, x2, x3, x4, x5, x6⟩ := hx.seven
  have Hr := Lib.hid (show rrangeM (a0, a1, (a2, a3, a4, a5), a6) m = if (inB (a1, 0, 3) && inB (a6, 0, m)) = true then faultM (a2, a3, a4, a5) else 3 from rfl)
  rcases h1 : inB (a1, 0, 3)
  · go_enter Tryz.func119, Tryz.ntmps119
    go_wp2_with (go_at_call 133; refine (l4Node a1 w).mono ?_; rintro e w1 ⟨rfl, rfl⟩; rw [h1])
    go_ret
    exact ⟨by rw [Hr.out, h1]; rfl, Below.refl _ _⟩
  rcases h2 : inB (a6, 0, m)
  · go_enter Tryz.func119, Tryz.ntmps119
    go_wp2_with (first | (go_at_call 133; refine (l4Node a1 w).mono ?_; rintro e w1 ⟨rfl, rfl⟩; rw [h1]) | (go_at_call 76; refine (l1In_any a6 0 m w).mono ?_; rintro e w1 ⟨rfl, rfl⟩; rw [h2]))
    go_ret
    exact ⟨by rw [Hr.out, h1, h2]; rfl, Below.refl _ _⟩
  · go_enter Tryz.func119, Tryz.ntmps119
    go_wp2_with (first | (go_at_call 133; refine (l4Node a1 w).mono ?_; rintro e w1 ⟨rfl, rfl⟩; rw [h1]) | (go_at_call 76; refine (l1In_any a6 0 m w).mono ?_; rintro e w1 ⟨rfl, rfl⟩; rw [h2]) | (go_at_call 131; refine (specSampleFault a2 a3 a4 a5 w).mono ?_; rintro e w1 ⟨rfl, hb1⟩))
    go_ret
    exact ⟨by rw [Hr.out, h1, h2]; rfl, hb1⟩

set_option maxHeartbeats 4000000 in
theorem specRecordFault (a0 a1 a2 a3 a4 a5 a6 : Int) (w : World) :
    Calls Tryz.prog 62 #[.agg #[.int .i64 a0, .int .i64 a1, .int .i64 a2, .int .i64 a3, .int .i64 a4, .int .i64 a5, .int .i64 a6]] w fun e w' => e = .returned (.int .i64 (recFaultM (a0, a1, (a2, a3, a4, a5), a6))) ∧ Below w.heap.size w w' := by
  have hB0 : Below w.heap.size w (w.alloc (.cells #[.int .i64 a0, .int .i64 a1, .int .i64 a2, .int .i64 a3, .int .i64 a4, .int .i64 a5, .int .i64 a6] 27)) := (Below.refl _ _).alloc (Nat.le_refl _) _
  have r0 := At.new w 27 #[.int .i64 a0, .int .i64 a1, .int .i64 a2, .int .i64 a3, .int .i64 a4, .int .i64 a5, .int .i64 a6]
  obtain ⟨c0, c1, c2, c3, c4, c5, c6⟩ := r0.seven
  have LF := fun a b c => l5Form w.heap.size a0 a1 a2 a3 a4 a5 a6 a b c _ r0
  have LR := fun m => l5Range w.heap.size a0 a1 a2 a3 a4 a5 a6 m _ r0
  by_cases k1 : a0 = 1
  rotate_left
  by_cases k2 : a0 = 2
  rotate_left
  by_cases k3 : a0 = 3
  rotate_left
  by_cases k4 : a0 = 4
  rotate_left
  · have b1 : (a0 == 1) = false := by simpa using k1
    have b2 : (a0 == 2) = false := by simpa using k2
    have b3 : (a0 == 3) = false := by simpa using k3
    have b4 : (a0 == 4) = false := by simpa using k4
    have Hr := Lib.hid (recFault_form (r := (a0, a1, (a2, a3, a4, a5), a6)) (by unfold recFormM; rw [if_neg k1, if_neg k2, if_neg k3, if_neg k4]))
    clear k1 k2 k3 k4
    go_enter Tryz.func62, Tryz.ntmps62
    go_wp2
    go_ret
    exact ⟨by rw [Hr.out]; try rfl, hB0⟩
  · subst k1
    have hform : recFormM (1, a1, (a2, a3, a4, a5), a6) = formM (1, a1, (a2, a3, a4, a5), a6) false true false := by unfold recFormM; rw [if_pos rfl]
    have hmost : mostM (1, a1, (a2, a3, a4, a5), a6) = 9999 := by unfold mostM; rfl
    rcases hf : formM (1, a1, (a2, a3, a4, a5), a6) false true false
    · have Hr := Lib.hid (recFault_form (hform.trans hf))
      have Hf := Lib.hid hf
      clear hf hform hmost
      go_enter Tryz.func62, Tryz.ntmps62
      go_wp2_with (go_at_call 118; refine (LF false true false).mono ?_; rintro e w1 ⟨rfl, rfl⟩; rw [Hf.out])
      go_ret
      exact ⟨by rw [Hr.out]; try rfl, hB0⟩
    · have Hr := Lib.hid (recFault_range (hform.trans hf))
      rw [hmost] at Hr
      have Hf := Lib.hid hf
      clear hf hform hmost
      go_enter Tryz.func62, Tryz.ntmps62
      go_wp2_with (first | (go_at_call 118; refine (LF false true false).mono ?_; rintro e w1 ⟨rfl, rfl⟩; rw [Hf.out]) | (go_at_call 119; refine (LR 9999).mono ?_; rintro e w2 ⟨rfl, hb2⟩))
      go_ret
      exact ⟨by rw [Hr.out]; try rfl, hB0.trans (hb2.mono hB0.size)⟩
  · subst k2
    clear k1
    have hform : recFormM (2, a1, (a2, a3, a4, a5), a6) = formM (2, a1, (a2, a3, a4, a5), a6) true true false := by unfold recFormM; rw [if_neg (show ¬ ((2 : Int) = 1) by decide), if_pos rfl]
    have hmost : mostM (2, a1, (a2, a3, a4, a5), a6) = 9999 := by unfold mostM; rfl
    rcases hf : formM (2, a1, (a2, a3, a4, a5), a6) true true false
    · have Hr := Lib.hid (recFault_form (hform.trans hf))
      have Hf := Lib.hid hf
      clear hf hform hmost
      go_enter Tryz.func62, Tryz.ntmps62
      go_wp2_with (go_at_call 118; refine (LF true true false).mono ?_; rintro e w1 ⟨rfl, rfl⟩; rw [Hf.out])
      go_ret
      exact ⟨by rw [Hr.out]; try rfl, hB0⟩
    · have Hr := Lib.hid (recFault_range (hform.trans hf))
      rw [hmost] at Hr
      have Hf := Lib.hid hf
      clear hf hform hmost
      go_enter Tryz.func62, Tryz.ntmps62
      go_wp2_with (first | (go_at_call 118; refine (LF true true false).mono ?_; rintro e w1 ⟨rfl, rfl⟩; rw [Hf.out]) | (go_at_call 119; refine (LR 9999).mono ?_; rintro e w2 ⟨rfl, hb2⟩))
      go_ret
      exact ⟨by rw [Hr.out]; try rfl, hB0.trans (hb2.mono hB0.size)⟩
  · subst k3
    clear k1 k2
    have hform : recFormM (3, a1, (a2, a3, a4, a5), a6) = formM (3, a1, (a2, a3, a4, a5), a6) true false true := by unfold recFormM; rw [if_neg (show ¬ ((3 : Int) = 1) by decide), if_neg (show ¬ ((3 : Int) = 2) by decide), if_pos rfl]
    have hmost : mostM (3, a1, (a2, a3, a4, a5), a6) = 9999 := by unfold mostM; rfl
    rcases hf : formM (3, a1, (a2, a3, a4, a5), a6) true false true
    · have Hr := Lib.hid (recFault_form (hform.trans hf))
      have Hf := Lib.hid hf
      clear hf hform hmost
      go_enter Tryz.func62, Tryz.ntmps62
      go_wp2_with (go_at_call 118; refine (LF true false true).mono ?_; rintro e w1 ⟨rfl, rfl⟩; rw [Hf.out])
      go_ret
      exact ⟨by rw [Hr.out]; try rfl, hB0⟩
    · have Hr := Lib.hid (recFault_range (hform.trans hf))
      rw [hmost] at Hr
      have Hf := Lib.hid hf
      clear hf hform hmost
      go_enter Tryz.func62, Tryz.ntmps62
      go_wp2_with (first | (go_at_call 118; refine (LF true false true).mono ?_; rintro e w1 ⟨rfl, rfl⟩; rw [Hf.out]) | (go_at_call 119; refine (LR 9999).mono ?_; rintro e w2 ⟨rfl, hb2⟩))
      go_ret
      exact ⟨by rw [Hr.out]; try rfl, hB0.trans (hb2.mono hB0.size)⟩
  · subst k4
    clear k1 k2 k3
    have hform : recFormM (4, a1, (a2, a3, a4, a5), a6) = formM (4, a1, (a2, a3, a4, a5), a6) false false true := by unfold recFormM; rw [if_neg (show ¬ ((4 : Int) = 1) by decide), if_neg (show ¬ ((4 : Int) = 2) by decide), if_neg (show ¬ ((4 : Int) = 3) by decide), if_pos rfl]
    have hmost : mostM (4, a1, (a2, a3, a4, a5), a6) = 60000 := by unfold mostM; rfl
    rcases hf : formM (4, a1, (a2, a3, a4, a5), a6) false false true
    · have Hr := Lib.hid (recFault_form (hform.trans hf))
      have Hf := Lib.hid hf
      clear hf hform hmost
      go_enter Tryz.func62, Tryz.ntmps62
      go_wp2_with (go_at_call 118; refine (LF false false true).mono ?_; rintro e w1 ⟨rfl, rfl⟩; rw [Hf.out])
      go_ret
      exact ⟨by rw [Hr.out]; try rfl, hB0⟩
    · have Hr := Lib.hid (recFault_range (hform.trans hf))
      rw [hmost] at Hr
      have Hf := Lib.hid hf
      clear hf hform hmost
      go_enter Tryz.func62, Tryz.ntmps62
      go_wp2_with (first | (go_at_call 118; refine (LF false false true).mono ?_; rintro e w1 ⟨rfl, rfl⟩; rw [Hf.out]) | (go_at_call 119; refine (LR 60000).mono ?_; rintro e w2 ⟨rfl, hb2⟩))
      go_ret
      exact ⟨by rw [Hr.out]; try rfl, hB0.trans (hb2.mono hB0.size)⟩
end Go.Proofs.YteiclanlhnccnaaGreatDoor
