/-
  The exact law of HearMark: the walk.
-/
import Derived.Test.YtbfjfjocangjeaaMbWalk
import Derived.Test.YtbfjfjocangjeaaAny
import Derived.Deep.DeepCutAuto
namespace Go.Proofs.Ytbfjfjocangjeaa
set_option maxRecDepth 20000
open Go.RowKit
set_option linter.unusedSimpArgs false
set_option linter.unusedVariables false
attribute [local irreducible] mixW

/-- Two blocks that are known whole. -/
def At2Mk (w : World) (g : Nat) (t : TypeId) (cs : Array Value) (g' : Nat) (t' : TypeId) (cs' : Array Value) : Prop := At w g t cs ∧ At w g' t' cs'
section
variable {w w' : World} {g g' : Nat} {t t' : TypeId} {cs cs' : Array Value}
theorem At2Mk.lt (h : At2Mk w g t cs g' t' cs') : g < w.heap.size ∧ g' < w.heap.size := ⟨h.1.lt, h.2.lt⟩
theorem At2Mk.drew (h : At2Mk w g t cs g' t' cs') : At2Mk w.drew g t cs g' t' cs' := ⟨h.1.drew, h.2.drew⟩
theorem At2Mk.below {B : Nat} (h : At2Mk w g t cs g' t' cs') (hb : Below B w w') (hl : g < B ∧ g' < B) : At2Mk w' g t cs g' t' cs' := ⟨h.1.below hb hl.1, h.2.below hb hl.2⟩
theorem At2Mk.alloc (h : At2Mk w g t cs g' t' cs') (o : Obj) : At2Mk (w.alloc o) g t cs g' t' cs' := ⟨h.1.alloc o, h.2.alloc o⟩
theorem At2Mk.far (h : At2Mk w g t cs g' t' cs') {p : Addr} (hp : g ≠ p.block ∧ g' ≠ p.block) (u : Value) : At2Mk (w.setCell p u) g t cs g' t' cs' := ⟨h.1.far hp.1 u, h.2.far hp.2 u⟩
end

set_option maxRecDepth 100000 in
set_option maxHeartbeats 4000000 in
theorem fnExactHearMark_walk (a b c d e0 n : Int) (w : World) :
    Calls Try.prog 11 #[.agg #[.int .i64 a, .int .i64 b, .int .i64 c], .agg #[.int .i64 d, .int .i64 e0], .int .i64 n] w fun e w' => e = .returned (.bool true) ∧ Below w.heap.size w w' := by
  have SP := specHearMark a b c d e0 n
  have IP := implHearMark a b c d e0 n
  generalize hearM ((a, b), c) (d, e0) n = R at SP IP
  obtain ⟨r, ⟨r1, r2⟩, r3⟩ := R
  simp only [RetMb] at SP IP
  have hB0 : Below w.heap.size w ((w.alloc (.cells #[.int .i64 a, .int .i64 b, .int .i64 c] 72)).alloc (.cells #[.int .i64 d, .int .i64 e0] 67)) := ((Below.refl _ _).alloc (Nat.le_refl _) _).alloc (by simp) _
  have bx : At2Mk ((w.alloc (.cells #[.int .i64 a, .int .i64 b, .int .i64 c] 72)).alloc (.cells #[.int .i64 d, .int .i64 e0] 67)) w.heap.size 72 #[.int .i64 a, .int .i64 b, .int .i64 c] (w.heap.size + 1) 67 #[.int .i64 d, .int .i64 e0] := ⟨(At.new w 72 #[.int .i64 a, .int .i64 b, .int .i64 c]).alloc _, by have := At.new (w.alloc (.cells #[.int .i64 a, .int .i64 b, .int .i64 c] 72)) 67 #[.int .i64 d, .int .i64 e0]; simpa using this⟩
  go_enter Try.func11, Try.ntmps11
  go_upto_region 1 with fail
  generalize ((w.alloc (.cells #[.int .i64 a, .int .i64 b, .int .i64 c] 72)).alloc (.cells #[.int .i64 d, .int .i64 e0] 67)) = wA at *
  obtain ⟨l1, l2⟩ := bx.lt
  go_cut [7] (fun s wx => ∃ gx, s = .pointer (some ⟨gx, 0, none⟩) ∧ At wx gx 31 #[.int .i64 r, .int .i64 r1, .int .i64 r2, .int .i64 r3] ∧ Below wA.heap.size wA wx)
  case first =>
    refine any_start (fun u => At2Mk u w.heap.size 72 #[.int .i64 a, .int .i64 b, .int .i64 c] (w.heap.size + 1) 67 #[.int .i64 d, .int .i64 e0]) (by kernel_rfl) bx.drew (fun _ => ?_)
    have bxd := bx.drew
    have hBd := (Below.refl wA.heap.size wA).drew
    refine any_pure (v := ?_) 0 rfl (by kernel_rfl) (fun _ _ _ _ _ h => h) (by rfl) (fun u hu => ?_) bxd ?_
    rotate_left
    · (obtain ⟨hu1, hu2⟩ := hu; obtain ⟨_, _, _, _, _, _⟩ := hu1.threeC; obtain ⟨_, _⟩ := hu2.twoC)
      go_simp
      (with_reducible rfl)
    (try simp only [Act.put, List.setIfInBounds_toArray, List.set_cons_zero, List.set_cons_succ])
    refine any_pure (v := ?_) 2 rfl (by kernel_rfl) (fun _ _ _ _ _ h => h) (by rfl) (fun u hu => ?_) bxd ?_
    rotate_left
    · (obtain ⟨hu1, hu2⟩ := hu; obtain ⟨_, _, _, _, _, _⟩ := hu1.threeC; obtain ⟨_, _⟩ := hu2.twoC)
      go_simp
      (with_reducible rfl)
    (try simp only [Act.put, List.setIfInBounds_toArray, List.set_cons_zero, List.set_cons_succ])
    refine any_pure (v := ?_) 4 rfl (by kernel_rfl) (fun _ _ _ _ _ h => h) (by rfl) (fun u hu => ?_) bxd ?_
    rotate_left
    · (obtain ⟨hu1, hu2⟩ := hu; obtain ⟨_, _, _, _, _, _⟩ := hu1.threeC; obtain ⟨_, _⟩ := hu2.twoC)
      go_simp
      (with_reducible rfl)
    (try simp only [Act.put, List.setIfInBounds_toArray, List.set_cons_zero, List.set_cons_succ])
    refine any_two 1 6 rfl rfl (by kernel_rfl) (by rfl) (by rfl) ?_ ?_
    · go_simp
      refine (toMember a b c _).mono ?_
      rintro e w101 ⟨rfl, hb101⟩
      have hB101 := hBd.trans (hb101.mono hBd.size)
      have bx101 := bxd.below hb101 bxd.lt
      refine ⟨(fun u => At2Mk u w.heap.size 72 #[.int .i64 a, .int .i64 b, .int .i64 c] (w.heap.size + 1) 67 #[.int .i64 d, .int .i64 e0]), fun _ h => h, bx101, ?_⟩
      (try simp only [Act.put, List.setIfInBounds_toArray, List.set_cons_zero, List.set_cons_succ])
      refine any_two 3 6 rfl rfl (by kernel_rfl) (by rfl) (by rfl) ?_ ?_
      · go_simp
        refine (toMark d e0 _).mono ?_
        rintro e w102 ⟨rfl, hb102⟩
        have hB102 := hB101.trans (hb102.mono hB101.size)
        have bx102 := bx101.below hb102 bx101.lt
        refine ⟨(fun u => At2Mk u w.heap.size 72 #[.int .i64 a, .int .i64 b, .int .i64 c] (w.heap.size + 1) 67 #[.int .i64 d, .int .i64 e0]), fun _ h => h, bx102, ?_⟩
        (try simp only [Act.put, List.setIfInBounds_toArray, List.set_cons_zero, List.set_cons_succ])
        refine any_two 5 6 rfl rfl (by kernel_rfl) (by rfl) (by rfl) ?_ ?_
        · go_simp
          refine (SP _).mono ?_
          rintro e w103 ⟨rfl, hb103⟩
          have hB103 := hB102.trans (hb103.mono hB102.size)
          have bx103 := bx102.below hb103 bx102.lt
          refine ⟨(fun u => At2Mk u w.heap.size 72 #[.int .i64 a, .int .i64 b, .int .i64 c] (w.heap.size + 1) 67 #[.int .i64 d, .int .i64 e0]), fun _ h => h, bx103, ?_⟩
          (try simp only [Act.put, List.setIfInBounds_toArray, List.set_cons_zero, List.set_cons_succ])
          refine any_one 6 rfl (by kernel_rfl) (by rfl) ?_
          go_simp
          have ag104 := At.newAt' (w := w103) (t := 31) (cs := #[.int .i64 0, .int .i64 0, .int .i64 0, .int .i64 0]) (show w103.heap.size = w103.heap.size by first | rfl | simp)
          have gl104 : wA.heap.size ≤ w103.heap.size := by first | exact hB103.size | exact Nat.le_refl _ | (have := hB103.size; simp at this ⊢; try omega)
          have hal104 := (Below.refl w103.heap.size w103).alloc (Nat.le_refl _) (.cells #[.int .i64 0, .int .i64 0, .int .i64 0, .int .i64 0] 31)
          have hB104 := hB103.alloc hB103.size (.cells #[.int .i64 0, .int .i64 0, .int .i64 0, .int .i64 0] 31)
          have bx104 := bx103.alloc (.cells #[.int .i64 0, .int .i64 0, .int .i64 0, .int .i64 0] 31)
          refine ⟨(fun u => At2Mk u w.heap.size 72 #[.int .i64 a, .int .i64 b, .int .i64 c] (w.heap.size + 1) 67 #[.int .i64 d, .int .i64 e0]), fun _ h => h, bx104, ?_⟩
          (try simp only [Act.put, List.setIfInBounds_toArray, List.set_cons_zero, List.set_cons_succ])
          refine any_one 7 rfl (by kernel_rfl) (by rfl) ?_
          go_simp
          have AG105 := At.newAt' (w := w103) (t := 31) (cs := #[.int .i64 r, .int .i64 r1, .int .i64 r2, .int .i64 r3]) (show w103.heap.size = w103.heap.size by first | rfl | simp)
          have hal105 := (Below.refl w103.heap.size w103).alloc (Nat.le_refl _) (.cells #[.int .i64 r, .int .i64 r1, .int .i64 r2, .int .i64 r3] 31)
          have hB105 := hB103.alloc hB103.size (.cells #[.int .i64 r, .int .i64 r1, .int .i64 r2, .int .i64 r3] 31)
          have bx105 := bx103.alloc (.cells #[.int .i64 r, .int .i64 r1, .int .i64 r2, .int .i64 r3] 31)
          refine ⟨(fun u => At2Mk u w.heap.size 72 #[.int .i64 a, .int .i64 b, .int .i64 c] (w.heap.size + 1) 67 #[.int .i64 d, .int .i64 e0]), fun _ h => h, bx105, ?_⟩
          (try simp only [Act.put, List.setIfInBounds_toArray, List.set_cons_zero, List.set_cons_succ])
          refine any_done (by kernel_rfl) ?_
          go_wp2
          go_meet
          exact ⟨_, rfl, AG105, hB105⟩
        · go_simp
          have ag106 := At.newAt' (w := w102) (t := 31) (cs := #[.int .i64 0, .int .i64 0, .int .i64 0, .int .i64 0]) (show w102.heap.size = w102.heap.size by first | rfl | simp)
          have gl106 : wA.heap.size ≤ w102.heap.size := by first | exact hB102.size | exact Nat.le_refl _ | (have := hB102.size; simp at this ⊢; try omega)
          have hal106 := (Below.refl w102.heap.size w102).alloc (Nat.le_refl _) (.cells #[.int .i64 0, .int .i64 0, .int .i64 0, .int .i64 0] 31)
          have hB106 := hB102.alloc hB102.size (.cells #[.int .i64 0, .int .i64 0, .int .i64 0, .int .i64 0] 31)
          have bx106 := bx102.alloc (.cells #[.int .i64 0, .int .i64 0, .int .i64 0, .int .i64 0] 31)
          refine ⟨(fun u => At2Mk u w.heap.size 72 #[.int .i64 a, .int .i64 b, .int .i64 c] (w.heap.size + 1) 67 #[.int .i64 d, .int .i64 e0]), fun _ h => h, bx106, ?_⟩
          (try simp only [Act.put, List.setIfInBounds_toArray, List.set_cons_zero, List.set_cons_succ])
          refine any_one 5 rfl (by kernel_rfl) (by rfl) ?_
          go_simp
          refine (SP _).mono ?_
          rintro e w107 ⟨rfl, hb107⟩
          have hB107 := hB106.trans (hb107.mono hB106.size)
          have bx107 := bx106.below hb107 bx106.lt
          have ag_107 := ag106.below hb107 ag106.lt
          refine ⟨(fun u => At2Mk u w.heap.size 72 #[.int .i64 a, .int .i64 b, .int .i64 c] (w.heap.size + 1) 67 #[.int .i64 d, .int .i64 e0]), fun _ h => h, bx107, ?_⟩
          (try simp only [Act.put, List.setIfInBounds_toArray, List.set_cons_zero, List.set_cons_succ])
          refine any_one 7 rfl (by kernel_rfl) (by rfl) ?_
          obtain ⟨k0, k1, k2, k3, k4, k5, k6, k7⟩ := ag_107.four
          go_simp
          have hltg108 : w102.heap.size < w107.heap.size := ag_107.lt
          have AG108 : At ((((w107.setCell ⟨w102.heap.size, 0, none⟩ (.int .i64 r)).setCell ⟨w102.heap.size, 1, none⟩ (.int .i64 r1)).setCell ⟨w102.heap.size, 2, none⟩ (.int .i64 r2)).setCell ⟨w102.heap.size, 3, none⟩ (.int .i64 r3)) w102.heap.size 31 #[.int .i64 r, .int .i64 r1, .int .i64 r2, .int .i64 r3] := ((((ag_107.set 0 (.int .i64 r)).set 1 (.int .i64 r1)).set 2 (.int .i64 r2)).set 3 (.int .i64 r3))
          have bx108 := ((((bx107.far (p := ⟨w102.heap.size, 0, none⟩) (by show w.heap.size ≠ w102.heap.size ∧ w.heap.size + 1 ≠ w102.heap.size; have := gl106; omega) (.int .i64 r)).far (p := ⟨w102.heap.size, 1, none⟩) (by show w.heap.size ≠ w102.heap.size ∧ w.heap.size + 1 ≠ w102.heap.size; have := gl106; omega) (.int .i64 r1)).far (p := ⟨w102.heap.size, 2, none⟩) (by show w.heap.size ≠ w102.heap.size ∧ w.heap.size + 1 ≠ w102.heap.size; have := gl106; omega) (.int .i64 r2)).far (p := ⟨w102.heap.size, 3, none⟩) (by show w.heap.size ≠ w102.heap.size ∧ w.heap.size + 1 ≠ w102.heap.size; have := gl106; omega) (.int .i64 r3))
          have hB108 := ((((hB107.setCell (p := ⟨w102.heap.size, 0, none⟩) gl106 (.int .i64 r)).setCell (p := ⟨w102.heap.size, 1, none⟩) gl106 (.int .i64 r1)).setCell (p := ⟨w102.heap.size, 2, none⟩) gl106 (.int .i64 r2)).setCell (p := ⟨w102.heap.size, 3, none⟩) gl106 (.int .i64 r3))
          refine ⟨(fun u => At2Mk u w.heap.size 72 #[.int .i64 a, .int .i64 b, .int .i64 c] (w.heap.size + 1) 67 #[.int .i64 d, .int .i64 e0]), fun _ h => h, bx108, ?_⟩
          (try simp only [Act.put, List.setIfInBounds_toArray, List.set_cons_zero, List.set_cons_succ])
          refine any_done (by kernel_rfl) ?_
          go_wp2
          go_meet
          exact ⟨_, rfl, AG108, hB108⟩
      · go_simp
        have ag109 := At.newAt' (w := w101) (t := 31) (cs := #[.int .i64 0, .int .i64 0, .int .i64 0, .int .i64 0]) (show w101.heap.size = w101.heap.size by first | rfl | simp)
        have gl109 : wA.heap.size ≤ w101.heap.size := by first | exact hB101.size | exact Nat.le_refl _ | (have := hB101.size; simp at this ⊢; try omega)
        have hal109 := (Below.refl w101.heap.size w101).alloc (Nat.le_refl _) (.cells #[.int .i64 0, .int .i64 0, .int .i64 0, .int .i64 0] 31)
        have hB109 := hB101.alloc hB101.size (.cells #[.int .i64 0, .int .i64 0, .int .i64 0, .int .i64 0] 31)
        have bx109 := bx101.alloc (.cells #[.int .i64 0, .int .i64 0, .int .i64 0, .int .i64 0] 31)
        refine ⟨(fun u => At2Mk u w.heap.size 72 #[.int .i64 a, .int .i64 b, .int .i64 c] (w.heap.size + 1) 67 #[.int .i64 d, .int .i64 e0]), fun _ h => h, bx109, ?_⟩
        (try simp only [Act.put, List.setIfInBounds_toArray, List.set_cons_zero, List.set_cons_succ])
        refine any_one 3 rfl (by kernel_rfl) (by rfl) ?_
        go_simp
        refine (toMark d e0 _).mono ?_
        rintro e w110 ⟨rfl, hb110⟩
        have hB110 := hB109.trans (hb110.mono hB109.size)
        have bx110 := bx109.below hb110 bx109.lt
        have ag_110 := ag109.below hb110 ag109.lt
        refine ⟨(fun u => At2Mk u w.heap.size 72 #[.int .i64 a, .int .i64 b, .int .i64 c] (w.heap.size + 1) 67 #[.int .i64 d, .int .i64 e0]), fun _ h => h, bx110, ?_⟩
        (try simp only [Act.put, List.setIfInBounds_toArray, List.set_cons_zero, List.set_cons_succ])
        refine any_one 5 rfl (by kernel_rfl) (by rfl) ?_
        go_simp
        refine (SP _).mono ?_
        rintro e w111 ⟨rfl, hb111⟩
        have hB111 := hB110.trans (hb111.mono hB110.size)
        have bx111 := bx110.below hb111 bx110.lt
        have ag_111 := ag_110.below hb111 ag_110.lt
        refine ⟨(fun u => At2Mk u w.heap.size 72 #[.int .i64 a, .int .i64 b, .int .i64 c] (w.heap.size + 1) 67 #[.int .i64 d, .int .i64 e0]), fun _ h => h, bx111, ?_⟩
        (try simp only [Act.put, List.setIfInBounds_toArray, List.set_cons_zero, List.set_cons_succ])
        refine any_one 7 rfl (by kernel_rfl) (by rfl) ?_
        obtain ⟨k0, k1, k2, k3, k4, k5, k6, k7⟩ := ag_111.four
        go_simp
        have hltg112 : w101.heap.size < w111.heap.size := ag_111.lt
        have AG112 : At ((((w111.setCell ⟨w101.heap.size, 0, none⟩ (.int .i64 r)).setCell ⟨w101.heap.size, 1, none⟩ (.int .i64 r1)).setCell ⟨w101.heap.size, 2, none⟩ (.int .i64 r2)).setCell ⟨w101.heap.size, 3, none⟩ (.int .i64 r3)) w101.heap.size 31 #[.int .i64 r, .int .i64 r1, .int .i64 r2, .int .i64 r3] := ((((ag_111.set 0 (.int .i64 r)).set 1 (.int .i64 r1)).set 2 (.int .i64 r2)).set 3 (.int .i64 r3))
        have bx112 := ((((bx111.far (p := ⟨w101.heap.size, 0, none⟩) (by show w.heap.size ≠ w101.heap.size ∧ w.heap.size + 1 ≠ w101.heap.size; have := gl109; omega) (.int .i64 r)).far (p := ⟨w101.heap.size, 1, none⟩) (by show w.heap.size ≠ w101.heap.size ∧ w.heap.size + 1 ≠ w101.heap.size; have := gl109; omega) (.int .i64 r1)).far (p := ⟨w101.heap.size, 2, none⟩) (by show w.heap.size ≠ w101.heap.size ∧ w.heap.size + 1 ≠ w101.heap.size; have := gl109; omega) (.int .i64 r2)).far (p := ⟨w101.heap.size, 3, none⟩) (by show w.heap.size ≠ w101.heap.size ∧ w.heap.size + 1 ≠ w101.heap.size; have := gl109; omega) (.int .i64 r3))
        have hB112 := ((((hB111.setCell (p := ⟨w101.heap.size, 0, none⟩) gl109 (.int .i64 r)).setCell (p := ⟨w101.heap.size, 1, none⟩) gl109 (.int .i64 r1)).setCell (p := ⟨w101.heap.size, 2, none⟩) gl109 (.int .i64 r2)).setCell (p := ⟨w101.heap.size, 3, none⟩) gl109 (.int .i64 r3))
        refine ⟨(fun u => At2Mk u w.heap.size 72 #[.int .i64 a, .int .i64 b, .int .i64 c] (w.heap.size + 1) 67 #[.int .i64 d, .int .i64 e0]), fun _ h => h, bx112, ?_⟩
        (try simp only [Act.put, List.setIfInBounds_toArray, List.set_cons_zero, List.set_cons_succ])
        refine any_done (by kernel_rfl) ?_
        go_wp2
        go_meet
        exact ⟨_, rfl, AG112, hB112⟩
    · go_simp
      have ag113 := At.newAt' (w := wA.drew) (t := 31) (cs := #[.int .i64 0, .int .i64 0, .int .i64 0, .int .i64 0]) (show wA.drew.heap.size = wA.heap.size by first | rfl | simp)
      have gl113 : wA.heap.size ≤ wA.heap.size := by first | exact hBd.size | exact Nat.le_refl _ | (have := hBd.size; simp at this ⊢; try omega)
      have hal113 := (Below.refl wA.drew.heap.size wA.drew).alloc (Nat.le_refl _) (.cells #[.int .i64 0, .int .i64 0, .int .i64 0, .int .i64 0] 31)
      have hB113 := hBd.alloc hBd.size (.cells #[.int .i64 0, .int .i64 0, .int .i64 0, .int .i64 0] 31)
      have bx113 := bxd.alloc (.cells #[.int .i64 0, .int .i64 0, .int .i64 0, .int .i64 0] 31)
      refine ⟨(fun u => At2Mk u w.heap.size 72 #[.int .i64 a, .int .i64 b, .int .i64 c] (w.heap.size + 1) 67 #[.int .i64 d, .int .i64 e0]), fun _ h => h, bx113, ?_⟩
      (try simp only [Act.put, List.setIfInBounds_toArray, List.set_cons_zero, List.set_cons_succ])
      refine any_one 1 rfl (by kernel_rfl) (by rfl) ?_
      go_simp
      refine (toMember a b c _).mono ?_
      rintro e w114 ⟨rfl, hb114⟩
      have hB114 := hB113.trans (hb114.mono hB113.size)
      have bx114 := bx113.below hb114 bx113.lt
      have ag_114 := ag113.below hb114 ag113.lt
      refine ⟨(fun u => At2Mk u w.heap.size 72 #[.int .i64 a, .int .i64 b, .int .i64 c] (w.heap.size + 1) 67 #[.int .i64 d, .int .i64 e0]), fun _ h => h, bx114, ?_⟩
      (try simp only [Act.put, List.setIfInBounds_toArray, List.set_cons_zero, List.set_cons_succ])
      refine any_one 3 rfl (by kernel_rfl) (by rfl) ?_
      go_simp
      refine (toMark d e0 _).mono ?_
      rintro e w115 ⟨rfl, hb115⟩
      have hB115 := hB114.trans (hb115.mono hB114.size)
      have bx115 := bx114.below hb115 bx114.lt
      have ag_115 := ag_114.below hb115 ag_114.lt
      refine ⟨(fun u => At2Mk u w.heap.size 72 #[.int .i64 a, .int .i64 b, .int .i64 c] (w.heap.size + 1) 67 #[.int .i64 d, .int .i64 e0]), fun _ h => h, bx115, ?_⟩
      (try simp only [Act.put, List.setIfInBounds_toArray, List.set_cons_zero, List.set_cons_succ])
      refine any_one 5 rfl (by kernel_rfl) (by rfl) ?_
      go_simp
      refine (SP _).mono ?_
      rintro e w116 ⟨rfl, hb116⟩
      have hB116 := hB115.trans (hb116.mono hB115.size)
      have bx116 := bx115.below hb116 bx115.lt
      have ag_116 := ag_115.below hb116 ag_115.lt
      refine ⟨(fun u => At2Mk u w.heap.size 72 #[.int .i64 a, .int .i64 b, .int .i64 c] (w.heap.size + 1) 67 #[.int .i64 d, .int .i64 e0]), fun _ h => h, bx116, ?_⟩
      (try simp only [Act.put, List.setIfInBounds_toArray, List.set_cons_zero, List.set_cons_succ])
      refine any_one 7 rfl (by kernel_rfl) (by rfl) ?_
      obtain ⟨k0, k1, k2, k3, k4, k5, k6, k7⟩ := ag_116.four
      go_simp
      have hltg117 : wA.heap.size < w116.heap.size := ag_116.lt
      have AG117 : At ((((w116.setCell ⟨wA.heap.size, 0, none⟩ (.int .i64 r)).setCell ⟨wA.heap.size, 1, none⟩ (.int .i64 r1)).setCell ⟨wA.heap.size, 2, none⟩ (.int .i64 r2)).setCell ⟨wA.heap.size, 3, none⟩ (.int .i64 r3)) wA.heap.size 31 #[.int .i64 r, .int .i64 r1, .int .i64 r2, .int .i64 r3] := ((((ag_116.set 0 (.int .i64 r)).set 1 (.int .i64 r1)).set 2 (.int .i64 r2)).set 3 (.int .i64 r3))
      have bx117 := ((((bx116.far (p := ⟨wA.heap.size, 0, none⟩) (by show w.heap.size ≠ wA.heap.size ∧ w.heap.size + 1 ≠ wA.heap.size; have := gl113; omega) (.int .i64 r)).far (p := ⟨wA.heap.size, 1, none⟩) (by show w.heap.size ≠ wA.heap.size ∧ w.heap.size + 1 ≠ wA.heap.size; have := gl113; omega) (.int .i64 r1)).far (p := ⟨wA.heap.size, 2, none⟩) (by show w.heap.size ≠ wA.heap.size ∧ w.heap.size + 1 ≠ wA.heap.size; have := gl113; omega) (.int .i64 r2)).far (p := ⟨wA.heap.size, 3, none⟩) (by show w.heap.size ≠ wA.heap.size ∧ w.heap.size + 1 ≠ wA.heap.size; have := gl113; omega) (.int .i64 r3))
      have hB117 := ((((hB116.setCell (p := ⟨wA.heap.size, 0, none⟩) gl113 (.int .i64 r)).setCell (p := ⟨wA.heap.size, 1, none⟩) gl113 (.int .i64 r1)).setCell (p := ⟨wA.heap.size, 2, none⟩) gl113 (.int .i64 r2)).setCell (p := ⟨wA.heap.size, 3, none⟩) gl113 (.int .i64 r3))
      refine ⟨(fun u => At2Mk u w.heap.size 72 #[.int .i64 a, .int .i64 b, .int .i64 c] (w.heap.size + 1) 67 #[.int .i64 d, .int .i64 e0]), fun _ h => h, bx117, ?_⟩
      (try simp only [Act.put, List.setIfInBounds_toArray, List.set_cons_zero, List.set_cons_succ])
      refine any_done (by kernel_rfl) ?_
      go_wp2
      go_meet
      exact ⟨_, rfl, AG117, hB117⟩
  case rest =>
    obtain ⟨g1, rfl, A1, HB1⟩ := hcut
    rename World => w1
    have hB1 := hB0.trans (HB1.mono hB0.size)
    have bx1 := bx.below HB1 bx.lt
    clear l1 l2
    go_upto_region 2 with fail
    obtain ⟨l1, l2⟩ := bx1.lt
    go_cut [8] (fun s wx => ∃ gx, s = .pointer (some ⟨gx, 0, none⟩) ∧ At wx gx 31 #[.int .i64 r, .int .i64 r1, .int .i64 r2, .int .i64 r3] ∧ Below w1.heap.size w1 wx)
    case first =>
      refine any_start (fun u => At2Mk u w.heap.size 72 #[.int .i64 a, .int .i64 b, .int .i64 c] (w.heap.size + 1) 67 #[.int .i64 d, .int .i64 e0]) (by kernel_rfl) bx1.drew (fun _ => ?_)
      have bxd := bx1.drew
      have hBd := (Below.refl w1.heap.size w1).drew
      refine any_pure (v := ?_) 0 rfl (by kernel_rfl) (fun _ _ _ _ _ h => h) (by rfl) (fun u hu => ?_) bxd ?_
      rotate_left
      · (obtain ⟨hu1, hu2⟩ := hu; obtain ⟨_, _, _, _, _, _⟩ := hu1.threeC; obtain ⟨_, _⟩ := hu2.twoC)
        go_simp
        (with_reducible rfl)
      (try simp only [Act.put, List.setIfInBounds_toArray, List.set_cons_zero, List.set_cons_succ])
      refine any_pure (v := ?_) 2 rfl (by kernel_rfl) (fun _ _ _ _ _ h => h) (by rfl) (fun u hu => ?_) bxd ?_
      rotate_left
      · (obtain ⟨hu1, hu2⟩ := hu; obtain ⟨_, _, _, _, _, _⟩ := hu1.threeC; obtain ⟨_, _⟩ := hu2.twoC)
        go_simp
        (with_reducible rfl)
      (try simp only [Act.put, List.setIfInBounds_toArray, List.set_cons_zero, List.set_cons_succ])
      refine any_pure (v := ?_) 4 rfl (by kernel_rfl) (fun _ _ _ _ _ h => h) (by rfl) (fun u hu => ?_) bxd ?_
      rotate_left
      · (obtain ⟨hu1, hu2⟩ := hu; obtain ⟨_, _, _, _, _, _⟩ := hu1.threeC; obtain ⟨_, _⟩ := hu2.twoC)
        go_simp
        (with_reducible rfl)
      (try simp only [Act.put, List.setIfInBounds_toArray, List.set_cons_zero, List.set_cons_succ])
      refine any_two 1 6 rfl rfl (by kernel_rfl) (by rfl) (by rfl) ?_ ?_
      · go_simp
        refine (toMember a b c _).mono ?_
        rintro e w201 ⟨rfl, hb201⟩
        have hB201 := hBd.trans (hb201.mono hBd.size)
        have bx201 := bxd.below hb201 bxd.lt
        refine ⟨(fun u => At2Mk u w.heap.size 72 #[.int .i64 a, .int .i64 b, .int .i64 c] (w.heap.size + 1) 67 #[.int .i64 d, .int .i64 e0]), fun _ h => h, bx201, ?_⟩
        (try simp only [Act.put, List.setIfInBounds_toArray, List.set_cons_zero, List.set_cons_succ])
        refine any_two 3 6 rfl rfl (by kernel_rfl) (by rfl) (by rfl) ?_ ?_
        · go_simp
          refine (toMark d e0 _).mono ?_
          rintro e w202 ⟨rfl, hb202⟩
          have hB202 := hB201.trans (hb202.mono hB201.size)
          have bx202 := bx201.below hb202 bx201.lt
          refine ⟨(fun u => At2Mk u w.heap.size 72 #[.int .i64 a, .int .i64 b, .int .i64 c] (w.heap.size + 1) 67 #[.int .i64 d, .int .i64 e0]), fun _ h => h, bx202, ?_⟩
          (try simp only [Act.put, List.setIfInBounds_toArray, List.set_cons_zero, List.set_cons_succ])
          refine any_two 5 6 rfl rfl (by kernel_rfl) (by rfl) (by rfl) ?_ ?_
          · go_simp
            refine (IP _).mono ?_
            rintro e w203 ⟨rfl, hb203⟩
            have hB203 := hB202.trans (hb203.mono hB202.size)
            have bx203 := bx202.below hb203 bx202.lt
            refine ⟨(fun u => At2Mk u w.heap.size 72 #[.int .i64 a, .int .i64 b, .int .i64 c] (w.heap.size + 1) 67 #[.int .i64 d, .int .i64 e0]), fun _ h => h, bx203, ?_⟩
            (try simp only [Act.put, List.setIfInBounds_toArray, List.set_cons_zero, List.set_cons_succ])
            refine any_one 6 rfl (by kernel_rfl) (by rfl) ?_
            go_simp
            have ag204 := At.newAt' (w := w203) (t := 31) (cs := #[.int .i64 0, .int .i64 0, .int .i64 0, .int .i64 0]) (show w203.heap.size = w203.heap.size by first | rfl | simp)
            have gl204 : w1.heap.size ≤ w203.heap.size := by first | exact hB203.size | exact Nat.le_refl _ | (have := hB203.size; simp at this ⊢; try omega)
            have hal204 := (Below.refl w203.heap.size w203).alloc (Nat.le_refl _) (.cells #[.int .i64 0, .int .i64 0, .int .i64 0, .int .i64 0] 31)
            have hB204 := hB203.alloc hB203.size (.cells #[.int .i64 0, .int .i64 0, .int .i64 0, .int .i64 0] 31)
            have bx204 := bx203.alloc (.cells #[.int .i64 0, .int .i64 0, .int .i64 0, .int .i64 0] 31)
            refine ⟨(fun u => At2Mk u w.heap.size 72 #[.int .i64 a, .int .i64 b, .int .i64 c] (w.heap.size + 1) 67 #[.int .i64 d, .int .i64 e0]), fun _ h => h, bx204, ?_⟩
            (try simp only [Act.put, List.setIfInBounds_toArray, List.set_cons_zero, List.set_cons_succ])
            refine any_one 7 rfl (by kernel_rfl) (by rfl) ?_
            go_simp
            have AG205 := At.newAt' (w := w203) (t := 31) (cs := #[.int .i64 r, .int .i64 r1, .int .i64 r2, .int .i64 r3]) (show w203.heap.size = w203.heap.size by first | rfl | simp)
            have hal205 := (Below.refl w203.heap.size w203).alloc (Nat.le_refl _) (.cells #[.int .i64 r, .int .i64 r1, .int .i64 r2, .int .i64 r3] 31)
            have hB205 := hB203.alloc hB203.size (.cells #[.int .i64 r, .int .i64 r1, .int .i64 r2, .int .i64 r3] 31)
            have bx205 := bx203.alloc (.cells #[.int .i64 r, .int .i64 r1, .int .i64 r2, .int .i64 r3] 31)
            refine ⟨(fun u => At2Mk u w.heap.size 72 #[.int .i64 a, .int .i64 b, .int .i64 c] (w.heap.size + 1) 67 #[.int .i64 d, .int .i64 e0]), fun _ h => h, bx205, ?_⟩
            (try simp only [Act.put, List.setIfInBounds_toArray, List.set_cons_zero, List.set_cons_succ])
            refine any_done (by kernel_rfl) ?_
            go_wp2
            go_meet
            exact ⟨_, rfl, AG205, hB205⟩
          · go_simp
            have ag206 := At.newAt' (w := w202) (t := 31) (cs := #[.int .i64 0, .int .i64 0, .int .i64 0, .int .i64 0]) (show w202.heap.size = w202.heap.size by first | rfl | simp)
            have gl206 : w1.heap.size ≤ w202.heap.size := by first | exact hB202.size | exact Nat.le_refl _ | (have := hB202.size; simp at this ⊢; try omega)
            have hal206 := (Below.refl w202.heap.size w202).alloc (Nat.le_refl _) (.cells #[.int .i64 0, .int .i64 0, .int .i64 0, .int .i64 0] 31)
            have hB206 := hB202.alloc hB202.size (.cells #[.int .i64 0, .int .i64 0, .int .i64 0, .int .i64 0] 31)
            have bx206 := bx202.alloc (.cells #[.int .i64 0, .int .i64 0, .int .i64 0, .int .i64 0] 31)
            refine ⟨(fun u => At2Mk u w.heap.size 72 #[.int .i64 a, .int .i64 b, .int .i64 c] (w.heap.size + 1) 67 #[.int .i64 d, .int .i64 e0]), fun _ h => h, bx206, ?_⟩
            (try simp only [Act.put, List.setIfInBounds_toArray, List.set_cons_zero, List.set_cons_succ])
            refine any_one 5 rfl (by kernel_rfl) (by rfl) ?_
            go_simp
            refine (IP _).mono ?_
            rintro e w207 ⟨rfl, hb207⟩
            have hB207 := hB206.trans (hb207.mono hB206.size)
            have bx207 := bx206.below hb207 bx206.lt
            have ag_207 := ag206.below hb207 ag206.lt
            refine ⟨(fun u => At2Mk u w.heap.size 72 #[.int .i64 a, .int .i64 b, .int .i64 c] (w.heap.size + 1) 67 #[.int .i64 d, .int .i64 e0]), fun _ h => h, bx207, ?_⟩
            (try simp only [Act.put, List.setIfInBounds_toArray, List.set_cons_zero, List.set_cons_succ])
            refine any_one 7 rfl (by kernel_rfl) (by rfl) ?_
            obtain ⟨k0, k1, k2, k3, k4, k5, k6, k7⟩ := ag_207.four
            go_simp
            have hltg208 : w202.heap.size < w207.heap.size := ag_207.lt
            have AG208 : At ((((w207.setCell ⟨w202.heap.size, 0, none⟩ (.int .i64 r)).setCell ⟨w202.heap.size, 1, none⟩ (.int .i64 r1)).setCell ⟨w202.heap.size, 2, none⟩ (.int .i64 r2)).setCell ⟨w202.heap.size, 3, none⟩ (.int .i64 r3)) w202.heap.size 31 #[.int .i64 r, .int .i64 r1, .int .i64 r2, .int .i64 r3] := ((((ag_207.set 0 (.int .i64 r)).set 1 (.int .i64 r1)).set 2 (.int .i64 r2)).set 3 (.int .i64 r3))
            have bx208 := ((((bx207.far (p := ⟨w202.heap.size, 0, none⟩) (by show w.heap.size ≠ w202.heap.size ∧ w.heap.size + 1 ≠ w202.heap.size; have := gl206; omega) (.int .i64 r)).far (p := ⟨w202.heap.size, 1, none⟩) (by show w.heap.size ≠ w202.heap.size ∧ w.heap.size + 1 ≠ w202.heap.size; have := gl206; omega) (.int .i64 r1)).far (p := ⟨w202.heap.size, 2, none⟩) (by show w.heap.size ≠ w202.heap.size ∧ w.heap.size + 1 ≠ w202.heap.size; have := gl206; omega) (.int .i64 r2)).far (p := ⟨w202.heap.size, 3, none⟩) (by show w.heap.size ≠ w202.heap.size ∧ w.heap.size + 1 ≠ w202.heap.size; have := gl206; omega) (.int .i64 r3))
            have hB208 := ((((hB207.setCell (p := ⟨w202.heap.size, 0, none⟩) gl206 (.int .i64 r)).setCell (p := ⟨w202.heap.size, 1, none⟩) gl206 (.int .i64 r1)).setCell (p := ⟨w202.heap.size, 2, none⟩) gl206 (.int .i64 r2)).setCell (p := ⟨w202.heap.size, 3, none⟩) gl206 (.int .i64 r3))
            refine ⟨(fun u => At2Mk u w.heap.size 72 #[.int .i64 a, .int .i64 b, .int .i64 c] (w.heap.size + 1) 67 #[.int .i64 d, .int .i64 e0]), fun _ h => h, bx208, ?_⟩
            (try simp only [Act.put, List.setIfInBounds_toArray, List.set_cons_zero, List.set_cons_succ])
            refine any_done (by kernel_rfl) ?_
            go_wp2
            go_meet
            exact ⟨_, rfl, AG208, hB208⟩
        · go_simp
          have ag209 := At.newAt' (w := w201) (t := 31) (cs := #[.int .i64 0, .int .i64 0, .int .i64 0, .int .i64 0]) (show w201.heap.size = w201.heap.size by first | rfl | simp)
          have gl209 : w1.heap.size ≤ w201.heap.size := by first | exact hB201.size | exact Nat.le_refl _ | (have := hB201.size; simp at this ⊢; try omega)
          have hal209 := (Below.refl w201.heap.size w201).alloc (Nat.le_refl _) (.cells #[.int .i64 0, .int .i64 0, .int .i64 0, .int .i64 0] 31)
          have hB209 := hB201.alloc hB201.size (.cells #[.int .i64 0, .int .i64 0, .int .i64 0, .int .i64 0] 31)
          have bx209 := bx201.alloc (.cells #[.int .i64 0, .int .i64 0, .int .i64 0, .int .i64 0] 31)
          refine ⟨(fun u => At2Mk u w.heap.size 72 #[.int .i64 a, .int .i64 b, .int .i64 c] (w.heap.size + 1) 67 #[.int .i64 d, .int .i64 e0]), fun _ h => h, bx209, ?_⟩
          (try simp only [Act.put, List.setIfInBounds_toArray, List.set_cons_zero, List.set_cons_succ])
          refine any_one 3 rfl (by kernel_rfl) (by rfl) ?_
          go_simp
          refine (toMark d e0 _).mono ?_
          rintro e w210 ⟨rfl, hb210⟩
          have hB210 := hB209.trans (hb210.mono hB209.size)
          have bx210 := bx209.below hb210 bx209.lt
          have ag_210 := ag209.below hb210 ag209.lt
          refine ⟨(fun u => At2Mk u w.heap.size 72 #[.int .i64 a, .int .i64 b, .int .i64 c] (w.heap.size + 1) 67 #[.int .i64 d, .int .i64 e0]), fun _ h => h, bx210, ?_⟩
          (try simp only [Act.put, List.setIfInBounds_toArray, List.set_cons_zero, List.set_cons_succ])
          refine any_one 5 rfl (by kernel_rfl) (by rfl) ?_
          go_simp
          refine (IP _).mono ?_
          rintro e w211 ⟨rfl, hb211⟩
          have hB211 := hB210.trans (hb211.mono hB210.size)
          have bx211 := bx210.below hb211 bx210.lt
          have ag_211 := ag_210.below hb211 ag_210.lt
          refine ⟨(fun u => At2Mk u w.heap.size 72 #[.int .i64 a, .int .i64 b, .int .i64 c] (w.heap.size + 1) 67 #[.int .i64 d, .int .i64 e0]), fun _ h => h, bx211, ?_⟩
          (try simp only [Act.put, List.setIfInBounds_toArray, List.set_cons_zero, List.set_cons_succ])
          refine any_one 7 rfl (by kernel_rfl) (by rfl) ?_
          obtain ⟨k0, k1, k2, k3, k4, k5, k6, k7⟩ := ag_211.four
          go_simp
          have hltg212 : w201.heap.size < w211.heap.size := ag_211.lt
          have AG212 : At ((((w211.setCell ⟨w201.heap.size, 0, none⟩ (.int .i64 r)).setCell ⟨w201.heap.size, 1, none⟩ (.int .i64 r1)).setCell ⟨w201.heap.size, 2, none⟩ (.int .i64 r2)).setCell ⟨w201.heap.size, 3, none⟩ (.int .i64 r3)) w201.heap.size 31 #[.int .i64 r, .int .i64 r1, .int .i64 r2, .int .i64 r3] := ((((ag_211.set 0 (.int .i64 r)).set 1 (.int .i64 r1)).set 2 (.int .i64 r2)).set 3 (.int .i64 r3))
          have bx212 := ((((bx211.far (p := ⟨w201.heap.size, 0, none⟩) (by show w.heap.size ≠ w201.heap.size ∧ w.heap.size + 1 ≠ w201.heap.size; have := gl209; omega) (.int .i64 r)).far (p := ⟨w201.heap.size, 1, none⟩) (by show w.heap.size ≠ w201.heap.size ∧ w.heap.size + 1 ≠ w201.heap.size; have := gl209; omega) (.int .i64 r1)).far (p := ⟨w201.heap.size, 2, none⟩) (by show w.heap.size ≠ w201.heap.size ∧ w.heap.size + 1 ≠ w201.heap.size; have := gl209; omega) (.int .i64 r2)).far (p := ⟨w201.heap.size, 3, none⟩) (by show w.heap.size ≠ w201.heap.size ∧ w.heap.size + 1 ≠ w201.heap.size; have := gl209; omega) (.int .i64 r3))
          have hB212 := ((((hB211.setCell (p := ⟨w201.heap.size, 0, none⟩) gl209 (.int .i64 r)).setCell (p := ⟨w201.heap.size, 1, none⟩) gl209 (.int .i64 r1)).setCell (p := ⟨w201.heap.size, 2, none⟩) gl209 (.int .i64 r2)).setCell (p := ⟨w201.heap.size, 3, none⟩) gl209 (.int .i64 r3))
          refine ⟨(fun u => At2Mk u w.heap.size 72 #[.int .i64 a, .int .i64 b, .int .i64 c] (w.heap.size + 1) 67 #[.int .i64 d, .int .i64 e0]), fun _ h => h, bx212, ?_⟩
          (try simp only [Act.put, List.setIfInBounds_toArray, List.set_cons_zero, List.set_cons_succ])
          refine any_done (by kernel_rfl) ?_
          go_wp2
          go_meet
          exact ⟨_, rfl, AG212, hB212⟩
      · go_simp
        have ag213 := At.newAt' (w := w1.drew) (t := 31) (cs := #[.int .i64 0, .int .i64 0, .int .i64 0, .int .i64 0]) (show w1.drew.heap.size = w1.heap.size by first | rfl | simp)
        have gl213 : w1.heap.size ≤ w1.heap.size := by first | exact hBd.size | exact Nat.le_refl _ | (have := hBd.size; simp at this ⊢; try omega)
        have hal213 := (Below.refl w1.drew.heap.size w1.drew).alloc (Nat.le_refl _) (.cells #[.int .i64 0, .int .i64 0, .int .i64 0, .int .i64 0] 31)
        have hB213 := hBd.alloc hBd.size (.cells #[.int .i64 0, .int .i64 0, .int .i64 0, .int .i64 0] 31)
        have bx213 := bxd.alloc (.cells #[.int .i64 0, .int .i64 0, .int .i64 0, .int .i64 0] 31)
        refine ⟨(fun u => At2Mk u w.heap.size 72 #[.int .i64 a, .int .i64 b, .int .i64 c] (w.heap.size + 1) 67 #[.int .i64 d, .int .i64 e0]), fun _ h => h, bx213, ?_⟩
        (try simp only [Act.put, List.setIfInBounds_toArray, List.set_cons_zero, List.set_cons_succ])
        refine any_one 1 rfl (by kernel_rfl) (by rfl) ?_
        go_simp
        refine (toMember a b c _).mono ?_
        rintro e w214 ⟨rfl, hb214⟩
        have hB214 := hB213.trans (hb214.mono hB213.size)
        have bx214 := bx213.below hb214 bx213.lt
        have ag_214 := ag213.below hb214 ag213.lt
        refine ⟨(fun u => At2Mk u w.heap.size 72 #[.int .i64 a, .int .i64 b, .int .i64 c] (w.heap.size + 1) 67 #[.int .i64 d, .int .i64 e0]), fun _ h => h, bx214, ?_⟩
        (try simp only [Act.put, List.setIfInBounds_toArray, List.set_cons_zero, List.set_cons_succ])
        refine any_one 3 rfl (by kernel_rfl) (by rfl) ?_
        go_simp
        refine (toMark d e0 _).mono ?_
        rintro e w215 ⟨rfl, hb215⟩
        have hB215 := hB214.trans (hb215.mono hB214.size)
        have bx215 := bx214.below hb215 bx214.lt
        have ag_215 := ag_214.below hb215 ag_214.lt
        refine ⟨(fun u => At2Mk u w.heap.size 72 #[.int .i64 a, .int .i64 b, .int .i64 c] (w.heap.size + 1) 67 #[.int .i64 d, .int .i64 e0]), fun _ h => h, bx215, ?_⟩
        (try simp only [Act.put, List.setIfInBounds_toArray, List.set_cons_zero, List.set_cons_succ])
        refine any_one 5 rfl (by kernel_rfl) (by rfl) ?_
        go_simp
        refine (IP _).mono ?_
        rintro e w216 ⟨rfl, hb216⟩
        have hB216 := hB215.trans (hb216.mono hB215.size)
        have bx216 := bx215.below hb216 bx215.lt
        have ag_216 := ag_215.below hb216 ag_215.lt
        refine ⟨(fun u => At2Mk u w.heap.size 72 #[.int .i64 a, .int .i64 b, .int .i64 c] (w.heap.size + 1) 67 #[.int .i64 d, .int .i64 e0]), fun _ h => h, bx216, ?_⟩
        (try simp only [Act.put, List.setIfInBounds_toArray, List.set_cons_zero, List.set_cons_succ])
        refine any_one 7 rfl (by kernel_rfl) (by rfl) ?_
        obtain ⟨k0, k1, k2, k3, k4, k5, k6, k7⟩ := ag_216.four
        go_simp
        have hltg217 : w1.heap.size < w216.heap.size := ag_216.lt
        have AG217 : At ((((w216.setCell ⟨w1.heap.size, 0, none⟩ (.int .i64 r)).setCell ⟨w1.heap.size, 1, none⟩ (.int .i64 r1)).setCell ⟨w1.heap.size, 2, none⟩ (.int .i64 r2)).setCell ⟨w1.heap.size, 3, none⟩ (.int .i64 r3)) w1.heap.size 31 #[.int .i64 r, .int .i64 r1, .int .i64 r2, .int .i64 r3] := ((((ag_216.set 0 (.int .i64 r)).set 1 (.int .i64 r1)).set 2 (.int .i64 r2)).set 3 (.int .i64 r3))
        have bx217 := ((((bx216.far (p := ⟨w1.heap.size, 0, none⟩) (by show w.heap.size ≠ w1.heap.size ∧ w.heap.size + 1 ≠ w1.heap.size; have := gl213; omega) (.int .i64 r)).far (p := ⟨w1.heap.size, 1, none⟩) (by show w.heap.size ≠ w1.heap.size ∧ w.heap.size + 1 ≠ w1.heap.size; have := gl213; omega) (.int .i64 r1)).far (p := ⟨w1.heap.size, 2, none⟩) (by show w.heap.size ≠ w1.heap.size ∧ w.heap.size + 1 ≠ w1.heap.size; have := gl213; omega) (.int .i64 r2)).far (p := ⟨w1.heap.size, 3, none⟩) (by show w.heap.size ≠ w1.heap.size ∧ w.heap.size + 1 ≠ w1.heap.size; have := gl213; omega) (.int .i64 r3))
        have hB217 := ((((hB216.setCell (p := ⟨w1.heap.size, 0, none⟩) gl213 (.int .i64 r)).setCell (p := ⟨w1.heap.size, 1, none⟩) gl213 (.int .i64 r1)).setCell (p := ⟨w1.heap.size, 2, none⟩) gl213 (.int .i64 r2)).setCell (p := ⟨w1.heap.size, 3, none⟩) gl213 (.int .i64 r3))
        refine ⟨(fun u => At2Mk u w.heap.size 72 #[.int .i64 a, .int .i64 b, .int .i64 c] (w.heap.size + 1) 67 #[.int .i64 d, .int .i64 e0]), fun _ h => h, bx217, ?_⟩
        (try simp only [Act.put, List.setIfInBounds_toArray, List.set_cons_zero, List.set_cons_succ])
        refine any_done (by kernel_rfl) ?_
        go_wp2
        go_meet
        exact ⟨_, rfl, AG217, hB217⟩
    case rest =>
      obtain ⟨g2, rfl, A2, HB2⟩ := hcut
      rename World => w2
      have hB2 := hB1.trans (HB2.mono hB1.size)
      have A12 := A1.below HB2 A1.lt
      obtain ⟨p0, p1, p2, p3, _, _, _, _⟩ := A12.four
      obtain ⟨q0, q1, q2, q3, _, _, _, _⟩ := A2.four
      go_wp2_with fail
      refine (eqMemberResult_same r r1 r2 r3 _).mono ?_
      rintro e w9 ⟨rfl, hb9⟩
      have hB9 := hB2.trans (hb9.mono hB2.size)
      go_wp2
      go_ret
      exact ⟨rfl, hB9⟩

end Go.Proofs.Ytbfjfjocangjeaa
