/-
  The program's lives: the next one, and what is said against what was heard.
-/
import Derived.Test.YtbfjfjocangjeaaMbR
namespace Go.Proofs.Ytbfjfjocangjeaa
set_option maxRecDepth 20000
open Go.RowKit
set_option linter.unusedSimpArgs false
set_option linter.unusedVariables false

theorem atomStore (g : Nat) (x y : Int) (w : World) (h : At w g 135 #[.int .i64 x]) :
    Calls Try.prog 110 #[.pointer (some ⟨g, 0, none⟩), .int .i64 y] w fun e w' => e = .returned (.tuple #[]) ∧ w' = w.setCell ⟨g, 0, none⟩ (.int .i64 y) := by
  have hc : w.cell? ⟨g, 0, none⟩ = some (.int .i64 x) := h.cell 0
  have hz : w.frozen? ⟨g, 0, none⟩ = false := h.frozen 0
  have hl := h.lt
  have hst := run_call_store (P := Try.prog) Try.func120 (by kernel_rfl) (by kernel_rfl) (by kernel_rfl) (by kernel_rfl) (k := .i64) (y := y) hc hz
  go_enter Try.func110, Try.ntmps110
  go_wp2
  go_end0
  exact ⟨rfl, rfl⟩

theorem atomAdd (g : Nat) (x y : Int) (w : World) (h : At w g 135 #[.int .i64 x]) (hs : IntKind.i64.wrap (x + y) = x + y) :
    Calls Try.prog 111 #[.pointer (some ⟨g, 0, none⟩), .int .i64 y] w fun e w' => e = .returned (.int .i64 (x + y)) ∧ w' = w.setCell ⟨g, 0, none⟩ (.int .i64 (x + y)) := by
  have hc : w.cell? ⟨g, 0, none⟩ = some (.int .i64 x) := h.cell 0
  have hz : w.frozen? ⟨g, 0, none⟩ = false := h.frozen 0
  have hl := h.lt
  have hst := run_call_add (P := Try.prog) Try.func121 (by kernel_rfl) (by kernel_rfl) (by kernel_rfl) .i64 (by kernel_rfl) (y := y) (s := x + y) hc hz (by simp [go_sem, hs])
  go_enter Try.func111, Try.ntmps111
  go_wp2
  go_ret
  exact ⟨rfl, rfl⟩

theorem nextLife (l : Int) (w : World) (hw : IntKind.i64.wrap (l + 1) = l + 1) :
    Calls Try.prog 71 #[.int .i64 l] w fun e w' => e = .returned (.int .i64 (l + 1)) ∧ Below w.heap.size w w' := by
  have x0 := At.new w 135 #[.int .i64 0]
  have x1 := At.new w 135 #[.int .i64 l]
  go_enter Try.func71, Try.ntmps71
  go_wp2_with fail
  refine (atomStore _ 0 l _ x0).mono ?_
  rintro e w1 ⟨rfl, rfl⟩
  go_wp2_with fail
  refine (atomAdd _ l 1 _ x1 hw).mono ?_
  rintro e w2 ⟨rfl, rfl⟩
  go_wp2
  go_ret
  refine ⟨rfl, ?_⟩
  repeat (refine Below.setCell ?_ (by simp) _)
  exact (Below.refl _ _).alloc (Nat.le_refl _) _

theorem refute_or (l : Int) (h : Mrk) : refuteM l h = if orM [rngMk [(l, 0, 60000)], markFaultM h] ≠ 0 then (orM [rngMk [(l, 0, 60000)], markFaultM h], 0) else if h.1 = 1 ∨ h.2 < l then (0, l) else if h.2 = 60000 then (7, 0) else (0, h.2 + 1) := by
  unfold refuteM rngMk
  simp only [orM_cons, orM_nil]
  rcases h3 : inB (l, 0, 60000)
  · simp [h3]
  · by_cases h2 : markFaultM h = 0
    · simp [h2, h3]
    · simp [h2, h3]
theorem refute_life {l : Int} {h : Mrk} (k : orM [rngMk [(l, 0, 60000)], markFaultM h] = 0) : 0 ≤ h.2 ∧ h.2 ≤ 60000 := by
  by_cases h2 : markFaultM h = 0
  · exact ((markFault_iff h).1 h2).2
  · simp only [orM_cons, orM_nil] at k
    by_cases h3 : rngMk [(l, 0, 60000)] = 0
    · rw [if_pos h3, if_neg h2] at k; exact absurd k h2
    · rw [if_neg h3] at k; exact absurd k h3

set_option maxHeartbeats 1000000 in
set_option maxRecDepth 2000 in
theorem implRefuteLife (l a b : Int) (w : World) :
    Calls Try.prog 23 #[.int .i64 l, .agg #[.int .i64 a, .int .i64 b]] w fun e w' => e = .returned (.agg #[.int .i64 (refuteM l (a, b)).1, .int .i64 (refuteM l (a, b)).2]) ∧ Below w.heap.size w w' := by
  have hB0 : Below w.heap.size w (((w.alloc (.cells #[.int .i64 a, .int .i64 b] 25)).alloc (.cells #[.int .i64 0, .int .i64 0] 39)).drew) := (((Below.refl _ _).alloc (Nat.le_refl _) _).alloc (by simp) _).drew
  have x0 : At (((w.alloc (.cells #[.int .i64 a, .int .i64 b] 25)).alloc (.cells #[.int .i64 0, .int .i64 0] 39)).drew) w.heap.size 25 #[.int .i64 a, .int .i64 b] := by
    have := ((At.new w 25 #[.int .i64 a, .int .i64 b]).alloc (.cells #[.int .i64 0, .int .i64 0] 39)).drew
    exact this
  have z0 : At (((w.alloc (.cells #[.int .i64 a, .int .i64 b] 25)).alloc (.cells #[.int .i64 0, .int .i64 0] 39)).drew) (w.heap.size + 1) 39 #[.int .i64 0, .int .i64 0] := by
    have := (At.new (w.alloc (.cells #[.int .i64 a, .int .i64 b] 25)) 39 #[.int .i64 0, .int .i64 0]).drew
    simpa using this
  have Hk := Lib.hid (refute_or l (a, b))
  by_cases h1 : orM [rngMk [(l, 0, 60000)], markFaultM (a, b)] = 0
  rotate_left
  · have d1 : (orM [rngMk [(l, 0, 60000)], markFaultM (a, b)] != 0) = true := by rw [bne_iff_ne]; exact h1
    have Hm := Lib.hid (show refuteM l (a, b) = (orM [rngMk [(l, 0, 60000)], markFaultM (a, b)], 0) by rw [Hk.out, if_pos h1])
    clear h1 Hk
    go_enter Try.func23, Try.ntmps23
    go_wp2
    refine wp_region_mix [(0, false), (1, false), (4, false), (2, true), (3, true), (5, true), (6, true), (7, true), (8, false)] (fun u => At u w.heap.size 25 #[.int .i64 a, .int .i64 b]) (by kernel_rfl) (by kernel_rfl) (fun _ _ _ _ _ h => h) x0 ?_
    simp only [mixOps, List.map_cons, List.map_nil, List.getElem?_cons_succ, List.getElem?_cons_zero, Option.getD_some]
    generalize (((w.alloc (.cells #[.int .i64 a, .int .i64 b] 25)).alloc (.cells #[.int .i64 0, .int .i64 0] 39))).drew = v0 at *
    have hs0 := hB0.size
    iterate 3
      refine mix_pure (v := ?_) (by rfl) (fun u hu => ?_) ?_
      rotate_left
      · obtain ⟨_, _⟩ := hu.twoC
        go_simp
        (with_reducible rfl)
      (try simp only [Act.put, List.setIfInBounds_toArray, List.set_cons_zero, List.set_cons_succ])
    refine mix_call (by rfl) (fun K hK => ?_)
    go_simp
    have bb1 := At.new v0 98 #[.int .i64 l, .int .i64 0, .int .i64 60000]
    have x1 := x0.alloc (.cells #[.int .i64 l, .int .i64 0, .int .i64 60000] 98)
    have z1 := z0.alloc (.cells #[.int .i64 l, .int .i64 0, .int .i64 60000] 98)
    have hB1 := hB0.alloc hB0.size (.cells #[.int .i64 l, .int .i64 0, .int .i64 60000] 98)
    refine hK _ _ _ (fun _ h => h) x1 ?_
    (try simp only [Act.put, List.setIfInBounds_toArray, List.set_cons_zero, List.set_cons_succ])
    refine mix_call (by rfl) (fun K hK => ?_)
    go_simp
    refine (rangeMk _ 1 _ [(l, 0, 60000)] _ (bndsMk_at bb1) bb1.lt rfl (by omega)).mono ?_
    rintro e w2 ⟨rfl, hb2⟩
    have x2 := x1.below hb2 x1.lt
    have z2 := z1.below hb2 z1.lt
    have hB2 := hB1.trans (hb2.mono hB1.size)
    refine hK _ _ _ (fun _ h => h) x2 ?_
    (try simp only [Act.put, List.setIfInBounds_toArray, List.set_cons_zero, List.set_cons_succ])
    refine mix_call (by rfl) (fun K hK => ?_)
    go_simp
    refine (implMarkFault a b _).mono ?_
    rintro e w3 ⟨rfl, hb3⟩
    have x3 := x2.below hb3 x2.lt
    have z3 := z2.below hb3 z2.lt
    have hB3 := hB2.trans (hb3.mono hB2.size)
    refine hK _ _ _ (fun _ h => h) x3 ?_
    (try simp only [Act.put, List.setIfInBounds_toArray, List.set_cons_zero, List.set_cons_succ])
    refine mix_call (by rfl) (fun K hK => ?_)
    go_simp
    have ii4 := At.new w3 2 #[.int .i64 (rngMk [(l, 0, 60000)]), .int .i64 (markFaultM (a, b))]
    have hB4 := hB3.alloc hB3.size (.cells #[.int .i64 (rngMk [(l, 0, 60000)]), .int .i64 (markFaultM (a, b))] 2)
    have x4 := x3.alloc (.cells #[.int .i64 (rngMk [(l, 0, 60000)]), .int .i64 (markFaultM (a, b))] 2)
    have z4 := z3.alloc (.cells #[.int .i64 (rngMk [(l, 0, 60000)]), .int .i64 (markFaultM (a, b))] 2)
    refine hK _ _ _ (fun _ h => h) x4 ?_
    (try simp only [Act.put, List.setIfInBounds_toArray, List.set_cons_zero, List.set_cons_succ])
    refine mix_call (by rfl) (fun K hK => ?_)
    go_simp
    refine (or64Mk _ 2 _ [rngMk [(l, 0, 60000)], markFaultM (a, b)] _ (intsMk_at ii4) rfl (by omega)).mono ?_
    rintro e wq ⟨rfl, rfl⟩
    refine hK _ _ _ (fun _ h => h) x4 ?_
    (try simp only [Act.put, List.setIfInBounds_toArray, List.set_cons_zero, List.set_cons_succ])
    iterate 1
      refine mix_pure (v := ?_) (by rfl) (fun u hu => ?_) ?_
      rotate_left
      · go_simp
        (with_reducible rfl)
      (try simp only [Act.put, List.setIfInBounds_toArray, List.set_cons_zero, List.set_cons_succ])
    refine mix_nil ?_
    obtain ⟨r0, r1⟩ := z4.twoC
    have rf0 := z4.frozen 0
    have rf1 := z4.frozen 1
    go_wp2
    refine bodyPost_ret (v := .agg #[.int .i64 (refuteM l (a, b)).1, .int .i64 (refuteM l (a, b)).2]) (by simp [results, Try.results23, go_sem, Hm.out, r0, r1]) rfl ?_
    refine ⟨rfl, ?_⟩
    repeat (refine Below.setCell ?_ (by simp <;> omega) _)
    exact hB4
  have d1 : (orM [rngMk [(l, 0, 60000)], markFaultM (a, b)] != 0) = false := by rw [h1]; rfl
  have hw : IntKind.i64.wrap (b + 1) = b + 1 := IntWalk.i64_in _ (by have := refute_life h1; simp only at this; omega)
  by_cases hs : a = 1
  · have d2 : (a == 1) = true := by simpa using hs
    have Hm := Lib.hid (show refuteM l (a, b) = (0, l) by rw [Hk.out, if_neg (by simpa using h1)]; simp [hs])
    clear h1 Hk hs
    go_enter Try.func23, Try.ntmps23
    go_wp2
    refine wp_region_mix [(0, false), (1, false), (4, false), (2, true), (3, true), (5, true), (6, true), (7, true), (8, false)] (fun u => At u w.heap.size 25 #[.int .i64 a, .int .i64 b]) (by kernel_rfl) (by kernel_rfl) (fun _ _ _ _ _ h => h) x0 ?_
    simp only [mixOps, List.map_cons, List.map_nil, List.getElem?_cons_succ, List.getElem?_cons_zero, Option.getD_some]
    generalize (((w.alloc (.cells #[.int .i64 a, .int .i64 b] 25)).alloc (.cells #[.int .i64 0, .int .i64 0] 39))).drew = v0 at *
    have hs0 := hB0.size
    iterate 3
      refine mix_pure (v := ?_) (by rfl) (fun u hu => ?_) ?_
      rotate_left
      · obtain ⟨_, _⟩ := hu.twoC
        go_simp
        (with_reducible rfl)
      (try simp only [Act.put, List.setIfInBounds_toArray, List.set_cons_zero, List.set_cons_succ])
    refine mix_call (by rfl) (fun K hK => ?_)
    go_simp
    have bb1 := At.new v0 98 #[.int .i64 l, .int .i64 0, .int .i64 60000]
    have x1 := x0.alloc (.cells #[.int .i64 l, .int .i64 0, .int .i64 60000] 98)
    have z1 := z0.alloc (.cells #[.int .i64 l, .int .i64 0, .int .i64 60000] 98)
    have hB1 := hB0.alloc hB0.size (.cells #[.int .i64 l, .int .i64 0, .int .i64 60000] 98)
    refine hK _ _ _ (fun _ h => h) x1 ?_
    (try simp only [Act.put, List.setIfInBounds_toArray, List.set_cons_zero, List.set_cons_succ])
    refine mix_call (by rfl) (fun K hK => ?_)
    go_simp
    refine (rangeMk _ 1 _ [(l, 0, 60000)] _ (bndsMk_at bb1) bb1.lt rfl (by omega)).mono ?_
    rintro e w2 ⟨rfl, hb2⟩
    have x2 := x1.below hb2 x1.lt
    have z2 := z1.below hb2 z1.lt
    have hB2 := hB1.trans (hb2.mono hB1.size)
    refine hK _ _ _ (fun _ h => h) x2 ?_
    (try simp only [Act.put, List.setIfInBounds_toArray, List.set_cons_zero, List.set_cons_succ])
    refine mix_call (by rfl) (fun K hK => ?_)
    go_simp
    refine (implMarkFault a b _).mono ?_
    rintro e w3 ⟨rfl, hb3⟩
    have x3 := x2.below hb3 x2.lt
    have z3 := z2.below hb3 z2.lt
    have hB3 := hB2.trans (hb3.mono hB2.size)
    refine hK _ _ _ (fun _ h => h) x3 ?_
    (try simp only [Act.put, List.setIfInBounds_toArray, List.set_cons_zero, List.set_cons_succ])
    refine mix_call (by rfl) (fun K hK => ?_)
    go_simp
    have ii4 := At.new w3 2 #[.int .i64 (rngMk [(l, 0, 60000)]), .int .i64 (markFaultM (a, b))]
    have hB4 := hB3.alloc hB3.size (.cells #[.int .i64 (rngMk [(l, 0, 60000)]), .int .i64 (markFaultM (a, b))] 2)
    have x4 := x3.alloc (.cells #[.int .i64 (rngMk [(l, 0, 60000)]), .int .i64 (markFaultM (a, b))] 2)
    have z4 := z3.alloc (.cells #[.int .i64 (rngMk [(l, 0, 60000)]), .int .i64 (markFaultM (a, b))] 2)
    refine hK _ _ _ (fun _ h => h) x4 ?_
    (try simp only [Act.put, List.setIfInBounds_toArray, List.set_cons_zero, List.set_cons_succ])
    refine mix_call (by rfl) (fun K hK => ?_)
    go_simp
    refine (or64Mk _ 2 _ [rngMk [(l, 0, 60000)], markFaultM (a, b)] _ (intsMk_at ii4) rfl (by omega)).mono ?_
    rintro e wq ⟨rfl, rfl⟩
    refine hK _ _ _ (fun _ h => h) x4 ?_
    (try simp only [Act.put, List.setIfInBounds_toArray, List.set_cons_zero, List.set_cons_succ])
    iterate 1
      refine mix_pure (v := ?_) (by rfl) (fun u hu => ?_) ?_
      rotate_left
      · go_simp
        (with_reducible rfl)
      (try simp only [Act.put, List.setIfInBounds_toArray, List.set_cons_zero, List.set_cons_succ])
    refine mix_nil ?_
    obtain ⟨p0, p1⟩ := x4.twoC
    obtain ⟨r0, r1⟩ := z4.twoC
    have rf0 := z4.frozen 0
    have rf1 := z4.frozen 1
    go_wp2
    refine bodyPost_ret (v := .agg #[.int .i64 (refuteM l (a, b)).1, .int .i64 (refuteM l (a, b)).2]) (by simp [results, Try.results23, go_sem, Hm.out, r0, r1]) rfl ?_
    refine ⟨rfl, ?_⟩
    repeat (refine Below.setCell ?_ (by simp <;> omega) _)
    exact hB4
  have d2 : (a == 1) = false := by simpa using hs
  by_cases h3 : b < l
  · have d3 : decide (b < l) = true := decide_eq_true h3
    have Hm := Lib.hid (show refuteM l (a, b) = (0, l) by rw [Hk.out, if_neg (by simpa using h1)]; simp [h3])
    clear h1 Hk hs
    go_enter Try.func23, Try.ntmps23
    go_wp2
    refine wp_region_mix [(0, false), (1, false), (4, false), (2, true), (3, true), (5, true), (6, true), (7, true), (8, false)] (fun u => At u w.heap.size 25 #[.int .i64 a, .int .i64 b]) (by kernel_rfl) (by kernel_rfl) (fun _ _ _ _ _ h => h) x0 ?_
    simp only [mixOps, List.map_cons, List.map_nil, List.getElem?_cons_succ, List.getElem?_cons_zero, Option.getD_some]
    generalize (((w.alloc (.cells #[.int .i64 a, .int .i64 b] 25)).alloc (.cells #[.int .i64 0, .int .i64 0] 39))).drew = v0 at *
    have hs0 := hB0.size
    iterate 3
      refine mix_pure (v := ?_) (by rfl) (fun u hu => ?_) ?_
      rotate_left
      · obtain ⟨_, _⟩ := hu.twoC
        go_simp
        (with_reducible rfl)
      (try simp only [Act.put, List.setIfInBounds_toArray, List.set_cons_zero, List.set_cons_succ])
    refine mix_call (by rfl) (fun K hK => ?_)
    go_simp
    have bb1 := At.new v0 98 #[.int .i64 l, .int .i64 0, .int .i64 60000]
    have x1 := x0.alloc (.cells #[.int .i64 l, .int .i64 0, .int .i64 60000] 98)
    have z1 := z0.alloc (.cells #[.int .i64 l, .int .i64 0, .int .i64 60000] 98)
    have hB1 := hB0.alloc hB0.size (.cells #[.int .i64 l, .int .i64 0, .int .i64 60000] 98)
    refine hK _ _ _ (fun _ h => h) x1 ?_
    (try simp only [Act.put, List.setIfInBounds_toArray, List.set_cons_zero, List.set_cons_succ])
    refine mix_call (by rfl) (fun K hK => ?_)
    go_simp
    refine (rangeMk _ 1 _ [(l, 0, 60000)] _ (bndsMk_at bb1) bb1.lt rfl (by omega)).mono ?_
    rintro e w2 ⟨rfl, hb2⟩
    have x2 := x1.below hb2 x1.lt
    have z2 := z1.below hb2 z1.lt
    have hB2 := hB1.trans (hb2.mono hB1.size)
    refine hK _ _ _ (fun _ h => h) x2 ?_
    (try simp only [Act.put, List.setIfInBounds_toArray, List.set_cons_zero, List.set_cons_succ])
    refine mix_call (by rfl) (fun K hK => ?_)
    go_simp
    refine (implMarkFault a b _).mono ?_
    rintro e w3 ⟨rfl, hb3⟩
    have x3 := x2.below hb3 x2.lt
    have z3 := z2.below hb3 z2.lt
    have hB3 := hB2.trans (hb3.mono hB2.size)
    refine hK _ _ _ (fun _ h => h) x3 ?_
    (try simp only [Act.put, List.setIfInBounds_toArray, List.set_cons_zero, List.set_cons_succ])
    refine mix_call (by rfl) (fun K hK => ?_)
    go_simp
    have ii4 := At.new w3 2 #[.int .i64 (rngMk [(l, 0, 60000)]), .int .i64 (markFaultM (a, b))]
    have hB4 := hB3.alloc hB3.size (.cells #[.int .i64 (rngMk [(l, 0, 60000)]), .int .i64 (markFaultM (a, b))] 2)
    have x4 := x3.alloc (.cells #[.int .i64 (rngMk [(l, 0, 60000)]), .int .i64 (markFaultM (a, b))] 2)
    have z4 := z3.alloc (.cells #[.int .i64 (rngMk [(l, 0, 60000)]), .int .i64 (markFaultM (a, b))] 2)
    refine hK _ _ _ (fun _ h => h) x4 ?_
    (try simp only [Act.put, List.setIfInBounds_toArray, List.set_cons_zero, List.set_cons_succ])
    refine mix_call (by rfl) (fun K hK => ?_)
    go_simp
    refine (or64Mk _ 2 _ [rngMk [(l, 0, 60000)], markFaultM (a, b)] _ (intsMk_at ii4) rfl (by omega)).mono ?_
    rintro e wq ⟨rfl, rfl⟩
    refine hK _ _ _ (fun _ h => h) x4 ?_
    (try simp only [Act.put, List.setIfInBounds_toArray, List.set_cons_zero, List.set_cons_succ])
    iterate 1
      refine mix_pure (v := ?_) (by rfl) (fun u hu => ?_) ?_
      rotate_left
      · go_simp
        (with_reducible rfl)
      (try simp only [Act.put, List.setIfInBounds_toArray, List.set_cons_zero, List.set_cons_succ])
    refine mix_nil ?_
    obtain ⟨p0, p1⟩ := x4.twoC
    obtain ⟨r0, r1⟩ := z4.twoC
    have rf0 := z4.frozen 0
    have rf1 := z4.frozen 1
    go_wp2
    refine bodyPost_ret (v := .agg #[.int .i64 (refuteM l (a, b)).1, .int .i64 (refuteM l (a, b)).2]) (by simp [results, Try.results23, go_sem, Hm.out, r0, r1]) rfl ?_
    refine ⟨rfl, ?_⟩
    repeat (refine Below.setCell ?_ (by simp <;> omega) _)
    exact hB4
  have d3 : decide (b < l) = false := decide_eq_false h3
  by_cases h4 : b = 60000
  · have d4 : (b == 60000) = true := by simpa using h4
    have Hm := Lib.hid (show refuteM l (a, b) = (7, 0) by rw [Hk.out, if_neg (by simpa using h1)]; rw [if_neg (by simp [hs, h3]), if_pos h4])
    clear h1 Hk hs h4
    go_enter Try.func23, Try.ntmps23
    go_wp2
    refine wp_region_mix [(0, false), (1, false), (4, false), (2, true), (3, true), (5, true), (6, true), (7, true), (8, false)] (fun u => At u w.heap.size 25 #[.int .i64 a, .int .i64 b]) (by kernel_rfl) (by kernel_rfl) (fun _ _ _ _ _ h => h) x0 ?_
    simp only [mixOps, List.map_cons, List.map_nil, List.getElem?_cons_succ, List.getElem?_cons_zero, Option.getD_some]
    generalize (((w.alloc (.cells #[.int .i64 a, .int .i64 b] 25)).alloc (.cells #[.int .i64 0, .int .i64 0] 39))).drew = v0 at *
    have hs0 := hB0.size
    iterate 3
      refine mix_pure (v := ?_) (by rfl) (fun u hu => ?_) ?_
      rotate_left
      · obtain ⟨_, _⟩ := hu.twoC
        go_simp
        (with_reducible rfl)
      (try simp only [Act.put, List.setIfInBounds_toArray, List.set_cons_zero, List.set_cons_succ])
    refine mix_call (by rfl) (fun K hK => ?_)
    go_simp
    have bb1 := At.new v0 98 #[.int .i64 l, .int .i64 0, .int .i64 60000]
    have x1 := x0.alloc (.cells #[.int .i64 l, .int .i64 0, .int .i64 60000] 98)
    have z1 := z0.alloc (.cells #[.int .i64 l, .int .i64 0, .int .i64 60000] 98)
    have hB1 := hB0.alloc hB0.size (.cells #[.int .i64 l, .int .i64 0, .int .i64 60000] 98)
    refine hK _ _ _ (fun _ h => h) x1 ?_
    (try simp only [Act.put, List.setIfInBounds_toArray, List.set_cons_zero, List.set_cons_succ])
    refine mix_call (by rfl) (fun K hK => ?_)
    go_simp
    refine (rangeMk _ 1 _ [(l, 0, 60000)] _ (bndsMk_at bb1) bb1.lt rfl (by omega)).mono ?_
    rintro e w2 ⟨rfl, hb2⟩
    have x2 := x1.below hb2 x1.lt
    have z2 := z1.below hb2 z1.lt
    have hB2 := hB1.trans (hb2.mono hB1.size)
    refine hK _ _ _ (fun _ h => h) x2 ?_
    (try simp only [Act.put, List.setIfInBounds_toArray, List.set_cons_zero, List.set_cons_succ])
    refine mix_call (by rfl) (fun K hK => ?_)
    go_simp
    refine (implMarkFault a b _).mono ?_
    rintro e w3 ⟨rfl, hb3⟩
    have x3 := x2.below hb3 x2.lt
    have z3 := z2.below hb3 z2.lt
    have hB3 := hB2.trans (hb3.mono hB2.size)
    refine hK _ _ _ (fun _ h => h) x3 ?_
    (try simp only [Act.put, List.setIfInBounds_toArray, List.set_cons_zero, List.set_cons_succ])
    refine mix_call (by rfl) (fun K hK => ?_)
    go_simp
    have ii4 := At.new w3 2 #[.int .i64 (rngMk [(l, 0, 60000)]), .int .i64 (markFaultM (a, b))]
    have hB4 := hB3.alloc hB3.size (.cells #[.int .i64 (rngMk [(l, 0, 60000)]), .int .i64 (markFaultM (a, b))] 2)
    have x4 := x3.alloc (.cells #[.int .i64 (rngMk [(l, 0, 60000)]), .int .i64 (markFaultM (a, b))] 2)
    have z4 := z3.alloc (.cells #[.int .i64 (rngMk [(l, 0, 60000)]), .int .i64 (markFaultM (a, b))] 2)
    refine hK _ _ _ (fun _ h => h) x4 ?_
    (try simp only [Act.put, List.setIfInBounds_toArray, List.set_cons_zero, List.set_cons_succ])
    refine mix_call (by rfl) (fun K hK => ?_)
    go_simp
    refine (or64Mk _ 2 _ [rngMk [(l, 0, 60000)], markFaultM (a, b)] _ (intsMk_at ii4) rfl (by omega)).mono ?_
    rintro e wq ⟨rfl, rfl⟩
    refine hK _ _ _ (fun _ h => h) x4 ?_
    (try simp only [Act.put, List.setIfInBounds_toArray, List.set_cons_zero, List.set_cons_succ])
    iterate 1
      refine mix_pure (v := ?_) (by rfl) (fun u hu => ?_) ?_
      rotate_left
      · go_simp
        (with_reducible rfl)
      (try simp only [Act.put, List.setIfInBounds_toArray, List.set_cons_zero, List.set_cons_succ])
    refine mix_nil ?_
    obtain ⟨p0, p1⟩ := x4.twoC
    obtain ⟨r0, r1⟩ := z4.twoC
    have rf0 := z4.frozen 0
    have rf1 := z4.frozen 1
    go_wp2
    refine bodyPost_ret (v := .agg #[.int .i64 (refuteM l (a, b)).1, .int .i64 (refuteM l (a, b)).2]) (by simp [results, Try.results23, go_sem, Hm.out, r0, r1]) rfl ?_
    refine ⟨rfl, ?_⟩
    repeat (refine Below.setCell ?_ (by simp <;> omega) _)
    exact hB4
  have d4 : (b == 60000) = false := by simpa using h4
  have Hm := Lib.hid (show refuteM l (a, b) = (0, b + 1) by rw [Hk.out, if_neg (by simpa using h1)]; rw [if_neg (by simp [hs, h3]), if_neg h4])
  clear h1 Hk hs h4
  go_enter Try.func23, Try.ntmps23
  go_wp2
  refine wp_region_mix [(0, false), (1, false), (4, false), (2, true), (3, true), (5, true), (6, true), (7, true), (8, false)] (fun u => At u w.heap.size 25 #[.int .i64 a, .int .i64 b]) (by kernel_rfl) (by kernel_rfl) (fun _ _ _ _ _ h => h) x0 ?_
  simp only [mixOps, List.map_cons, List.map_nil, List.getElem?_cons_succ, List.getElem?_cons_zero, Option.getD_some]
  generalize (((w.alloc (.cells #[.int .i64 a, .int .i64 b] 25)).alloc (.cells #[.int .i64 0, .int .i64 0] 39))).drew = v0 at *
  have hs0 := hB0.size
  iterate 3
    refine mix_pure (v := ?_) (by rfl) (fun u hu => ?_) ?_
    rotate_left
    · obtain ⟨_, _⟩ := hu.twoC
      go_simp
      (with_reducible rfl)
    (try simp only [Act.put, List.setIfInBounds_toArray, List.set_cons_zero, List.set_cons_succ])
  refine mix_call (by rfl) (fun K hK => ?_)
  go_simp
  have bb1 := At.new v0 98 #[.int .i64 l, .int .i64 0, .int .i64 60000]
  have x1 := x0.alloc (.cells #[.int .i64 l, .int .i64 0, .int .i64 60000] 98)
  have z1 := z0.alloc (.cells #[.int .i64 l, .int .i64 0, .int .i64 60000] 98)
  have hB1 := hB0.alloc hB0.size (.cells #[.int .i64 l, .int .i64 0, .int .i64 60000] 98)
  refine hK _ _ _ (fun _ h => h) x1 ?_
  (try simp only [Act.put, List.setIfInBounds_toArray, List.set_cons_zero, List.set_cons_succ])
  refine mix_call (by rfl) (fun K hK => ?_)
  go_simp
  refine (rangeMk _ 1 _ [(l, 0, 60000)] _ (bndsMk_at bb1) bb1.lt rfl (by omega)).mono ?_
  rintro e w2 ⟨rfl, hb2⟩
  have x2 := x1.below hb2 x1.lt
  have z2 := z1.below hb2 z1.lt
  have hB2 := hB1.trans (hb2.mono hB1.size)
  refine hK _ _ _ (fun _ h => h) x2 ?_
  (try simp only [Act.put, List.setIfInBounds_toArray, List.set_cons_zero, List.set_cons_succ])
  refine mix_call (by rfl) (fun K hK => ?_)
  go_simp
  refine (implMarkFault a b _).mono ?_
  rintro e w3 ⟨rfl, hb3⟩
  have x3 := x2.below hb3 x2.lt
  have z3 := z2.below hb3 z2.lt
  have hB3 := hB2.trans (hb3.mono hB2.size)
  refine hK _ _ _ (fun _ h => h) x3 ?_
  (try simp only [Act.put, List.setIfInBounds_toArray, List.set_cons_zero, List.set_cons_succ])
  refine mix_call (by rfl) (fun K hK => ?_)
  go_simp
  have ii4 := At.new w3 2 #[.int .i64 (rngMk [(l, 0, 60000)]), .int .i64 (markFaultM (a, b))]
  have hB4 := hB3.alloc hB3.size (.cells #[.int .i64 (rngMk [(l, 0, 60000)]), .int .i64 (markFaultM (a, b))] 2)
  have x4 := x3.alloc (.cells #[.int .i64 (rngMk [(l, 0, 60000)]), .int .i64 (markFaultM (a, b))] 2)
  have z4 := z3.alloc (.cells #[.int .i64 (rngMk [(l, 0, 60000)]), .int .i64 (markFaultM (a, b))] 2)
  refine hK _ _ _ (fun _ h => h) x4 ?_
  (try simp only [Act.put, List.setIfInBounds_toArray, List.set_cons_zero, List.set_cons_succ])
  refine mix_call (by rfl) (fun K hK => ?_)
  go_simp
  refine (or64Mk _ 2 _ [rngMk [(l, 0, 60000)], markFaultM (a, b)] _ (intsMk_at ii4) rfl (by omega)).mono ?_
  rintro e wq ⟨rfl, rfl⟩
  refine hK _ _ _ (fun _ h => h) x4 ?_
  (try simp only [Act.put, List.setIfInBounds_toArray, List.set_cons_zero, List.set_cons_succ])
  iterate 1
    refine mix_pure (v := ?_) (by rfl) (fun u hu => ?_) ?_
    rotate_left
    · go_simp
      (with_reducible rfl)
    (try simp only [Act.put, List.setIfInBounds_toArray, List.set_cons_zero, List.set_cons_succ])
  refine mix_nil ?_
  obtain ⟨p0, p1⟩ := x4.twoC
  obtain ⟨r0, r1⟩ := z4.twoC
  have rf0 := z4.frozen 0
  have rf1 := z4.frozen 1
  go_wp2_with fail
  clear p0 p1 r0 r1 rf0 rf1
  refine (nextLife b _ hw).mono ?_
  rintro e w5 ⟨rfl, hb5⟩
  have z5 := z4.below hb5 z4.lt
  have hB5 := hB4.trans (hb5.mono hB4.size)
  obtain ⟨r0, r1⟩ := z5.twoC
  have rf0 := z5.frozen 0
  have rf1 := z5.frozen 1
  go_wp2
  refine bodyPost_ret (v := .agg #[.int .i64 (refuteM l (a, b)).1, .int .i64 (refuteM l (a, b)).2]) (by simp [results, Try.results23, go_sem, Hm.out, r0, r1]) rfl ?_
  refine ⟨rfl, ?_⟩
  repeat (refine Below.setCell ?_ (by simp <;> omega) _)
  exact hB5

end Go.Proofs.Ytbfjfjocangjeaa
