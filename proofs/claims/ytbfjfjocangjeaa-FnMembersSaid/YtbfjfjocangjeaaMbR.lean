/-
  The program's members: what is heard, suspected, aged; lives.
-/
import Derived.Test.YtbfjfjocangjeaaMbQ
namespace Go.Proofs.Ytbfjfjocangjeaa
set_option maxRecDepth 20000
open Go.RowKit
set_option linter.unusedSimpArgs false
set_option linter.unusedVariables false

theorem hear_or (m : Mbr) (h : Mrk) (t : Int) : hearM m h t = if orM [memFaultM m, markFaultM h, rngMk [(t, 0, 100000)]] ≠ 0 then (orM [memFaultM m, markFaultM h, rngMk [(t, 0, 100000)]], zeroMb) else (0, turnF m (maxM m.1 h) t) := by
  rw [turn_hear]
  unfold hearM rngMk nowM
  simp only [orM_cons, orM_nil]
  by_cases h1 : memFaultM m = 0
  · by_cases h2 : markFaultM h = 0
    · rcases h3 : inB (t, 0, 100000) <;> simp [h1, h2, h3]
    · simp [h1, h2]
  · simp [h1]
theorem ask_or (m : Mbr) (t : Int) : orM [memFaultM m, rngMk [(t, 0, 100000)]] = askM m t := by
  unfold askM rngMk nowM
  simp only [orM_cons, orM_nil]
  by_cases h1 : memFaultM m = 0
  · rcases h3 : inB (t, 0, 100000) <;> simp [h1, h3]
  · simp [h1]

set_option maxHeartbeats 1000000 in
set_option maxRecDepth 2000 in
theorem implHearMark (a b c d e0 n : Int) (w : World) :
    Calls Try.prog 18 #[.agg #[.int .i64 a, .int .i64 b, .int .i64 c], .agg #[.int .i64 d, .int .i64 e0], .int .i64 n] w fun e w' => RetMb (hearM ((a, b), c) (d, e0) n) w e w' := by
  unfold RetMb
  have hB0 : Below w.heap.size w ((((w.alloc (.cells #[.int .i64 a, .int .i64 b, .int .i64 c] 27)).alloc (.cells #[.int .i64 d, .int .i64 e0] 25)).alloc (.cells #[.int .i64 0, .int .i64 0, .int .i64 0, .int .i64 0] 31)).drew) := ((((Below.refl _ _).alloc (Nat.le_refl _) _).alloc (by simp) _).alloc (by simp; omega) _).drew
  have x0 : At ((((w.alloc (.cells #[.int .i64 a, .int .i64 b, .int .i64 c] 27)).alloc (.cells #[.int .i64 d, .int .i64 e0] 25)).alloc (.cells #[.int .i64 0, .int .i64 0, .int .i64 0, .int .i64 0] 31)).drew) w.heap.size 27 #[.int .i64 a, .int .i64 b, .int .i64 c] := by
    have := (((At.new w 27 #[.int .i64 a, .int .i64 b, .int .i64 c]).alloc (.cells #[.int .i64 d, .int .i64 e0] 25)).alloc (.cells #[.int .i64 0, .int .i64 0, .int .i64 0, .int .i64 0] 31)).drew
    exact this
  have y0 : At ((((w.alloc (.cells #[.int .i64 a, .int .i64 b, .int .i64 c] 27)).alloc (.cells #[.int .i64 d, .int .i64 e0] 25)).alloc (.cells #[.int .i64 0, .int .i64 0, .int .i64 0, .int .i64 0] 31)).drew) (w.heap.size + 1) 25 #[.int .i64 d, .int .i64 e0] := by
    have := ((At.new (w.alloc (.cells #[.int .i64 a, .int .i64 b, .int .i64 c] 27)) 25 #[.int .i64 d, .int .i64 e0]).alloc (.cells #[.int .i64 0, .int .i64 0, .int .i64 0, .int .i64 0] 31)).drew
    simpa using this
  have z0 : At ((((w.alloc (.cells #[.int .i64 a, .int .i64 b, .int .i64 c] 27)).alloc (.cells #[.int .i64 d, .int .i64 e0] 25)).alloc (.cells #[.int .i64 0, .int .i64 0, .int .i64 0, .int .i64 0] 31)).drew) (w.heap.size + 2) 31 #[.int .i64 0, .int .i64 0, .int .i64 0, .int .i64 0] := by
    have := (At.new ((w.alloc (.cells #[.int .i64 a, .int .i64 b, .int .i64 c] 27)).alloc (.cells #[.int .i64 d, .int .i64 e0] 25)) 31 #[.int .i64 0, .int .i64 0, .int .i64 0, .int .i64 0]).drew
    simpa using this
  have Hk := Lib.hid (hear_or ((a, b), c) (d, e0) n)
  by_cases h1 : orM [memFaultM ((a, b), c), markFaultM (d, e0), rngMk [(n, 0, 100000)]] = 0
  rotate_left
  · have d1 : (orM [memFaultM ((a, b), c), markFaultM (d, e0), rngMk [(n, 0, 100000)]] != 0) = true := by rw [bne_iff_ne]; exact h1
    have Hm := Lib.hid (show hearM ((a, b), c) (d, e0) n = (orM [memFaultM ((a, b), c), markFaultM (d, e0), rngMk [(n, 0, 100000)]], zeroMb) by rw [Hk.out, if_pos h1])
    clear h1 Hk
    go_enter Try.func18, Try.ntmps18
    go_wp2
    refine wp_region_mix [(0, false), (2, false), (4, false), (1, true), (3, true), (5, true), (6, true), (7, true), (8, false)] (fun u => At u w.heap.size 27 #[.int .i64 a, .int .i64 b, .int .i64 c] ∧ At u (w.heap.size + 1) 25 #[.int .i64 d, .int .i64 e0]) (by kernel_rfl) (by kernel_rfl) (fun _ _ _ _ _ h => h) ⟨x0, y0⟩ ?_
    simp only [mixOps, List.map_cons, List.map_nil, List.getElem?_cons_succ, List.getElem?_cons_zero, Option.getD_some]
    iterate 3
      refine mix_pure (v := ?_) (by rfl) (fun u hu => ?_) ?_
      rotate_left
      · obtain ⟨_, _, _, _, _, _⟩ := hu.1.threeC
        obtain ⟨_, _⟩ := hu.2.twoC
        go_simp
        (with_reducible rfl)
      (try simp only [Act.put, List.setIfInBounds_toArray, List.set_cons_zero, List.set_cons_succ])
    refine mix_call (by rfl) (fun K hK => ?_)
    go_simp
    refine (implMemberFault a b c _).mono ?_
    rintro e w1 ⟨rfl, hb1⟩
    have x1 := x0.below hb1 x0.lt
    have y1 := y0.below hb1 y0.lt
    have z1 := z0.below hb1 z0.lt
    have hB1 := hB0.trans (hb1.mono hB0.size)
    refine hK _ _ _ (fun _ h => h) ⟨x1, y1⟩ ?_
    (try simp only [Act.put, List.setIfInBounds_toArray, List.set_cons_zero, List.set_cons_succ])
    refine mix_call (by rfl) (fun K hK => ?_)
    go_simp
    refine (implMarkFault d e0 _).mono ?_
    rintro e w2 ⟨rfl, hb2⟩
    have x2 := x1.below hb2 x1.lt
    have y2 := y1.below hb2 y1.lt
    have z2 := z1.below hb2 z1.lt
    have hB2 := hB1.trans (hb2.mono hB1.size)
    refine hK _ _ _ (fun _ h => h) ⟨x2, y2⟩ ?_
    (try simp only [Act.put, List.setIfInBounds_toArray, List.set_cons_zero, List.set_cons_succ])
    refine mix_call (by rfl) (fun K hK => ?_)
    go_simp
    refine (clockFault n _).mono ?_
    rintro e w3 ⟨rfl, hb3⟩
    have x3 := x2.below hb3 x2.lt
    have y3 := y2.below hb3 y2.lt
    have z3 := z2.below hb3 z2.lt
    have hB3 := hB2.trans (hb3.mono hB2.size)
    refine hK _ _ _ (fun _ h => h) ⟨x3, y3⟩ ?_
    (try simp only [Act.put, List.setIfInBounds_toArray, List.set_cons_zero, List.set_cons_succ])
    refine mix_call (by rfl) (fun K hK => ?_)
    go_simp
    have ii4 := At.new w3 2 #[.int .i64 (memFaultM ((a, b), c)), .int .i64 (markFaultM (d, e0)), .int .i64 (rngMk [(n, 0, 100000)])]
    have hB4 := hB3.alloc hB3.size (.cells #[.int .i64 (memFaultM ((a, b), c)), .int .i64 (markFaultM (d, e0)), .int .i64 (rngMk [(n, 0, 100000)])] 2)
    have x4 := x3.alloc (.cells #[.int .i64 (memFaultM ((a, b), c)), .int .i64 (markFaultM (d, e0)), .int .i64 (rngMk [(n, 0, 100000)])] 2)
    have y4 := y3.alloc (.cells #[.int .i64 (memFaultM ((a, b), c)), .int .i64 (markFaultM (d, e0)), .int .i64 (rngMk [(n, 0, 100000)])] 2)
    have z4 := z3.alloc (.cells #[.int .i64 (memFaultM ((a, b), c)), .int .i64 (markFaultM (d, e0)), .int .i64 (rngMk [(n, 0, 100000)])] 2)
    refine hK _ _ _ (fun _ h => h) ⟨x4, y4⟩ ?_
    (try simp only [Act.put, List.setIfInBounds_toArray, List.set_cons_zero, List.set_cons_succ])
    refine mix_call (by rfl) (fun K hK => ?_)
    go_simp
    refine (or64Mk _ 3 _ [memFaultM ((a, b), c), markFaultM (d, e0), rngMk [(n, 0, 100000)]] _ (intsMk_at ii4) rfl (by omega)).mono ?_
    rintro e wq ⟨rfl, rfl⟩
    refine hK _ _ _ (fun _ h => h) ⟨x4, y4⟩ ?_
    (try simp only [Act.put, List.setIfInBounds_toArray, List.set_cons_zero, List.set_cons_succ])
    iterate 1
      refine mix_pure (v := ?_) (by rfl) (fun u hu => ?_) ?_
      rotate_left
      · go_simp
        (with_reducible rfl)
      (try simp only [Act.put, List.setIfInBounds_toArray, List.set_cons_zero, List.set_cons_succ])
    refine mix_nil ?_
    obtain ⟨r0, r1, r2, r3, rf0, rf1, rf2, rf3⟩ := z4.four
    go_wp2
    refine bodyPost_ret (v := .agg #[.int .i64 (hearM ((a, b), c) (d, e0) n).1, .int .i64 (hearM ((a, b), c) (d, e0) n).2.1.1, .int .i64 (hearM ((a, b), c) (d, e0) n).2.1.2, .int .i64 (hearM ((a, b), c) (d, e0) n).2.2]) (by simp [results, Try.results18, go_sem, Hm.out, r0, r1, r2, r3]) rfl ?_
    refine ⟨rfl, ?_⟩
    repeat (refine Below.setCell ?_ (by simp <;> omega) _)
    exact hB4
  have d1 : (orM [memFaultM ((a, b), c), markFaultM (d, e0), rngMk [(n, 0, 100000)]] != 0) = false := by rw [h1]; rfl
  have Hm := Lib.hid (show hearM ((a, b), c) (d, e0) n = (0, turnF ((a, b), c) (maxM (a, b) (d, e0)) n) by rw [Hk.out, if_neg (by simpa using h1)])
  clear h1 Hk
  go_enter Try.func18, Try.ntmps18
  go_wp2
  refine wp_region_mix [(0, false), (2, false), (4, false), (1, true), (3, true), (5, true), (6, true), (7, true), (8, false)] (fun u => At u w.heap.size 27 #[.int .i64 a, .int .i64 b, .int .i64 c] ∧ At u (w.heap.size + 1) 25 #[.int .i64 d, .int .i64 e0]) (by kernel_rfl) (by kernel_rfl) (fun _ _ _ _ _ h => h) ⟨x0, y0⟩ ?_
  simp only [mixOps, List.map_cons, List.map_nil, List.getElem?_cons_succ, List.getElem?_cons_zero, Option.getD_some]
  iterate 3
    refine mix_pure (v := ?_) (by rfl) (fun u hu => ?_) ?_
    rotate_left
    · obtain ⟨_, _, _, _, _, _⟩ := hu.1.threeC
      obtain ⟨_, _⟩ := hu.2.twoC
      go_simp
      (with_reducible rfl)
    (try simp only [Act.put, List.setIfInBounds_toArray, List.set_cons_zero, List.set_cons_succ])
  refine mix_call (by rfl) (fun K hK => ?_)
  go_simp
  refine (implMemberFault a b c _).mono ?_
  rintro e w1 ⟨rfl, hb1⟩
  have x1 := x0.below hb1 x0.lt
  have y1 := y0.below hb1 y0.lt
  have z1 := z0.below hb1 z0.lt
  have hB1 := hB0.trans (hb1.mono hB0.size)
  refine hK _ _ _ (fun _ h => h) ⟨x1, y1⟩ ?_
  (try simp only [Act.put, List.setIfInBounds_toArray, List.set_cons_zero, List.set_cons_succ])
  refine mix_call (by rfl) (fun K hK => ?_)
  go_simp
  refine (implMarkFault d e0 _).mono ?_
  rintro e w2 ⟨rfl, hb2⟩
  have x2 := x1.below hb2 x1.lt
  have y2 := y1.below hb2 y1.lt
  have z2 := z1.below hb2 z1.lt
  have hB2 := hB1.trans (hb2.mono hB1.size)
  refine hK _ _ _ (fun _ h => h) ⟨x2, y2⟩ ?_
  (try simp only [Act.put, List.setIfInBounds_toArray, List.set_cons_zero, List.set_cons_succ])
  refine mix_call (by rfl) (fun K hK => ?_)
  go_simp
  refine (clockFault n _).mono ?_
  rintro e w3 ⟨rfl, hb3⟩
  have x3 := x2.below hb3 x2.lt
  have y3 := y2.below hb3 y2.lt
  have z3 := z2.below hb3 z2.lt
  have hB3 := hB2.trans (hb3.mono hB2.size)
  refine hK _ _ _ (fun _ h => h) ⟨x3, y3⟩ ?_
  (try simp only [Act.put, List.setIfInBounds_toArray, List.set_cons_zero, List.set_cons_succ])
  refine mix_call (by rfl) (fun K hK => ?_)
  go_simp
  have ii4 := At.new w3 2 #[.int .i64 (memFaultM ((a, b), c)), .int .i64 (markFaultM (d, e0)), .int .i64 (rngMk [(n, 0, 100000)])]
  have hB4 := hB3.alloc hB3.size (.cells #[.int .i64 (memFaultM ((a, b), c)), .int .i64 (markFaultM (d, e0)), .int .i64 (rngMk [(n, 0, 100000)])] 2)
  have x4 := x3.alloc (.cells #[.int .i64 (memFaultM ((a, b), c)), .int .i64 (markFaultM (d, e0)), .int .i64 (rngMk [(n, 0, 100000)])] 2)
  have y4 := y3.alloc (.cells #[.int .i64 (memFaultM ((a, b), c)), .int .i64 (markFaultM (d, e0)), .int .i64 (rngMk [(n, 0, 100000)])] 2)
  have z4 := z3.alloc (.cells #[.int .i64 (memFaultM ((a, b), c)), .int .i64 (markFaultM (d, e0)), .int .i64 (rngMk [(n, 0, 100000)])] 2)
  refine hK _ _ _ (fun _ h => h) ⟨x4, y4⟩ ?_
  (try simp only [Act.put, List.setIfInBounds_toArray, List.set_cons_zero, List.set_cons_succ])
  refine mix_call (by rfl) (fun K hK => ?_)
  go_simp
  refine (or64Mk _ 3 _ [memFaultM ((a, b), c), markFaultM (d, e0), rngMk [(n, 0, 100000)]] _ (intsMk_at ii4) rfl (by omega)).mono ?_
  rintro e wq ⟨rfl, rfl⟩
  refine hK _ _ _ (fun _ h => h) ⟨x4, y4⟩ ?_
  (try simp only [Act.put, List.setIfInBounds_toArray, List.set_cons_zero, List.set_cons_succ])
  iterate 1
    refine mix_pure (v := ?_) (by rfl) (fun u hu => ?_) ?_
    rotate_left
    · go_simp
      (with_reducible rfl)
    (try simp only [Act.put, List.setIfInBounds_toArray, List.set_cons_zero, List.set_cons_succ])
  refine mix_nil ?_
  obtain ⟨p0, p1, p2, _, _, _⟩ := x4.threeC
  obtain ⟨q0, q1⟩ := y4.twoC
  go_wp2
  clear p0 p1 p2 q0 q1
  have x5 := x4.drew
  have y5 := y4.drew
  have z5 := z4.drew
  have hB5 := hB4.drew
  refine wp_region_mix [(0, false), (1, false), (2, false), (3, false), (5, false), (4, true), (6, true), (7, true)] (fun u => At u w.heap.size 27 #[.int .i64 a, .int .i64 b, .int .i64 c] ∧ At u (w.heap.size + 1) 25 #[.int .i64 d, .int .i64 e0]) (by kernel_rfl) (by kernel_rfl) (fun _ _ _ _ _ h => h) ⟨x5, y5⟩ ?_
  simp only [mixOps, List.map_cons, List.map_nil, List.getElem?_cons_succ, List.getElem?_cons_zero, Option.getD_some]
  iterate 5
    refine mix_pure (v := ?_) (by rfl) (fun u hu => ?_) ?_
    rotate_left
    · obtain ⟨_, _, _, _, _, _⟩ := hu.1.threeC
      obtain ⟨_, _⟩ := hu.2.twoC
      go_simp
      (with_reducible rfl)
    (try simp only [Act.put, List.setIfInBounds_toArray, List.set_cons_zero, List.set_cons_succ])
  refine mix_call (by rfl) (fun K hK => ?_)
  go_simp
  refine (strongerMark a b d e0 _).mono ?_
  rintro e w6 ⟨rfl, hb6⟩
  have x6 := x5.below hb6 x5.lt
  have y6 := y5.below hb6 y5.lt
  have z6 := z5.below hb6 z5.lt
  have hB6 := hB5.trans (hb6.mono hB5.size)
  refine hK _ _ _ (fun _ h => h) ⟨x6, y6⟩ ?_
  (try simp only [Act.put, List.setIfInBounds_toArray, List.set_cons_zero, List.set_cons_succ])
  rcases hq : maxM (a, b) (d, e0) with ⟨q1, q2⟩
  rw [hq] at Hm
  dsimp only
  refine mix_call (by rfl) (fun K hK => ?_)
  go_simp
  refine (turnMember a b c q1 q2 n _).mono ?_
  rintro e w7 ⟨rfl, hb7⟩
  have x7 := x6.below hb7 x6.lt
  have y7 := y6.below hb7 y6.lt
  have z7 := z6.below hb7 z6.lt
  have hB7 := hB6.trans (hb7.mono hB6.size)
  refine hK _ _ _ (fun _ h => h) ⟨x7, y7⟩ ?_
  (try simp only [Act.put, List.setIfInBounds_toArray, List.set_cons_zero, List.set_cons_succ])
  obtain ⟨r0, r1, r2, r3, rf0, rf1, rf2, rf3⟩ := z7.four
  refine mix_call (by rfl) (fun K hK => ?_)
  go_simp
  refine hK _ _ _ (fun _ h => h) ⟨by (iterate 4 (refine At.far ?_ (by simp <;> omega) _)); exact x7, by (iterate 4 (refine At.far ?_ (by simp <;> omega) _)); exact y7⟩ ?_
  (try simp only [Act.put, List.setIfInBounds_toArray, List.set_cons_zero, List.set_cons_succ])
  refine mix_nil ?_
  go_wp2
  refine bodyPost_ret (v := .agg #[.int .i64 (hearM ((a, b), c) (d, e0) n).1, .int .i64 (hearM ((a, b), c) (d, e0) n).2.1.1, .int .i64 (hearM ((a, b), c) (d, e0) n).2.1.2, .int .i64 (hearM ((a, b), c) (d, e0) n).2.2]) (by simp [results, Try.results18, go_sem, Hm.out, r0, r1, r2, r3]) rfl ?_
  refine ⟨rfl, ?_⟩
  repeat (refine Below.setCell ?_ (by simp <;> omega) _)
  exact hB7

set_option maxHeartbeats 1000000 in
set_option maxRecDepth 2000 in
theorem implSuspectMember (a b c n : Int) (w : World) :
    Calls Try.prog 21 #[.agg #[.int .i64 a, .int .i64 b, .int .i64 c], .int .i64 n] w fun e w' => RetMb (suspM ((a, b), c) n) w e w' := by
  unfold RetMb
  have hB0 : Below w.heap.size w (((w.alloc (.cells #[.int .i64 a, .int .i64 b, .int .i64 c] 27)).alloc (.cells #[.int .i64 0, .int .i64 0, .int .i64 0, .int .i64 0] 31))) := (((Below.refl _ _).alloc (Nat.le_refl _) _).alloc (by simp) _)
  have x0 : At (((w.alloc (.cells #[.int .i64 a, .int .i64 b, .int .i64 c] 27)).alloc (.cells #[.int .i64 0, .int .i64 0, .int .i64 0, .int .i64 0] 31))) w.heap.size 27 #[.int .i64 a, .int .i64 b, .int .i64 c] := by
    have := ((At.new w 27 #[.int .i64 a, .int .i64 b, .int .i64 c]).alloc (.cells #[.int .i64 0, .int .i64 0, .int .i64 0, .int .i64 0] 31))
    exact this
  have z0 : At (((w.alloc (.cells #[.int .i64 a, .int .i64 b, .int .i64 c] 27)).alloc (.cells #[.int .i64 0, .int .i64 0, .int .i64 0, .int .i64 0] 31))) (w.heap.size + 1) 31 #[.int .i64 0, .int .i64 0, .int .i64 0, .int .i64 0] := by
    have := (At.new (w.alloc (.cells #[.int .i64 a, .int .i64 b, .int .i64 c] 27)) 31 #[.int .i64 0, .int .i64 0, .int .i64 0, .int .i64 0])
    simpa using this
  have Ha := Lib.hid (ask_or ((a, b), c) n)
  by_cases h1 : askM ((a, b), c) n = 0
  rotate_left
  · have d1 : (askM ((a, b), c) n != 0) = true := by rw [bne_iff_ne]; exact h1
    have Hm := Lib.hid (show suspM ((a, b), c) n = (askM ((a, b), c) n, zeroMb) by rw [susp_ask, if_neg h1])
    clear h1
    go_enter Try.func21, Try.ntmps21
    obtain ⟨p0, p1, p2, _, _, _⟩ := x0.threeC
    go_wp2_with fail
    clear p0 p1 p2
    refine (implMemberFault a b c _).mono ?_
    rintro e w1 ⟨rfl, hb1⟩
    have x1 := x0.below hb1 x0.lt
    have z1 := z0.below hb1 z0.lt
    have hB1 := hB0.trans (hb1.mono hB0.size)
    go_wp2_with fail
    refine (clockFault n _).mono ?_
    rintro e w2 ⟨rfl, hb2⟩
    have x2 := x1.below hb2 x1.lt
    have z2 := z1.below hb2 z1.lt
    have hB2 := hB1.trans (hb2.mono hB1.size)
    have ii := At.new w2 2 #[.int .i64 (memFaultM ((a, b), c)), .int .i64 (rngMk [(n, 0, 100000)])]
    have x3 := x2.alloc (.cells #[.int .i64 (memFaultM ((a, b), c)), .int .i64 (rngMk [(n, 0, 100000)])] 2)
    have z3 := z2.alloc (.cells #[.int .i64 (memFaultM ((a, b), c)), .int .i64 (rngMk [(n, 0, 100000)])] 2)
    have hB3 := hB2.alloc hB2.size (.cells #[.int .i64 (memFaultM ((a, b), c)), .int .i64 (rngMk [(n, 0, 100000)])] 2)
    go_wp2_with fail
    refine (or64Mk _ 2 _ [memFaultM ((a, b), c), rngMk [(n, 0, 100000)]] _ (intsMk_at ii) rfl (by omega)).mono ?_
    rintro e wq ⟨rfl, rfl⟩
    rw [Ha.out]
    obtain ⟨r0, r1, r2, r3, rf0, rf1, rf2, rf3⟩ := z3.four
    go_wp2
    refine bodyPost_ret (v := .agg #[.int .i64 (suspM ((a, b), c) n).1, .int .i64 (suspM ((a, b), c) n).2.1.1, .int .i64 (suspM ((a, b), c) n).2.1.2, .int .i64 (suspM ((a, b), c) n).2.2]) (by simp [results, Try.results21, go_sem, Hm.out, r0, r1, r2, r3]) rfl ?_
    refine ⟨rfl, ?_⟩
    repeat (refine Below.setCell ?_ (by simp <;> omega) _)
    exact hB3
  have d1 : (askM ((a, b), c) n != 0) = false := by rw [h1]; rfl
  have Hc := Lib.hid (ask_since h1)
  have Hm := Lib.hid (show suspM ((a, b), c) n = (0, suspF ((a, b), c) n) by rw [susp_ask, if_pos h1])
  clear h1
  by_cases h2 : a = 1
  · have d2 : (a == 1) = true := by simpa using h2
    have Hz := Lib.hid (show suspF ((a, b), c) n = turnF ((a, b), c) (2, b) n by rw [← turn_susp]; simp [h2])
    clear h2
    go_enter Try.func21, Try.ntmps21
    obtain ⟨p0, p1, p2, _, _, _⟩ := x0.threeC
    go_wp2_with fail
    clear p0 p1 p2
    refine (implMemberFault a b c _).mono ?_
    rintro e w1 ⟨rfl, hb1⟩
    have x1 := x0.below hb1 x0.lt
    have z1 := z0.below hb1 z0.lt
    have hB1 := hB0.trans (hb1.mono hB0.size)
    go_wp2_with fail
    refine (clockFault n _).mono ?_
    rintro e w2 ⟨rfl, hb2⟩
    have x2 := x1.below hb2 x1.lt
    have z2 := z1.below hb2 z1.lt
    have hB2 := hB1.trans (hb2.mono hB1.size)
    have ii := At.new w2 2 #[.int .i64 (memFaultM ((a, b), c)), .int .i64 (rngMk [(n, 0, 100000)])]
    have x3 := x2.alloc (.cells #[.int .i64 (memFaultM ((a, b), c)), .int .i64 (rngMk [(n, 0, 100000)])] 2)
    have z3 := z2.alloc (.cells #[.int .i64 (memFaultM ((a, b), c)), .int .i64 (rngMk [(n, 0, 100000)])] 2)
    have hB3 := hB2.alloc hB2.size (.cells #[.int .i64 (memFaultM ((a, b), c)), .int .i64 (rngMk [(n, 0, 100000)])] 2)
    go_wp2_with fail
    refine (or64Mk _ 2 _ [memFaultM ((a, b), c), rngMk [(n, 0, 100000)]] _ (intsMk_at ii) rfl (by omega)).mono ?_
    rintro e wq ⟨rfl, rfl⟩
    rw [Ha.out]
    obtain ⟨p0, p1, p2, _, _, _⟩ := x3.threeC
    obtain ⟨s0, u0, v0, _, _, _⟩ := (x3.alloc (.cells #[.int .i64 a, .int .i64 b] 25)).threeC
    obtain ⟨s1, u1, v1, _, _, _⟩ := (x3.alloc (.cells #[.int .i64 2, .int .i64 b] 25)).threeC
    go_wp2_with fail
    clear p0 p1 p2
    refine (turnMember a b c _ _ n _).mono ?_
    rintro e w5 ⟨he, hb5⟩
    subst he
    have z5 := (z3.alloc _).below hb5 (by have := z3.lt; simp at this ⊢; omega)
    have hB5 := (hB3.alloc hB3.size _).trans (hb5.mono (by have := hB3.size; simp at this ⊢; omega))
    obtain ⟨r0, r1, r2, r3, rf0, rf1, rf2, rf3⟩ := z5.four
    go_wp2
    refine bodyPost_ret (v := .agg #[.int .i64 (suspM ((a, b), c) n).1, .int .i64 (suspM ((a, b), c) n).2.1.1, .int .i64 (suspM ((a, b), c) n).2.1.2, .int .i64 (suspM ((a, b), c) n).2.2]) (by simp [results, Try.results21, go_sem, Hm.out, Hz.out, r0, r1, r2, r3]) rfl ?_
    refine ⟨rfl, ?_⟩
    repeat (refine Below.setCell ?_ (by simp <;> omega) _)
    exact hB5
  have d2 : (a == 1) = false := by simpa using h2
  have Hz := Lib.hid (show suspF ((a, b), c) n = turnF ((a, b), c) (a, b) n by rw [← turn_susp]; simp [h2])
  clear h2
  go_enter Try.func21, Try.ntmps21
  obtain ⟨p0, p1, p2, _, _, _⟩ := x0.threeC
  go_wp2_with fail
  clear p0 p1 p2
  refine (implMemberFault a b c _).mono ?_
  rintro e w1 ⟨rfl, hb1⟩
  have x1 := x0.below hb1 x0.lt
  have z1 := z0.below hb1 z0.lt
  have hB1 := hB0.trans (hb1.mono hB0.size)
  go_wp2_with fail
  refine (clockFault n _).mono ?_
  rintro e w2 ⟨rfl, hb2⟩
  have x2 := x1.below hb2 x1.lt
  have z2 := z1.below hb2 z1.lt
  have hB2 := hB1.trans (hb2.mono hB1.size)
  have ii := At.new w2 2 #[.int .i64 (memFaultM ((a, b), c)), .int .i64 (rngMk [(n, 0, 100000)])]
  have x3 := x2.alloc (.cells #[.int .i64 (memFaultM ((a, b), c)), .int .i64 (rngMk [(n, 0, 100000)])] 2)
  have z3 := z2.alloc (.cells #[.int .i64 (memFaultM ((a, b), c)), .int .i64 (rngMk [(n, 0, 100000)])] 2)
  have hB3 := hB2.alloc hB2.size (.cells #[.int .i64 (memFaultM ((a, b), c)), .int .i64 (rngMk [(n, 0, 100000)])] 2)
  go_wp2_with fail
  refine (or64Mk _ 2 _ [memFaultM ((a, b), c), rngMk [(n, 0, 100000)]] _ (intsMk_at ii) rfl (by omega)).mono ?_
  rintro e wq ⟨rfl, rfl⟩
  rw [Ha.out]
  obtain ⟨p0, p1, p2, _, _, _⟩ := x3.threeC
  obtain ⟨s0, u0, v0, _, _, _⟩ := (x3.alloc (.cells #[.int .i64 a, .int .i64 b] 25)).threeC
  go_wp2_with fail
  clear p0 p1 p2
  refine (turnMember a b c _ _ n _).mono ?_
  rintro e w5 ⟨he, hb5⟩
  subst he
  have z5 := (z3.alloc _).below hb5 (by have := z3.lt; simp at this ⊢; omega)
  have hB5 := (hB3.alloc hB3.size _).trans (hb5.mono (by have := hB3.size; simp at this ⊢; omega))
  obtain ⟨r0, r1, r2, r3, rf0, rf1, rf2, rf3⟩ := z5.four
  go_wp2
  refine bodyPost_ret (v := .agg #[.int .i64 (suspM ((a, b), c) n).1, .int .i64 (suspM ((a, b), c) n).2.1.1, .int .i64 (suspM ((a, b), c) n).2.1.2, .int .i64 (suspM ((a, b), c) n).2.2]) (by simp [results, Try.results21, go_sem, Hm.out, Hz.out, r0, r1, r2, r3]) rfl ?_
  refine ⟨rfl, ?_⟩
  repeat (refine Below.setCell ?_ (by simp <;> omega) _)
  exact hB5

set_option maxHeartbeats 1000000 in
set_option maxRecDepth 2000 in
theorem implAgeMember (a b c n : Int) (w : World) :
    Calls Try.prog 20 #[.agg #[.int .i64 a, .int .i64 b, .int .i64 c], .int .i64 n] w fun e w' => RetMb (ageM ((a, b), c) n) w e w' := by
  unfold RetMb
  have hB0 : Below w.heap.size w (((w.alloc (.cells #[.int .i64 a, .int .i64 b, .int .i64 c] 27)).alloc (.cells #[.int .i64 0, .int .i64 0, .int .i64 0, .int .i64 0] 31))) := (((Below.refl _ _).alloc (Nat.le_refl _) _).alloc (by simp) _)
  have x0 : At (((w.alloc (.cells #[.int .i64 a, .int .i64 b, .int .i64 c] 27)).alloc (.cells #[.int .i64 0, .int .i64 0, .int .i64 0, .int .i64 0] 31))) w.heap.size 27 #[.int .i64 a, .int .i64 b, .int .i64 c] := by
    have := ((At.new w 27 #[.int .i64 a, .int .i64 b, .int .i64 c]).alloc (.cells #[.int .i64 0, .int .i64 0, .int .i64 0, .int .i64 0] 31))
    exact this
  have z0 : At (((w.alloc (.cells #[.int .i64 a, .int .i64 b, .int .i64 c] 27)).alloc (.cells #[.int .i64 0, .int .i64 0, .int .i64 0, .int .i64 0] 31))) (w.heap.size + 1) 31 #[.int .i64 0, .int .i64 0, .int .i64 0, .int .i64 0] := by
    have := (At.new (w.alloc (.cells #[.int .i64 a, .int .i64 b, .int .i64 c] 27)) 31 #[.int .i64 0, .int .i64 0, .int .i64 0, .int .i64 0])
    simpa using this
  have Ha := Lib.hid (ask_or ((a, b), c) n)
  by_cases h1 : askM ((a, b), c) n = 0
  rotate_left
  · have d1 : (askM ((a, b), c) n != 0) = true := by rw [bne_iff_ne]; exact h1
    have Hm := Lib.hid (show ageM ((a, b), c) n = (askM ((a, b), c) n, zeroMb) by rw [age_ask, if_neg h1])
    clear h1
    go_enter Try.func20, Try.ntmps20
    obtain ⟨p0, p1, p2, _, _, _⟩ := x0.threeC
    go_wp2_with fail
    clear p0 p1 p2
    refine (implMemberFault a b c _).mono ?_
    rintro e w1 ⟨rfl, hb1⟩
    have x1 := x0.below hb1 x0.lt
    have z1 := z0.below hb1 z0.lt
    have hB1 := hB0.trans (hb1.mono hB0.size)
    go_wp2_with fail
    refine (clockFault n _).mono ?_
    rintro e w2 ⟨rfl, hb2⟩
    have x2 := x1.below hb2 x1.lt
    have z2 := z1.below hb2 z1.lt
    have hB2 := hB1.trans (hb2.mono hB1.size)
    have ii := At.new w2 2 #[.int .i64 (memFaultM ((a, b), c)), .int .i64 (rngMk [(n, 0, 100000)])]
    have x3 := x2.alloc (.cells #[.int .i64 (memFaultM ((a, b), c)), .int .i64 (rngMk [(n, 0, 100000)])] 2)
    have z3 := z2.alloc (.cells #[.int .i64 (memFaultM ((a, b), c)), .int .i64 (rngMk [(n, 0, 100000)])] 2)
    have hB3 := hB2.alloc hB2.size (.cells #[.int .i64 (memFaultM ((a, b), c)), .int .i64 (rngMk [(n, 0, 100000)])] 2)
    go_wp2_with fail
    refine (or64Mk _ 2 _ [memFaultM ((a, b), c), rngMk [(n, 0, 100000)]] _ (intsMk_at ii) rfl (by omega)).mono ?_
    rintro e wq ⟨rfl, rfl⟩
    rw [Ha.out]
    obtain ⟨r0, r1, r2, r3, rf0, rf1, rf2, rf3⟩ := z3.four
    go_wp2
    refine bodyPost_ret (v := .agg #[.int .i64 (ageM ((a, b), c) n).1, .int .i64 (ageM ((a, b), c) n).2.1.1, .int .i64 (ageM ((a, b), c) n).2.1.2, .int .i64 (ageM ((a, b), c) n).2.2]) (by simp [results, Try.results20, go_sem, Hm.out, r0, r1, r2, r3]) rfl ?_
    refine ⟨rfl, ?_⟩
    repeat (refine Below.setCell ?_ (by simp <;> omega) _)
    exact hB3
  have d1 : (askM ((a, b), c) n != 0) = false := by rw [h1]; rfl
  have Hc := Lib.hid (ask_since h1)
  have Hm := Lib.hid (show ageM ((a, b), c) n = (0, ageF ((a, b), c) n) by rw [age_ask, if_pos h1])
  clear h1
  have hw : IntKind.i64.wrap (c + 4) = c + 4 := IntWalk.i64_in _ (by have := Hc.out; omega)
  by_cases h2 : a = 2
  rotate_left
  · have d2 : (a == 2) = false := by simpa using h2
    have Hz := Lib.hid (show ageF ((a, b), c) n = turnF ((a, b), c) (a, b) n by rw [← turn_age]; simp [h2])
    clear h2
    go_enter Try.func20, Try.ntmps20
    obtain ⟨p0, p1, p2, _, _, _⟩ := x0.threeC
    go_wp2_with fail
    clear p0 p1 p2
    refine (implMemberFault a b c _).mono ?_
    rintro e w1 ⟨rfl, hb1⟩
    have x1 := x0.below hb1 x0.lt
    have z1 := z0.below hb1 z0.lt
    have hB1 := hB0.trans (hb1.mono hB0.size)
    go_wp2_with fail
    refine (clockFault n _).mono ?_
    rintro e w2 ⟨rfl, hb2⟩
    have x2 := x1.below hb2 x1.lt
    have z2 := z1.below hb2 z1.lt
    have hB2 := hB1.trans (hb2.mono hB1.size)
    have ii := At.new w2 2 #[.int .i64 (memFaultM ((a, b), c)), .int .i64 (rngMk [(n, 0, 100000)])]
    have x3 := x2.alloc (.cells #[.int .i64 (memFaultM ((a, b), c)), .int .i64 (rngMk [(n, 0, 100000)])] 2)
    have z3 := z2.alloc (.cells #[.int .i64 (memFaultM ((a, b), c)), .int .i64 (rngMk [(n, 0, 100000)])] 2)
    have hB3 := hB2.alloc hB2.size (.cells #[.int .i64 (memFaultM ((a, b), c)), .int .i64 (rngMk [(n, 0, 100000)])] 2)
    go_wp2_with fail
    refine (or64Mk _ 2 _ [memFaultM ((a, b), c), rngMk [(n, 0, 100000)]] _ (intsMk_at ii) rfl (by omega)).mono ?_
    rintro e wq ⟨rfl, rfl⟩
    rw [Ha.out]
    obtain ⟨p0, p1, p2, _, _, _⟩ := x3.threeC
    obtain ⟨s0, u0, v0, _, _, _⟩ := (x3.alloc (.cells #[.int .i64 a, .int .i64 b] 25)).threeC
    go_wp2_with fail
    clear p0 p1 p2
    refine (turnMember a b c _ _ n _).mono ?_
    rintro e w5 ⟨he, hb5⟩
    subst he
    have z5 := (z3.alloc _).below hb5 (by have := z3.lt; simp at this ⊢; omega)
    have hB5 := (hB3.alloc hB3.size _).trans (hb5.mono (by have := hB3.size; simp at this ⊢; omega))
    obtain ⟨r0, r1, r2, r3, rf0, rf1, rf2, rf3⟩ := z5.four
    go_wp2
    refine bodyPost_ret (v := .agg #[.int .i64 (ageM ((a, b), c) n).1, .int .i64 (ageM ((a, b), c) n).2.1.1, .int .i64 (ageM ((a, b), c) n).2.1.2, .int .i64 (ageM ((a, b), c) n).2.2]) (by simp [results, Try.results20, go_sem, Hm.out, Hz.out, r0, r1, r2, r3]) rfl ?_
    refine ⟨rfl, ?_⟩
    repeat (refine Below.setCell ?_ (by simp <;> omega) _)
    exact hB5
  have d2 : (a == 2) = true := by simpa using h2
  by_cases h3 : c + 4 ≤ n
  · have d3 : decide (c + 4 ≤ n) = true := decide_eq_true h3
    have Hz := Lib.hid (show ageF ((a, b), c) n = turnF ((a, b), c) (3, b) n by rw [← turn_age]; simp [h2, h3])
    clear h2
    go_enter Try.func20, Try.ntmps20
    obtain ⟨p0, p1, p2, _, _, _⟩ := x0.threeC
    go_wp2_with fail
    clear p0 p1 p2
    refine (implMemberFault a b c _).mono ?_
    rintro e w1 ⟨rfl, hb1⟩
    have x1 := x0.below hb1 x0.lt
    have z1 := z0.below hb1 z0.lt
    have hB1 := hB0.trans (hb1.mono hB0.size)
    go_wp2_with fail
    refine (clockFault n _).mono ?_
    rintro e w2 ⟨rfl, hb2⟩
    have x2 := x1.below hb2 x1.lt
    have z2 := z1.below hb2 z1.lt
    have hB2 := hB1.trans (hb2.mono hB1.size)
    have ii := At.new w2 2 #[.int .i64 (memFaultM ((a, b), c)), .int .i64 (rngMk [(n, 0, 100000)])]
    have x3 := x2.alloc (.cells #[.int .i64 (memFaultM ((a, b), c)), .int .i64 (rngMk [(n, 0, 100000)])] 2)
    have z3 := z2.alloc (.cells #[.int .i64 (memFaultM ((a, b), c)), .int .i64 (rngMk [(n, 0, 100000)])] 2)
    have hB3 := hB2.alloc hB2.size (.cells #[.int .i64 (memFaultM ((a, b), c)), .int .i64 (rngMk [(n, 0, 100000)])] 2)
    go_wp2_with fail
    refine (or64Mk _ 2 _ [memFaultM ((a, b), c), rngMk [(n, 0, 100000)]] _ (intsMk_at ii) rfl (by omega)).mono ?_
    rintro e wq ⟨rfl, rfl⟩
    rw [Ha.out]
    obtain ⟨p0, p1, p2, _, _, _⟩ := x3.threeC
    obtain ⟨s0, u0, v0, _, _, _⟩ := (x3.alloc (.cells #[.int .i64 a, .int .i64 b] 25)).threeC
    obtain ⟨s1, u1, v1, _, _, _⟩ := (x3.alloc (.cells #[.int .i64 3, .int .i64 b] 25)).threeC
    go_wp2_with fail
    clear p0 p1 p2
    refine (turnMember a b c _ _ n _).mono ?_
    rintro e w5 ⟨he, hb5⟩
    subst he
    have z5 := (z3.alloc _).below hb5 (by have := z3.lt; simp at this ⊢; omega)
    have hB5 := (hB3.alloc hB3.size _).trans (hb5.mono (by have := hB3.size; simp at this ⊢; omega))
    obtain ⟨r0, r1, r2, r3, rf0, rf1, rf2, rf3⟩ := z5.four
    go_wp2
    refine bodyPost_ret (v := .agg #[.int .i64 (ageM ((a, b), c) n).1, .int .i64 (ageM ((a, b), c) n).2.1.1, .int .i64 (ageM ((a, b), c) n).2.1.2, .int .i64 (ageM ((a, b), c) n).2.2]) (by simp [results, Try.results20, go_sem, Hm.out, Hz.out, r0, r1, r2, r3]) rfl ?_
    refine ⟨rfl, ?_⟩
    repeat (refine Below.setCell ?_ (by simp <;> omega) _)
    exact hB5
  have d3 : decide (c + 4 ≤ n) = false := decide_eq_false h3
  have Hz := Lib.hid (show ageF ((a, b), c) n = turnF ((a, b), c) (a, b) n by rw [← turn_age]; simp [h3])
  clear h2
  go_enter Try.func20, Try.ntmps20
  obtain ⟨p0, p1, p2, _, _, _⟩ := x0.threeC
  go_wp2_with fail
  clear p0 p1 p2
  refine (implMemberFault a b c _).mono ?_
  rintro e w1 ⟨rfl, hb1⟩
  have x1 := x0.below hb1 x0.lt
  have z1 := z0.below hb1 z0.lt
  have hB1 := hB0.trans (hb1.mono hB0.size)
  go_wp2_with fail
  refine (clockFault n _).mono ?_
  rintro e w2 ⟨rfl, hb2⟩
  have x2 := x1.below hb2 x1.lt
  have z2 := z1.below hb2 z1.lt
  have hB2 := hB1.trans (hb2.mono hB1.size)
  have ii := At.new w2 2 #[.int .i64 (memFaultM ((a, b), c)), .int .i64 (rngMk [(n, 0, 100000)])]
  have x3 := x2.alloc (.cells #[.int .i64 (memFaultM ((a, b), c)), .int .i64 (rngMk [(n, 0, 100000)])] 2)
  have z3 := z2.alloc (.cells #[.int .i64 (memFaultM ((a, b), c)), .int .i64 (rngMk [(n, 0, 100000)])] 2)
  have hB3 := hB2.alloc hB2.size (.cells #[.int .i64 (memFaultM ((a, b), c)), .int .i64 (rngMk [(n, 0, 100000)])] 2)
  go_wp2_with fail
  refine (or64Mk _ 2 _ [memFaultM ((a, b), c), rngMk [(n, 0, 100000)]] _ (intsMk_at ii) rfl (by omega)).mono ?_
  rintro e wq ⟨rfl, rfl⟩
  rw [Ha.out]
  obtain ⟨p0, p1, p2, _, _, _⟩ := x3.threeC
  obtain ⟨s0, u0, v0, _, _, _⟩ := (x3.alloc (.cells #[.int .i64 a, .int .i64 b] 25)).threeC
  go_wp2_with fail
  clear p0 p1 p2
  refine (turnMember a b c _ _ n _).mono ?_
  rintro e w5 ⟨he, hb5⟩
  subst he
  have z5 := (z3.alloc _).below hb5 (by have := z3.lt; simp at this ⊢; omega)
  have hB5 := (hB3.alloc hB3.size _).trans (hb5.mono (by have := hB3.size; simp at this ⊢; omega))
  obtain ⟨r0, r1, r2, r3, rf0, rf1, rf2, rf3⟩ := z5.four
  go_wp2
  refine bodyPost_ret (v := .agg #[.int .i64 (ageM ((a, b), c) n).1, .int .i64 (ageM ((a, b), c) n).2.1.1, .int .i64 (ageM ((a, b), c) n).2.1.2, .int .i64 (ageM ((a, b), c) n).2.2]) (by simp [results, Try.results20, go_sem, Hm.out, Hz.out, r0, r1, r2, r3]) rfl ?_
  refine ⟨rfl, ?_⟩
  repeat (refine Below.setCell ?_ (by simp <;> omega) _)
  exact hB5

end Go.Proofs.Ytbfjfjocangjeaa
