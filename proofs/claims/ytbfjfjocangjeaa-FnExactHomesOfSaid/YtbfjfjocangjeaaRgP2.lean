/-
  The program's PlacesOf.
-/
import Derived.Test.YtbfjfjocangjeaaRgI
namespace Go.Proofs.Ytbfjfjocangjeaa
set_option maxRecDepth 20000
open Go.RowKit
set_option linter.unusedSimpArgs false
set_option linter.unusedVariables false

theorem rng_two (n s : Int) : rngMk [(n, 1, 4), (s, 0, 9)] = if (inB (n, 1, 4) && inB (s, 0, 9)) = true then 0 else 3 := by
  unfold rngMk
  simp

set_option maxHeartbeats 1000000 in
theorem implPlacesOf (n s : Int) (w : World) :
    Calls Try.prog 39 #[.int .i64 n, .int .i64 s] w fun e w' => RetPl (placesM n s) w e w' := by
  unfold RetPl
  have hB0 : Below w.heap.size w ((w.alloc (.cells #[.int .i64 s] 2)).alloc (.cells #[.int .i64 0, .slice none 0 0] 54)) := ((Below.refl _ _).alloc (Nat.le_refl _) _).alloc (by simp) _
  have x0 : At ((w.alloc (.cells #[.int .i64 s] 2)).alloc (.cells #[.int .i64 0, .slice none 0 0] 54)) w.heap.size 2 #[.int .i64 s] := (At.new w 2 #[.int .i64 s]).alloc _
  have z0 : At ((w.alloc (.cells #[.int .i64 s] 2)).alloc (.cells #[.int .i64 0, .slice none 0 0] 54)) (w.heap.size + 1) 54 #[.int .i64 0, .slice none 0 0] := by
    have := At.new (w.alloc (.cells #[.int .i64 s] 2)) 54 #[.int .i64 0, .slice none 0 0]
    simpa using this
  have x1 := x0.alloc (.cells #[.int .i64 n, .int .i64 1, .int .i64 4, .int .i64 s, .int .i64 0, .int .i64 9] 98)
  have z1 := z0.alloc (.cells #[.int .i64 n, .int .i64 1, .int .i64 4, .int .i64 s, .int .i64 0, .int .i64 9] 98)
  have hB1 := hB0.alloc hB0.size (.cells #[.int .i64 n, .int .i64 1, .int .i64 4, .int .i64 s, .int .i64 0, .int .i64 9] 98)
  have RF := rangeMk (w.heap.size + 1 + 1) 2 2 [(n, 1, 4), (s, 0, 9)] (((w.alloc (.cells #[.int .i64 s] 2)).alloc (.cells #[.int .i64 0, .slice none 0 0] 54)).alloc (.cells #[.int .i64 n, .int .i64 1, .int .i64 4, .int .i64 s, .int .i64 0, .int .i64 9] 98)) (bnds_two (by simp)) (by simp) rfl (by omega)
  rw [rng_two] at RF
  rcases hb : inB (n, 1, 4) && inB (s, 0, 9)
  · rw [hb] at RF
    have Hr := Lib.hid (show placesM n s = (3, []) by simp [placesM, hb])
    go_enter Try.func39, Try.ntmps39
    go_wp2_with fail
    refine RF.mono ?_
    rintro e w1 ⟨rfl, hb1⟩
    have z2 := z1.below hb1 z1.lt
    have hB2 := hB1.trans (hb1.mono hB1.size)
    obtain ⟨r0, r1, rf0, rf1⟩ := z2.two
    go_wp2
    refine bodyPost_ret (v := .agg #[.int .i64 3, .slice none 0 0]) (by simp [results, Try.results39, go_sem, r0, r1]) rfl ?_
    refine ⟨none, 0, 0, by rw [Hr.out], by rw [Hr.out]; exact Ow.nil, ?_⟩
    repeat (refine Below.setCell ?_ (by simp) _)
    exact hB2
  rw [hb] at RF
  have hns : (1 ≤ n ∧ n ≤ 4) ∧ 0 ≤ s ∧ s ≤ 9 := by have := hb; unfold inB at this; simpa using this
  obtain ⟨N, rfl⟩ := Int.eq_ofNat_of_zero_le (show 0 ≤ n by omega)
  have Hr := Lib.hid (show placesM (N : Int) s = (0, placesF s N) by simp [placesM, hb])
  clear hb
  go_enter Try.func39, Try.ntmps39
  go_wp2_with fail
  refine RF.mono ?_
  rintro e w1 ⟨rfl, hb1⟩
  have x2 := x1.below hb1 x1.lt
  have z2 := z1.below hb1 z1.lt
  have hB2 := hB1.trans (hb1.mono hB1.size)
  go_wp2_with fail
  refine (tellPlaces w.heap.size N s _ x2 (by omega) hns.2.1 hns.2.2).mono ?_
  rintro e w3 ⟨A, c, rfl, ow, hb3⟩
  have z3 := z2.below hb3 z2.lt
  have hB3 := hB2.trans (hb3.mono hB2.size)
  go_wp2_with fail
  refine (sortPlc A N c w1.heap.size (placeL s N) _ ow (by omega)).mono ?_
  rintro e w4 ⟨rfl, ys, hpm, hpr, ow4, hb4⟩
  obtain rfl : ys = placesF s N := places_sorted hpr hpm
  have z4 := z3.below hb4 z2.lt
  have hB4 := hB3.trans (hb4.mono hB2.size)
  obtain ⟨r0, r1, rf0, rf1⟩ := z4.two
  go_wp2
  refine bodyPost_ret (v := .agg #[.int .i64 0, .slice A N c]) (by simp [results, Try.results39, go_sem, r0, r1]) rfl ?_
  refine ⟨A, N, c, by rw [Hr.out], ?_, ?_⟩
  · rw [Hr.out]
    exact ((ow4.from_ hB2.size).apartMk (by decide) z4 0 _).apartMk (by decide) (z4.set 0 _) 1 _
  · repeat (refine Below.setCell ?_ (by simp) _)
    exact hB4
end Go.Proofs.Ytbfjfjocangjeaa
