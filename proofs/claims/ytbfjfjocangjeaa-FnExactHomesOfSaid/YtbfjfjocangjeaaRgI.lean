/-
  The program's ring: spots, places told and sorted.
-/
import Derived.Test.YtbfjfjocangjeaaRgL
import Derived.Test.YtbfjfjocangjeaaSortPl
import Derived.Test.YtbfjfjocangjeaaMbP
namespace Go.Proofs.Ytbfjfjocangjeaa
set_option maxRecDepth 20000
open Go.RowKit
set_option linter.unusedSimpArgs false
set_option linter.unusedVariables false
attribute [local irreducible] mixW

theorem tmod_near (x : Int) : ∃ m : Int, Int.tmod x 64 = m ∧ -63 ≤ m ∧ m ≤ 63 ∧ (m + 64) % 64 = x % 64 := by
  by_cases h : x < 0
  · have h1 : Int.tmod x 64 = -((-x) % 64) := by
      rw [← tmod_64 (show 0 ≤ -x by omega), Int.neg_tmod, Int.neg_neg]
    exact ⟨_, h1, by omega, by omega, by omega⟩
  · exact ⟨_, tmod_64 (by omega), by omega, by omega, by omega⟩
theorem spotAt (x : Int) (w : World) (h1 : -1000 ≤ x) (h2 : x ≤ 1000) :
    Calls Try.prog 91 #[.int .i64 x] w fun e w' => e = .returned (.int .i64 (x % 64)) ∧ Below w.heap.size w w' := by
  obtain ⟨m, hm, m1, m2, m3⟩ := tmod_near x
  have hw1 : IntKind.i64.wrap m = m := IntWalk.i64_in _ (by omega)
  have hw2 : IntKind.i64.wrap (m + 64) = m + 64 := IntWalk.i64_in _ (by omega)
  have ht : Int.tmod (m + 64) 64 = x % 64 := by rw [tmod_64 (by omega), m3]
  have hw3 : IntKind.i64.wrap (x % 64) = x % 64 := IntWalk.i64_in _ (by omega)
  clear m3
  go_enter Try.func91, Try.ntmps91
  go_wp2
  go_ret
  exact ⟨rfl, Below.refl _ _⟩
theorem spotOfNode (n : Int) (w : World) (h0 : 0 ≤ n) (h3 : n ≤ 3) :
    Calls Try.prog 92 #[.int .i64 n] w fun e w' => e = .returned (.int .i64 (spotN n)) ∧ Below w.heap.size w w' := by
  have hw1 : IntKind.i64.wrap (37 * n) = 37 * n := IntWalk.i64_in _ (by omega)
  have hw2 : IntKind.i64.wrap (11 + 37 * n) = 11 + 37 * n := IntWalk.i64_in _ (by omega)
  have hs : spotN n = (11 + 37 * n) % 64 := by unfold spotN; omega
  go_enter Try.func92, Try.ntmps92
  go_wp2_with fail
  refine (spotAt (11 + 37 * n) _ (by omega) (by omega)).mono ?_
  rintro e w1 ⟨rfl, hb1⟩
  go_wp2
  go_ret
  exact ⟨by rw [hs]; rfl, hb1⟩
theorem spotOfSeries (n : Int) (w : World) (h0 : 0 ≤ n) (h3 : n ≤ 9) :
    Calls Try.prog 93 #[.int .i64 n] w fun e w' => e = .returned (.int .i64 (spotS n)) ∧ Below w.heap.size w w' := by
  have hw1 : IntKind.i64.wrap (29 * n) = 29 * n := IntWalk.i64_in _ (by omega)
  have hw2 : IntKind.i64.wrap (5 + 29 * n) = 5 + 29 * n := IntWalk.i64_in _ (by omega)
  have hs : spotS n = (5 + 29 * n) % 64 := by unfold spotS; omega
  go_enter Try.func93, Try.ntmps93
  go_wp2_with fail
  refine (spotAt (5 + 29 * n) _ (by omega) (by omega)).mono ?_
  rintro e w1 ⟨rfl, hb1⟩
  go_wp2
  go_ret
  exact ⟨by rw [hs]; rfl, hb1⟩

set_option maxHeartbeats 1000000 in
theorem placeOne (g k : Nat) (s : Int) (w : World) (z1 : At w g 2 #[.int .i64 s]) (hk : k ≤ 3) (h0 : 0 ≤ s) (h9 : s ≤ 9) :
    Calls Try.prog 90 #[.int .i64 (k : Int), .pointer (some ⟨g, 0, none⟩)] w fun e w' => e = .returned (.agg #[.int .i64 (farF s k), .int .i64 (k : Int)]) ∧ Below w.heap.size w w' := by
  have hn0 : 0 ≤ spotN (k : Int) ∧ spotN (k : Int) < 64 := by unfold spotN; omega
  have hs0 : 0 ≤ spotS s ∧ spotS s < 64 := by unfold spotS; omega
  have hw1 : IntKind.i64.wrap (spotN (k : Int) - spotS s) = spotN (k : Int) - spotS s := IntWalk.i64_in _ (by omega)
  have hf : farF s k = (spotN (k : Int) - spotS s) % 64 := by unfold farF; omega
  have l1 := z1.lt
  have hB0 := ((Below.refl w.heap.size w).alloc (Nat.le_refl _) (.cells #[.int .i64 0, .int .i64 0] 116)).drew
  have r0 := (At.new w 116 #[.int .i64 0, .int .i64 0]).drew
  have z0 := (z1.alloc (.cells #[.int .i64 0, .int .i64 0] 116)).drew
  go_enter Try.func90, Try.ntmps90
  go_wp2
  refine wp_region_mix [(0, false), (2, false), (6, false), (1, true), (3, true), (4, false), (5, true), (7, false), (8, true)] (fun u => At u g 2 #[.int .i64 s]) (by kernel_rfl) (by kernel_rfl) (fun _ _ _ _ _ h => h) z0 ?_
  simp only [mixOps, List.map_cons, List.map_nil, List.getElem?_cons_succ, List.getElem?_cons_zero, Option.getD_some]
  iterate 3
    refine mix_pure (v := ?_) (by rfl) (fun u hu => ?_) ?_
    rotate_left
    · have _ := hu.cell 0
      go_simp
      (with_reducible rfl)
    (try simp only [Act.put, List.setIfInBounds_toArray, List.set_cons_zero, List.set_cons_succ])
  refine mix_call (by rfl) (fun K hK => ?_)
  go_simp
  refine (spotOfNode (k : Int) _ (by omega) (by omega)).mono ?_
  rintro e w1 ⟨rfl, hb1⟩
  have z1' := z0.below hb1 z0.lt
  have r1 := r0.below hb1 r0.lt
  have hB1 := hB0.trans (hb1.mono hB0.size)
  refine hK _ _ _ (fun _ h => h) z1' ?_
  (try simp only [Act.put, List.setIfInBounds_toArray, List.set_cons_zero, List.set_cons_succ])
  refine mix_call (by rfl) (fun K hK => ?_)
  go_simp
  refine (spotOfSeries s _ h0 h9).mono ?_
  rintro e w2 ⟨rfl, hb2⟩
  have z2 := z1'.below hb2 z1'.lt
  have r2 := r1.below hb2 r1.lt
  have hB2 := hB1.trans (hb2.mono hB1.size)
  refine hK _ _ _ (fun _ h => h) z2 ?_
  (try simp only [Act.put, List.setIfInBounds_toArray, List.set_cons_zero, List.set_cons_succ])
  refine mix_pure (v := ?_) (by rfl) (fun u hu => ?_) ?_
  rotate_left
  · go_simp
    (with_reducible rfl)
  (try simp only [Act.put, List.setIfInBounds_toArray, List.set_cons_zero, List.set_cons_succ])
  refine mix_call (by rfl) (fun K hK => ?_)
  go_simp
  refine (spotAt (spotN (k : Int) - spotS s) _ (by omega) (by omega)).mono ?_
  rintro e w3 ⟨rfl, hb3⟩
  have z3 := z2.below hb3 z2.lt
  have r3 := r2.below hb3 r2.lt
  have hB3 := hB2.trans (hb3.mono hB2.size)
  refine hK _ _ _ (fun _ h => h) z3 ?_
  (try simp only [Act.put, List.setIfInBounds_toArray, List.set_cons_zero, List.set_cons_succ])
  refine mix_pure (v := ?_) (by rfl) (fun u hu => ?_) ?_
  rotate_left
  · go_simp
    (with_reducible rfl)
  (try simp only [Act.put, List.setIfInBounds_toArray, List.set_cons_zero, List.set_cons_succ])
  refine mix_call (by rfl) (fun K hK => ?_)
  obtain ⟨q0, q1, qf0, qf1⟩ := r3.two
  go_simp
  refine hK _ _ _ (fun _ h => h) ((z3.far (by show g ≠ w.heap.size; omega) _).far (by show g ≠ w.heap.size; omega) _) ?_
  (try simp only [Act.put, List.setIfInBounds_toArray, List.set_cons_zero, List.set_cons_succ])
  refine mix_nil ?_
  go_wp2
  refine bodyPost_ret (v := .agg #[.int .i64 (farF s k), .int .i64 (k : Int)]) (by simp [results, Try.results90, go_sem, q0, q1, hf]) rfl ?_
  refine ⟨rfl, ?_⟩
  repeat (refine Below.setCell ?_ (by simp) _)
  exact hB3

def TpRel (w : World) (s : Int) (n : Nat) (o i : Value) (wr : World) : Prop :=
  ∃ (k : Nat) (A : Option Addr) (c : Nat), k ≤ n ∧ i = .int .i64 k ∧ o = .slice A k c ∧ Ow ePl wr w.heap.size A k c (placeL s k) ∧ Below w.heap.size w wr
theorem placeL_next (s : Int) (k : Nat) : placeL s (k + 1) = placeL s k ++ [(farF s k, (k : Int))] := by
  unfold placeL
  rw [List.range_succ, List.map_append]
  rfl

set_option maxHeartbeats 2000000 in
theorem tellPlaces (g n : Nat) (s : Int) (w : World) (z1 : At w g 2 #[.int .i64 s]) (hn : n ≤ 4) (h0 : 0 ≤ s) (h9 : s ≤ 9) :
    Calls Try.prog 89 #[.int .i64 (n : Int), .func (.func 90) #[] #[.pointer (some ⟨g, 0, none⟩)]] w fun e w' => ∃ A c, e = .returned (.slice A n c) ∧ Ow ePl w' w.heap.size A n c (placeL s n) ∧ Below w.heap.size w w' := by
  go_enter Try.func89, Try.ntmps89
  go_wp2
  go_loopw [5, 8] (fun o i wr => TpRel w s n o i wr) (fun _ i _ => n - (intOf i).toNat)
  case atStart => exact ⟨0, none, 0, Nat.zero_le _, rfl, rfl, by simpa [placeL] using Ow.nil, Below.refl _ _⟩
  case round =>
    obtain ⟨k, A1, c1, hk, rfl, rfl, ow1, hbel⟩ := hrel
    by_cases hlt : k < n
    · have Hq := Lib.hid (placeL_next s k)
      have CL := placeOne g k s wr (z1.below hbel z1.lt) (by omega) h0 h9
      have i5 : (k : Int) < (n : Int) := by omega
      generalize farF s k = f at *
      go_wp2_with (first
        | (go_at_call 90; refine CL.mono ?_; rintro e w1 ⟨rfl, hb1⟩; have hB1 := hbel.trans (hb1.mono hbel.size); have ow2 := ow1.below hb1 (Nat.le_refl _))
        | (at_builtin; refine wpList_append_ow okPl _ rfl (.tmp 11) (.tmp 15) _ rfl w.heap.size info_plc Try.underlying52 rfl A1 k c1 _ rfl (ow2.alloc _) _ 1 1 _ [(f, (k : Int))] rfl ((ow_plc _ f (k : Int)).rd okPl) rfl (by unfold maxLen; omega) (by omega) (by have := hB1.size; simp at this ⊢; omega) ?_; intro A5 c5 w5 ow5 hg5 _; have hB5 := (hB1.alloc hB1.size _).grown hg5 (hB1.alloc hB1.size _).size (fun g hg => by have := (ow1.lt g hg).1; omega)))
      refine ⟨⟨k + 1, A5, c5, by omega, by go_num, rfl, by rw [Hq.out]; exact ow5, hB5⟩, by simp [intOf]; omega⟩
    · obtain rfl : k = n := by omega
      go_wp2
      go_ret
      exact ⟨A1, c1, rfl, ow1, hbel⟩
end Go.Proofs.Ytbfjfjocangjeaa
