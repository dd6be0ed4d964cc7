/-
  The model's ring: spots and places.
-/
import Derived.Test.YtbfjfjocangjeaaPlcsRes
import Derived.Test.YtbfjfjocangjeaaMbS
import Derived.Test.YtbfjfjocangjeaaMgS
namespace Go.Proofs.Ytbfjfjocangjeaa
set_option maxRecDepth 20000
open Go.RowKit
set_option linter.unusedSimpArgs false
set_option linter.unusedVariables false
attribute [local irreducible] mixW

theorem fldIr1 (a b : Int) (u : World) : (Instr.field 39 (.agg #[.int .i64 a, .int .i64 b]) 1).run Try.prog u = .ok (.int .i64 b) u := by kernel_rfl
theorem tmod_64 {x : Int} (h : 0 ≤ x) : Int.tmod x 64 = x % 64 := Int.tmod_eq_emod_of_nonneg h

theorem specL4Node (n : Int) (w : World) :
    Calls Try.prog 122 #[.int .i64 n] w fun e w' => e = .returned (.bool (inB (n, 0, 3))) ∧ Below w.heap.size w w' := by
  go_enter Try.func122, Try.ntmps122
  go_wp2_with fail
  refine (l1In_is (v := n) (lo := 0) (hi := 3) rfl _).mono ?_
  rintro e w1 ⟨rfl, hb1⟩
  go_wp2
  go_ret
  exact ⟨rfl, hb1⟩
theorem specL6Series (n : Int) (w : World) :
    Calls Try.prog 87 #[.int .i64 n] w fun e w' => e = .returned (.bool (inB (n, 0, 9))) ∧ Below w.heap.size w w' := by
  go_enter Try.func87, Try.ntmps87
  go_wp2_with fail
  refine (l1In_is (v := n) (lo := 0) (hi := 9) rfl _).mono ?_
  rintro e w1 ⟨rfl, hb1⟩
  go_wp2
  go_ret
  exact ⟨rfl, hb1⟩

theorem specNodeSpot (n : Int) (w : World) (h0 : 0 ≤ n) (h3 : n ≤ 3) :
    Calls Try.prog 115 #[.int .i64 n] w fun e w' => e = .returned (.agg #[.int .i64 0, .int .i64 (spotN n)]) ∧ Below w.heap.size w w' := by
  have hB0 := (Below.refl w.heap.size w).alloc (Nat.le_refl _) (.cells #[.int .i64 0, .int .i64 0] 39)
  have z0 := At.new w 39 #[.int .i64 0, .int .i64 0]
  have hi : inB (n, 0, 3) = true := by simp [inB]; omega
  have hw1 : IntKind.i64.wrap (37 * n) = 37 * n := IntWalk.i64_in _ (by omega)
  have hw2 : IntKind.i64.wrap (37 * n + 11) = 37 * n + 11 := IntWalk.i64_in _ (by omega)
  have hw3 : IntKind.i64.wrap (11 + 37 * n) = 37 * n + 11 := by rw [show (11 : Int) + 37 * n = 37 * n + 11 by omega]; exact hw2
  have ht : Int.tmod (37 * n + 11) 64 = spotN n := tmod_64 (by omega)
  have hw4 : IntKind.i64.wrap (spotN n) = spotN n := IntWalk.i64_in _ (by unfold spotN; omega)
  go_enter Try.func115, Try.ntmps115
  go_wp2_with fail
  refine (specL4Node n _).mono ?_
  rintro e w1 ⟨he, hb1⟩
  rw [hi] at he
  subst he
  have z1 := z0.below hb1 z0.lt
  have hB1 := hB0.trans (hb1.mono hB0.size)
  obtain ⟨r0, r1, rf0, rf1⟩ := z1.two
  clear hi
  go_wp2
  refine bodyPost_ret (v := .agg #[.int .i64 0, .int .i64 (spotN n)]) (by simp [results, Try.results115, go_sem, r0, r1]) rfl ?_
  refine ⟨rfl, ?_⟩
  repeat (refine Below.setCell ?_ (by simp) _)
  exact hB1
theorem specSeriesSpot (n : Int) (w : World) (h0 : 0 ≤ n) (h3 : n ≤ 9) :
    Calls Try.prog 114 #[.int .i64 n] w fun e w' => e = .returned (.agg #[.int .i64 0, .int .i64 (spotS n)]) ∧ Below w.heap.size w w' := by
  have hB0 := (Below.refl w.heap.size w).alloc (Nat.le_refl _) (.cells #[.int .i64 0, .int .i64 0] 39)
  have z0 := At.new w 39 #[.int .i64 0, .int .i64 0]
  have hi : inB (n, 0, 9) = true := by simp [inB]; omega
  have hw1 : IntKind.i64.wrap (29 * n) = 29 * n := IntWalk.i64_in _ (by omega)
  have hw2 : IntKind.i64.wrap (29 * n + 5) = 29 * n + 5 := IntWalk.i64_in _ (by omega)
  have ht : Int.tmod (29 * n + 5) 64 = spotS n := tmod_64 (by omega)
  have hw4 : IntKind.i64.wrap (spotS n) = spotS n := IntWalk.i64_in _ (by unfold spotS; omega)
  go_enter Try.func114, Try.ntmps114
  go_wp2_with fail
  refine (specL6Series n _).mono ?_
  rintro e w1 ⟨he, hb1⟩
  rw [hi] at he
  subst he
  have z1 := z0.below hb1 z0.lt
  have hB1 := hB0.trans (hb1.mono hB0.size)
  obtain ⟨r0, r1, rf0, rf1⟩ := z1.two
  clear hi
  go_wp2
  refine bodyPost_ret (v := .agg #[.int .i64 0, .int .i64 (spotS n)]) (by simp [results, Try.results114, go_sem, r0, r1]) rfl ?_
  refine ⟨rfl, ?_⟩
  repeat (refine Below.setCell ?_ (by simp) _)
  exact hB1

theorem insP_at (p : Plc) : ∀ (l : List Plc) (a : Nat), a ≤ l.length → l.Pairwise leP → (∀ q ∈ l.drop a, p.1 < q.1) → (a = 0 ∨ ∃ q, l[a - 1]? = some q ∧ q.1 ≤ p.1) → insP p l = l.take a ++ p :: l.drop a
  | [], a, ha, _, _, _ => by
    obtain rfl : a = 0 := by simpa using ha
    rfl
  | q :: r, 0, _, _, hd, _ => by
    have := hd q (by simp)
    simp [insP, this]
  | q :: r, a + 1, ha, hr, hd, hl => by
    obtain ⟨h1, h2⟩ := List.pairwise_cons.1 hr
    obtain ⟨x, hx, hxp⟩ : ∃ x, (q :: r)[a]? = some x ∧ x.1 ≤ p.1 := by
      rcases hl with h | h
      · exact absurd h (by omega)
      · simpa using h
    have hq : ¬ p.1 < q.1 := by
      cases a with
      | zero => obtain rfl : q = x := by simpa using hx
                omega
      | succ b =>
        have hm := h1 x (List.mem_of_getElem? (by simpa using hx))
        unfold leP at hm
        omega
    rw [insP, if_neg hq, insP_at p r a (by simpa using ha) h2 (by simpa using hd) (by
      cases a with
      | zero => exact .inl rfl
      | succ b => exact .inr ⟨x, by simpa using hx, hxp⟩)]
    simp
end Go.Proofs.Ytbfjfjocangjeaa
