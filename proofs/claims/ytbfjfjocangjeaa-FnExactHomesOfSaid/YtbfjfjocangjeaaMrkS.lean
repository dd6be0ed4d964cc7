/-
  The model's rows of marks: the first fault, the merging.
-/
import Derived.Test.YtbfjfjocangjeaaMbS
namespace Go.Proofs.Ytbfjfjocangjeaa
set_option maxRecDepth 20000
open Go.RowKit
set_option linter.unusedSimpArgs false
set_option linter.unusedVariables false

def MkRel (xs : List Mrk) (w : World) (n : Nat) (i : Value) (wr : World) : Prop :=
  ∃ k : Nat, k ≤ n ∧ i = .int .i64 k ∧ marksFaultM xs = marksFaultM (xs.drop k) ∧ Below w.heap.size w wr
theorem marks_drop {xs : List Mrk} {k : Nat} {x : Mrk} (h : xs[k]? = some x) : marksFaultM (xs.drop k) = if markFaultM x ≠ 0 then markFaultM x else marksFaultM (xs.drop (k + 1)) := by
  have hk := getElem?_some_lt h
  rw [List.drop_eq_getElem_cons hk]
  rw [List.getElem?_eq_getElem hk] at h
  obtain rfl := Option.some.inj h
  rfl

set_option maxHeartbeats 1000000 in
theorem specL7Marks (A : Option Addr) (n c : Nat) (xs : List Mrk) (w : World) (ha : Rd eMk w w.heap.size A xs) (hx : xs.length = n) (hm : n ≤ 1048576) :
    Calls Try.prog 86 #[.slice A n c] w fun e w' => e = .returned (.int .i64 (marksFaultM xs)) ∧ Below w.heap.size w w' := by
  have Hx := Lib.hid hx
  clear hx
  go_enter Try.func86, Try.ntmps86
  go_wp2
  go_loopw [3] (fun i wr => MkRel xs w n i wr) (fun i _ => n - (intOf i).toNat)
  case atStart => exact ⟨0, by omega, rfl, rfl, Below.refl _ _⟩
  case round =>
    obtain ⟨k, hk, rfl, hal, hbel⟩ := hrel
    have Hal := Lib.hid hal
    clear hal
    by_cases hlt : k < n
    · obtain ⟨g, o, a0, a1, rfl, hg, hxk, c0, c1⟩ := (ha.below hbel (Nat.le_refl _)).mrk (k := k) (by rw [Hx.out]; exact hlt)
      have Hd := Lib.hid (marks_drop hxk)
      clear hxk
      by_cases h1 : markFaultM (a0, a1) = 0
      · have d1 : (markFaultM (a0, a1) != 0) = false := by rw [h1]; rfl
        have Hn := Lib.hid (show marksFaultM xs = marksFaultM (xs.drop (k + 1)) by rw [Hal.out, Hd.out, if_neg (by simpa using h1)])
        clear h1
        go_wp2_with fail
        refine (specMarkFault a0 a1 _).mono ?_
        rintro e w1 ⟨rfl, hb1⟩
        have hB1 := hbel.trans (hb1.mono hbel.size)
        clear c0 c1
        go_wp2
        exact ⟨⟨k + 1, by omega, by go_num, Hn.out, hB1⟩, by simp [intOf]; omega⟩
      · have d1 : (markFaultM (a0, a1) != 0) = true := by rw [bne_iff_ne]; exact h1
        have Hn := Lib.hid (show marksFaultM xs = markFaultM (a0, a1) by rw [Hal.out, Hd.out, if_pos h1])
        clear h1
        go_wp2_with fail
        refine (specMarkFault a0 a1 _).mono ?_
        rintro e w1 ⟨rfl, hb1⟩
        have hB1 := hbel.trans (hb1.mono hbel.size)
        clear c0 c1
        go_wp2
        go_ret
        exact ⟨by first | (rw [Hn.out]; done) | (rw [Hn.out]; rfl), hB1⟩
    · have Hn := Lib.hid (show marksFaultM xs = 0 by rw [Hal.out, List.drop_eq_nil_of_le (by rw [Hx.out]; omega)]; rfl)
      go_wp2
      go_ret
      exact ⟨by first | (rw [Hn.out]; done) | (rw [Hn.out]; rfl), hbel⟩
end Go.Proofs.Ytbfjfjocangjeaa
