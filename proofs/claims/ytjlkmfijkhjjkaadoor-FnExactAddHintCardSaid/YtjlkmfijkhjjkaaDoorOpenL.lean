/-
  A row of samples that came in.
-/
import Derived.Test.YtjlkmfijkhjjkaaDoorOpenS
import Derived.Test.YtjlkmfijkhjjkaaDoorSmps
namespace Go.Proofs.YtjlkmfijkhjjkaaDoor
set_option maxRecDepth 20000
open Go.ChangeShapes Go.WideShapes Go.ChangeAt Go.RowKit

theorem list_of {α : Type} (P : Nat → α → Prop) : ∀ n : Nat, (∀ i, i < n → ∃ x, P i x) → ∃ l : List α, l.length = n ∧ ∀ i x, l[i]? = some x → P i x
  | 0, _ => ⟨[], rfl, fun i x h => by simp at h⟩
  | n + 1, h => by
    obtain ⟨l, hl, hp⟩ := list_of P n (fun i hi => h i (by omega))
    obtain ⟨x, hx⟩ := h n (by omega)
    refine ⟨l ++ [x], by simp [hl], fun i y hy => ?_⟩
    rcases Nat.lt_or_ge i n with h1 | h1
    · rw [List.getElem?_append_left (by omega)] at hy
      exact hp i y hy
    · have hi := getElem?_some_lt hy
      rw [List.length_append, hl, List.length_singleton] at hi
      obtain rfl : i = n := by omega
      rw [List.getElem?_append_right (by omega), hl, Nat.sub_self] at hy
      simp at hy
      subst hy
      exact hx

theorem smp_cells {H : Type} {enc : TypeId × Value → H} {w : World} {base fuel : Nat} {sp : Nat → Bool} {held : Bool} {cs : List Value} {x : DataW H × List MemPlace} (h : DataW.trod enc Tryd.prog w base sp held fuel 55 cs = some x) : ∃ y : Smp, cs = smpCells y := by
  obtain ⟨xs, n, _, rfl, hl, hlen, hel⟩ := DataW.trod_struct Tryd.underlying55 h
  have c4 : Tryd.prog.cellsOf 55 = 4 := by kernel_rfl
  have c1 : Tryd.prog.cellsOf 2 = 1 := by kernel_rfl
  rw [c4] at hl
  match cs, hl with
  | [u0, u1, u2, u3], _ =>
    have hx : xs.length = 4 := by rw [hlen]; rfl
    have one : ∀ (i : Nat) (u : Value), i < 4 → DataW.trod enc Tryd.prog w base sp held n 2 [u] = xs[i]? → ∃ k, u = .int .i64 k := fun i u hi he => by
      rw [List.getElem?_eq_getElem (by omega)] at he
      obtain ⟨k, hk, _⟩ := DataW.trod_int Tryd.underlying2 he
      exact ⟨k, by simpa using hk⟩
    obtain ⟨k0, rfl⟩ := one 0 u0 (by omega) (by simpa [c1] using hel 0 _ rfl)
    obtain ⟨k1, rfl⟩ := one 1 u1 (by omega) (by simpa [c1] using hel 1 _ rfl)
    obtain ⟨k2, rfl⟩ := one 2 u2 (by omega) (by simpa [c1] using hel 2 _ rfl)
    obtain ⟨k3, rfl⟩ := one 3 u3 (by omega) (by simpa [c1] using hel 3 _ rfl)
    exact ⟨(k0, k1, k2, k3), rfl⟩

end Go.Proofs.YtjlkmfijkhjjkaaDoor
