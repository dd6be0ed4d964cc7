/-
  A sample that came in: four numbers.
-/
import Derived.Test.YteiclanlhnccnaaDoorOpen
namespace Go.Proofs.YteiclanlhnccnaaDoor
set_option maxRecDepth 20000
open Go.ChangeShapes Go.WideShapes Go.ChangeAt Go.RowKit

theorem four_of {cs : Array Value} (h : cs.size = 4) : ∃ a b c d, cs = #[a, b, c, d] := by
  obtain ⟨l⟩ := cs
  match l, h with
  | [a, b, c, d], _ => exact ⟨a, b, c, d, rfl⟩

theorem open_smp {H : Type} {enc : TypeId × Value → H} {W W0 : World} {r : Reach} {b0 base : Nat} {sp : Nat → Bool} {held : Bool} {v : Value} {d : DataW H} {ps : List MemPlace}
    (hval : Value.okWide Tryd.prog W0 r b0 23 v) (hd : DataW.Trod enc Tryd.prog W base sp held 23 v d ps) :
    ∃ a0 a1 a2 a3 : Int, v = .agg #[.int .i64 a0, .int .i64 a1, .int .i64 a2, .int .i64 a3] := by
  obtain ⟨cs, rfl, hn⟩ := okWide_struct Tryd.underlying23 hval
  obtain ⟨fuel, hf⟩ := hd
  obtain ⟨xs, n, _, _, hl, hlen, hel⟩ := DataW.trod_struct Tryd.underlying23 hf
  have c4 : Tryd.prog.cellsOf 23 = 4 := by kernel_rfl
  have c1 : Tryd.prog.cellsOf 2 = 1 := by kernel_rfl
  rw [c4] at hn
  obtain ⟨a, b, c, e, rfl⟩ := four_of hn
  have hx : xs.length = 4 := by rw [hlen]; rfl
  have one : ∀ (i : Nat) (f : Field) (u : Value), i < 4 → DataW.trod enc Tryd.prog W base sp held n 2 [u] = xs[i]? → ∃ k, u = .int .i64 k := fun i f u hi he => by
    rw [List.getElem?_eq_getElem (by omega)] at he
    obtain ⟨k, hk, _⟩ := DataW.trod_int Tryd.underlying2 he
    exact ⟨k, by simpa using hk⟩
  obtain ⟨k0, rfl⟩ := one 0 default a (by omega) (by simpa [Value.cells, c1] using hel 0 _ rfl)
  obtain ⟨k1, rfl⟩ := one 1 default b (by omega) (by simpa [Value.cells, c1] using hel 1 _ rfl)
  obtain ⟨k2, rfl⟩ := one 2 default c (by omega) (by simpa [Value.cells, c1] using hel 2 _ rfl)
  obtain ⟨k3, rfl⟩ := one 3 default e (by omega) (by simpa [Value.cells, c1] using hel 3 _ rfl)
  exact ⟨k0, k1, k2, k3, rfl⟩
end Go.Proofs.YteiclanlhnccnaaDoor
