/-
  A mark, a member, a row of marks that came in.
-/
import Derived.Test.YtbfjfjocangjeaaOpenL
import Derived.Test.YtbfjfjocangjeaaMrks
namespace Go.Proofs.Ytbfjfjocangjeaa
set_option maxRecDepth 20000
open Go.ChangeShapes Go.WideShapes Go.ChangeAt Go.RowKit

theorem mrk_cells {H : Type} {enc : TypeId × Value → H} {w : World} {base fuel : Nat} {sp : Nat → Bool} {held : Bool} {cs : List Value} {x : DataW H × List MemPlace} (h : DataW.trod enc Try.prog w base sp held fuel 67 cs = some x) : ∃ y : Mrk, cs = mrkCells y := by
  obtain ⟨xs, n, _, rfl, hl, hlen, hel⟩ := DataW.trod_struct Try.underlying67 h
  have c2 : Try.prog.cellsOf 67 = 2 := by kernel_rfl
  have c1 : Try.prog.cellsOf 2 = 1 := by kernel_rfl
  rw [c2] at hl
  match cs, hl with
  | [u0, u1], _ =>
    have hx : xs.length = 2 := by rw [hlen]; rfl
    have one : ∀ (i : Nat) (u : Value), i < 2 → DataW.trod enc Try.prog w base sp held n 2 [u] = xs[i]? → ∃ k, u = .int .i64 k := fun i u hi he => by
      rw [List.getElem?_eq_getElem (by omega)] at he
      obtain ⟨k, hk, _⟩ := DataW.trod_int Try.underlying2 he
      exact ⟨k, by simpa using hk⟩
    obtain ⟨k0, rfl⟩ := one 0 u0 (by omega) (by simpa [c1] using hel 0 _ rfl)
    obtain ⟨k1, rfl⟩ := one 1 u1 (by omega) (by simpa [c1] using hel 1 _ rfl)
    exact ⟨(k0, k1), rfl⟩

theorem open_mrk {H : Type} {enc : TypeId × Value → H} {W W0 : World} {r : Reach} {b0 base : Nat} {sp : Nat → Bool} {held : Bool} {v : Value} {d : DataW H} {ps : List MemPlace}
    (hval : Value.okWide Try.prog W0 r b0 67 v) (hd : DataW.Trod enc Try.prog W base sp held 67 v d ps) :
    ∃ a0 a1 : Int, v = .agg #[.int .i64 a0, .int .i64 a1] := by
  obtain ⟨cs, rfl, hn⟩ := okWide_struct Try.underlying67 hval
  obtain ⟨fuel, hf⟩ := hd
  obtain ⟨⟨a0, a1⟩, hy⟩ := mrk_cells hf
  obtain ⟨l⟩ := cs
  have hl : l = mrkCells (a0, a1) := by simpa [Value.cells] using hy
  subst hl
  exact ⟨a0, a1, rfl⟩

theorem open_mbr {H : Type} {enc : TypeId × Value → H} {W W0 : World} {r : Reach} {b0 base : Nat} {sp : Nat → Bool} {held : Bool} {v : Value} {d : DataW H} {ps : List MemPlace}
    (hval : Value.okWide Try.prog W0 r b0 72 v) (hd : DataW.Trod enc Try.prog W base sp held 72 v d ps) :
    ∃ a0 a1 a2 : Int, v = .agg #[.int .i64 a0, .int .i64 a1, .int .i64 a2] := by
  obtain ⟨cs, rfl, hn⟩ := okWide_struct Try.underlying72 hval
  obtain ⟨fuel, hf⟩ := hd
  obtain ⟨xs, n, _, _, hl, hlen, hel⟩ := DataW.trod_struct Try.underlying72 hf
  have c3 : Try.prog.cellsOf 72 = 3 := by kernel_rfl
  have c2 : Try.prog.cellsOf 67 = 2 := by kernel_rfl
  have c1 : Try.prog.cellsOf 2 = 1 := by kernel_rfl
  rw [c3] at hn
  obtain ⟨l⟩ := cs
  match l, hn with
  | [u0, u1, u2], _ =>
    have hx : xs.length = 2 := by rw [hlen]; rfl
    have h0 : DataW.trod enc Try.prog W base sp held n 67 [u0, u1] = xs[0]? := by simpa [Value.cells, c1, c2] using hel 0 _ rfl
    have h1 : DataW.trod enc Try.prog W base sp held n 2 [u2] = xs[1]? := by simpa [Value.cells, c1, c2] using hel 1 _ rfl
    rw [List.getElem?_eq_getElem (by omega)] at h0 h1
    obtain ⟨⟨k0, k1⟩, hs⟩ := mrk_cells h0
    simp only [mrkCells, List.cons.injEq, and_true] at hs
    obtain ⟨rfl, rfl⟩ := hs
    obtain ⟨k2, hk, _⟩ := DataW.trod_int Try.underlying2 h1
    obtain rfl : u2 = .int .i64 k2 := by simpa using hk
    exact ⟨k0, k1, k2, rfl⟩

theorem open_mrks {H : Type} {enc : TypeId × Value → H} {W : World} {base : Nat} {held : Bool} {A : Option Addr} {n c : Nat} {d : DataW H} {p : List MemPlace} (h : DataW.Trod enc Try.prog W base (fun _ => true) held 80 (.slice A n c) d p) :
    ∃ l : List Mrk, l.length = n ∧ n ≤ maxLen ∧ Rd eMkL W W.heap.size A l := by
  obtain ⟨fuel, hf⟩ := h
  rcases DataW.trod_slice Try.underlying80 hf with ⟨hcs, _⟩ | ⟨a, len, cap, elems, rest, m, _, hcs, _, _, hlc, hcm, hel, hat, _⟩
  · simp [Value.cells] at hcs
    obtain ⟨rfl, rfl, rfl⟩ := hcs
    exact ⟨[], rfl, by unfold maxLen; omega, Rd.nil⟩
  · simp [Value.cells] at hcs
    obtain ⟨rfl, rfl, rfl⟩ := hcs
    have c2 : Try.prog.cellsOf 67 = 2 := by kernel_rfl
    obtain ⟨l, hl, hp⟩ := list_of (fun i (y : Mrk) => W.cells? base (a.add (i * 2)) 2 = some (mrkCells y)) n (fun i hi => by
      have h1 := hat i hi
      rw [c2, List.getElem?_eq_getElem (by omega)] at h1
      obtain ⟨cs, hc, ht⟩ := Option.bind_eq_some_iff.1 h1
      obtain ⟨y, rfl⟩ := mrk_cells ht
      exact ⟨y, hc⟩)
    refine ⟨l, hl, Nat.le_trans hlc hcm, fun hne => ?_⟩
    obtain ⟨y, hy⟩ : ∃ y, l[0]? = some y := ⟨l[0]'(by cases l with | nil => exact absurd rfl hne | cons _ _ => simp), List.getElem?_eq_getElem _⟩
    have h0 := hp 0 y hy
    obtain ⟨_, hlen0, hc0⟩ := World.cells?_some h0
    obtain ⟨b, off, spot⟩ := a
    have z : W.cell? (((⟨b, off, spot⟩ : Addr).add (0 * 2)).add 0) = some (.int .i64 y.1) := hc0 0 (by omega)
    have hspot : spot = none := by simpa [Addr.add] using World.cell?_spot z
    subst hspot
    have hb : b < W.heap.size := by
      have := World.block_lt_of_cell? W _ z
      rw [addr_add, addr_add] at this
      exact this
    refine ⟨b, off, rfl, hb, fun k j y u hk hu => ?_⟩
    obtain ⟨_, _, hc⟩ := World.cells?_some (hp k y hk)
    have hj : j < 2 := getElem?_some_lt hu
    have h1 := hc j hj
    rw [addr_add, addr_add] at h1
    exact h1.trans hu
end Go.Proofs.Ytbfjfjocangjeaa
