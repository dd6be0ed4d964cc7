/-
  A record and a state that came in.
-/
import Derived.Test.YteiclanlhnccnaaDoorOpenH
import Derived.Test.YteiclanlhnccnaaDoorRcds
namespace Go.Proofs.YteiclanlhnccnaaDoor
set_option maxRecDepth 20000
open Go.ChangeShapes Go.WideShapes Go.ChangeAt Go.RowKit

theorem rcd_cells {H : Type} {enc : TypeId × Value → H} {w : World} {base fuel : Nat} {sp : Nat → Bool} {held : Bool} {cs : List Value} {x : DataW H × List MemPlace} (h : DataW.trod enc Tryd.prog w base sp held fuel 25 cs = some x) : ∃ y : Rcd, cs = rcdCells y := by
  obtain ⟨xs, n, _, rfl, hl, hlen, hel⟩ := DataW.trod_struct Tryd.underlying25 h
  have c7 : Tryd.prog.cellsOf 25 = 7 := by kernel_rfl
  have c4 : Tryd.prog.cellsOf 23 = 4 := by kernel_rfl
  have c1 : Tryd.prog.cellsOf 2 = 1 := by kernel_rfl
  rw [c7] at hl
  match cs, hl with
  | [u0, u1, u2, u3, u4, u5, u6], _ =>
    have hx : xs.length = 4 := by rw [hlen]; rfl
    have one : ∀ (i : Nat) (u : Value), i < 4 → DataW.trod enc Tryd.prog w base sp held n 2 [u] = xs[i]? → ∃ k, u = .int .i64 k := fun i u hi he => by
      rw [List.getElem?_eq_getElem (by omega)] at he
      obtain ⟨k, hk, _⟩ := DataW.trod_int Tryd.underlying2 he
      exact ⟨k, by simpa using hk⟩
    obtain ⟨k0, rfl⟩ := one 0 u0 (by omega) (by simpa [c1, c4] using hel 0 _ rfl)
    obtain ⟨k1, rfl⟩ := one 1 u1 (by omega) (by simpa [c1, c4] using hel 1 _ rfl)
    have h1 : DataW.trod enc Tryd.prog w base sp held n 23 [u2, u3, u4, u5] = xs[2]? := by simpa [c1, c4] using hel 2 _ rfl
    rw [List.getElem?_eq_getElem (by omega)] at h1
    obtain ⟨⟨k2, k3, k4, k5⟩, hs⟩ := smp_cells h1
    simp only [smpCells, List.cons.injEq, and_true] at hs
    obtain ⟨rfl, rfl, rfl, rfl⟩ := hs
    obtain ⟨k6, rfl⟩ := one 3 u6 (by omega) (by simpa [c1, c4] using hel 3 _ rfl)
    exact ⟨(k0, k1, (k2, k3, k4, k5), k6), rfl⟩

theorem open_rcd {H : Type} {enc : TypeId × Value → H} {W W0 : World} {r : Reach} {b0 base : Nat} {sp : Nat → Bool} {held : Bool} {v : Value} {d : DataW H} {ps : List MemPlace}
    (hval : Value.okWide Tryd.prog W0 r b0 25 v) (hd : DataW.Trod enc Tryd.prog W base sp held 25 v d ps) :
    ∃ a0 a1 a2 a3 a4 a5 a6 : Int, v = .agg #[.int .i64 a0, .int .i64 a1, .int .i64 a2, .int .i64 a3, .int .i64 a4, .int .i64 a5, .int .i64 a6] := by
  obtain ⟨cs, rfl, hn⟩ := okWide_struct Tryd.underlying25 hval
  obtain ⟨fuel, hf⟩ := hd
  obtain ⟨⟨a0, a1, ⟨a2, a3, a4, a5⟩, a6⟩, hy⟩ := rcd_cells hf
  obtain ⟨l⟩ := cs
  have hl : l = rcdCells (a0, a1, (a2, a3, a4, a5), a6) := by simpa [Value.cells] using hy
  subst hl
  exact ⟨a0, a1, a2, a3, a4, a5, a6, rfl⟩

theorem three_of {cs : Array Value} (h : cs.size = 3) : ∃ a b c, cs = #[a, b, c] := by
  obtain ⟨l⟩ := cs
  match l, h with
  | [a, b, c], _ => exact ⟨a, b, c, rfl⟩
theorem slice_trod {H : Type} {enc : TypeId × Value → H} {w : World} {base fuel : Nat} {sp : Nat → Bool} {held : Bool} {u : Value} {t et : TypeId} {x : DataW H × List MemPlace} (hu : Tryd.prog.underlying t = some (.slice et)) (h : DataW.trod enc Tryd.prog w base sp held fuel t [u] = some x) : ∃ A n c, u = .slice A n c := by
  rcases DataW.trod_slice hu h with ⟨hcs, _⟩ | ⟨a, len, cap, elems, rest, m, _, hcs, _⟩
  · exact ⟨none, 0, 0, by simpa using hcs⟩
  · exact ⟨some a, len, cap, by simpa using hcs⟩

theorem open_sta {H : Type} {enc : TypeId × Value → H} {W W0 : World} {r : Reach} {b0 base : Nat} {held : Bool} {v : Value} {d : DataW H} {ps : List MemPlace}
    (hval : Value.okWide Tryd.prog W0 r b0 48 v) (hd : DataW.Trod enc Tryd.prog W base (fun _ => true) held 48 v d ps) :
    ∃ (A : Option Addr) (n c : Nat) (l : List Smp) (B : Option Addr) (m e : Nat) (h : List Hnt) (x : Int), v = .agg #[.slice A n c, .slice B m e, .int .i64 x] ∧ l.length = n ∧ n ≤ maxLen ∧ Rd eL W W.heap.size A l ∧ h.length = m ∧ m ≤ maxLen ∧ Rd eM W W.heap.size B h := by
  obtain ⟨cs, rfl, hn⟩ := okWide_struct Tryd.underlying48 hval
  obtain ⟨fuel, hf⟩ := hd
  obtain ⟨xs, n, _, _, hl, hlen, hel⟩ := DataW.trod_struct Tryd.underlying48 hf
  have c3 : Tryd.prog.cellsOf 48 = 3 := by kernel_rfl
  have c1 : Tryd.prog.cellsOf 2 = 1 := by kernel_rfl
  have cS : Tryd.prog.cellsOf 45 = 1 := by kernel_rfl
  have cH : Tryd.prog.cellsOf 46 = 1 := by kernel_rfl
  rw [c3] at hn
  obtain ⟨a, b, c, rfl⟩ := three_of hn
  have hx : xs.length = 3 := by rw [hlen]; rfl
  have h0 : DataW.trod enc Tryd.prog W base (fun _ => true) held n 45 [a] = xs[0]? := by simpa [Value.cells, c1, cS, cH] using hel 0 _ rfl
  have h1 : DataW.trod enc Tryd.prog W base (fun _ => true) held n 46 [b] = xs[1]? := by simpa [Value.cells, c1, cS, cH] using hel 1 _ rfl
  have h2 : DataW.trod enc Tryd.prog W base (fun _ => true) held n 2 [c] = xs[2]? := by simpa [Value.cells, c1, cS, cH] using hel 2 _ rfl
  rw [List.getElem?_eq_getElem (by omega)] at h0 h1 h2
  obtain ⟨A, n0, c0, rfl⟩ := slice_trod Tryd.underlying45 h0
  obtain ⟨B, m0, e0, rfl⟩ := slice_trod Tryd.underlying46 h1
  obtain ⟨k, hk, _⟩ := DataW.trod_int Tryd.underlying2 h2
  obtain rfl : c = .int .i64 k := by simpa using hk
  obtain ⟨l, hll, hlm, hlr⟩ := open_smps (d := (xs[0]'(by omega)).1) (p := (xs[0]'(by omega)).2) (c := c0) ⟨n, by simpa [Value.cells] using h0⟩
  obtain ⟨h, hhl, hhm, hhr⟩ := open_hnts (d := (xs[1]'(by omega)).1) (p := (xs[1]'(by omega)).2) (c := e0) ⟨n, by simpa [Value.cells] using h1⟩
  exact ⟨A, n0, c0, l, B, m0, e0, h, k, rfl, hll, hlm, hlr, hhl, hhm, hhr⟩
end Go.Proofs.YteiclanlhnccnaaDoor
