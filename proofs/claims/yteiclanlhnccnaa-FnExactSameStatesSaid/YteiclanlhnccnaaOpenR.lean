/-
  A record and a state that came in.
-/
import Derived.Test.YteiclanlhnccnaaOpenH
import Derived.Test.YteiclanlhnccnaaRcds
namespace Go.Proofs.Yteiclanlhnccnaa
set_option maxRecDepth 20000
open Go.ChangeShapes Go.WideShapes Go.ChangeAt Go.RowKit

theorem three_of {cs : Array Value} (h : cs.size = 3) : ∃ a b c, cs = #[a, b, c] := by
  obtain ⟨l⟩ := cs
  match l, h with
  | [a, b, c], _ => exact ⟨a, b, c, rfl⟩
theorem slice_trod {H : Type} {enc : TypeId × Value → H} {w : World} {base fuel : Nat} {sp : Nat → Bool} {held : Bool} {u : Value} {t et : TypeId} {x : DataW H × List MemPlace} (hu : Try.prog.underlying t = some (.slice et)) (h : DataW.trod enc Try.prog w base sp held fuel t [u] = some x) : ∃ A n c, u = .slice A n c := by
  rcases DataW.trod_slice hu h with ⟨hcs, _⟩ | ⟨a, len, cap, elems, rest, m, _, hcs, _⟩
  · exact ⟨none, 0, 0, by simpa using hcs⟩
  · exact ⟨some a, len, cap, by simpa using hcs⟩

theorem open_sta {H : Type} {enc : TypeId × Value → H} {W W0 : World} {r : Reach} {b0 base : Nat} {held : Bool} {v : Value} {d : DataW H} {ps : List MemPlace}
    (hval : Value.okWide Try.prog W0 r b0 25 v) (hd : DataW.Trod enc Try.prog W base (fun _ => true) held 25 v d ps) :
    ∃ (A : Option Addr) (n c : Nat) (l : List Smp) (B : Option Addr) (m e : Nat) (h : List Hnt) (x : Int), v = .agg #[.slice A n c, .slice B m e, .int .i64 x] ∧ l.length = n ∧ n ≤ maxLen ∧ Rd eL W W.heap.size A l ∧ h.length = m ∧ m ≤ maxLen ∧ Rd eM W W.heap.size B h := by
  obtain ⟨cs, rfl, hn⟩ := okWide_struct Try.underlying25 hval
  obtain ⟨fuel, hf⟩ := hd
  obtain ⟨xs, n, _, _, hl, hlen, hel⟩ := DataW.trod_struct Try.underlying25 hf
  have c3 : Try.prog.cellsOf 25 = 3 := by kernel_rfl
  have c1 : Try.prog.cellsOf 2 = 1 := by kernel_rfl
  have cS : Try.prog.cellsOf 22 = 1 := by kernel_rfl
  have cH : Try.prog.cellsOf 23 = 1 := by kernel_rfl
  rw [c3] at hn
  obtain ⟨a, b, c, rfl⟩ := three_of hn
  have hx : xs.length = 3 := by rw [hlen]; rfl
  have h0 : DataW.trod enc Try.prog W base (fun _ => true) held n 22 [a] = xs[0]? := by simpa [Value.cells, c1, cS, cH] using hel 0 _ rfl
  have h1 : DataW.trod enc Try.prog W base (fun _ => true) held n 23 [b] = xs[1]? := by simpa [Value.cells, c1, cS, cH] using hel 1 _ rfl
  have h2 : DataW.trod enc Try.prog W base (fun _ => true) held n 2 [c] = xs[2]? := by simpa [Value.cells, c1, cS, cH] using hel 2 _ rfl
  rw [List.getElem?_eq_getElem (by omega)] at h0 h1 h2
  obtain ⟨A, n0, c0, rfl⟩ := slice_trod Try.underlying22 h0
  obtain ⟨B, m0, e0, rfl⟩ := slice_trod Try.underlying23 h1
  obtain ⟨k, hk, _⟩ := DataW.trod_int Try.underlying2 h2
  obtain rfl : c = .int .i64 k := by simpa using hk
  obtain ⟨l, hll, hlm, hlr⟩ := open_smps (d := (xs[0]'(by omega)).1) (p := (xs[0]'(by omega)).2) (c := c0) ⟨n, by simpa [Value.cells] using h0⟩
  obtain ⟨h, hhl, hhm, hhr⟩ := open_hnts (d := (xs[1]'(by omega)).1) (p := (xs[1]'(by omega)).2) (c := e0) ⟨n, by simpa [Value.cells] using h1⟩
  exact ⟨A, n0, c0, l, B, m0, e0, h, k, rfl, hll, hlm, hlr, hhl, hhm, hhr⟩
end Go.Proofs.Yteiclanlhnccnaa
