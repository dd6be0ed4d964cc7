/-
  A row of hints that came in.
-/
import Derived.Test.YteiclanlhnccnaaDoorOpenL
import Derived.Test.YteiclanlhnccnaaDoorHnts
namespace Go.Proofs.YteiclanlhnccnaaDoor
set_option maxRecDepth 20000
open Go.ChangeShapes Go.WideShapes Go.ChangeAt Go.RowKit

theorem hnt_cells {H : Type} {enc : TypeId × Value → H} {w : World} {base fuel : Nat} {sp : Nat → Bool} {held : Bool} {cs : List Value} {x : DataW H × List MemPlace} (h : DataW.trod enc Tryd.prog w base sp held fuel 122 cs = some x) : ∃ y : Hnt, cs = hntCells y := by
  obtain ⟨xs, n, _, rfl, hl, hlen, hel⟩ := DataW.trod_struct Tryd.underlying122 h
  have c7 : Tryd.prog.cellsOf 122 = 7 := by kernel_rfl
  have c4 : Tryd.prog.cellsOf 23 = 4 := by kernel_rfl
  have c1 : Tryd.prog.cellsOf 2 = 1 := by kernel_rfl
  rw [c7] at hl
  match cs, hl with
  | [u0, u1, u2, u3, u4, u5, u6], _ =>
    have hx : xs.length = 4 := by rw [hlen]; rfl
    have one : ∀ (i : Nat) (u : Value), i < 4 → DataW.trod enc Tryd.prog w base sp held n 2 [u] = xs[i]? → ∃ k, u = .int .i64 k := fun i u hi he => by
      rw [List.getElem?_eq_getElem (by omega)] at he
      obtain ⟨k, hk, _⟩ := DataW.trod_int Tryd.underlying2 he
      exact ⟨k, by simpa using hk⟩
    obtain ⟨k0, rfl⟩ := one 0 u0 (by omega) (by simpa [c1, c4] using hel 0 _ rfl)
    have h1 : DataW.trod enc Tryd.prog w base sp held n 23 [u1, u2, u3, u4] = xs[1]? := by simpa [c1, c4] using hel 1 _ rfl
    rw [List.getElem?_eq_getElem (by omega)] at h1
    obtain ⟨⟨k1, k2, k3, k4⟩, hs⟩ := smp_cells h1
    simp only [smpCells, List.cons.injEq, and_true] at hs
    obtain ⟨rfl, rfl, rfl, rfl⟩ := hs
    obtain ⟨k5, rfl⟩ := one 2 u5 (by omega) (by simpa [c1, c4] using hel 2 _ rfl)
    obtain ⟨k6, rfl⟩ := one 3 u6 (by omega) (by simpa [c1, c4] using hel 3 _ rfl)
    exact ⟨(k0, (k1, k2, k3, k4), k5, k6), rfl⟩

theorem open_hnts {H : Type} {enc : TypeId × Value → H} {W : World} {base : Nat} {held : Bool} {A : Option Addr} {n c : Nat} {d : DataW H} {p : List MemPlace} (h : DataW.Trod enc Tryd.prog W base (fun _ => true) held 46 (.slice A n c) d p) :
    ∃ l : List Hnt, l.length = n ∧ n ≤ maxLen ∧ Rd eM W W.heap.size A l := by
  obtain ⟨fuel, hf⟩ := h
  rcases DataW.trod_slice Tryd.underlying46 hf with ⟨hcs, _⟩ | ⟨a, len, cap, elems, rest, m, _, hcs, _, _, hlc, hcm, hel, hat, _⟩
  · simp [Value.cells] at hcs
    obtain ⟨rfl, rfl, rfl⟩ := hcs
    exact ⟨[], rfl, by unfold maxLen; omega, Rd.nil⟩
  · simp [Value.cells] at hcs
    obtain ⟨rfl, rfl, rfl⟩ := hcs
    have c7 : Tryd.prog.cellsOf 122 = 7 := by kernel_rfl
    obtain ⟨l, hl, hp⟩ := list_of (fun i (y : Hnt) => W.cells? base (a.add (i * 7)) 7 = some (hntCells y)) n (fun i hi => by
      have h1 := hat i hi
      rw [c7, List.getElem?_eq_getElem (by omega)] at h1
      obtain ⟨cs, hc, ht⟩ := Option.bind_eq_some_iff.1 h1
      obtain ⟨y, rfl⟩ := hnt_cells ht
      exact ⟨y, hc⟩)
    refine ⟨l, hl, Nat.le_trans hlc hcm, fun hne => ?_⟩
    obtain ⟨y, hy⟩ : ∃ y, l[0]? = some y := ⟨l[0]'(by cases l with | nil => exact absurd rfl hne | cons _ _ => simp), List.getElem?_eq_getElem _⟩
    have h0 := hp 0 y hy
    obtain ⟨_, hlen0, hc0⟩ := World.cells?_some h0
    obtain ⟨b, off, spot⟩ := a
    have z : W.cell? (((⟨b, off, spot⟩ : Addr).add (0 * 7)).add 0) = some (.int .i64 y.1) := hc0 0 (by omega)
    have hspot : spot = none := by simpa [Addr.add] using World.cell?_spot z
    subst hspot
    have hb : b < W.heap.size := by
      have := World.block_lt_of_cell? W _ z
      rw [addr_add, addr_add] at this
      exact this
    refine ⟨b, off, rfl, hb, fun k j y u hk hu => ?_⟩
    obtain ⟨_, _, hc⟩ := World.cells?_some (hp k y hk)
    have hj : j < 7 := getElem?_some_lt hu
    have h1 := hc j hj
    rw [addr_add, addr_add] at h1
    exact h1.trans hu
end Go.Proofs.YteiclanlhnccnaaDoor
