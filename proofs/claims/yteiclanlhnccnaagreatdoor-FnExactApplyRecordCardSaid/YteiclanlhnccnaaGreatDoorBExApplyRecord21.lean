/-
  Texts of one proof, joined: each has its own namespace.
-/
import Derived.Test.YteiclanlhnccnaaGreatDoorBExApplyRecord1
import Derived.Test.YteiclanlhnccnaaGreatDoorBExApplyRecord2
import Derived.Test.YteiclanlhnccnaaGreatDoorBExApplyRecord20
/-
  A row of samples that came in.
-/
namespace Go.Proofs.YteiclanlhnccnaaGreatDoor
set_option maxRecDepth 20000
open Go.ChangeShapes Go.WideShapes Go.ChangeAt Go.RowKit

theorem list_of {α : Type} (P : Nat → α → Prop) : ∀ n : Nat, (∀ i, i < n → ∃ x, P i x) → ∃ l : List α, l.length = n ∧ ∀ i x, l[i]? = some x → P i x
  | 0, _ => ⟨[], rfl, fun i x h => by simp at h⟩
  | n + 1, h => by
    obtain ⟨l, hl, hp⟩ := list_of P n (fun i hi => h i (by omega))
    obtain ⟨x, hx⟩ := h n (by omega)
    refine ⟨l ++ [x], by simp [hl], fun i y hy => ?_⟩
    rcases Nat.lt_or_ge i n with h1 | h1
    · rw [List.getElem?_append_left (by omega)] at hy
      exact hp i y hy
    · have hi := getElem?_some_lt hy
      rw [List.length_append, hl, List.length_singleton] at hi
      obtain rfl : i = n := by omega
      rw [List.getElem?_append_right (by omega), hl, Nat.sub_self] at hy
      simp at hy
      subst hy
      exact hx

theorem smp_cells {H : Type} {enc : TypeId × Value → H} {w : World} {base fuel : Nat} {sp : Nat → Bool} {held : Bool} {cs : List Value} {x : DataW H × List MemPlace} (h : DataW.trod enc Tryz.prog w base sp held fuel 61 cs = some x) : ∃ y : Smp, cs = smpCells y := by
  obtain ⟨xs, n, _, rfl, hl, hlen, hel⟩ := DataW.trod_struct Tryz.underlying61 h
  have c4 : Tryz.prog.cellsOf 61 = 4 := by kernel_rfl
  have c1 : Tryz.prog.cellsOf 2 = 1 := by kernel_rfl
  rw [c4] at hl
  match cs, hl with
  | [u0, u1, u2, u3], _ =>
    have hx : xs.length = 4 := by rw [hlen]; rfl
    have one : ∀ (i : Nat) (u : Value), i < 4 → DataW.trod enc Tryz.prog w base sp held n 2 [u] = xs[i]? → ∃ k, u = .int .i64 k := fun i u hi he => by
      rw [List.getElem?_eq_getElem (by omega)] at he
      obtain ⟨k, hk, _⟩ := DataW.trod_int Tryz.underlying2 he
      exact ⟨k, by simpa using hk⟩
    obtain ⟨k0, rfl⟩ := one 0 u0 (by omega) (by simpa [c1] using hel 0 _ rfl)
    obtain ⟨k1, rfl⟩ := one 1 u1 (by omega) (by simpa [c1] using hel 1 _ rfl)
    obtain ⟨k2, rfl⟩ := one 2 u2 (by omega) (by simpa [c1] using hel 2 _ rfl)
    obtain ⟨k3, rfl⟩ := one 3 u3 (by omega) (by simpa [c1] using hel 3 _ rfl)
    exact ⟨(k0, k1, k2, k3), rfl⟩

theorem open_smps {H : Type} {enc : TypeId × Value → H} {W : World} {base : Nat} {held : Bool} {A : Option Addr} {n c : Nat} {d : DataW H} {p : List MemPlace} (h : DataW.Trod enc Tryz.prog W base (fun _ => true) held 57 (.slice A n c) d p) :
    ∃ l : List Smp, l.length = n ∧ n ≤ maxLen ∧ Rd eL W W.heap.size A l := by
  obtain ⟨fuel, hf⟩ := h
  rcases DataW.trod_slice Tryz.underlying57 hf with ⟨hcs, _⟩ | ⟨a, len, cap, elems, rest, m, _, hcs, _, _, hlc, hcm, hel, hat, _⟩
  · simp [Value.cells] at hcs
    obtain ⟨rfl, rfl, rfl⟩ := hcs
    exact ⟨[], rfl, by unfold maxLen; omega, Rd.nil⟩
  · simp [Value.cells] at hcs
    obtain ⟨rfl, rfl, rfl⟩ := hcs
    have c4 : Tryz.prog.cellsOf 61 = 4 := by kernel_rfl
    obtain ⟨l, hl, hp⟩ := list_of (fun i (y : Smp) => W.cells? base (a.add (i * 4)) 4 = some (smpCells y)) n (fun i hi => by
      have h1 := hat i hi
      rw [c4, List.getElem?_eq_getElem (by omega)] at h1
      obtain ⟨cs, hc, ht⟩ := Option.bind_eq_some_iff.1 h1
      obtain ⟨y, rfl⟩ := smp_cells ht
      exact ⟨y, hc⟩)
    refine ⟨l, hl, Nat.le_trans hlc hcm, fun hne => ?_⟩
    obtain ⟨y, hy⟩ : ∃ y, l[0]? = some y := ⟨l[0]'(by cases l with | nil => exact absurd rfl hne | cons _ _ => simp), List.getElem?_eq_getElem _⟩
    have h0 := hp 0 y hy
    obtain ⟨_, hlen0, hc0⟩ := World.cells?_some h0
    obtain ⟨b, off, spot⟩ := a
    have z : W.cell? (((⟨b, off, spot⟩ : Addr).add (0 * 4)).add 0) = some (.int .i64 y.1) := hc0 0 (by omega)
    have hspot : spot = none := by simpa [Addr.add] using World.cell?_spot z
    subst hspot
    have hb : b < W.heap.size := by
      have := World.block_lt_of_cell? W _ z
      rw [addr_add, addr_add] at this
      exact this
    refine ⟨b, off, rfl, hb, fun k j y u hk hu => ?_⟩
    obtain ⟨_, _, hc⟩ := World.cells?_some (hp k y hk)
    have hj : j < 4 := getElem?_some_lt hu
    have h1 := hc j hj
    rw [addr_add, addr_add] at h1
    exact h1.trans hu
end Go.Proofs.YteiclanlhnccnaaGreatDoor
/-
  A row of hints that came in.
-/
namespace Go.Proofs.YteiclanlhnccnaaGreatDoor
set_option maxRecDepth 20000
open Go.ChangeShapes Go.WideShapes Go.ChangeAt Go.RowKit

theorem hnt_cells {H : Type} {enc : TypeId × Value → H} {w : World} {base fuel : Nat} {sp : Nat → Bool} {held : Bool} {cs : List Value} {x : DataW H × List MemPlace} (h : DataW.trod enc Tryz.prog w base sp held fuel 196 cs = some x) : ∃ y : Hnt, cs = hntCells y := by
  obtain ⟨xs, n, _, rfl, hl, hlen, hel⟩ := DataW.trod_struct Tryz.underlying196 h
  have c7 : Tryz.prog.cellsOf 196 = 7 := by kernel_rfl
  have c4 : Tryz.prog.cellsOf 61 = 4 := by kernel_rfl
  have c1 : Tryz.prog.cellsOf 2 = 1 := by kernel_rfl
  rw [c7] at hl
  match cs, hl with
  | [u0, u1, u2, u3, u4, u5, u6], _ =>
    have hx : xs.length = 4 := by rw [hlen]; rfl
    have one : ∀ (i : Nat) (u : Value), i < 4 → DataW.trod enc Tryz.prog w base sp held n 2 [u] = xs[i]? → ∃ k, u = .int .i64 k := fun i u hi he => by
      rw [List.getElem?_eq_getElem (by omega)] at he
      obtain ⟨k, hk, _⟩ := DataW.trod_int Tryz.underlying2 he
      exact ⟨k, by simpa using hk⟩
    obtain ⟨k0, rfl⟩ := one 0 u0 (by omega) (by simpa [c1, c4] using hel 0 _ rfl)
    have h1 : DataW.trod enc Tryz.prog w base sp held n 61 [u1, u2, u3, u4] = xs[1]? := by simpa [c1, c4] using hel 1 _ rfl
    rw [List.getElem?_eq_getElem (by omega)] at h1
    obtain ⟨⟨k1, k2, k3, k4⟩, hs⟩ := smp_cells h1
    simp only [smpCells, List.cons.injEq, and_true] at hs
    obtain ⟨rfl, rfl, rfl, rfl⟩ := hs
    obtain ⟨k5, rfl⟩ := one 2 u5 (by omega) (by simpa [c1, c4] using hel 2 _ rfl)
    obtain ⟨k6, rfl⟩ := one 3 u6 (by omega) (by simpa [c1, c4] using hel 3 _ rfl)
    exact ⟨(k0, (k1, k2, k3, k4), k5, k6), rfl⟩

theorem open_hnts {H : Type} {enc : TypeId × Value → H} {W : World} {base : Nat} {held : Bool} {A : Option Addr} {n c : Nat} {d : DataW H} {p : List MemPlace} (h : DataW.Trod enc Tryz.prog W base (fun _ => true) held 58 (.slice A n c) d p) :
    ∃ l : List Hnt, l.length = n ∧ n ≤ maxLen ∧ Rd eM W W.heap.size A l := by
  obtain ⟨fuel, hf⟩ := h
  rcases DataW.trod_slice Tryz.underlying58 hf with ⟨hcs, _⟩ | ⟨a, len, cap, elems, rest, m, _, hcs, _, _, hlc, hcm, hel, hat, _⟩
  · simp [Value.cells] at hcs
    obtain ⟨rfl, rfl, rfl⟩ := hcs
    exact ⟨[], rfl, by unfold maxLen; omega, Rd.nil⟩
  · simp [Value.cells] at hcs
    obtain ⟨rfl, rfl, rfl⟩ := hcs
    have c7 : Tryz.prog.cellsOf 196 = 7 := by kernel_rfl
    obtain ⟨l, hl, hp⟩ := list_of (fun i (y : Hnt) => W.cells? base (a.add (i * 7)) 7 = some (hntCells y)) n (fun i hi => by
      have h1 := hat i hi
      rw [c7, List.getElem?_eq_getElem (by omega)] at h1
      obtain ⟨cs, hc, ht⟩ := Option.bind_eq_some_iff.1 h1
      obtain ⟨y, rfl⟩ := hnt_cells ht
      exact ⟨y, hc⟩)
    refine ⟨l, hl, Nat.le_trans hlc hcm, fun hne => ?_⟩
    obtain ⟨y, hy⟩ : ∃ y, l[0]? = some y := ⟨l[0]'(by cases l with | nil => exact absurd rfl hne | cons _ _ => simp), List.getElem?_eq_getElem _⟩
    have h0 := hp 0 y hy
    obtain ⟨_, hlen0, hc0⟩ := World.cells?_some h0
    obtain ⟨b, off, spot⟩ := a
    have z : W.cell? (((⟨b, off, spot⟩ : Addr).add (0 * 7)).add 0) = some (.int .i64 y.1) := hc0 0 (by omega)
    have hspot : spot = none := by simpa [Addr.add] using World.cell?_spot z
    subst hspot
    have hb : b < W.heap.size := by
      have := World.block_lt_of_cell? W _ z
      rw [addr_add, addr_add] at this
      exact this
    refine ⟨b, off, rfl, hb, fun k j y u hk hu => ?_⟩
    obtain ⟨_, _, hc⟩ := World.cells?_some (hp k y hk)
    have hj : j < 7 := getElem?_some_lt hu
    have h1 := hc j hj
    rw [addr_add, addr_add] at h1
    exact h1.trans hu
end Go.Proofs.YteiclanlhnccnaaGreatDoor
/-
  A record and a state that came in.
-/
namespace Go.Proofs.YteiclanlhnccnaaGreatDoor
set_option maxRecDepth 20000
open Go.ChangeShapes Go.WideShapes Go.ChangeAt Go.RowKit

theorem rcd_cells {H : Type} {enc : TypeId × Value → H} {w : World} {base fuel : Nat} {sp : Nat → Bool} {held : Bool} {cs : List Value} {x : DataW H × List MemPlace} (h : DataW.trod enc Tryz.prog w base sp held fuel 63 cs = some x) : ∃ y : Rcd, cs = rcdCells y := by
  obtain ⟨xs, n, _, rfl, hl, hlen, hel⟩ := DataW.trod_struct Tryz.underlying63 h
  have c7 : Tryz.prog.cellsOf 63 = 7 := by kernel_rfl
  have c4 : Tryz.prog.cellsOf 61 = 4 := by kernel_rfl
  have c1 : Tryz.prog.cellsOf 2 = 1 := by kernel_rfl
  rw [c7] at hl
  match cs, hl with
  | [u0, u1, u2, u3, u4, u5, u6], _ =>
    have hx : xs.length = 4 := by rw [hlen]; rfl
    have one : ∀ (i : Nat) (u : Value), i < 4 → DataW.trod enc Tryz.prog w base sp held n 2 [u] = xs[i]? → ∃ k, u = .int .i64 k := fun i u hi he => by
      rw [List.getElem?_eq_getElem (by omega)] at he
      obtain ⟨k, hk, _⟩ := DataW.trod_int Tryz.underlying2 he
      exact ⟨k, by simpa using hk⟩
    obtain ⟨k0, rfl⟩ := one 0 u0 (by omega) (by simpa [c1, c4] using hel 0 _ rfl)
    obtain ⟨k1, rfl⟩ := one 1 u1 (by omega) (by simpa [c1, c4] using hel 1 _ rfl)
    have h1 : DataW.trod enc Tryz.prog w base sp held n 61 [u2, u3, u4, u5] = xs[2]? := by simpa [c1, c4] using hel 2 _ rfl
    rw [List.getElem?_eq_getElem (by omega)] at h1
    obtain ⟨⟨k2, k3, k4, k5⟩, hs⟩ := smp_cells h1
    simp only [smpCells, List.cons.injEq, and_true] at hs
    obtain ⟨rfl, rfl, rfl, rfl⟩ := hs
    obtain ⟨k6, rfl⟩ := one 3 u6 (by omega) (by simpa [c1, c4] using hel 3 _ rfl)
    exact ⟨(k0, k1, (k2, k3, k4, k5), k6), rfl⟩

theorem open_rcd {H : Type} {enc : TypeId × Value → H} {W W0 : World} {r : Reach} {b0 base : Nat} {sp : Nat → Bool} {held : Bool} {v : Value} {d : DataW H} {ps : List MemPlace}
    (hval : Value.okWide Tryz.prog W0 r b0 63 v) (hd : DataW.Trod enc Tryz.prog W base sp held 63 v d ps) :
    ∃ a0 a1 a2 a3 a4 a5 a6 : Int, v = .agg #[.int .i64 a0, .int .i64 a1, .int .i64 a2, .int .i64 a3, .int .i64 a4, .int .i64 a5, .int .i64 a6] := by
  obtain ⟨cs, rfl, hn⟩ := okWide_struct Tryz.underlying63 hval
  obtain ⟨fuel, hf⟩ := hd
  obtain ⟨⟨a0, a1, ⟨a2, a3, a4, a5⟩, a6⟩, hy⟩ := rcd_cells hf
  obtain ⟨l⟩ := cs
  have hl : l = rcdCells (a0, a1, (a2, a3, a4, a5), a6) := by simpa [Value.cells] using hy
  subst hl
  exact ⟨a0, a1, a2, a3, a4, a5, a6, rfl⟩

theorem three_of {cs : Array Value} (h : cs.size = 3) : ∃ a b c, cs = #[a, b, c] := by
  obtain ⟨l⟩ := cs
  match l, h with
  | [a, b, c], _ => exact ⟨a, b, c, rfl⟩
theorem slice_trod {H : Type} {enc : TypeId × Value → H} {w : World} {base fuel : Nat} {sp : Nat → Bool} {held : Bool} {u : Value} {t et : TypeId} {x : DataW H × List MemPlace} (hu : Tryz.prog.underlying t = some (.slice et)) (h : DataW.trod enc Tryz.prog w base sp held fuel t [u] = some x) : ∃ A n c, u = .slice A n c := by
  rcases DataW.trod_slice hu h with ⟨hcs, _⟩ | ⟨a, len, cap, elems, rest, m, _, hcs, _⟩
  · exact ⟨none, 0, 0, by simpa using hcs⟩
  · exact ⟨some a, len, cap, by simpa using hcs⟩

theorem open_sta {H : Type} {enc : TypeId × Value → H} {W W0 : World} {r : Reach} {b0 base : Nat} {held : Bool} {v : Value} {d : DataW H} {ps : List MemPlace}
    (hval : Value.okWide Tryz.prog W0 r b0 60 v) (hd : DataW.Trod enc Tryz.prog W base (fun _ => true) held 60 v d ps) :
    ∃ (A : Option Addr) (n c : Nat) (l : List Smp) (B : Option Addr) (m e : Nat) (h : List Hnt) (x : Int), v = .agg #[.slice A n c, .slice B m e, .int .i64 x] ∧ l.length = n ∧ n ≤ maxLen ∧ Rd eL W W.heap.size A l ∧ h.length = m ∧ m ≤ maxLen ∧ Rd eM W W.heap.size B h := by
  obtain ⟨cs, rfl, hn⟩ := okWide_struct Tryz.underlying60 hval
  obtain ⟨fuel, hf⟩ := hd
  obtain ⟨xs, n, _, _, hl, hlen, hel⟩ := DataW.trod_struct Tryz.underlying60 hf
  have c3 : Tryz.prog.cellsOf 60 = 3 := by kernel_rfl
  have c1 : Tryz.prog.cellsOf 2 = 1 := by kernel_rfl
  have cS : Tryz.prog.cellsOf 57 = 1 := by kernel_rfl
  have cH : Tryz.prog.cellsOf 58 = 1 := by kernel_rfl
  rw [c3] at hn
  obtain ⟨a, b, c, rfl⟩ := three_of hn
  have hx : xs.length = 3 := by rw [hlen]; rfl
  have h0 : DataW.trod enc Tryz.prog W base (fun _ => true) held n 57 [a] = xs[0]? := by simpa [Value.cells, c1, cS, cH] using hel 0 _ rfl
  have h1 : DataW.trod enc Tryz.prog W base (fun _ => true) held n 58 [b] = xs[1]? := by simpa [Value.cells, c1, cS, cH] using hel 1 _ rfl
  have h2 : DataW.trod enc Tryz.prog W base (fun _ => true) held n 2 [c] = xs[2]? := by simpa [Value.cells, c1, cS, cH] using hel 2 _ rfl
  rw [List.getElem?_eq_getElem (by omega)] at h0 h1 h2
  obtain ⟨A, n0, c0, rfl⟩ := slice_trod Tryz.underlying57 h0
  obtain ⟨B, m0, e0, rfl⟩ := slice_trod Tryz.underlying58 h1
  obtain ⟨k, hk, _⟩ := DataW.trod_int Tryz.underlying2 h2
  obtain rfl : c = .int .i64 k := by simpa using hk
  obtain ⟨l, hll, hlm, hlr⟩ := open_smps (d := (xs[0]'(by omega)).1) (p := (xs[0]'(by omega)).2) (c := c0) ⟨n, by simpa [Value.cells] using h0⟩
  obtain ⟨h, hhl, hhm, hhr⟩ := open_hnts (d := (xs[1]'(by omega)).1) (p := (xs[1]'(by omega)).2) (c := e0) ⟨n, by simpa [Value.cells] using h1⟩
  exact ⟨A, n0, c0, l, B, m0, e0, h, k, rfl, hll, hlm, hlr, hhl, hhm, hhr⟩
end Go.Proofs.YteiclanlhnccnaaGreatDoor
