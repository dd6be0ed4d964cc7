/-
  Texts of one proof, joined: each has its own namespace.
-/
import Derived.Test.YtmaillakhhdkfaaGreatDoorBFnRecovers5
import Derived.Test.YtmaillakhhdkfaaGreatDoorBFnRecovers2
import Derived.Test.YtmaillakhhdkfaaGreatDoorTie
import Derived.LaidMore
import Derived.OpenShut
import Derived.ChangeVars
import Derived.SevenTiedAt
import Derived.Test.YtmaillakhhdkfaaGreatDoorBFnRecovers7
/-
  The program's table of fields: what start-up laid gives the walks' word; how a named variable is opened and shut.
-/
namespace Go.Proofs.YtmaillakhhdkfaaGreatDoor
set_option maxRecDepth 20000
open Go.ChangeShapes Go.WideShapes Go.ChangeAt Go.RowKit

def fldName : String := "loop.example/g00791/impl.sampleFields"
theorem gF : Tryz.prog.globalNamed fldName = some 1 := by kernel_rfl
theorem tF : (Tryz.prog.globals[1]?).map (·.type) = some 155 := by kernel_rfl
def laidF : List (String × DataW Unit) := [(fldName, Rows.laid_loop_example_g00791_impl_sampleFields)]

theorem var_below {P : Program} {w w' : World} {n : String} {g B : Nat} {cs : Array Value} (h : w.var? P n = some cs) (hg : P.globalNamed n = some g) (hb : Below B w w') (hlt : g < B) : w'.var? P n = some cs := by
  simp only [World.var?, hg, Option.bind_some] at h ⊢
  rw [hb.block g hlt]
  exact h

theorem int_cell {H : Type} {enc : TypeId × Value → H} {w : World} {base fuel : Nat} {sp : Nat → Bool} {held : Bool} {u : Value} {x : DataW H × List MemPlace} {n : Int} (h : DataW.trod enc Tryz.prog w base sp held fuel 2 [u] = some x) (hx : x.1 = .lit (.int .i64 n)) : u = .int .i64 n := by
  obtain ⟨k, hk, hx', _⟩ := DataW.trod_int Tryz.underlying2 h
  subst hx'
  simp only [DataW.lit.injEq, Lit.int.injEq, true_and] at hx
  subst hx
  simpa using hk

theorem four_list {l : List Value} (h : l.length = 4) : ∃ a b c d, l = [a, b, c, d] := by
  match l, h with
  | [a, b, c, d], _ => exact ⟨a, b, c, d, rfl⟩

theorem field_cells {H : Type} {enc : TypeId × Value → H} {w : World} {base fuel : Nat} {sp : Nat → Bool} {held : Bool} {cs : List Value} {x : DataW H × List MemPlace} {a b c d : Int} (h : DataW.trod enc Tryz.prog w base sp held fuel 154 cs = some x)
    (hx : x.1 = .agg [.lit (.int .i64 a), .lit (.int .i64 b), .lit (.int .i64 c), .lit (.int .i64 d)]) : cs = [.int .i64 a, .int .i64 b, .int .i64 c, .int .i64 d] := by
  obtain ⟨xs, n, _, rfl, hl, hlen, hel⟩ := DataW.trod_struct Tryz.underlying154 h
  have c4 : Tryz.prog.cellsOf 154 = 4 := by kernel_rfl
  have c1 : Tryz.prog.cellsOf 2 = 1 := by kernel_rfl
  rw [c4] at hl
  obtain ⟨u0, u1, u2, u3, rfl⟩ := four_list hl
  match xs, hlen, hx with
  | [x0, x1, x2, x3], _, hx =>
    simp only [List.map_cons, List.map_nil, DataW.agg.injEq, List.cons.injEq, and_true] at hx
    obtain ⟨h0, h1, h2, h3⟩ := hx
    obtain rfl := int_cell (u := u0) (by simpa [c1] using hel 0 _ rfl) h0
    obtain rfl := int_cell (u := u1) (by simpa [c1] using hel 1 _ rfl) h1
    obtain rfl := int_cell (u := u2) (by simpa [c1] using hel 2 _ rfl) h2
    obtain rfl := int_cell (u := u3) (by simpa [c1] using hel 3 _ rfl) h3
    rfl

theorem of_laid {W : World} (h : laidMetH Tryz.prog laidF W) : ∃ cs : Array Value, W.var? Tryz.prog fldName = some cs ∧ cs.toList = fldCells := by
  rw [MakeChecks.laidMetH_plain _ _ _ (by kernel_rfl)] at h
  obtain ⟨ps, ⟨g0, t0, cs0, f0, p0, q0, hg0, ht0, hv0, hd0, _⟩, _⟩ := h
  obtain rfl := Option.some.inj (gF.symm.trans hg0)
  obtain rfl := Option.some.inj (tF.symm.trans ht0)
  refine ⟨cs0, hv0, ?_⟩
  obtain ⟨xs, m, _, hx, hl, hn, hel⟩ := DataW.trod_array Tryz.underlying155 hd0
  have c16 : Tryz.prog.cellsOf 155 = 16 := by kernel_rfl
  have c4 : Tryz.prog.cellsOf 154 = 4 := by kernel_rfl
  rw [c16] at hl
  rw [c4] at hel
  generalize cs0.toList = l at *
  match xs, hn, hx with
  | [x0, x1, x2, x3], _, hx =>
    simp only [Prod.mk.injEq, Rows.laid_loop_example_g00791_impl_sampleFields, List.map_cons, List.map_nil, DataW.agg.injEq, List.cons.injEq, and_true] at hx
    obtain ⟨⟨h0, h1, h2, h3⟩, _⟩ := hx
    have e0 := field_cells (hel 0 (by decide)) h0.symm
    have e1 := field_cells (hel 1 (by decide)) h1.symm
    have e2 := field_cells (hel 2 (by decide)) h2.symm
    have e3 := field_cells (hel 3 (by decide)) h3.symm
    have b1 : l.drop (1 * 4) = (l.drop (1 * 4)).take 4 ++ l.drop (2 * 4) := by
      have := (List.take_append_drop 4 (l.drop (1 * 4))).symm
      rwa [List.drop_drop] at this
    have b2 : l.drop (2 * 4) = (l.drop (2 * 4)).take 4 ++ l.drop (3 * 4) := by
      have := (List.take_append_drop 4 (l.drop (2 * 4))).symm
      rwa [List.drop_drop] at this
    have b3 : (l.drop (3 * 4)).take 4 = l.drop (3 * 4) := List.take_of_length_le (by simp [hl])
    have hs : l = (l.drop (0 * 4)).take 4 ++ ((l.drop (1 * 4)).take 4 ++ ((l.drop (2 * 4)).take 4 ++ (l.drop (3 * 4)).take 4)) := by
      rw [b3, ← b2, ← b1]
      exact (List.take_append_drop 4 l).symm
    rw [hs, e0, e1, e2, e3]
    rfl

theorem flds_of_var {W : World} {cs : Array Value} (h : W.var? Tryz.prog fldName = some cs) (hc : cs.toList = fldCells) : Flds W := fun i u hu => by
  rw [World.var?_cell gF h i, ← Array.getElem?_toList, hc]
  exact hu

/-- The variable, opened and shut: it reads behind the call as it read ahead of it. -/
theorem vars_stay {H : Type} {enc : TypeId × Value → H} {W : World} {gs : List (DataW H)} {q : List MemPlace} (hV : DataW.TrodVars enc Tryz.prog W (fun _ => true) [fldName] gs q) :
    ∃ d, gs = [d] ∧ ∀ W', Below W.heap.size W W' → DataW.TrodVars enc Tryz.prog W' (fun b => decide (b < W.heap.size)) [fldName] [d] q := by
  obtain ⟨g, t, cs, fuel, d, p', rfl, hg, ht, hvar, hd, rfl⟩ := trodVars_one hV
  obtain rfl := Option.some.inj (gF.symm.trans hg)
  obtain rfl := Option.some.inj (tF.symm.trans ht)
  have hlt : 1 < W.heap.size := by
    simp only [World.var?, hg, Option.bind_some] at hvar
    rcases Nat.lt_or_ge 1 W.heap.size with h0 | h0
    · exact h0
    · rw [Array.getElem?_eq_none (by omega)] at hvar
      cases hvar
  refine ⟨d, rfl, fun W' bel => ?_⟩
  have hT : DataW.Trod enc Tryz.prog W 0 (fun _ => true) true 155 (.agg cs) d p' := ⟨fuel, by simpa [Value.cells] using hd⟩
  obtain ⟨f2, h2⟩ := Below.trod laidOut (by kernel_rfl) (of_decide_eq_true (by kernel_rfl)) hT bel (DataW.trod_lt fuel _ _ _ hd)
  exact trodVars_mk1 gF tF (var_below hvar gF bel hlt) (by simpa [Value.cells] using h2)
end Go.Proofs.YtmaillakhhdkfaaGreatDoor
