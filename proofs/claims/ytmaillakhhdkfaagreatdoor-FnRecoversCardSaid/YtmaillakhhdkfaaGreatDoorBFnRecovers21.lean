/-
  Texts of one proof, joined: each has its own namespace.
-/
import Derived.Test.YtmaillakhhdkfaaGreatDoorBFnRecovers8
import Derived.Test.YtmaillakhhdkfaaGreatDoorBFnRecovers20
import Derived.Stop.LaidErr
/-
  Two named variables of the program, its table of fields and its sentinel: what start-up laid gives the walks' words; how they are opened and shut.
-/
namespace Go.Proofs.YtmaillakhhdkfaaGreatDoor
set_option maxRecDepth 20000
open Go.ChangeShapes Go.WideShapes Go.ChangeAt Go.RowKit

def errName : String := "loop.example/g00791/impl.errNotApplied"
theorem gE : Tryz.prog.globalNamed errName = some 0 := by kernel_rfl
theorem tE : (Tryz.prog.globals[0]?).map (·.type) = some 111 := by kernel_rfl
def laidE : List (String × DataW Unit) := [(fldName, Rows.laid_loop_example_g00791_impl_sampleFields), (errName, Rows.laid_loop_example_g00791_impl_errNotApplied)]
theorem starE : "*" ++ "errors.errorString" = "*errors.errorString" := by decide
theorem rowE (u : TypeId) (h : Tryz.prog.typeName? 3 u = some "*errors.errorString") : u = 276 :=
  typeName_ptr_named (nm := "errors.errorString") (by rw [starE]; kernel_rfl) (by kernel_rfl) (by decide) u (by rw [starE]; exact h)
theorem cellsE : Tryz.prog.cellsOf 300 = 1 := by kernel_rfl
theorem cellsStr : Tryz.prog.cellsOf 9 = 1 := by kernel_rfl

theorem of_laidE {W : World} (h : laidMetH Tryz.prog laidE W) : (∃ cs : Array Value, W.var? Tryz.prog fldName = some cs ∧ cs.toList = fldCells) ∧ ∃ a : Addr, W.var? Tryz.prog errName = some #[.iface 276 (.pointer (some a))] := by
  rw [MakeChecks.laidMetH_plain _ _ _ (by kernel_rfl)] at h
  have hE : laidMet Tryz.prog [(errName, Rows.laid_loop_example_g00791_impl_errNotApplied)] W := laidMet.tail h
  have h1 : laidMetH Tryz.prog laidF W := by
    rw [MakeChecks.laidMetH_plain _ _ _ (by kernel_rfl)]
    obtain ⟨ps, ⟨g0, t0, cs0, f0, p0, q0, hg0, ht0, hv0, hd0, hq0, e0⟩, hnd, hrows⟩ := h
    subst e0
    exact ⟨_, ⟨g0, t0, cs0, f0, p0, [], hg0, ht0, hv0, hd0, rfl, rfl⟩, List.Nodup.sublist (by simp) hnd, fun b off hm => hrows b off (by
      rw [List.append_nil] at hm
      exact List.mem_append_left _ hm)⟩
  refine ⟨of_laid h1, ?_⟩
  obtain ⟨a, s, hv, _⟩ := laid_sentinel hE gE tE Tryz.underlying111 rowE Tryz.underlying276 Tryz.underlying300 rfl rfl Tryz.underlying9 cellsE cellsStr
  exact ⟨a, hv⟩
theorem sent_of_var {W : World} {a : Addr} (h : W.var? Tryz.prog errName = some #[.iface 276 (.pointer (some a))]) : Sent W a := by
  unfold Sent
  rw [World.var?_cell gE h 0]
  rfl

/-- The door's own heap meets the condition. -/
theorem door_metE (os : Os) (args : Array Value) : laidMetH Tryz.prog laidE ((World.doorLaid Tryz.prog 37 os).forCall (fun _ _ => 0) ⟨#[], args, []⟩).memory :=
  laidMetH_of_parts3 (fuel := 8) (laidMet_of_run' 8 (by kernel_rfl) (by kernel_rfl)) (by kernel_rfl) (by kernel_rfl)

/-- The variables, opened and shut: they read behind the call as they read ahead of it. -/
theorem vars_stayE {H : Type} {enc : TypeId × Value → H} {W : World} {gs : List (DataW H)} {q : List MemPlace} {a : Addr} (hv : W.var? Tryz.prog errName = some #[.iface 276 (.pointer (some a))]) (hV : DataW.TrodVars enc Tryz.prog W (fun _ => true) [errName, fldName] gs q) :
    ∃ d0 d1, gs = [d0, d1] ∧ ∀ W', Below W.heap.size W W' → DataW.TrodVars enc Tryz.prog W' (fun b => decide (b < W.heap.size)) [errName, fldName] [d0, d1] q := by
  cases gs with
  | nil => simp [DataW.TrodVars] at hV
  | cons d0 ds =>
    obtain ⟨g, t, cs, fuel, p, q', h1, h2, h3, h4, hs, e⟩ := hV
    obtain ⟨d1, rfl, hrest⟩ := vars_stay hs
    obtain rfl := Option.some.inj (gE.symm.trans h1)
    obtain rfl := Option.some.inj (tE.symm.trans h2)
    obtain rfl := Option.some.inj (h3.symm.trans hv)
    obtain ⟨-, hy⟩ := held_of_trod Tryz.underlying111 h4
    obtain ⟨rfl, rfl⟩ := Prod.mk.inj hy
    refine ⟨_, d1, rfl, fun W' bel => ?_⟩
    have hlt : 0 < W.heap.size := (sent_of_var hv).pos
    exact ⟨_, _, _, 1, [], q', gE, tE, var_below hv gE bel hlt, trod_held Tryz.underlying111 (show IsIface (.iface 276 (.pointer (some a))) from by first | exact trivial | simp [IsIface]) 0, hrest W' bel, e⟩
end Go.Proofs.YtmaillakhhdkfaaGreatDoor
