/-
  A map's store and delete at one operation.
-/
import Derived.Test.YteiclanlhnccnaaDoorMix
namespace Go.Proofs.YteiclanlhnccnaaDoor
set_option maxRecDepth 20000
open Go.RowKit

theorem wp_mapPut' {P : Program} {o : Oper} {a : Act} {w w' : World} {K : Act → World → Prop} {Q : Exit → Act → World → Prop} (m k v : Operand) (t : TypeId) (hop : o.op = Op.mapUpdate t m k v) {mv kv vv : Value} (hm : a.eval m = mv) (hk : a.eval k = kv) (hv : a.eval v = vv)
    (hrun : (Instr.mapUpdate t mv kv vv).run P w = .ok () w') (h : K (a.put o.dst undef) w') : o.wp P a w K Q := by
  unfold Oper.wp
  simp [execOp, hop, hm, hk, hv, hrun, Result.andThen]
  exact h
theorem wp_mapDrop {P : Program} {o : Oper} {a : Act} {w w' : World} {K : Act → World → Prop} {Q : Exit → Act → World → Prop} (m k : Operand) (t kt : TypeId) (hop : o.op = .call { callee := .builtin .delete, args := #[m, k], argTypes := #[t, kt] }) {mv kv : Value} (hm : a.eval m = mv) (hk : a.eval k = kv)
    (hrun : (Builtin.delete_ #[t, kt] o.type #[mv, kv]).run P w = .ok (.tuple #[]) w') (h : K (a.put o.dst (.tuple #[])) w') : o.wp P a w K Q := by
  unfold Oper.wp execOp
  simp only [hop, resolve, invoke, builtin, Sem.run_bind, Sem.run_pure, Result.andThen_ok, List.map_toArray, List.map_cons, List.map_nil, hm, hk, hrun]
  exact h
end Go.Proofs.YteiclanlhnccnaaDoor
