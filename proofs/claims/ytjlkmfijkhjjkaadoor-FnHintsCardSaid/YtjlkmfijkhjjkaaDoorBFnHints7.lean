/-
  Texts of one proof, joined: each has its own namespace.
-/
import Derived.Test.YtjlkmfijkhjjkaaDoorBFnHints0
import Derived.Test.YtjlkmfijkhjjkaaDoorBFnHints6
import Derived.Test.YtjlkmfijkhjjkaaDoorBFnHints3
import Derived.Test.YtjlkmfijkhjjkaaDoorBFnHints4
/-
  A map's store and delete at one operation.
-/
namespace Go.Proofs.YtjlkmfijkhjjkaaDoor
set_option maxRecDepth 20000
open Go.RowKit

theorem wp_mapPut' {P : Program} {o : Oper} {a : Act} {w w' : World} {K : Act → World → Prop} {Q : Exit → Act → World → Prop} (m k v : Operand) (t : TypeId) (hop : o.op = Op.mapUpdate t m k v) {mv kv vv : Value} (hm : a.eval m = mv) (hk : a.eval k = kv) (hv : a.eval v = vv)
    (hrun : (Instr.mapUpdate t mv kv vv).run P w = .ok () w') (h : K (a.put o.dst undef) w') : o.wp P a w K Q := by
  unfold Oper.wp
  simp [execOp, hop, hm, hk, hv, hrun, Result.andThen]
  exact h
theorem wp_mapDrop {P : Program} {o : Oper} {a : Act} {w w' : World} {K : Act → World → Prop} {Q : Exit → Act → World → Prop} (m k : Operand) (t kt : TypeId) (hop : o.op = .call { callee := .builtin .delete, args := #[m, k], argTypes := #[t, kt] }) {mv kv : Value} (hm : a.eval m = mv) (hk : a.eval k = kv)
    (hrun : (Builtin.delete_ #[t, kt] o.type #[mv, kv]).run P w = .ok (.tuple #[]) w') (h : K (a.put o.dst (.tuple #[])) w') : o.wp P a w K Q := by
  unfold Oper.wp execOp
  simp only [hop, resolve, invoke, builtin, Sem.run_bind, Sem.run_pure, Result.andThen_ok, List.map_toArray, List.map_cons, List.map_nil, hm, hk, hrun]
  exact h
end Go.Proofs.YtjlkmfijkhjjkaaDoor
/-
  The program's queue of hints: put, looked for, taken away, counted, listed.
-/
namespace Go.Proofs.YtjlkmfijkhjjkaaDoor
set_option maxRecDepth 20000
open Go.RowKit Go.Shelf
set_option linter.unusedSimpArgs false
set_option linter.unusedVariables false

theorem At.apart {w : World} {p b : Nat} {t : TypeId} {cs : Array Value} {L : List Qd} (h : At w p t cs) (k : QMap w b L) : p ≠ b := by
  rintro rfl
  obtain ⟨es, clock, hb, _⟩ := k
  rw [show w.heap[p]? = _ from h] at hb
  cases hb
theorem QMap.stored {w : World} {b : Nat} {L : List Qd} (h : QMap w b L) {p : Addr} (hp : p.block ≠ b) (u : Value) : QMap (w.setCell p u) b L :=
  h.kept (grown_setCell w p u) (fun e => hp (Option.some.inj e.symm))

/-- What is looked up, in plain words. -/
theorem lookQ (L : List Qd) (h : Hnt) (t : Int) : ∃ (q0 q1 q2 q3 q4 q5 q6 q7 : Int) (f : Bool), (∀ u b, QMap u b L → (Instr.lookup 106 (.map (some b)) (keyH h) true).run Tryd.prog u = .ok (.tuple #[.agg #[.int .i64 q0, .int .i64 q1, .int .i64 q2, .int .i64 q3, .int .i64 q4, .int .i64 q5, .int .i64 q6, .int .i64 q7], .bool f]) u) ∧
    turnQ t h L = (if f then q0 else t) ∧ ((firstQ L h).map Prod.snd).getD zeroH = (q1, (q2, q3, q4, q5), q6, q7) ∧ (firstQ L h).isSome = f := by
  rcases hf : firstQ L h with _ | ⟨q0, q1, ⟨q2, q3, q4, q5⟩, q6, q7⟩
  · refine ⟨0, 0, 0, 0, 0, 0, 0, 0, false, fun u b hu => ?_, ?_, rfl, rfl⟩
    · have := hu.look h
      rw [hf] at this
      exact this
    · unfold turnQ
      rw [hf]
      rfl
  · refine ⟨q0, q1, q2, q3, q4, q5, q6, q7, true, fun u b hu => ?_, ?_, rfl, rfl⟩
    · have := hu.look h
      rw [hf] at this
      exact this
    · unfold turnQ
      rw [hf]
      rfl

theorem qNew (w : World) : Calls Tryd.prog 68 #[] w fun e w' => e = .returned (.pointer (some ⟨w.heap.size + 1, 0, none⟩)) ∧ w' = (w.alloc (.map #[] 0)).alloc (.cells #[.int .i64 0, .map (some w.heap.size)] 108) := by
  have hmm := @run_makeMap Tryd.prog
  go_enter Tryd.func68, Tryd.ntmps68
  go_wp2
  go_ret
  exact ⟨by simp, rfl⟩

theorem qSize (p b : Nat) (t : Int) (L : List Qd) (w : World) (hp : At w p 108 #[.int .i64 t, .map (some b)]) (hm : QMap w b L) :
    Calls Tryd.prog 46 #[.pointer (some ⟨p, 0, none⟩)] w fun e w' => e = .returned (.int .i64 (L.length : Int)) ∧ w = w' := by
  obtain ⟨c0, c1, _, _⟩ := hp.two
  have hl := fun ty => hm.len ty
  go_enter Tryd.func46, Tryd.ntmps46
  go_wp2
  go_ret
  exact ⟨rfl, rfl⟩

set_option maxRecDepth 100000 in
set_option maxHeartbeats 4000000 in
theorem qPut (p b B : Nat) (t : Int) (L : List Qd) (a0 a1 a2 a3 a4 a5 a6 : Int) (w : World) (hp : At w p 108 #[.int .i64 t, .map (some b)]) (hm : QMap w b L) (hB : B ≤ p) (hBb : B ≤ b) (ht : 0 ≤ t ∧ t ≤ 1000) :
    Calls Tryd.prog 47 #[.pointer (some ⟨p, 0, none⟩), .agg #[.int .i64 a0, .int .i64 a3], .agg #[.int .i64 a0, .int .i64 a1, .int .i64 a2, .int .i64 a3, .int .i64 a4, .int .i64 a5, .int .i64 a6]] w fun e w' => e = .returned (.tuple #[]) ∧ At w' p 108 #[.int .i64 (t + 1), .map (some b)] ∧ QMap w' b (putQ t (a0, (a1, a2, a3, a4), a5, a6) L) ∧ Below B w w' := by
  obtain ⟨q0, q1, q2, q3, q4, q5, q6, q7, f, hl0, hturn, -, -⟩ := lookQ L (a0, (a1, a2, a3, a4), a5, a6) t
  have hl : ∀ u, QMap u b L → (Instr.lookup 106 (.map (some b)) (.agg #[.int .i64 a0, .int .i64 a3]) true).run Tryd.prog u = .ok (.tuple #[.agg #[.int .i64 q0, .int .i64 q1, .int .i64 q2, .int .i64 q3, .int .i64 q4, .int .i64 q5, .int .i64 q6, .int .i64 q7], .bool f]) u := fun u hu => hl0 u b hu
  clear hl0
  have hne := hp.apart hm
  have Hturn := Lib.hid hturn
  have Hset := Lib.hid (putQ_set t (a0, (a1, a2, a3, a4), a5, a6) L)
  clear hturn
  have p2 := (hp.alloc (.cells #[.int .i64 a0, .int .i64 a3] 74)).alloc (.cells #[.int .i64 a0, .int .i64 a1, .int .i64 a2, .int .i64 a3, .int .i64 a4, .int .i64 a5, .int .i64 a6] 50)
  have m2 := (hm.alloc (.cells #[.int .i64 a0, .int .i64 a3] 74)).alloc (.cells #[.int .i64 a0, .int .i64 a1, .int .i64 a2, .int .i64 a3, .int .i64 a4, .int .i64 a5, .int .i64 a6] 50)
  have k2 := (At.new w 74 #[.int .i64 a0, .int .i64 a3]).alloc (.cells #[.int .i64 a0, .int .i64 a1, .int .i64 a2, .int .i64 a3, .int .i64 a4, .int .i64 a5, .int .i64 a6] 50)
  have i2 : At ((w.alloc (.cells #[.int .i64 a0, .int .i64 a3] 74)).alloc (.cells #[.int .i64 a0, .int .i64 a1, .int .i64 a2, .int .i64 a3, .int .i64 a4, .int .i64 a5, .int .i64 a6] 50)) (w.heap.size + 1) 50 #[.int .i64 a0, .int .i64 a1, .int .i64 a2, .int .i64 a3, .int .i64 a4, .int .i64 a5, .int .i64 a6] := by
    have := At.new (w.alloc (.cells #[.int .i64 a0, .int .i64 a3] 74)) 50 #[.int .i64 a0, .int .i64 a1, .int .i64 a2, .int .i64 a3, .int .i64 a4, .int .i64 a5, .int .i64 a6]
    simpa using this
  have hB2 : Below B w ((w.alloc (.cells #[.int .i64 a0, .int .i64 a3] 74)).alloc (.cells #[.int .i64 a0, .int .i64 a1, .int .i64 a2, .int .i64 a3, .int .i64 a4, .int .i64 a5, .int .i64 a6] 50)) := ((Below.refl _ _).alloc (by have := hp.lt; omega) _).alloc (by have := hp.lt; simp; omega) _
  have lp := hp.lt
  have lm := hm.lt
  obtain ⟨c0, c1, d0, d1⟩ := p2.two
  clear hp hm
  go_enter Tryd.func47, Tryd.ntmps47
  go_wp2
  clear c0 c1 d0 d1
  refine wp_region_mix [(0, false), (1, false), (2, false), (3, false), (4, false), (5, false), (6, false), (7, false), (8, false), (9, true), (10, true), (11, false)] (fun u => (At u p 108 #[.int .i64 t, .map (some b)] ∧ At u w.heap.size 74 #[.int .i64 a0, .int .i64 a3]) ∧ QMap u b L) (by kernel_rfl) (by kernel_rfl) (fun _ _ _ _ _ h => h) ⟨⟨p2.drew, k2.drew⟩, m2.drew⟩ ?_
  simp only [mixOps, List.map_cons, List.map_nil, List.getElem?_cons_succ, List.getElem?_cons_zero, Option.getD_some]
  iterate 9 (
    refine mix_pure (v := ?_) (by rfl) (fun u hu => ?_) ?_
    rotate_left
    · obtain ⟨⟨h1, h2⟩, h3⟩ := hu
      obtain ⟨_, _, _, _⟩ := h1.two
      obtain ⟨_, _, _, _⟩ := h2.two
      have hlu := hl u h3
      go_simp
      (with_reducible rfl)
    (try simp only [Act.put, List.setIfInBounds_toArray, List.set_cons_zero, List.set_cons_succ]))
  refine mix_call (by rfl) (fun K hK => ?_)
  go_simp
  refine hK _ _ _ (fun _ h => h) ⟨⟨p2.drew.alloc _, k2.drew.alloc _⟩, m2.drew.alloc _⟩ ?_
  (try simp only [Act.put, List.setIfInBounds_toArray, List.set_cons_zero, List.set_cons_succ])
  refine mix_call (by rfl) (fun K hK => ?_)
  go_simp
  have p3 := p2.drew.alloc (.cells #[.int .i64 q0, .int .i64 q1, .int .i64 q2, .int .i64 q3, .int .i64 q4, .int .i64 q5, .int .i64 q6, .int .i64 q7] 104)
  have m3 := m2.drew.alloc (.cells #[.int .i64 q0, .int .i64 q1, .int .i64 q2, .int .i64 q3, .int .i64 q4, .int .i64 q5, .int .i64 q6, .int .i64 q7] 104)
  have k3 := k2.drew.alloc (.cells #[.int .i64 q0, .int .i64 q1, .int .i64 q2, .int .i64 q3, .int .i64 q4, .int .i64 q5, .int .i64 q6, .int .i64 q7] 104)
  have i3 := i2.drew.alloc (.cells #[.int .i64 q0, .int .i64 q1, .int .i64 q2, .int .i64 q3, .int .i64 q4, .int .i64 q5, .int .i64 q6, .int .i64 q7] 104)
  have hB3 := hB2.drew.alloc (by have := hB2.size; have := lp; simp; omega) (.cells #[.int .i64 q0, .int .i64 q1, .int .i64 q2, .int .i64 q3, .int .i64 q4, .int .i64 q5, .int .i64 q6, .int .i64 q7] 104)
  have v3 : At (((w.alloc (.cells #[.int .i64 a0, .int .i64 a3] 74)).alloc (.cells #[.int .i64 a0, .int .i64 a1, .int .i64 a2, .int .i64 a3, .int .i64 a4, .int .i64 a5, .int .i64 a6] 50)).drew.alloc (.cells #[.int .i64 q0, .int .i64 q1, .int .i64 q2, .int .i64 q3, .int .i64 q4, .int .i64 q5, .int .i64 q6, .int .i64 q7] 104)) (w.heap.size + 1 + 1) 104 #[.int .i64 q0, .int .i64 q1, .int .i64 q2, .int .i64 q3, .int .i64 q4, .int .i64 q5, .int .i64 q6, .int .i64 q7] := by
    have := At.new ((w.alloc (.cells #[.int .i64 a0, .int .i64 a3] 74)).alloc (.cells #[.int .i64 a0, .int .i64 a1, .int .i64 a2, .int .i64 a3, .int .i64 a4, .int .i64 a5, .int .i64 a6] 50)).drew 104 #[.int .i64 q0, .int .i64 q1, .int .i64 q2, .int .i64 q3, .int .i64 q4, .int .i64 q5, .int .i64 q6, .int .i64 q7]
    simpa using this
  refine hK _ _ _ (fun _ h => h) ⟨⟨p3, k3⟩, m3⟩ ?_
  (try simp only [Act.put, List.setIfInBounds_toArray, List.set_cons_zero, List.set_cons_succ])
  refine mix_pure (v := ?_) (by rfl) (fun u hu => ?_) ?_
  rotate_left
  · go_simp
    (with_reducible rfl)
  (try simp only [Act.put, List.setIfInBounds_toArray, List.set_cons_zero, List.set_cons_succ])
  refine mix_nil ?_
  have v30 := v3.cell 0
  cases f
  · have HT := Lib.hid (show turnQ t (a0, (a1, a2, a3, a4), a5, a6) L = t from Hturn.out)
    go_wp2
    refine wp_region_mix [(0, false), (1, false), (2, false), (3, false), (4, false), (5, false), (6, false), (7, false), (8, true)] (fun u => (At u p 108 #[.int .i64 t, .map (some b)] ∧ At u w.heap.size 74 #[.int .i64 a0, .int .i64 a3]) ∧ At u (w.heap.size + 1) 50 #[.int .i64 a0, .int .i64 a1, .int .i64 a2, .int .i64 a3, .int .i64 a4, .int .i64 a5, .int .i64 a6]) (by kernel_rfl) (by kernel_rfl) (fun _ _ _ _ _ h => h) ⟨⟨p3.drew, k3.drew⟩, i3.drew⟩ ?_
    simp only [mixOps, List.map_cons, List.map_nil, List.getElem?_cons_succ, List.getElem?_cons_zero, Option.getD_some]
    iterate 8 (
      refine mix_pure (v := ?_) (by rfl) (fun u hu => ?_) ?_
      rotate_left
      · obtain ⟨⟨h1, h2⟩, h3⟩ := hu
        obtain ⟨_, _, _, _⟩ := h1.two
        obtain ⟨_, _, _, _⟩ := h2.two
        obtain ⟨_, _, _, _, _, _, _⟩ := h3.seven
        go_simp
        (with_reducible rfl)
      (try simp only [Act.put, List.setIfInBounds_toArray, List.set_cons_zero, List.set_cons_succ]))
    obtain ⟨w5, hrun, m5, hg5⟩ := m3.drew.put (t, (a0, (a1, a2, a3, a4), a5, a6))
    have p5 := p3.drew.grown hg5 (fun e => hne (Option.some.inj e).symm)
    have hB5 := hB3.drew.grown hg5 (by have := hB3.size; have := lp; simp; omega) (fun g e => by cases e; exact hBb)
    refine mix_call (by rfl) (fun K hK => ?_)
    refine wp_mapPut' _ _ _ _ rfl rfl rfl rfl hrun ?_
    refine hK _ _ _ (fun _ h => h) ⟨⟨p5, k3.drew.grown hg5 (fun e => by have := Option.some.inj e; omega)⟩, i3.drew.grown hg5 (fun e => by have := Option.some.inj e; omega)⟩ ?_
    (try simp only [Act.put, List.setIfInBounds_toArray, List.set_cons_zero, List.set_cons_succ])
    refine mix_nil ?_
    obtain ⟨c0, c1, d0, d1⟩ := p5.two
    have hw : IntKind.i64.wrap (t + 1) = t + 1 := IntWalk.i64_in _ (by omega)
    have p6 := p5.set 0 (.int .i64 (t + 1))
    have m6 := m5.stored (p := ⟨p, 0, none⟩) hne (.int .i64 (t + 1))
    have hB6 := hB5.setCell (p := ⟨p, 0, none⟩) hB (.int .i64 (t + 1))
    go_wp2
    go_end0
    exact ⟨rfl, p6, by rw [Hset.out, HT.out]; exact m6, hB6⟩
  · have HT := Lib.hid (show turnQ t (a0, (a1, a2, a3, a4), a5, a6) L = q0 from Hturn.out)
    go_wp2
    refine wp_region_mix [(0, false), (1, false), (2, false), (3, false), (4, false), (5, false), (6, false), (7, false), (8, true)] (fun u => (At u p 108 #[.int .i64 t, .map (some b)] ∧ At u w.heap.size 74 #[.int .i64 a0, .int .i64 a3]) ∧ At u (w.heap.size + 1) 50 #[.int .i64 a0, .int .i64 a1, .int .i64 a2, .int .i64 a3, .int .i64 a4, .int .i64 a5, .int .i64 a6]) (by kernel_rfl) (by kernel_rfl) (fun _ _ _ _ _ h => h) ⟨⟨p3.drew, k3.drew⟩, i3.drew⟩ ?_
    simp only [mixOps, List.map_cons, List.map_nil, List.getElem?_cons_succ, List.getElem?_cons_zero, Option.getD_some]
    iterate 8 (
      refine mix_pure (v := ?_) (by rfl) (fun u hu => ?_) ?_
      rotate_left
      · obtain ⟨⟨h1, h2⟩, h3⟩ := hu
        obtain ⟨_, _, _, _⟩ := h1.two
        obtain ⟨_, _, _, _⟩ := h2.two
        obtain ⟨_, _, _, _, _, _, _⟩ := h3.seven
        go_simp
        (with_reducible rfl)
      (try simp only [Act.put, List.setIfInBounds_toArray, List.set_cons_zero, List.set_cons_succ]))
    obtain ⟨w5, hrun, m5, hg5⟩ := m3.drew.put (q0, (a0, (a1, a2, a3, a4), a5, a6))
    have p5 := p3.drew.grown hg5 (fun e => hne (Option.some.inj e).symm)
    have hB5 := hB3.drew.grown hg5 (by have := hB3.size; have := lp; simp; omega) (fun g e => by cases e; exact hBb)
    refine mix_call (by rfl) (fun K hK => ?_)
    refine wp_mapPut' _ _ _ _ rfl rfl rfl rfl hrun ?_
    refine hK _ _ _ (fun _ h => h) ⟨⟨p5, k3.drew.grown hg5 (fun e => by have := Option.some.inj e; omega)⟩, i3.drew.grown hg5 (fun e => by have := Option.some.inj e; omega)⟩ ?_
    (try simp only [Act.put, List.setIfInBounds_toArray, List.set_cons_zero, List.set_cons_succ])
    refine mix_nil ?_
    obtain ⟨c0, c1, d0, d1⟩ := p5.two
    have hw : IntKind.i64.wrap (t + 1) = t + 1 := IntWalk.i64_in _ (by omega)
    have p6 := p5.set 0 (.int .i64 (t + 1))
    have m6 := m5.stored (p := ⟨p, 0, none⟩) hne (.int .i64 (t + 1))
    have hB6 := hB5.setCell (p := ⟨p, 0, none⟩) hB (.int .i64 (t + 1))
    go_wp2
    go_end0
    exact ⟨rfl, p6, by rw [Hset.out, HT.out]; exact m6, hB6⟩

set_option maxRecDepth 100000 in
set_option maxHeartbeats 4000000 in
theorem qFind (p b : Nat) (t : Int) (L : List Qd) (k0 k1 q0 q1 q2 q3 q4 q5 q6 q7 : Int) (f : Bool) (w : World) (hp : At w p 108 #[.int .i64 t, .map (some b)]) (hm : QMap w b L)
    (hl : ∀ u, QMap u b L → (Instr.lookup 106 (.map (some b)) (.agg #[.int .i64 k0, .int .i64 k1]) true).run Tryd.prog u = .ok (.tuple #[.agg #[.int .i64 q0, .int .i64 q1, .int .i64 q2, .int .i64 q3, .int .i64 q4, .int .i64 q5, .int .i64 q6, .int .i64 q7], .bool f]) u) :
    Calls Tryd.prog 45 #[.pointer (some ⟨p, 0, none⟩), .agg #[.int .i64 k0, .int .i64 k1]] w fun e w' => e = .returned (.tuple #[.agg #[.int .i64 q1, .int .i64 q2, .int .i64 q3, .int .i64 q4, .int .i64 q5, .int .i64 q6, .int .i64 q7], .bool f]) ∧ Below w.heap.size w w' := by
  have p2 := (hp.alloc (.cells #[.int .i64 k0, .int .i64 k1] 74)).alloc (.cells #[.int .i64 0, .int .i64 0, .int .i64 0, .int .i64 0, .int .i64 0, .int .i64 0, .int .i64 0] 50)
  have m2 := (hm.alloc (.cells #[.int .i64 k0, .int .i64 k1] 74)).alloc (.cells #[.int .i64 0, .int .i64 0, .int .i64 0, .int .i64 0, .int .i64 0, .int .i64 0, .int .i64 0] 50)
  have k2 := (At.new w 74 #[.int .i64 k0, .int .i64 k1]).alloc (.cells #[.int .i64 0, .int .i64 0, .int .i64 0, .int .i64 0, .int .i64 0, .int .i64 0, .int .i64 0] 50)
  have i2 : At ((w.alloc (.cells #[.int .i64 k0, .int .i64 k1] 74)).alloc (.cells #[.int .i64 0, .int .i64 0, .int .i64 0, .int .i64 0, .int .i64 0, .int .i64 0, .int .i64 0] 50)) (w.heap.size + 1) 50 #[.int .i64 0, .int .i64 0, .int .i64 0, .int .i64 0, .int .i64 0, .int .i64 0, .int .i64 0] := by
    have := At.new (w.alloc (.cells #[.int .i64 k0, .int .i64 k1] 74)) 50 #[.int .i64 0, .int .i64 0, .int .i64 0, .int .i64 0, .int .i64 0, .int .i64 0, .int .i64 0]
    simpa using this
  have hB2 : Below w.heap.size w ((w.alloc (.cells #[.int .i64 k0, .int .i64 k1] 74)).alloc (.cells #[.int .i64 0, .int .i64 0, .int .i64 0, .int .i64 0, .int .i64 0, .int .i64 0, .int .i64 0] 50)) := ((Below.refl _ _).alloc (Nat.le_refl _) _).alloc (by simp) _
  obtain ⟨c0, c1, d0, d1⟩ := p2.two
  clear hp hm
  go_enter Tryd.func45, Tryd.ntmps45
  go_wp2
  clear c0 c1 d0 d1
  refine wp_region_mix [(0, false), (1, false), (2, false), (3, false), (4, false), (5, false), (6, false), (7, false), (8, false), (9, true), (10, true), (11, false)] (fun u => (At u p 108 #[.int .i64 t, .map (some b)] ∧ At u w.heap.size 74 #[.int .i64 k0, .int .i64 k1]) ∧ QMap u b L) (by kernel_rfl) (by kernel_rfl) (fun _ _ _ _ _ h => h) ⟨⟨p2.drew, k2.drew⟩, m2.drew⟩ ?_
  simp only [mixOps, List.map_cons, List.map_nil, List.getElem?_cons_succ, List.getElem?_cons_zero, Option.getD_some]
  iterate 9 (
    refine mix_pure (v := ?_) (by rfl) (fun u hu => ?_) ?_
    rotate_left
    · obtain ⟨⟨h1, h2⟩, h3⟩ := hu
      obtain ⟨_, _, _, _⟩ := h1.two
      obtain ⟨_, _, _, _⟩ := h2.two
      have hlu := hl u h3
      go_simp
      (with_reducible rfl)
    (try simp only [Act.put, List.setIfInBounds_toArray, List.set_cons_zero, List.set_cons_succ]))
  refine mix_call (by rfl) (fun K hK => ?_)
  go_simp
  refine hK _ _ _ (fun _ h => h) ⟨⟨p2.drew.alloc _, k2.drew.alloc _⟩, m2.drew.alloc _⟩ ?_
  (try simp only [Act.put, List.setIfInBounds_toArray, List.set_cons_zero, List.set_cons_succ])
  refine mix_call (by rfl) (fun K hK => ?_)
  go_simp
  have p3 := p2.drew.alloc (.cells #[.int .i64 q0, .int .i64 q1, .int .i64 q2, .int .i64 q3, .int .i64 q4, .int .i64 q5, .int .i64 q6, .int .i64 q7] 104)
  have m3 := m2.drew.alloc (.cells #[.int .i64 q0, .int .i64 q1, .int .i64 q2, .int .i64 q3, .int .i64 q4, .int .i64 q5, .int .i64 q6, .int .i64 q7] 104)
  have k3 := k2.drew.alloc (.cells #[.int .i64 q0, .int .i64 q1, .int .i64 q2, .int .i64 q3, .int .i64 q4, .int .i64 q5, .int .i64 q6, .int .i64 q7] 104)
  have i3 := i2.drew.alloc (.cells #[.int .i64 q0, .int .i64 q1, .int .i64 q2, .int .i64 q3, .int .i64 q4, .int .i64 q5, .int .i64 q6, .int .i64 q7] 104)
  have hB3 := hB2.drew.alloc (by have := hB2.size; simp; omega) (.cells #[.int .i64 q0, .int .i64 q1, .int .i64 q2, .int .i64 q3, .int .i64 q4, .int .i64 q5, .int .i64 q6, .int .i64 q7] 104)
  have v3 : At (((w.alloc (.cells #[.int .i64 k0, .int .i64 k1] 74)).alloc (.cells #[.int .i64 0, .int .i64 0, .int .i64 0, .int .i64 0, .int .i64 0, .int .i64 0, .int .i64 0] 50)).drew.alloc (.cells #[.int .i64 q0, .int .i64 q1, .int .i64 q2, .int .i64 q3, .int .i64 q4, .int .i64 q5, .int .i64 q6, .int .i64 q7] 104)) (w.heap.size + 1 + 1) 104 #[.int .i64 q0, .int .i64 q1, .int .i64 q2, .int .i64 q3, .int .i64 q4, .int .i64 q5, .int .i64 q6, .int .i64 q7] := by
    have := At.new ((w.alloc (.cells #[.int .i64 k0, .int .i64 k1] 74)).alloc (.cells #[.int .i64 0, .int .i64 0, .int .i64 0, .int .i64 0, .int .i64 0, .int .i64 0, .int .i64 0] 50)).drew 104 #[.int .i64 q0, .int .i64 q1, .int .i64 q2, .int .i64 q3, .int .i64 q4, .int .i64 q5, .int .i64 q6, .int .i64 q7]
    simpa using this
  refine hK _ _ _ (fun _ h => h) ⟨⟨p3, k3⟩, m3⟩ ?_
  (try simp only [Act.put, List.setIfInBounds_toArray, List.set_cons_zero, List.set_cons_succ])
  refine mix_pure (v := ?_) (by rfl) (fun u hu => ?_) ?_
  rotate_left
  · go_simp
    (with_reducible rfl)
  (try simp only [Act.put, List.setIfInBounds_toArray, List.set_cons_zero, List.set_cons_succ])
  refine mix_nil ?_
  obtain ⟨v0, v1, v2, v3, v4, v5, v6, v7⟩ := v3.eight
  obtain ⟨z0, z1, z2, z3, z4, z5, z6⟩ := i3.seven
  obtain ⟨y0, y1, y2, y3, y4, y5, y6⟩ := i3.sevenF
  go_wp2
  refine bodyPost_ret (v := .tuple #[.agg #[.int .i64 q1, .int .i64 q2, .int .i64 q3, .int .i64 q4, .int .i64 q5, .int .i64 q6, .int .i64 q7], .bool f]) (by simp [results, Tryd.results45, go_sem, z0, z1, z2, z3, z4, z5, z6]) rfl ?_
  exact ⟨rfl, ((((Below.refl _ _).alloc (Nat.le_refl _) _).alloc (by simp) _).alloc (by simp; omega) _).drew⟩

set_option maxRecDepth 100000 in
set_option maxHeartbeats 4000000 in
theorem qRemove (p b B : Nat) (t : Int) (L : List Qd) (k0 k1 : Int) (w : World) (hp : At w p 108 #[.int .i64 t, .map (some b)]) (hm : QMap w b L) (hB : B ≤ p) (hBb : B ≤ b) :
    Calls Tryd.prog 51 #[.pointer (some ⟨p, 0, none⟩), .agg #[.int .i64 k0, .int .i64 k1]] w fun e w' => e = .returned (.tuple #[]) ∧ At w' p 108 #[.int .i64 t, .map (some b)] ∧ QMap w' b (eraseQ (k0, (0, 0, k1, 0), 0, 0) L) ∧ Below B w w' := by
  have hne := hp.apart hm
  have lp := hp.lt
  have lm := hm.lt
  have p1 := hp.alloc (.cells #[.int .i64 k0, .int .i64 k1] 74)
  have m1 := hm.alloc (.cells #[.int .i64 k0, .int .i64 k1] 74)
  have k1' := At.new w 74 #[.int .i64 k0, .int .i64 k1]
  have hB1 := (Below.refl B w).alloc (by omega) (.cells #[.int .i64 k0, .int .i64 k1] 74)
  go_enter Tryd.func51, Tryd.ntmps51
  go_wp2
  refine wp_region_mix [(0, false), (1, false), (2, false), (3, false), (4, false), (5, true)] (fun u => At u p 108 #[.int .i64 t, .map (some b)] ∧ At u w.heap.size 74 #[.int .i64 k0, .int .i64 k1]) (by kernel_rfl) (by kernel_rfl) (fun _ _ _ _ _ h => h) ⟨p1.drew, k1'.drew⟩ ?_
  simp only [mixOps, List.map_cons, List.map_nil, List.getElem?_cons_succ, List.getElem?_cons_zero, Option.getD_some]
  iterate 5 (
    refine mix_pure (v := ?_) (by rfl) (fun u hu => ?_) ?_
    rotate_left
    · obtain ⟨h1, h2⟩ := hu
      obtain ⟨_, _, _, _⟩ := h1.two
      obtain ⟨_, _, _, _⟩ := h2.two
      go_simp
      (with_reducible rfl)
    (try simp only [Act.put, List.setIfInBounds_toArray, List.set_cons_zero, List.set_cons_succ]))
  obtain ⟨w5, hrun, m5, hg5⟩ := m1.drew.drop (k0, (0, 0, k1, 0), 0, 0) 0
  have p5 := p1.drew.grown hg5 (fun e => hne (Option.some.inj e).symm)
  have hB5 := hB1.drew.grown hg5 (by simp; omega) (fun g e => by cases e; exact hBb)
  refine mix_call (by rfl) (fun K hK => ?_)
  refine wp_mapDrop _ _ _ _ rfl rfl rfl hrun ?_
  refine hK _ _ _ (fun _ h => h) ⟨p5, k1'.drew.grown hg5 (fun e => by have := Option.some.inj e; omega)⟩ ?_
  (try simp only [Act.put, List.setIfInBounds_toArray, List.set_cons_zero, List.set_cons_succ])
  refine mix_nil ?_
  go_wp2
  go_end0
  exact ⟨rfl, p5, m5, hB5⟩

theorem rises_is {L ys : List Qd} (h : Rises L) (hp : ys.Perm L) (hs : ys.Pairwise fun x y => ¬ y.1 < x.1) : ys = L := by
  refine List.Perm.eq_of_pairwise (le := fun x y => ¬ y.1 < x.1) (fun x y hx hy h1 h2 => ?_) hs (h.imp fun {x y} k => by omega) hp
  have hx' : x ∈ L := hp.mem_iff.1 hx
  obtain ⟨i, hi, rfl⟩ := List.getElem_of_mem hx'
  obtain ⟨j, hj, rfl⟩ := List.getElem_of_mem hy
  have hk := List.pairwise_iff_getElem.1 h
  rcases Nat.lt_trichotomy i j with hij | hij | hij
  · have := hk i j hi hj hij
    omega
  · subst hij
    rfl
  · have := hk j i hj hi hij
    omega

def ListRel (w2 : World) (l : List Hnt) (n : Nat) (o i : Value) (wr : World) : Prop :=
  ∃ (k : Nat) (A : Option Addr) (c : Nat), k ≤ n ∧ i = .int .i64 k ∧ o = .slice A k c ∧ Ow eH wr w2.heap.size A k c (l.take k) ∧ Below w2.heap.size w2 wr

set_option maxRecDepth 100000 in
set_option maxHeartbeats 4000000 in
theorem qList (p b : Nat) (t : Int) (L : List Qd) (w : World) (hp : At w p 108 #[.int .i64 t, .map (some b)]) (hm : QMap w b L) (hr : Rises L) (hL : L.length ≤ 1000) :
    Calls Tryd.prog 48 #[.pointer (some ⟨p, 0, none⟩)] w fun e w' => ∃ A c, e = .returned (.slice A L.length c) ∧ Ow eH w' w.heap.size A L.length c (L.map Prod.snd) ∧ Below w.heap.size w w' := by
  obtain ⟨c0, c1, _, _⟩ := hp.two
  have hl1 := (Below.refl w.heap.size w).alloc (Nat.le_refl _) (.cells #[.map (some b)] 106)
  have hm1 := At.new w 106 #[.map (some b)]
  have hs1 := hm.alloc (.cells #[.map (some b)] 106)
  have HS := sortedFuncQ b w.heap.size L _ hs1 hm1 hL
  go_enter Tryd.func48, Tryd.ntmps48
  go_wp2_with fail
  refine (valuesOfQ b _).mono ?_
  rintro e w1 ⟨rfl, rfl⟩
  go_wp2_with fail
  refine HS.mono ?_
  rintro e w2 ⟨A2, n, c2, ys, rfl, hperm, hpw, ow2, hb2⟩
  obtain rfl := rises_is hr hperm (hpw.imp fun {x y} h => by omega)
  have hB2 := hl1.trans (hb2.mono hl1.size)
  have hrd := ow2.rd okQ
  obtain ⟨n', hn'⟩ : ∃ n', ys.length = n' := ⟨_, rfl⟩
  have hnn : n = n' := (ow2.len okQ).symm.trans hn'
  subst hnn
  have Hn := Lib.hid hn'
  rw [hn'] at hL
  have HnI := Lib.hid hn'
  clear hn' HS hm1 hs1 hl1 hb2 ow2 hperm hpw hr hm hp c0 c1
  obtain ⟨l, hl⟩ : ∃ l, ys.map Prod.snd = l := ⟨_, rfl⟩
  have Hl := Lib.hid hl
  have hll : l.length = n := by rw [← hl, List.length_map, Hn.out]
  have Hll := Lib.hid hll
  clear hl hll
  go_wp2
  go_loopw [4, 15] (fun o i wr => ListRel w2 l n o i wr) (fun _ i _ => n - (intOf i).toNat)
  case atStart => exact ⟨0, none, 0, Nat.zero_le _, rfl, rfl, Ow.nil, Below.refl _ _⟩
  case round =>
    obtain ⟨k, A1, c1, hk, rfl, rfl, how, hbel⟩ := hrel
    by_cases hlt : k < n
    · obtain ⟨g, o, ⟨q0, q1, ⟨q2, q3, q4, q5⟩, q6, q7⟩, e2, hg, hx, hc⟩ := (hrd.below hbel (Nat.le_refl _)).at_ (k := k) (by rw [Hn.out]; exact hlt)
      subst e2
      have v0 := hc 0 _ rfl
      have v1 := hc 1 _ rfl
      have v2 := hc 2 _ rfl
      have v3 := hc 3 _ rfl
      have v4 := hc 4 _ rfl
      have v5 := hc 5 _ rfl
      have v6 := hc 6 _ rfl
      have v7 := hc 7 _ rfl
      simp only [eQ, Nat.add_zero] at v0 v1 v2 v3 v4 v5 v6 v7
      have Hx := Lib.hid (show l.take (k + 1) = l.take k ++ [(q1, (q2, q3, q4, q5), q6, q7)] from take_nextH (by rw [← Hl.out, List.getElem?_map, hx]; rfl))
      clear hx hc
      have hBa := hbel.alloc hbel.size (.cells #[.int .i64 q0, .int .i64 q1, .int .i64 q2, .int .i64 q3, .int .i64 q4, .int .i64 q5, .int .i64 q6, .int .i64 q7] 104)
      have ha := how.alloc (.cells #[.int .i64 q0, .int .i64 q1, .int .i64 q2, .int .i64 q3, .int .i64 q4, .int .i64 q5, .int .i64 q6, .int .i64 q7] 104)
      have ob : Rd eH ((wr.alloc (.cells #[.int .i64 q0, .int .i64 q1, .int .i64 q2, .int .i64 q3, .int .i64 q4, .int .i64 q5, .int .i64 q6, .int .i64 q7] 104)).alloc (.cells #[.int .i64 q1, .int .i64 q2, .int .i64 q3, .int .i64 q4, .int .i64 q5, .int .i64 q6, .int .i64 q7] 50)) (wr.heap.size + 1 + 1) (some ⟨wr.heap.size + 1, 0, none⟩) [(q1, (q2, q3, q4, q5), q6, q7)] := by
        have := rd_lit okH (wr.alloc (.cells #[.int .i64 q0, .int .i64 q1, .int .i64 q2, .int .i64 q3, .int .i64 q4, .int .i64 q5, .int .i64 q6, .int .i64 q7] 104)) 50 [(q1, (q2, q3, q4, q5), q6, q7)] #[.int .i64 q1, .int .i64 q2, .int .i64 q3, .int .i64 q4, .int .i64 q5, .int .i64 q6, .int .i64 q7] rfl
        simpa using this
      have ha2 := ha.alloc (.cells #[.int .i64 q1, .int .i64 q2, .int .i64 q3, .int .i64 q4, .int .i64 q5, .int .i64 q6, .int .i64 q7] 50)
      have hBb := hBa.alloc hBa.size (.cells #[.int .i64 q1, .int .i64 q2, .int .i64 q3, .int .i64 q4, .int .i64 q5, .int .i64 q6, .int .i64 q7] 50)
      go_wp2_with (at_builtin; refine wpList_append_ow okH _ rfl (.tmp 19) (.tmp 22) _ rfl w2.heap.size info_hnt Tryd.underlying24 rfl A1 k c1 (l.take k) rfl ha2 _ 1 1 _ [(q1, (q2, q3, q4, q5), q6, q7)] rfl ob rfl (by unfold maxLen; omega) (by omega) hBb.size ?_; intro A5 c5 w5 ow5 hg5 _; have hB5 := hBb.grown hg5 hBb.size (fun g hg => (how.lt g hg).1))
      exact ⟨⟨k + 1, A5, c5, by omega, by go_num, rfl, by rw [Hx.out]; exact ow5, hB5⟩, by simp [intOf]; omega⟩
    · obtain rfl : n = k := by omega
      rw [show l.take n = l from List.take_of_length_le (by rw [Hll.out]; exact Nat.le_refl _)] at how
      go_wp2
      go_ret
      rw [HnI.out, Hl.out]
      exact ⟨_, _, rfl, how.from_ hB2.size, hB2.trans (hbel.mono hB2.size)⟩

def OfRel (w : World) (l : List Hnt) (n : Nat) (i : Value) (wr : World) : Prop :=
  ∃ k : Nat, k ≤ n ∧ i = .int .i64 k ∧ At wr (w.heap.size + 1) 108 #[.int .i64 (k : Int), .map (some w.heap.size)] ∧ QMap wr w.heap.size (queueM (l.take k)) ∧ Below w.heap.size w wr

set_option maxRecDepth 100000 in
set_option maxHeartbeats 4000000 in
theorem qOf (A : Option Addr) (n c : Nat) (l : List Hnt) (w : World) (ha : Rd eH w w.heap.size A l) (hn : l.length = n) (hm : n ≤ 1000) :
    Calls Tryd.prog 44 #[.slice A n c] w fun e w' => e = .returned (.pointer (some ⟨w.heap.size + 1, 0, none⟩)) ∧ At w' (w.heap.size + 1) 108 #[.int .i64 (n : Int), .map (some w.heap.size)] ∧ QMap w' w.heap.size (queueM l) ∧ Below w.heap.size w w' := by
  have Hn := Lib.hid hn
  clear hn
  have hB1 := ((Below.refl w.heap.size w).alloc (Nat.le_refl _) (.map #[] 0)).alloc (by simp) (.cells #[.int .i64 0, .map (some w.heap.size)] 108)
  have p1 : At ((w.alloc (.map #[] 0)).alloc (.cells #[.int .i64 0, .map (some w.heap.size)] 108)) (w.heap.size + 1) 108 #[.int .i64 0, .map (some w.heap.size)] := by
    have := At.new (w.alloc (.map #[] 0)) 108 #[.int .i64 0, .map (some w.heap.size)]
    simpa using this
  have m1 := (QMap.made w).alloc (.cells #[.int .i64 0, .map (some w.heap.size)] 108)
  go_enter Tryd.func44, Tryd.ntmps44
  go_wp2_with fail
  refine (qNew _).mono ?_
  rintro e w1 ⟨rfl, rfl⟩
  go_wp2
  go_loopw [9] (fun i wr => OfRel w l n i wr) (fun i _ => n - (intOf i).toNat)
  case atStart => exact ⟨0, Nat.zero_le _, rfl, p1, m1, hB1⟩
  case round =>
    clear p1 m1 hB1
    obtain ⟨k, hk, rfl, hp, hq, hbel⟩ := hrel
    by_cases hlt : k < n
    · obtain ⟨g, o, a0, a1, a2, a3, a4, a5, a6, rfl, hg, hx, c0, c1, c2, c3, c4, c5, c6⟩ := (ha.below hbel (Nat.le_refl _)).hnt (k := k) (by rw [Hn.out]; exact hlt)
      have Hx := Lib.hid (queue_next hx)
      clear hx
      have hp1 := hp.alloc (.cells #[.int .i64 a0, .int .i64 a1, .int .i64 a2, .int .i64 a3, .int .i64 a4, .int .i64 a5, .int .i64 a6] 50)
      have hq1 := hq.alloc (.cells #[.int .i64 a0, .int .i64 a1, .int .i64 a2, .int .i64 a3, .int .i64 a4, .int .i64 a5, .int .i64 a6] 50)
      have hB1 := hbel.alloc hbel.size (.cells #[.int .i64 a0, .int .i64 a1, .int .i64 a2, .int .i64 a3, .int .i64 a4, .int .i64 a5, .int .i64 a6] 50)
      go_wp2_with fail
      refine (qPut (w.heap.size + 1) w.heap.size w.heap.size (k : Int) _ a0 a1 a2 a3 a4 a5 a6 _ hp1 hq1 (by omega) (Nat.le_refl _) (by omega)).mono ?_
      rintro e w2 ⟨rfl, hp2, hq2, hb2⟩
      have hB2 := hB1.trans hb2
      go_wp2
      refine ⟨⟨k + 1, by omega, by go_num, ?_, by rw [Hx.out]; exact hq2, hB2⟩, by simp [intOf]; omega⟩
      rw [show ((k + 1 : Nat) : Int) = (k : Int) + 1 by omega]
      exact hp2
    · obtain rfl : n = k := by omega
      rw [show l.take n = l from List.take_of_length_le (by rw [Hn.out]; exact Nat.le_refl _)] at hq
      go_wp2
      go_ret
      exact ⟨rfl, hp, hq, hbel⟩
end Go.Proofs.YtjlkmfijkhjjkaaDoor
/-
  The program's faults of hints.
-/
namespace Go.Proofs.YtjlkmfijkhjjkaaDoor
set_option maxRecDepth 20000
open Go.RowKit Go.Shelf
set_option linter.unusedSimpArgs false
set_option linter.unusedVariables false

theorem bnds_three {w : World} {t : TypeId} {x lo hi x' lo' hi' x'' lo'' hi'' : Int} {g : Nat} (hg : w.heap.size = g) : Bnds (w.alloc (.cells #[.int .i64 x, .int .i64 lo, .int .i64 hi, .int .i64 x', .int .i64 lo', .int .i64 hi', .int .i64 x'', .int .i64 lo'', .int .i64 hi''] t)) g [(x, lo, hi), (x', lo', hi'), (x'', lo'', hi'')] := by
  subst hg
  intro k b hk
  match k, hk with
  | 0, hk =>
    obtain rfl : (x, lo, hi) = b := by simpa using hk
    refine ⟨?_, ?_, ?_⟩ <;> (rw [cell_of_row _ _ _ _ _ _ (heap_alloc_new w _)]; rfl)
  | 1, hk =>
    obtain rfl : (x', lo', hi') = b := by simpa using hk
    refine ⟨?_, ?_, ?_⟩ <;> (rw [cell_of_row _ _ _ _ _ _ (heap_alloc_new w _)]; rfl)
  | 2, hk =>
    obtain rfl : (x'', lo'', hi'') = b := by simpa using hk
    refine ⟨?_, ?_, ?_⟩ <;> (rw [cell_of_row _ _ _ _ _ _ (heap_alloc_new w _)]; rfl)
  | k + 3, hk => simp at hk

set_option maxHeartbeats 1000000 in
theorem implHintFault (a0 a1 a2 a3 a4 a5 a6 : Int) (w : World) (hF : Flds w) :
    Calls Tryd.prog 43 #[.agg #[.int .i64 a0, .int .i64 a1, .int .i64 a2, .int .i64 a3, .int .i64 a4, .int .i64 a5, .int .i64 a6]] w fun e w' => e = .returned (.int .i64 (hfaultM (a0, (a1, a2, a3, a4), a5, a6))) ∧ Below w.heap.size w w' := by
  have hB0 : Below w.heap.size w (w.alloc (.cells #[.int .i64 a0, .int .i64 a1, .int .i64 a2, .int .i64 a3, .int .i64 a4, .int .i64 a5, .int .i64 a6] 50)) := (Below.refl _ _).alloc (Nat.le_refl _) _
  have x0 := At.new w 50 #[.int .i64 a0, .int .i64 a1, .int .i64 a2, .int .i64 a3, .int .i64 a4, .int .i64 a5, .int .i64 a6]
  have HS := implSampleFault a1 a2 a3 a4 _ (hF.below hB0)
  rcases faultM_or (a1, a2, a3, a4) with hf | hf
  rotate_left
  · rw [hf] at HS
    have Hr := Lib.hid (hfault_smp (h := (a0, (a1, a2, a3, a4), a5, a6)) hf)
    clear hf
    go_enter Tryd.func43, Tryd.ntmps43
    go_wp2_with fail
    refine HS.mono ?_
    rintro e w1 ⟨rfl, hb1⟩
    have hB1 := hB0.trans (hb1.mono hB0.size)
    go_wp2
    go_ret
    exact ⟨by rw [Hr.out]; rfl, hB1⟩
  rw [hf] at HS
  obtain ⟨r, hr⟩ : ∃ r, rangeH (a0, (a1, a2, a3, a4), a5, a6) = r := ⟨_, rfl⟩
  have Hb := Lib.hid (show ([(a0, 0, 3), (a5, 0, 4), (a6, 0, 200000)] : List (Int × Int × Int)).all inB = r by rw [← hr]; simp [rangeH])
  have Hr := Lib.hid (show hfaultM (a0, (a1, a2, a3, a4), a5, a6) = if r then 0 else 3 by
    cases r
    · exact hfault_no hf hr
    · exact hfault_yes hf hr)
  clear hf hr
  go_enter Tryd.func43, Tryd.ntmps43
  go_wp2_with fail
  refine HS.mono ?_
  rintro e w1 ⟨rfl, hb1⟩
  have hB1 := hB0.trans (hb1.mono hB0.size)
  obtain ⟨c0, c1, c2, c3, c4, c5, c6⟩ := (x0.below hb1 x0.lt).seven
  go_wp2_with fail
  refine (areWithin_any _ 3 _ [(a0, 0, 3), (a5, 0, 4), (a6, 0, 200000)] _ (bnds_three (by simp)) (by simp) rfl (by simp)).mono ?_
  rintro e w2 ⟨rfl, hb2⟩
  have hBa := hB1.alloc hB1.size (.cells #[.int .i64 a0, .int .i64 0, .int .i64 3, .int .i64 a5, .int .i64 0, .int .i64 4, .int .i64 a6, .int .i64 0, .int .i64 200000] 86)
  have hB2 := hBa.trans (hb2.mono hBa.size)
  rw [Hb.out]
  cases r
  · go_wp2
    go_ret
    exact ⟨by rw [Hr.out]; rfl, hB2⟩
  · go_wp2
    go_ret
    exact ⟨by rw [Hr.out]; rfl, hB2⟩

set_option maxHeartbeats 4000000 in
theorem implHintsFault (A : Option Addr) (n c : Nat) (l : List Hnt) (w : World) (ha : Rd eH w w.heap.size A l) (hn : l.length = n) (hF : Flds w) :
    Calls Tryd.prog 28 #[.slice A n c] w fun e w' => e = .returned (.int .i64 (hintsFaultM l)) ∧ Below w.heap.size w w' := by
  by_cases hbig : 8 < n
  · have hb : (8 : Int) < (n : Int) := by omega
    rw [hintsFault_many (by omega)]
    go_enter Tryd.func28, Tryd.ntmps28
    go_wp2
    go_ret
    exact ⟨rfl, Below.refl _ _⟩
  have hb : (n : Int) ≤ 8 := by omega
  have Hbig := Lib.hid (show ¬ 8 < l.length by omega)
  have Hn := Lib.hid hn
  clear hn hbig
  go_enter Tryd.func28, Tryd.ntmps28
  go_wp2
  go_loopw [11] (fun i wr => RightRelH w l n i wr) (fun i _ => n - (intOf i).toNat)
  case atStart => exact ⟨0, Nat.zero_le _, rfl, fun _ _ h => absurd h (by omega), Below.refl _ _⟩
  case round =>
    obtain ⟨k, hk, rfl, hal, hbel⟩ := hrel
    have Hal := Lib.hid hal
    clear hal
    by_cases hlt : k < n
    · obtain ⟨g, o, a0, a1, a2, a3, a4, a5, a6, rfl, hg, hx, c0, c1, c2, c3, c4, c5, c6⟩ := (ha.below hbel (Nat.le_refl _)).hnt (k := k) (by rw [Hn.out]; exact hlt)
      have hB1 := hbel.alloc hbel.size (.cells #[.int .i64 a0, .int .i64 a1, .int .i64 a2, .int .i64 a3, .int .i64 a4, .int .i64 a5, .int .i64 a6] 50)
      have HH := implHintFault a0 a1 a2 a3 a4 a5 a6 _ (hF.below hB1)
      have Hx := Lib.hid hx
      clear hx
      rcases hfault_or (a0, (a1, a2, a3, a4), a5, a6) with hf | hf
      · rw [hf] at HH
        have Hf := Lib.hid hf
        clear hf
        go_wp2_with fail
        refine HH.mono ?_
        rintro e w2 ⟨rfl, hb2⟩
        have hB2 := hB1.trans (hb2.mono hB1.size)
        go_wp2
        refine ⟨⟨k + 1, by omega, by go_num, fun j x hj hx => ?_, hB2⟩, by simp [intOf]; omega⟩
        rcases Nat.lt_or_ge j k with h | h
        · exact Hal.out j x h hx
        · obtain rfl : j = k := by omega
          obtain rfl := Option.some.inj (Hx.out.symm.trans hx)
          exact Hf.out
      · rw [hf] at HH
        have Hr := Lib.hid (hintsFault_wrong Hbig.out Hx.out hf)
        clear hf
        go_wp2_with fail
        refine HH.mono ?_
        rintro e w2 ⟨rfl, hb2⟩
        have hB2 := hB1.trans (hb2.mono hB1.size)
        go_wp2
        go_ret
        exact ⟨by rw [Hr.out]; rfl, hB2⟩
    · obtain rfl : n = k := by omega
      have Hright := Lib.hid (rightHM_of Hn.out Hal.out)
      have HQ := qOf A n c l wr (ha.lift hbel) Hn.out (by omega)
      obtain ⟨m, hm⟩ : ∃ m, (queueM l).length = m := ⟨_, rfl⟩
      have Hm := Lib.hid hm
      obtain ⟨q1, q2, q3⟩ := queue_all l
      have Q1 := Lib.hid q1
      have Q2 := Lib.hid q2
      clear Hal hm q1 q2 q3
      by_cases hd : Dis l
      · have hmn : m = n := by rw [← Hm.out, Q1.out hd, zipQ_len, Hn.out]
        subst hmn
        have Hr := Lib.hid (hintsFault_ok Hbig.out Hright.out hd)
        have hno : ¬ (m : Int) < (m : Int) := by omega
        clear hd
        go_wp2_with fail
        refine HQ.mono ?_
        rintro e w2 ⟨rfl, hp, hq, hb2⟩
        have hB2 := hbel.trans (hb2.mono hbel.size)
        have HSZ := qSize _ _ _ _ _ hp hq
        rw [Hm.out] at HSZ
        go_wp2_with fail
        refine HSZ.mono ?_
        rintro e w99 ⟨rfl, rfl⟩
        go_wp2
        go_ret
        exact ⟨by rw [Hr.out]; rfl, hB2⟩
      · have hmn : m < n := by have := Q2.out hd; have := Hm.out; have := Hn.out; omega
        have hlt' : (m : Int) < (n : Int) := by omega
        have Hr := Lib.hid (hintsFault_taken Hbig.out Hright.out hd)
        clear hd
        go_wp2_with fail
        refine HQ.mono ?_
        rintro e w2 ⟨rfl, hp, hq, hb2⟩
        have hB2 := hbel.trans (hb2.mono hbel.size)
        have HSZ := qSize _ _ _ _ _ hp hq
        rw [Hm.out] at HSZ
        go_wp2_with fail
        refine HSZ.mono ?_
        rintro e w99 ⟨rfl, rfl⟩
        go_wp2
        go_ret
        exact ⟨by rw [Hr.out]; rfl, hB2⟩
theorem hiHintsFault : ∀ (A0 : Option Addr) (m0 e0 : Nat) (q0 : List Hnt)  (W : World), Rd eH W W.heap.size A0 q0 → q0.length = m0 → m0 ≤ 1048576 → Flds W → Calls Tryd.prog 28 #[.slice A0 m0 e0] W (fun e W' => e = .returned (.int .i64 (hintsFaultM q0)) ∧ Below W.heap.size W W') :=
  fun A0 m0 e0 q0 W ha hn _ hF => implHintsFault A0 m0 e0 q0 W ha hn hF
end Go.Proofs.YtjlkmfijkhjjkaaDoor
