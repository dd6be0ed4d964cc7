/-
  Texts of one proof, joined: each has its own namespace.
-/
import Derived.Test.YtmaillakhhdkfaaGreatDoorBFnRecovers17
import Derived.Test.YtmaillakhhdkfaaGreatDoorBFnRecovers7
import Derived.Test.YtmaillakhhdkfaaGreatDoorBFnRecovers6
import Derived.Test.YtmaillakhhdkfaaGreatDoorBFnRecovers13
import Derived.Test.YtmaillakhhdkfaaGreatDoorBFnRecovers9
/-
  The program's queue of hints: put, looked for, taken away, counted, listed.
-/
namespace Go.Proofs.YtmaillakhhdkfaaGreatDoor
set_option maxRecDepth 20000
open Go.RowKit Go.Shelf
set_option linter.unusedSimpArgs false
set_option linter.unusedVariables false

theorem At.apart {w : World} {p b : Nat} {t : TypeId} {cs : Array Value} {L : List Qd} (h : At w p t cs) (k : QMap w b L) : p ≠ b := by
  rintro rfl
  obtain ⟨es, clock, hb, _⟩ := k
  rw [show w.heap[p]? = _ from h] at hb
  cases hb
theorem QMap.stored {w : World} {b : Nat} {L : List Qd} (h : QMap w b L) {p : Addr} (hp : p.block ≠ b) (u : Value) : QMap (w.setCell p u) b L :=
  h.kept (grown_setCell w p u) (fun e => hp (Option.some.inj e.symm))

/-- What is looked up, in plain words. -/
theorem lookQ (L : List Qd) (h : Hnt) (t : Int) : ∃ (q0 q1 q2 q3 q4 q5 q6 q7 : Int) (f : Bool), (∀ u b, QMap u b L → (Instr.lookup 194 (.map (some b)) (keyH h) true).run Tryz.prog u = .ok (.tuple #[.agg #[.int .i64 q0, .int .i64 q1, .int .i64 q2, .int .i64 q3, .int .i64 q4, .int .i64 q5, .int .i64 q6, .int .i64 q7], .bool f]) u) ∧
    turnQ t h L = (if f then q0 else t) ∧ ((firstQ L h).map Prod.snd).getD zeroH = (q1, (q2, q3, q4, q5), q6, q7) ∧ (firstQ L h).isSome = f := by
  rcases hf : firstQ L h with _ | ⟨q0, q1, ⟨q2, q3, q4, q5⟩, q6, q7⟩
  · refine ⟨0, 0, 0, 0, 0, 0, 0, 0, false, fun u b hu => ?_, ?_, rfl, rfl⟩
    · have := hu.look h
      rw [hf] at this
      exact this
    · unfold turnQ
      rw [hf]
      rfl
  · refine ⟨q0, q1, q2, q3, q4, q5, q6, q7, true, fun u b hu => ?_, ?_, rfl, rfl⟩
    · have := hu.look h
      rw [hf] at this
      exact this
    · unfold turnQ
      rw [hf]
      rfl

theorem qNew (w : World) : Calls Tryz.prog 141 #[] w fun e w' => e = .returned (.pointer (some ⟨w.heap.size + 1, 0, none⟩)) ∧ w' = (w.alloc (.map #[] 0)).alloc (.cells #[.int .i64 0, .map (some w.heap.size)] 196) := by
  have hmm := @run_makeMap Tryz.prog
  go_enter Tryz.func141, Tryz.ntmps141
  go_wp2
  go_ret
  exact ⟨by simp, rfl⟩

theorem qSize (p b : Nat) (t : Int) (L : List Qd) (w : World) (hp : At w p 196 #[.int .i64 t, .map (some b)]) (hm : QMap w b L) :
    Calls Tryz.prog 114 #[.pointer (some ⟨p, 0, none⟩)] w fun e w' => e = .returned (.int .i64 (L.length : Int)) ∧ w = w' := by
  obtain ⟨c0, c1, _, _⟩ := hp.two
  have hl := fun ty => hm.len ty
  go_enter Tryz.func114, Tryz.ntmps114
  go_wp2
  go_ret
  exact ⟨rfl, rfl⟩

set_option maxRecDepth 100000 in
set_option maxHeartbeats 4000000 in
theorem qPut (p b B : Nat) (t : Int) (L : List Qd) (a0 a1 a2 a3 a4 a5 a6 : Int) (w : World) (hp : At w p 196 #[.int .i64 t, .map (some b)]) (hm : QMap w b L) (hB : B ≤ p) (hBb : B ≤ b) (ht : 0 ≤ t ∧ t ≤ 1000) :
    Calls Tryz.prog 134 #[.pointer (some ⟨p, 0, none⟩), .agg #[.int .i64 a0, .int .i64 a3], .agg #[.int .i64 a0, .int .i64 a1, .int .i64 a2, .int .i64 a3, .int .i64 a4, .int .i64 a5, .int .i64 a6]] w fun e w' => e = .returned (.tuple #[]) ∧ At w' p 196 #[.int .i64 (t + 1), .map (some b)] ∧ QMap w' b (putQ t (a0, (a1, a2, a3, a4), a5, a6) L) ∧ Below B w w' := by
  obtain ⟨q0, q1, q2, q3, q4, q5, q6, q7, f, hl0, hturn, -, -⟩ := lookQ L (a0, (a1, a2, a3, a4), a5, a6) t
  have hl : ∀ u, QMap u b L → (Instr.lookup 194 (.map (some b)) (.agg #[.int .i64 a0, .int .i64 a3]) true).run Tryz.prog u = .ok (.tuple #[.agg #[.int .i64 q0, .int .i64 q1, .int .i64 q2, .int .i64 q3, .int .i64 q4, .int .i64 q5, .int .i64 q6, .int .i64 q7], .bool f]) u := fun u hu => hl0 u b hu
  clear hl0
  have hne := hp.apart hm
  have Hturn := Lib.hid hturn
  have Hset := Lib.hid (putQ_set t (a0, (a1, a2, a3, a4), a5, a6) L)
  clear hturn
  have p2 := (hp.alloc (.cells #[.int .i64 a0, .int .i64 a3] 161)).alloc (.cells #[.int .i64 a0, .int .i64 a1, .int .i64 a2, .int .i64 a3, .int .i64 a4, .int .i64 a5, .int .i64 a6] 75)
  have m2 := (hm.alloc (.cells #[.int .i64 a0, .int .i64 a3] 161)).alloc (.cells #[.int .i64 a0, .int .i64 a1, .int .i64 a2, .int .i64 a3, .int .i64 a4, .int .i64 a5, .int .i64 a6] 75)
  have k2 := (At.new w 161 #[.int .i64 a0, .int .i64 a3]).alloc (.cells #[.int .i64 a0, .int .i64 a1, .int .i64 a2, .int .i64 a3, .int .i64 a4, .int .i64 a5, .int .i64 a6] 75)
  have i2 : At ((w.alloc (.cells #[.int .i64 a0, .int .i64 a3] 161)).alloc (.cells #[.int .i64 a0, .int .i64 a1, .int .i64 a2, .int .i64 a3, .int .i64 a4, .int .i64 a5, .int .i64 a6] 75)) (w.heap.size + 1) 75 #[.int .i64 a0, .int .i64 a1, .int .i64 a2, .int .i64 a3, .int .i64 a4, .int .i64 a5, .int .i64 a6] := by
    have := At.new (w.alloc (.cells #[.int .i64 a0, .int .i64 a3] 161)) 75 #[.int .i64 a0, .int .i64 a1, .int .i64 a2, .int .i64 a3, .int .i64 a4, .int .i64 a5, .int .i64 a6]
    simpa using this
  have hB2 : Below B w ((w.alloc (.cells #[.int .i64 a0, .int .i64 a3] 161)).alloc (.cells #[.int .i64 a0, .int .i64 a1, .int .i64 a2, .int .i64 a3, .int .i64 a4, .int .i64 a5, .int .i64 a6] 75)) := ((Below.refl _ _).alloc (by have := hp.lt; omega) _).alloc (by have := hp.lt; simp; omega) _
  have lp := hp.lt
  have lm := hm.lt
  obtain ⟨c0, c1, d0, d1⟩ := p2.two
  clear hp hm
  go_enter Tryz.func134, Tryz.ntmps134
  go_wp2
  clear c0 c1 d0 d1
  refine wp_region_mix [(0, false), (1, false), (2, false), (3, false), (4, false), (5, false), (6, false), (7, false), (8, false), (9, true), (10, true), (11, false)] (fun u => (At u p 196 #[.int .i64 t, .map (some b)] ∧ At u w.heap.size 161 #[.int .i64 a0, .int .i64 a3]) ∧ QMap u b L) (by kernel_rfl) (by kernel_rfl) (fun _ _ _ _ _ h => h) ⟨⟨p2.drew, k2.drew⟩, m2.drew⟩ ?_
  simp only [mixOps, List.map_cons, List.map_nil, List.getElem?_cons_succ, List.getElem?_cons_zero, Option.getD_some]
  iterate 9 (
    refine mix_pure (v := ?_) (by rfl) (fun u hu => ?_) ?_
    rotate_left
    · obtain ⟨⟨h1, h2⟩, h3⟩ := hu
      obtain ⟨_, _, _, _⟩ := h1.two
      obtain ⟨_, _, _, _⟩ := h2.two
      have hlu := hl u h3
      go_simp
      (with_reducible rfl)
    (try simp only [Act.put, List.setIfInBounds_toArray, List.set_cons_zero, List.set_cons_succ]))
  refine mix_call (by rfl) (fun K hK => ?_)
  go_simp
  refine hK _ _ _ (fun _ h => h) ⟨⟨p2.drew.alloc _, k2.drew.alloc _⟩, m2.drew.alloc _⟩ ?_
  (try simp only [Act.put, List.setIfInBounds_toArray, List.set_cons_zero, List.set_cons_succ])
  refine mix_call (by rfl) (fun K hK => ?_)
  go_simp
  have p3 := p2.drew.alloc (.cells #[.int .i64 q0, .int .i64 q1, .int .i64 q2, .int .i64 q3, .int .i64 q4, .int .i64 q5, .int .i64 q6, .int .i64 q7] 222)
  have m3 := m2.drew.alloc (.cells #[.int .i64 q0, .int .i64 q1, .int .i64 q2, .int .i64 q3, .int .i64 q4, .int .i64 q5, .int .i64 q6, .int .i64 q7] 222)
  have k3 := k2.drew.alloc (.cells #[.int .i64 q0, .int .i64 q1, .int .i64 q2, .int .i64 q3, .int .i64 q4, .int .i64 q5, .int .i64 q6, .int .i64 q7] 222)
  have i3 := i2.drew.alloc (.cells #[.int .i64 q0, .int .i64 q1, .int .i64 q2, .int .i64 q3, .int .i64 q4, .int .i64 q5, .int .i64 q6, .int .i64 q7] 222)
  have hB3 := hB2.drew.alloc (by have := hB2.size; have := lp; simp; omega) (.cells #[.int .i64 q0, .int .i64 q1, .int .i64 q2, .int .i64 q3, .int .i64 q4, .int .i64 q5, .int .i64 q6, .int .i64 q7] 222)
  have v3 : At (((w.alloc (.cells #[.int .i64 a0, .int .i64 a3] 161)).alloc (.cells #[.int .i64 a0, .int .i64 a1, .int .i64 a2, .int .i64 a3, .int .i64 a4, .int .i64 a5, .int .i64 a6] 75)).drew.alloc (.cells #[.int .i64 q0, .int .i64 q1, .int .i64 q2, .int .i64 q3, .int .i64 q4, .int .i64 q5, .int .i64 q6, .int .i64 q7] 222)) (w.heap.size + 1 + 1) 222 #[.int .i64 q0, .int .i64 q1, .int .i64 q2, .int .i64 q3, .int .i64 q4, .int .i64 q5, .int .i64 q6, .int .i64 q7] := by
    have := At.new ((w.alloc (.cells #[.int .i64 a0, .int .i64 a3] 161)).alloc (.cells #[.int .i64 a0, .int .i64 a1, .int .i64 a2, .int .i64 a3, .int .i64 a4, .int .i64 a5, .int .i64 a6] 75)).drew 222 #[.int .i64 q0, .int .i64 q1, .int .i64 q2, .int .i64 q3, .int .i64 q4, .int .i64 q5, .int .i64 q6, .int .i64 q7]
    simpa using this
  refine hK _ _ _ (fun _ h => h) ⟨⟨p3, k3⟩, m3⟩ ?_
  (try simp only [Act.put, List.setIfInBounds_toArray, List.set_cons_zero, List.set_cons_succ])
  refine mix_pure (v := ?_) (by rfl) (fun u hu => ?_) ?_
  rotate_left
  · go_simp
    (with_reducible rfl)
  (try simp only [Act.put, List.setIfInBounds_toArray, List.set_cons_zero, List.set_cons_succ])
  refine mix_nil ?_
  have v30 := v3.cell 0
  cases f
  · have HT := Lib.hid (show turnQ t (a0, (a1, a2, a3, a4), a5, a6) L = t from Hturn.out)
    go_wp2
    refine wp_region_mix [(0, false), (1, false), (2, false), (3, false), (4, false), (5, false), (6, false), (7, false), (8, true)] (fun u => (At u p 196 #[.int .i64 t, .map (some b)] ∧ At u w.heap.size 161 #[.int .i64 a0, .int .i64 a3]) ∧ At u (w.heap.size + 1) 75 #[.int .i64 a0, .int .i64 a1, .int .i64 a2, .int .i64 a3, .int .i64 a4, .int .i64 a5, .int .i64 a6]) (by kernel_rfl) (by kernel_rfl) (fun _ _ _ _ _ h => h) ⟨⟨p3.drew, k3.drew⟩, i3.drew⟩ ?_
    simp only [mixOps, List.map_cons, List.map_nil, List.getElem?_cons_succ, List.getElem?_cons_zero, Option.getD_some]
    iterate 8 (
      refine mix_pure (v := ?_) (by rfl) (fun u hu => ?_) ?_
      rotate_left
      · obtain ⟨⟨h1, h2⟩, h3⟩ := hu
        obtain ⟨_, _, _, _⟩ := h1.two
        obtain ⟨_, _, _, _⟩ := h2.two
        obtain ⟨_, _, _, _, _, _, _⟩ := h3.seven
        go_simp
        (with_reducible rfl)
      (try simp only [Act.put, List.setIfInBounds_toArray, List.set_cons_zero, List.set_cons_succ]))
    obtain ⟨w5, hrun, m5, hg5⟩ := m3.drew.put (t, (a0, (a1, a2, a3, a4), a5, a6))
    have p5 := p3.drew.grown hg5 (fun e => hne (Option.some.inj e).symm)
    have hB5 := hB3.drew.grown hg5 (by have := hB3.size; have := lp; simp; omega) (fun g e => by cases e; exact hBb)
    refine mix_call (by rfl) (fun K hK => ?_)
    refine wp_mapPut' _ _ _ _ rfl rfl rfl rfl hrun ?_
    refine hK _ _ _ (fun _ h => h) ⟨⟨p5, k3.drew.grown hg5 (fun e => by have := Option.some.inj e; omega)⟩, i3.drew.grown hg5 (fun e => by have := Option.some.inj e; omega)⟩ ?_
    (try simp only [Act.put, List.setIfInBounds_toArray, List.set_cons_zero, List.set_cons_succ])
    refine mix_nil ?_
    obtain ⟨c0, c1, d0, d1⟩ := p5.two
    have hw : IntKind.i64.wrap (t + 1) = t + 1 := IntWalk.i64_in _ (by omega)
    have p6 := p5.set 0 (.int .i64 (t + 1))
    have m6 := m5.stored (p := ⟨p, 0, none⟩) hne (.int .i64 (t + 1))
    have hB6 := hB5.setCell (p := ⟨p, 0, none⟩) hB (.int .i64 (t + 1))
    go_wp2
    go_end0
    exact ⟨rfl, p6, by rw [Hset.out, HT.out]; exact m6, hB6⟩
  · have HT := Lib.hid (show turnQ t (a0, (a1, a2, a3, a4), a5, a6) L = q0 from Hturn.out)
    go_wp2
    refine wp_region_mix [(0, false), (1, false), (2, false), (3, false), (4, false), (5, false), (6, false), (7, false), (8, true)] (fun u => (At u p 196 #[.int .i64 t, .map (some b)] ∧ At u w.heap.size 161 #[.int .i64 a0, .int .i64 a3]) ∧ At u (w.heap.size + 1) 75 #[.int .i64 a0, .int .i64 a1, .int .i64 a2, .int .i64 a3, .int .i64 a4, .int .i64 a5, .int .i64 a6]) (by kernel_rfl) (by kernel_rfl) (fun _ _ _ _ _ h => h) ⟨⟨p3.drew, k3.drew⟩, i3.drew⟩ ?_
    simp only [mixOps, List.map_cons, List.map_nil, List.getElem?_cons_succ, List.getElem?_cons_zero, Option.getD_some]
    iterate 8 (
      refine mix_pure (v := ?_) (by rfl) (fun u hu => ?_) ?_
      rotate_left
      · obtain ⟨⟨h1, h2⟩, h3⟩ := hu
        obtain ⟨_, _, _, _⟩ := h1.two
        obtain ⟨_, _, _, _⟩ := h2.two
        obtain ⟨_, _, _, _, _, _, _⟩ := h3.seven
        go_simp
        (with_reducible rfl)
      (try simp only [Act.put, List.setIfInBounds_toArray, List.set_cons_zero, List.set_cons_succ]))
    obtain ⟨w5, hrun, m5, hg5⟩ := m3.drew.put (q0, (a0, (a1, a2, a3, a4), a5, a6))
    have p5 := p3.drew.grown hg5 (fun e => hne (Option.some.inj e).symm)
    have hB5 := hB3.drew.grown hg5 (by have := hB3.size; have := lp; simp; omega) (fun g e => by cases e; exact hBb)
    refine mix_call (by rfl) (fun K hK => ?_)
    refine wp_mapPut' _ _ _ _ rfl rfl rfl rfl hrun ?_
    refine hK _ _ _ (fun _ h => h) ⟨⟨p5, k3.drew.grown hg5 (fun e => by have := Option.some.inj e; omega)⟩, i3.drew.grown hg5 (fun e => by have := Option.some.inj e; omega)⟩ ?_
    (try simp only [Act.put, List.setIfInBounds_toArray, List.set_cons_zero, List.set_cons_succ])
    refine mix_nil ?_
    obtain ⟨c0, c1, d0, d1⟩ := p5.two
    have hw : IntKind.i64.wrap (t + 1) = t + 1 := IntWalk.i64_in _ (by omega)
    have p6 := p5.set 0 (.int .i64 (t + 1))
    have m6 := m5.stored (p := ⟨p, 0, none⟩) hne (.int .i64 (t + 1))
    have hB6 := hB5.setCell (p := ⟨p, 0, none⟩) hB (.int .i64 (t + 1))
    go_wp2
    go_end0
    exact ⟨rfl, p6, by rw [Hset.out, HT.out]; exact m6, hB6⟩

set_option maxRecDepth 100000 in
set_option maxHeartbeats 4000000 in
theorem qFind (p b : Nat) (t : Int) (L : List Qd) (k0 k1 q0 q1 q2 q3 q4 q5 q6 q7 : Int) (f : Bool) (w : World) (hp : At w p 196 #[.int .i64 t, .map (some b)]) (hm : QMap w b L)
    (hl : ∀ u, QMap u b L → (Instr.lookup 194 (.map (some b)) (.agg #[.int .i64 k0, .int .i64 k1]) true).run Tryz.prog u = .ok (.tuple #[.agg #[.int .i64 q0, .int .i64 q1, .int .i64 q2, .int .i64 q3, .int .i64 q4, .int .i64 q5, .int .i64 q6, .int .i64 q7], .bool f]) u) :
    Calls Tryz.prog 133 #[.pointer (some ⟨p, 0, none⟩), .agg #[.int .i64 k0, .int .i64 k1]] w fun e w' => e = .returned (.tuple #[.agg #[.int .i64 q1, .int .i64 q2, .int .i64 q3, .int .i64 q4, .int .i64 q5, .int .i64 q6, .int .i64 q7], .bool f]) ∧ Below w.heap.size w w' := by
  have p2 := (hp.alloc (.cells #[.int .i64 k0, .int .i64 k1] 161)).alloc (.cells #[.int .i64 0, .int .i64 0, .int .i64 0, .int .i64 0, .int .i64 0, .int .i64 0, .int .i64 0] 75)
  have m2 := (hm.alloc (.cells #[.int .i64 k0, .int .i64 k1] 161)).alloc (.cells #[.int .i64 0, .int .i64 0, .int .i64 0, .int .i64 0, .int .i64 0, .int .i64 0, .int .i64 0] 75)
  have k2 := (At.new w 161 #[.int .i64 k0, .int .i64 k1]).alloc (.cells #[.int .i64 0, .int .i64 0, .int .i64 0, .int .i64 0, .int .i64 0, .int .i64 0, .int .i64 0] 75)
  have i2 : At ((w.alloc (.cells #[.int .i64 k0, .int .i64 k1] 161)).alloc (.cells #[.int .i64 0, .int .i64 0, .int .i64 0, .int .i64 0, .int .i64 0, .int .i64 0, .int .i64 0] 75)) (w.heap.size + 1) 75 #[.int .i64 0, .int .i64 0, .int .i64 0, .int .i64 0, .int .i64 0, .int .i64 0, .int .i64 0] := by
    have := At.new (w.alloc (.cells #[.int .i64 k0, .int .i64 k1] 161)) 75 #[.int .i64 0, .int .i64 0, .int .i64 0, .int .i64 0, .int .i64 0, .int .i64 0, .int .i64 0]
    simpa using this
  have hB2 : Below w.heap.size w ((w.alloc (.cells #[.int .i64 k0, .int .i64 k1] 161)).alloc (.cells #[.int .i64 0, .int .i64 0, .int .i64 0, .int .i64 0, .int .i64 0, .int .i64 0, .int .i64 0] 75)) := ((Below.refl _ _).alloc (Nat.le_refl _) _).alloc (by simp) _
  obtain ⟨c0, c1, d0, d1⟩ := p2.two
  clear hp hm
  go_enter Tryz.func133, Tryz.ntmps133
  go_wp2
  clear c0 c1 d0 d1
  refine wp_region_mix [(0, false), (1, false), (2, false), (3, false), (4, false), (5, false), (6, false), (7, false), (8, false), (9, true), (10, true), (11, false)] (fun u => (At u p 196 #[.int .i64 t, .map (some b)] ∧ At u w.heap.size 161 #[.int .i64 k0, .int .i64 k1]) ∧ QMap u b L) (by kernel_rfl) (by kernel_rfl) (fun _ _ _ _ _ h => h) ⟨⟨p2.drew, k2.drew⟩, m2.drew⟩ ?_
  simp only [mixOps, List.map_cons, List.map_nil, List.getElem?_cons_succ, List.getElem?_cons_zero, Option.getD_some]
  iterate 9 (
    refine mix_pure (v := ?_) (by rfl) (fun u hu => ?_) ?_
    rotate_left
    · obtain ⟨⟨h1, h2⟩, h3⟩ := hu
      obtain ⟨_, _, _, _⟩ := h1.two
      obtain ⟨_, _, _, _⟩ := h2.two
      have hlu := hl u h3
      go_simp
      (with_reducible rfl)
    (try simp only [Act.put, List.setIfInBounds_toArray, List.set_cons_zero, List.set_cons_succ]))
  refine mix_call (by rfl) (fun K hK => ?_)
  go_simp
  refine hK _ _ _ (fun _ h => h) ⟨⟨p2.drew.alloc _, k2.drew.alloc _⟩, m2.drew.alloc _⟩ ?_
  (try simp only [Act.put, List.setIfInBounds_toArray, List.set_cons_zero, List.set_cons_succ])
  refine mix_call (by rfl) (fun K hK => ?_)
  go_simp
  have p3 := p2.drew.alloc (.cells #[.int .i64 q0, .int .i64 q1, .int .i64 q2, .int .i64 q3, .int .i64 q4, .int .i64 q5, .int .i64 q6, .int .i64 q7] 222)
  have m3 := m2.drew.alloc (.cells #[.int .i64 q0, .int .i64 q1, .int .i64 q2, .int .i64 q3, .int .i64 q4, .int .i64 q5, .int .i64 q6, .int .i64 q7] 222)
  have k3 := k2.drew.alloc (.cells #[.int .i64 q0, .int .i64 q1, .int .i64 q2, .int .i64 q3, .int .i64 q4, .int .i64 q5, .int .i64 q6, .int .i64 q7] 222)
  have i3 := i2.drew.alloc (.cells #[.int .i64 q0, .int .i64 q1, .int .i64 q2, .int .i64 q3, .int .i64 q4, .int .i64 q5, .int .i64 q6, .int .i64 q7] 222)
  have hB3 := hB2.drew.alloc (by have := hB2.size; simp; omega) (.cells #[.int .i64 q0, .int .i64 q1, .int .i64 q2, .int .i64 q3, .int .i64 q4, .int .i64 q5, .int .i64 q6, .int .i64 q7] 222)
  have v3 : At (((w.alloc (.cells #[.int .i64 k0, .int .i64 k1] 161)).alloc (.cells #[.int .i64 0, .int .i64 0, .int .i64 0, .int .i64 0, .int .i64 0, .int .i64 0, .int .i64 0] 75)).drew.alloc (.cells #[.int .i64 q0, .int .i64 q1, .int .i64 q2, .int .i64 q3, .int .i64 q4, .int .i64 q5, .int .i64 q6, .int .i64 q7] 222)) (w.heap.size + 1 + 1) 222 #[.int .i64 q0, .int .i64 q1, .int .i64 q2, .int .i64 q3, .int .i64 q4, .int .i64 q5, .int .i64 q6, .int .i64 q7] := by
    have := At.new ((w.alloc (.cells #[.int .i64 k0, .int .i64 k1] 161)).alloc (.cells #[.int .i64 0, .int .i64 0, .int .i64 0, .int .i64 0, .int .i64 0, .int .i64 0, .int .i64 0] 75)).drew 222 #[.int .i64 q0, .int .i64 q1, .int .i64 q2, .int .i64 q3, .int .i64 q4, .int .i64 q5, .int .i64 q6, .int .i64 q7]
    simpa using this
  refine hK _ _ _ (fun _ h => h) ⟨⟨p3, k3⟩, m3⟩ ?_
  (try simp only [Act.put, List.setIfInBounds_toArray, List.set_cons_zero, List.set_cons_succ])
  refine mix_pure (v := ?_) (by rfl) (fun u hu => ?_) ?_
  rotate_left
  · go_simp
    (with_reducible rfl)
  (try simp only [Act.put, List.setIfInBounds_toArray, List.set_cons_zero, List.set_cons_succ])
  refine mix_nil ?_
  obtain ⟨v0, v1, v2, v3, v4, v5, v6, v7⟩ := v3.eight
  obtain ⟨z0, z1, z2, z3, z4, z5, z6⟩ := i3.seven
  obtain ⟨y0, y1, y2, y3, y4, y5, y6⟩ := i3.sevenF
  go_wp2
  refine bodyPost_ret (v := .tuple #[.agg #[.int .i64 q1, .int .i64 q2, .int .i64 q3, .int .i64 q4, .int .i64 q5, .int .i64 q6, .int .i64 q7], .bool f]) (by simp [results, Tryz.results133, go_sem, z0, z1, z2, z3, z4, z5, z6]) rfl ?_
  exact ⟨rfl, ((((Below.refl _ _).alloc (Nat.le_refl _) _).alloc (by simp) _).alloc (by simp; omega) _).drew⟩

set_option maxRecDepth 100000 in
set_option maxHeartbeats 4000000 in
theorem qRemove (p b B : Nat) (t : Int) (L : List Qd) (k0 k1 : Int) (w : World) (hp : At w p 196 #[.int .i64 t, .map (some b)]) (hm : QMap w b L) (hB : B ≤ p) (hBb : B ≤ b) :
    Calls Tryz.prog 136 #[.pointer (some ⟨p, 0, none⟩), .agg #[.int .i64 k0, .int .i64 k1]] w fun e w' => e = .returned (.tuple #[]) ∧ At w' p 196 #[.int .i64 t, .map (some b)] ∧ QMap w' b (eraseQ (k0, (0, 0, k1, 0), 0, 0) L) ∧ Below B w w' := by
  have hne := hp.apart hm
  have lp := hp.lt
  have lm := hm.lt
  have p1 := hp.alloc (.cells #[.int .i64 k0, .int .i64 k1] 161)
  have m1 := hm.alloc (.cells #[.int .i64 k0, .int .i64 k1] 161)
  have k1' := At.new w 161 #[.int .i64 k0, .int .i64 k1]
  have hB1 := (Below.refl B w).alloc (by omega) (.cells #[.int .i64 k0, .int .i64 k1] 161)
  go_enter Tryz.func136, Tryz.ntmps136
  go_wp2
  refine wp_region_mix [(0, false), (1, false), (2, false), (3, false), (4, false), (5, true)] (fun u => At u p 196 #[.int .i64 t, .map (some b)] ∧ At u w.heap.size 161 #[.int .i64 k0, .int .i64 k1]) (by kernel_rfl) (by kernel_rfl) (fun _ _ _ _ _ h => h) ⟨p1.drew, k1'.drew⟩ ?_
  simp only [mixOps, List.map_cons, List.map_nil, List.getElem?_cons_succ, List.getElem?_cons_zero, Option.getD_some]
  iterate 5 (
    refine mix_pure (v := ?_) (by rfl) (fun u hu => ?_) ?_
    rotate_left
    · obtain ⟨h1, h2⟩ := hu
      obtain ⟨_, _, _, _⟩ := h1.two
      obtain ⟨_, _, _, _⟩ := h2.two
      go_simp
      (with_reducible rfl)
    (try simp only [Act.put, List.setIfInBounds_toArray, List.set_cons_zero, List.set_cons_succ]))
  obtain ⟨w5, hrun, m5, hg5⟩ := m1.drew.drop (k0, (0, 0, k1, 0), 0, 0) 0
  have p5 := p1.drew.grown hg5 (fun e => hne (Option.some.inj e).symm)
  have hB5 := hB1.drew.grown hg5 (by simp; omega) (fun g e => by cases e; exact hBb)
  refine mix_call (by rfl) (fun K hK => ?_)
  refine wp_mapDrop _ _ _ _ rfl rfl rfl hrun ?_
  refine hK _ _ _ (fun _ h => h) ⟨p5, k1'.drew.grown hg5 (fun e => by have := Option.some.inj e; omega)⟩ ?_
  (try simp only [Act.put, List.setIfInBounds_toArray, List.set_cons_zero, List.set_cons_succ])
  refine mix_nil ?_
  go_wp2
  go_end0
  exact ⟨rfl, p5, m5, hB5⟩

theorem rises_is {L ys : List Qd} (h : Rises L) (hp : ys.Perm L) (hs : ys.Pairwise fun x y => ¬ y.1 < x.1) : ys = L := by
  refine List.Perm.eq_of_pairwise (le := fun x y => ¬ y.1 < x.1) (fun x y hx hy h1 h2 => ?_) hs (h.imp fun {x y} k => by omega) hp
  have hx' : x ∈ L := hp.mem_iff.1 hx
  obtain ⟨i, hi, rfl⟩ := List.getElem_of_mem hx'
  obtain ⟨j, hj, rfl⟩ := List.getElem_of_mem hy
  have hk := List.pairwise_iff_getElem.1 h
  rcases Nat.lt_trichotomy i j with hij | hij | hij
  · have := hk i j hi hj hij
    omega
  · subst hij
    rfl
  · have := hk j i hj hi hij
    omega

def ListRel (w2 : World) (l : List Hnt) (n : Nat) (o i : Value) (wr : World) : Prop :=
  ∃ (k : Nat) (A : Option Addr) (c : Nat), k ≤ n ∧ i = .int .i64 k ∧ o = .slice A k c ∧ Ow eH wr w2.heap.size A k c (l.take k) ∧ Below w2.heap.size w2 wr

set_option maxRecDepth 100000 in
set_option maxHeartbeats 4000000 in
theorem qList (p b : Nat) (t : Int) (L : List Qd) (w : World) (hp : At w p 196 #[.int .i64 t, .map (some b)]) (hm : QMap w b L) (hr : Rises L) (hL : L.length ≤ 1000) :
    Calls Tryz.prog 135 #[.pointer (some ⟨p, 0, none⟩)] w fun e w' => ∃ A c, e = .returned (.slice A L.length c) ∧ Ow eH w' w.heap.size A L.length c (L.map Prod.snd) ∧ Below w.heap.size w w' := by
  obtain ⟨c0, c1, _, _⟩ := hp.two
  have hl1 := (Below.refl w.heap.size w).alloc (Nat.le_refl _) (.cells #[.map (some b)] 194)
  have hm1 := At.new w 194 #[.map (some b)]
  have hs1 := hm.alloc (.cells #[.map (some b)] 194)
  have HS := sortedFuncQ b w.heap.size L _ hs1 hm1 hL
  go_enter Tryz.func135, Tryz.ntmps135
  go_wp2_with fail
  refine (valuesOfQ b _).mono ?_
  rintro e w1 ⟨rfl, rfl⟩
  go_wp2_with fail
  refine HS.mono ?_
  rintro e w2 ⟨A2, n, c2, ys, rfl, hperm, hpw, ow2, hb2⟩
  obtain rfl := rises_is hr hperm (hpw.imp fun {x y} h => by omega)
  have hB2 := hl1.trans (hb2.mono hl1.size)
  have hrd := ow2.rd okQ
  obtain ⟨n', hn'⟩ : ∃ n', ys.length = n' := ⟨_, rfl⟩
  have hnn : n = n' := (ow2.len okQ).symm.trans hn'
  subst hnn
  have Hn := Lib.hid hn'
  rw [hn'] at hL
  have HnI := Lib.hid hn'
  clear hn' HS hm1 hs1 hl1 hb2 ow2 hperm hpw hr hm hp c0 c1
  obtain ⟨l, hl⟩ : ∃ l, ys.map Prod.snd = l := ⟨_, rfl⟩
  have Hl := Lib.hid hl
  have hll : l.length = n := by rw [← hl, List.length_map, Hn.out]
  have Hll := Lib.hid hll
  clear hl hll
  go_wp2
  go_loopw [4, 15] (fun o i wr => ListRel w2 l n o i wr) (fun _ i _ => n - (intOf i).toNat)
  case atStart => exact ⟨0, none, 0, Nat.zero_le _, rfl, rfl, Ow.nil, Below.refl _ _⟩
  case round =>
    obtain ⟨k, A1, c1, hk, rfl, rfl, how, hbel⟩ := hrel
    by_cases hlt : k < n
    · obtain ⟨g, o, ⟨q0, q1, ⟨q2, q3, q4, q5⟩, q6, q7⟩, e2, hg, hx, hc⟩ := (hrd.below hbel (Nat.le_refl _)).at_ (k := k) (by rw [Hn.out]; exact hlt)
      subst e2
      have v0 := hc 0 _ rfl
      have v1 := hc 1 _ rfl
      have v2 := hc 2 _ rfl
      have v3 := hc 3 _ rfl
      have v4 := hc 4 _ rfl
      have v5 := hc 5 _ rfl
      have v6 := hc 6 _ rfl
      have v7 := hc 7 _ rfl
      simp only [eQ, Nat.add_zero] at v0 v1 v2 v3 v4 v5 v6 v7
      have Hx := Lib.hid (show l.take (k + 1) = l.take k ++ [(q1, (q2, q3, q4, q5), q6, q7)] from take_nextH (by rw [← Hl.out, List.getElem?_map, hx]; rfl))
      clear hx hc
      have hBa := hbel.alloc hbel.size (.cells #[.int .i64 q0, .int .i64 q1, .int .i64 q2, .int .i64 q3, .int .i64 q4, .int .i64 q5, .int .i64 q6, .int .i64 q7] 222)
      have ha := how.alloc (.cells #[.int .i64 q0, .int .i64 q1, .int .i64 q2, .int .i64 q3, .int .i64 q4, .int .i64 q5, .int .i64 q6, .int .i64 q7] 222)
      have ob : Rd eH ((wr.alloc (.cells #[.int .i64 q0, .int .i64 q1, .int .i64 q2, .int .i64 q3, .int .i64 q4, .int .i64 q5, .int .i64 q6, .int .i64 q7] 222)).alloc (.cells #[.int .i64 q1, .int .i64 q2, .int .i64 q3, .int .i64 q4, .int .i64 q5, .int .i64 q6, .int .i64 q7] 75)) (wr.heap.size + 1 + 1) (some ⟨wr.heap.size + 1, 0, none⟩) [(q1, (q2, q3, q4, q5), q6, q7)] := by
        have := rd_lit okH (wr.alloc (.cells #[.int .i64 q0, .int .i64 q1, .int .i64 q2, .int .i64 q3, .int .i64 q4, .int .i64 q5, .int .i64 q6, .int .i64 q7] 222)) 75 [(q1, (q2, q3, q4, q5), q6, q7)] #[.int .i64 q1, .int .i64 q2, .int .i64 q3, .int .i64 q4, .int .i64 q5, .int .i64 q6, .int .i64 q7] rfl
        simpa using this
      have ha2 := ha.alloc (.cells #[.int .i64 q1, .int .i64 q2, .int .i64 q3, .int .i64 q4, .int .i64 q5, .int .i64 q6, .int .i64 q7] 75)
      have hBb := hBa.alloc hBa.size (.cells #[.int .i64 q1, .int .i64 q2, .int .i64 q3, .int .i64 q4, .int .i64 q5, .int .i64 q6, .int .i64 q7] 75)
      go_wp2_with (at_builtin; refine wpList_append_ow okH _ rfl (.tmp 19) (.tmp 22) _ rfl w2.heap.size info_hnt Tryz.underlying37 rfl A1 k c1 (l.take k) rfl ha2 _ 1 1 _ [(q1, (q2, q3, q4, q5), q6, q7)] rfl ob rfl (by unfold maxLen; omega) (by omega) hBb.size ?_; intro A5 c5 w5 ow5 hg5 _; have hB5 := hBb.grown hg5 hBb.size (fun g hg => (how.lt g hg).1))
      exact ⟨⟨k + 1, A5, c5, by omega, by go_num, rfl, by rw [Hx.out]; exact ow5, hB5⟩, by simp [intOf]; omega⟩
    · obtain rfl : n = k := by omega
      rw [show l.take n = l from List.take_of_length_le (by rw [Hll.out]; exact Nat.le_refl _)] at how
      go_wp2
      go_ret
      rw [HnI.out, Hl.out]
      exact ⟨_, _, rfl, how.from_ hB2.size, hB2.trans (hbel.mono hB2.size)⟩

def OfRel (w : World) (l : List Hnt) (n : Nat) (i : Value) (wr : World) : Prop :=
  ∃ k : Nat, k ≤ n ∧ i = .int .i64 k ∧ At wr (w.heap.size + 1) 196 #[.int .i64 (k : Int), .map (some w.heap.size)] ∧ QMap wr w.heap.size (queueM (l.take k)) ∧ Below w.heap.size w wr

set_option maxRecDepth 100000 in
set_option maxHeartbeats 4000000 in
theorem qOf (A : Option Addr) (n c : Nat) (l : List Hnt) (w : World) (ha : Rd eH w w.heap.size A l) (hn : l.length = n) (hm : n ≤ 1000) :
    Calls Tryz.prog 113 #[.slice A n c] w fun e w' => e = .returned (.pointer (some ⟨w.heap.size + 1, 0, none⟩)) ∧ At w' (w.heap.size + 1) 196 #[.int .i64 (n : Int), .map (some w.heap.size)] ∧ QMap w' w.heap.size (queueM l) ∧ Below w.heap.size w w' := by
  have Hn := Lib.hid hn
  clear hn
  have hB1 := ((Below.refl w.heap.size w).alloc (Nat.le_refl _) (.map #[] 0)).alloc (by simp) (.cells #[.int .i64 0, .map (some w.heap.size)] 196)
  have p1 : At ((w.alloc (.map #[] 0)).alloc (.cells #[.int .i64 0, .map (some w.heap.size)] 196)) (w.heap.size + 1) 196 #[.int .i64 0, .map (some w.heap.size)] := by
    have := At.new (w.alloc (.map #[] 0)) 196 #[.int .i64 0, .map (some w.heap.size)]
    simpa using this
  have m1 := (QMap.made w).alloc (.cells #[.int .i64 0, .map (some w.heap.size)] 196)
  go_enter Tryz.func113, Tryz.ntmps113
  go_wp2_with fail
  refine (qNew _).mono ?_
  rintro e w1 ⟨rfl, rfl⟩
  go_wp2
  go_loopw [9] (fun i wr => OfRel w l n i wr) (fun i _ => n - (intOf i).toNat)
  case atStart => exact ⟨0, Nat.zero_le _, rfl, p1, m1, hB1⟩
  case round =>
    clear p1 m1 hB1
    obtain ⟨k, hk, rfl, hp, hq, hbel⟩ := hrel
    by_cases hlt : k < n
    · obtain ⟨g, o, a0, a1, a2, a3, a4, a5, a6, rfl, hg, hx, c0, c1, c2, c3, c4, c5, c6⟩ := (ha.below hbel (Nat.le_refl _)).hnt (k := k) (by rw [Hn.out]; exact hlt)
      have Hx := Lib.hid (queue_next hx)
      clear hx
      have hp1 := hp.alloc (.cells #[.int .i64 a0, .int .i64 a1, .int .i64 a2, .int .i64 a3, .int .i64 a4, .int .i64 a5, .int .i64 a6] 75)
      have hq1 := hq.alloc (.cells #[.int .i64 a0, .int .i64 a1, .int .i64 a2, .int .i64 a3, .int .i64 a4, .int .i64 a5, .int .i64 a6] 75)
      have hB1 := hbel.alloc hbel.size (.cells #[.int .i64 a0, .int .i64 a1, .int .i64 a2, .int .i64 a3, .int .i64 a4, .int .i64 a5, .int .i64 a6] 75)
      go_wp2_with fail
      refine (qPut (w.heap.size + 1) w.heap.size w.heap.size (k : Int) _ a0 a1 a2 a3 a4 a5 a6 _ hp1 hq1 (by omega) (Nat.le_refl _) (by omega)).mono ?_
      rintro e w2 ⟨rfl, hp2, hq2, hb2⟩
      have hB2 := hB1.trans hb2
      go_wp2
      refine ⟨⟨k + 1, by omega, by go_num, ?_, by rw [Hx.out]; exact hq2, hB2⟩, by simp [intOf]; omega⟩
      rw [show ((k + 1 : Nat) : Int) = (k : Int) + 1 by omega]
      exact hp2
    · obtain rfl : n = k := by omega
      rw [show l.take n = l from List.take_of_length_le (by rw [Hn.out]; exact Nat.le_refl _)] at hq
      go_wp2
      go_ret
      exact ⟨rfl, hp, hq, hbel⟩
end Go.Proofs.YtmaillakhhdkfaaGreatDoor
/-
  The program's faults of hints.
-/
namespace Go.Proofs.YtmaillakhhdkfaaGreatDoor
set_option maxRecDepth 20000
open Go.RowKit Go.Shelf
set_option linter.unusedSimpArgs false
set_option linter.unusedVariables false

set_option maxHeartbeats 4000000 in
theorem implHintsFault (A : Option Addr) (n c : Nat) (l : List Hnt) (w : World) (ha : Rd eH w w.heap.size A l) (hn : l.length = n) (hF : Flds w) :
    Calls Tryz.prog 64 #[.slice A n c] w fun e w' => e = .returned (.int .i64 (hintsFaultM l)) ∧ Below w.heap.size w w' := by
  by_cases hbig : 8 < n
  · have hb : (8 : Int) < (n : Int) := by omega
    rw [hintsFault_many (by omega)]
    go_enter Tryz.func64, Tryz.ntmps64
    go_wp2
    go_ret
    exact ⟨rfl, Below.refl _ _⟩
  have hb : (n : Int) ≤ 8 := by omega
  have Hbig := Lib.hid (show ¬ 8 < l.length by omega)
  have Hn := Lib.hid hn
  clear hn hbig
  go_enter Tryz.func64, Tryz.ntmps64
  go_wp2
  go_loopw [11] (fun i wr => RightRelH w l n i wr) (fun i _ => n - (intOf i).toNat)
  case atStart => exact ⟨0, Nat.zero_le _, rfl, fun _ _ h => absurd h (by omega), Below.refl _ _⟩
  case round =>
    obtain ⟨k, hk, rfl, hal, hbel⟩ := hrel
    have Hal := Lib.hid hal
    clear hal
    by_cases hlt : k < n
    · obtain ⟨g, o, a0, a1, a2, a3, a4, a5, a6, rfl, hg, hx, c0, c1, c2, c3, c4, c5, c6⟩ := (ha.below hbel (Nat.le_refl _)).hnt (k := k) (by rw [Hn.out]; exact hlt)
      have hB1 := hbel.alloc hbel.size (.cells #[.int .i64 a0, .int .i64 a1, .int .i64 a2, .int .i64 a3, .int .i64 a4, .int .i64 a5, .int .i64 a6] 75)
      have HH := implHintFault a0 a1 a2 a3 a4 a5 a6 _ (hF.below hB1)
      have Hx := Lib.hid hx
      clear hx
      rcases hfault_or (a0, (a1, a2, a3, a4), a5, a6) with hf | hf
      · rw [hf] at HH
        have Hf := Lib.hid hf
        clear hf
        go_wp2_with fail
        refine HH.mono ?_
        rintro e w2 ⟨rfl, hb2⟩
        have hB2 := hB1.trans (hb2.mono hB1.size)
        go_wp2
        refine ⟨⟨k + 1, by omega, by go_num, fun j x hj hx => ?_, hB2⟩, by simp [intOf]; omega⟩
        rcases Nat.lt_or_ge j k with h | h
        · exact Hal.out j x h hx
        · obtain rfl : j = k := by omega
          obtain rfl := Option.some.inj (Hx.out.symm.trans hx)
          exact Hf.out
      · rw [hf] at HH
        have Hr := Lib.hid (hintsFault_wrong Hbig.out Hx.out hf)
        clear hf
        go_wp2_with fail
        refine HH.mono ?_
        rintro e w2 ⟨rfl, hb2⟩
        have hB2 := hB1.trans (hb2.mono hB1.size)
        go_wp2
        go_ret
        exact ⟨by rw [Hr.out]; rfl, hB2⟩
    · obtain rfl : n = k := by omega
      have Hright := Lib.hid (rightHM_of Hn.out Hal.out)
      have HQ := qOf A n c l wr (ha.lift hbel) Hn.out (by omega)
      obtain ⟨m, hm⟩ : ∃ m, (queueM l).length = m := ⟨_, rfl⟩
      have Hm := Lib.hid hm
      obtain ⟨q1, q2, q3⟩ := queue_all l
      have Q1 := Lib.hid q1
      have Q2 := Lib.hid q2
      clear Hal hm q1 q2 q3
      by_cases hd : Dis l
      · have hmn : m = n := by rw [← Hm.out, Q1.out hd, zipQ_len, Hn.out]
        subst hmn
        have Hr := Lib.hid (hintsFault_ok Hbig.out Hright.out hd)
        have hno : ¬ (m : Int) < (m : Int) := by omega
        clear hd
        go_wp2_with fail
        refine HQ.mono ?_
        rintro e w2 ⟨rfl, hp, hq, hb2⟩
        have hB2 := hbel.trans (hb2.mono hbel.size)
        have HSZ := qSize _ _ _ _ _ hp hq
        rw [Hm.out] at HSZ
        go_wp2_with fail
        refine HSZ.mono ?_
        rintro e w99 ⟨rfl, rfl⟩
        go_wp2
        go_ret
        exact ⟨by rw [Hr.out]; rfl, hB2⟩
      · have hmn : m < n := by have := Q2.out hd; have := Hm.out; have := Hn.out; omega
        have hlt' : (m : Int) < (n : Int) := by omega
        have Hr := Lib.hid (hintsFault_taken Hbig.out Hright.out hd)
        clear hd
        go_wp2_with fail
        refine HQ.mono ?_
        rintro e w2 ⟨rfl, hp, hq, hb2⟩
        have hB2 := hbel.trans (hb2.mono hbel.size)
        have HSZ := qSize _ _ _ _ _ hp hq
        rw [Hm.out] at HSZ
        go_wp2_with fail
        refine HSZ.mono ?_
        rintro e w99 ⟨rfl, rfl⟩
        go_wp2
        go_ret
        exact ⟨by rw [Hr.out]; rfl, hB2⟩
end Go.Proofs.YtmaillakhhdkfaaGreatDoor
/-
  The program's AddHint.
-/
namespace Go.Proofs.YtmaillakhhdkfaaGreatDoor
set_option maxRecDepth 20000
open Go.RowKit Go.Shelf
set_option linter.unusedSimpArgs false
set_option linter.unusedVariables false

set_option maxHeartbeats 400000 in
theorem cmpOr64H (g n c : Nat) (l : List Int) (w : World) (hl : Ints w g l) (hn : l.length = n) (hm : n ≤ 1000) :
    Calls Tryz.prog 47 #[.slice (some ⟨g, 0, none⟩) n c] w fun e w' => e = .returned (.int .i64 (orM l)) ∧ w' = w := by
  have Hn := Lib.hid hn
  clear hn
  go_enter Tryz.func47, Tryz.ntmps47
  go_wp2
  go_loopw [8] (fun i wr => OrRel w l n i wr) (fun i _ => n - (intOf i).toNat)
  case atStart => exact ⟨0, Nat.zero_le _, rfl, rfl, rfl⟩
  case round =>
    obtain ⟨k, hk, rfl, hd, rfl⟩ := hrel
    have Hd := Lib.hid hd
    clear hd
    by_cases hlt : k < n
    · have hkl : k < l.length := by rw [Hn.out]; exact hlt
      obtain ⟨x, hx⟩ : ∃ x, l[k]? = some x := ⟨l[k], List.getElem?_eq_getElem hkl⟩
      have hc := hl k x hx
      have Ho := Lib.hid (show orM (l.drop k) = if x = 0 then orM (l.drop (k + 1)) else x by
        rw [List.drop_eq_getElem_cons hkl, orM_cons]
        rw [List.getElem?_eq_getElem hkl] at hx
        rw [Option.some.inj hx])
      clear hx
      by_cases h0 : x = 0
      · subst h0
        go_wp2
        refine ⟨⟨k + 1, by omega, by go_num, ?_, rfl⟩, by simp [intOf]; omega⟩
        have := Ho.out
        rw [if_pos rfl] at this
        rw [← this]
        exact Hd.out
      · have hne : (x != 0) = true := by simpa using h0
        have Hx := Lib.hid (show orM l = x by rw [← Hd.out, Ho.out, if_neg h0])
        clear h0
        go_wp2
        go_ret
        exact ⟨by rw [Hx.out]; rfl, rfl⟩
    · obtain rfl : k = n := by omega
      have Hf := Lib.hid (show orM l = 0 by rw [← Hd.out, List.drop_eq_nil_of_le (Nat.le_of_eq Hn.out)]; rfl)
      go_wp2
      go_ret
      exact ⟨by rw [Hf.out]; rfl, rfl⟩
theorem or_twoH (x y : Int) : orM [x, y] = if x ≠ 0 then x else y := by
  rw [orM_cons, orM_cons, orM_nil]
  by_cases h : x = 0 <;> by_cases k : y = 0 <;> simp [h, k]
theorem ints_twoH {w : World} {t : TypeId} {x y : Int} : Ints (w.alloc (.cells #[.int .i64 x, .int .i64 y] t)) w.heap.size [x, y] := by
  have h := At.new w t #[.int .i64 x, .int .i64 y]
  intro k u hk
  match k, hk with
  | 0, hk => obtain rfl : x = u := by simpa using hk
             exact h.cell 0
  | 1, hk => obtain rfl : y = u := by simpa using hk
             exact h.cell 1
  | k + 2, hk => simp at hk
theorem addM_or (l : List Hnt) (p : Int) (x : Smp) : addM l p x = if orM [hintsFaultM l, hfaultM (p, x, 0, 0)] ≠ 0 then (orM [hintsFaultM l, hfaultM (p, x, 0, 0)], []) else if 0 ≤ findHI l p x.2.2.1 then (6, []) else if 8 ≤ l.length then (7, []) else (0, l ++ [(p, x, 0, 0)]) := by
  rw [or_twoH]
  unfold addM
  by_cases h0 : hintsFaultM l = 0
  · rw [if_neg (by simp [h0])]
    have hr : rangeH (p, x, 0, 0) = inB (p, 0, 3) := by
      unfold rangeH
      simp [inB]
    rcases faultM_or x with hf | hf
    · rw [if_neg (by simp [hf])]
      rcases hp : inB (p, 0, 3)
      · rw [if_pos rfl, hfault_no hf (hr.trans hp)]
        simp [h0]
      · rw [if_neg (by simp), hfault_yes hf (hr.trans hp)]
        simp [h0]
    · rw [if_pos (by simp [hf]), hfault_smp (h := (p, x, 0, 0)) hf]
      simp [h0]
  · simp [h0]

set_option maxRecDepth 100000 in
set_option maxHeartbeats 4000000 in
theorem implAddHint (A : Option Addr) (n c : Nat) (l : List Hnt) (p x0 x1 x2 x3 : Int) (w : World) (ha : Rd eH w w.heap.size A l) (hn : l.length = n) (hF : Flds w) :
    Calls Tryz.prog 93 #[.slice A n c, .int .i64 p, .agg #[.int .i64 x0, .int .i64 x1, .int .i64 x2, .int .i64 x3]] w (RetHs (addM l p (x0, x1, x2, x3)) w) := by
  have hB0 : Below w.heap.size w (((w.alloc (.cells #[.int .i64 x0, .int .i64 x1, .int .i64 x2, .int .i64 x3] 25)).alloc (.cells #[.int .i64 0, .slice none 0 0] 138)).alloc (.cells #[.int .i64 p, .int .i64 x0, .int .i64 x1, .int .i64 x2, .int .i64 x3, .int .i64 0, .int .i64 0] 75)) := (((Below.refl _ _).alloc (Nat.le_refl _) _).alloc (by simp) _).alloc (by simp; omega) _
  have bx0 : At (((w.alloc (.cells #[.int .i64 x0, .int .i64 x1, .int .i64 x2, .int .i64 x3] 25)).alloc (.cells #[.int .i64 0, .slice none 0 0] 138)).alloc (.cells #[.int .i64 p, .int .i64 x0, .int .i64 x1, .int .i64 x2, .int .i64 x3, .int .i64 0, .int .i64 0] 75)) w.heap.size 25 #[.int .i64 x0, .int .i64 x1, .int .i64 x2, .int .i64 x3] := ((At.new w 25 #[.int .i64 x0, .int .i64 x1, .int .i64 x2, .int .i64 x3]).alloc _).alloc _
  have r0 : At (((w.alloc (.cells #[.int .i64 x0, .int .i64 x1, .int .i64 x2, .int .i64 x3] 25)).alloc (.cells #[.int .i64 0, .slice none 0 0] 138)).alloc (.cells #[.int .i64 p, .int .i64 x0, .int .i64 x1, .int .i64 x2, .int .i64 x3, .int .i64 0, .int .i64 0] 75)) (w.heap.size + 1) 138 #[.int .i64 0, .slice none 0 0] := by
    have := (At.new (w.alloc (.cells #[.int .i64 x0, .int .i64 x1, .int .i64 x2, .int .i64 x3] 25)) 138 #[.int .i64 0, .slice none 0 0]).alloc (.cells #[.int .i64 p, .int .i64 x0, .int .i64 x1, .int .i64 x2, .int .i64 x3, .int .i64 0, .int .i64 0] 75)
    simpa using this
  have ab0 : At (((w.alloc (.cells #[.int .i64 x0, .int .i64 x1, .int .i64 x2, .int .i64 x3] 25)).alloc (.cells #[.int .i64 0, .slice none 0 0] 138)).alloc (.cells #[.int .i64 p, .int .i64 x0, .int .i64 x1, .int .i64 x2, .int .i64 x3, .int .i64 0, .int .i64 0] 75)) (w.heap.size + 2) 75 #[.int .i64 p, .int .i64 x0, .int .i64 x1, .int .i64 x2, .int .i64 x3, .int .i64 0, .int .i64 0] := by
    have := At.new ((w.alloc (.cells #[.int .i64 x0, .int .i64 x1, .int .i64 x2, .int .i64 x3] 25)).alloc (.cells #[.int .i64 0, .slice none 0 0] 138)) 75 #[.int .i64 p, .int .i64 x0, .int .i64 x1, .int .i64 x2, .int .i64 x3, .int .i64 0, .int .i64 0]
    simpa using this
  have ha0 := ha.lift hB0
  have hF0 := hF.below hB0
  obtain ⟨fa, hfa⟩ : ∃ fa, hintsFaultM l = fa := ⟨_, rfl⟩
  obtain ⟨fb, hfb⟩ : ∃ fb, hfaultM (p, (x0, x1, x2, x3), 0, 0) = fb := ⟨_, rfl⟩
  obtain ⟨s, hs⟩ : ∃ s, orM [fa, fb] = s := ⟨_, rfl⟩
  have HA := fun W h1 h2 => implHintsFault A n c l W h1 hn h2
  rw [hfa] at HA
  have HB := fun W h => implHintFault p x0 x1 x2 x3 0 0 W h
  rw [hfb] at HB
  have HO := fun W t => cmpOr64H (W : World).heap.size 2 2 [fa, fb] _ (ints_twoH (w := W) (t := t)) rfl (by omega)
  rw [hs] at HO
  have hres := addM_or l p (x0, x1, x2, x3)
  rw [hfa, hfb, hs] at hres
  have Hfa := Lib.hid hfa
  have Hs := Lib.hid hs
  have Hres := Lib.hid hres
  have Hn := Lib.hid hn
  clear hfa hfb hs hn hres
  go_enter Tryz.func93, Tryz.ntmps93
  go_wp2
  have r0 := r0.drew
  have bx0 := bx0.drew
  have ab0 := ab0.drew
  have ha0 := ha0.drewN 1
  have hF0 : Flds (((w.alloc (.cells #[.int .i64 x0, .int .i64 x1, .int .i64 x2, .int .i64 x3] 25)).alloc (.cells #[.int .i64 0, .slice none 0 0] 138)).alloc (.cells #[.int .i64 p, .int .i64 x0, .int .i64 x1, .int .i64 x2, .int .i64 x3, .int .i64 0, .int .i64 0] 75)).drew := hF0.below (Below.refl _ _).drew
  have hB0 := hB0.drew
  refine wp_region_mix [(0, false), (2, false), (1, true), (3, true), (4, true), (5, true), (6, false)] (fun u => At u (w.heap.size + 2) 75 #[.int .i64 p, .int .i64 x0, .int .i64 x1, .int .i64 x2, .int .i64 x3, .int .i64 0, .int .i64 0]) (by kernel_rfl) (by kernel_rfl) (fun _ _ _ _ _ h => h) ab0 ?_
  simp only [mixOps, List.map_cons, List.map_nil, List.getElem?_cons_succ, List.getElem?_cons_zero, Option.getD_some]
  iterate 2 (
    refine mix_pure (v := ?_) (by rfl) (fun u hu => ?_) ?_
    rotate_left
    · obtain ⟨_, _, _, _, _, _, _⟩ := hu.seven
      go_simp
      (with_reducible rfl)
    (try simp only [Act.put, List.setIfInBounds_toArray, List.set_cons_zero, List.set_cons_succ]))
  refine mix_call (by rfl) (fun K hK => ?_)
  go_simp
  refine (HA _ ha0 hF0).mono ?_
  rintro e w1 ⟨rfl, hb1⟩
  have r1 := r0.below hb1 r0.lt
  have bx1 := bx0.below hb1 bx0.lt
  have ab1 := ab0.below hb1 ab0.lt
  have ha1 := ha0.lift hb1
  have hF1 := hF0.below hb1
  have hB1 := hB0.trans (hb1.mono hB0.size)
  refine hK _ _ _ (fun _ h => h) ab1 ?_
  (try simp only [Act.put, List.setIfInBounds_toArray, List.set_cons_zero, List.set_cons_succ])
  refine mix_call (by rfl) (fun K hK => ?_)
  go_simp
  refine (HB _ hF1).mono ?_
  rintro e w2 ⟨rfl, hb2⟩
  have r2 := r1.below hb2 r1.lt
  have bx2 := bx1.below hb2 bx1.lt
  have ab2 := ab1.below hb2 ab1.lt
  have ha2 := ha1.lift hb2
  have hF2 := hF1.below hb2
  have hB2 := hB1.trans (hb2.mono hB1.size)
  refine hK _ _ _ (fun _ h => h) ab2 ?_
  (try simp only [Act.put, List.setIfInBounds_toArray, List.set_cons_zero, List.set_cons_succ])
  refine mix_call (by rfl) (fun K hK => ?_)
  go_simp
  have al3 := (Below.refl w2.heap.size w2).alloc (Nat.le_refl _) (.cells #[.int .i64 fa, .int .i64 fb] 2)
  have r3 := r2.alloc (.cells #[.int .i64 fa, .int .i64 fb] 2)
  have bx3 := bx2.alloc (.cells #[.int .i64 fa, .int .i64 fb] 2)
  have ab3 := ab2.alloc (.cells #[.int .i64 fa, .int .i64 fb] 2)
  have ha3 := ha2.lift al3
  have hF3 := hF2.below al3
  have hB3 := hB2.alloc hB2.size (.cells #[.int .i64 fa, .int .i64 fb] 2)
  refine hK _ _ _ (fun _ h => h) ab3 ?_
  (try simp only [Act.put, List.setIfInBounds_toArray, List.set_cons_zero, List.set_cons_succ])
  refine mix_call (by rfl) (fun K hK => ?_)
  go_simp
  refine (HO w2 _).mono ?_
  rintro e w4 ⟨rfl, hw4⟩
  rw [← hw4] at r3 bx3 ab3 ha3 hF3 hB3
  clear hw4 al3
  refine hK _ _ _ (fun _ h => h) ab3 ?_
  (try simp only [Act.put, List.setIfInBounds_toArray, List.set_cons_zero, List.set_cons_succ])
  refine mix_pure (v := ?_) (by rfl) (fun u hu => ?_) ?_
  rotate_left
  · go_simp
    (with_reducible rfl)
  (try simp only [Act.put, List.setIfInBounds_toArray, List.set_cons_zero, List.set_cons_succ])
  refine mix_nil ?_
  by_cases hz : s = 0
  rotate_left
  · have hne : (s != 0) = true := by rw [bne_iff_ne]; exact hz
    have Hfin := Lib.hid (show addM l p (x0, x1, x2, x3) = (s, []) by rw [Hres.out, if_pos hz])
    clear hz
    obtain ⟨c0, c1, f0, f1⟩ := r3.two
    go_wp2
    refine bodyPost_ret (v := .agg #[.int .i64 s, .slice none 0 0]) (by simp [results, Tryz.results93, go_sem, c0, c1]) rfl ?_
    rw [Hfin.out]
    exact ⟨_, _, _, rfl, Ow.nil, (hB3.setCell (by simp) _).setCell (by simp) _⟩
  subst hz
  have h0 : hintsFaultM l = 0 := by
    have := Hs.out
    rw [or_twoH] at this
    rw [Hfa.out]
    by_cases h : fa = 0
    · exact h
    · rw [if_pos h] at this
      exact this
  have Hres := Lib.hid (show addM l p (x0, x1, x2, x3) = if 0 ≤ findHI l p x2 then (6, []) else if 8 ≤ l.length then (7, []) else (0, l ++ [(p, (x0, x1, x2, x3), 0, 0)]) by rw [Hres.out, if_neg (by simp)])
  have hn := Hn.out
  have hn8 := ((hintsFault_iff l).1 h0).1
  rw [hn] at hn8
  have Hz := Lib.hid (queue_zip h0)
  obtain ⟨L, hLz⟩ : ∃ L, zipQ l = L := ⟨_, rfl⟩
  have Hlz := Lib.hid hLz
  have Hll := Lib.hid (show L.length = n by rw [← hLz, zipQ_len, hn])
  obtain ⟨q0, q1, q2, q3, q4, q5, q6, q7, f, hl0, -, hfst, hsome⟩ := lookQ L (p, (x0, x1, x2, x3), 0, 0) 0
  have hl : ∀ b u, QMap u b L → (Instr.lookup 194 (.map (some b)) (.agg #[.int .i64 p, .int .i64 x2]) true).run Tryz.prog u = .ok (.tuple #[.agg #[.int .i64 q0, .int .i64 q1, .int .i64 q2, .int .i64 q3, .int .i64 q4, .int .i64 q5, .int .i64 q6, .int .i64 q7], .bool f]) u := fun b u hu => hl0 u b hu
  clear hl0
  rw [← hLz, first_zip] at hfst hsome
  have hfs : f = (findH l p x2).isSome := by
    rw [← hsome]
    show ((findH l p x2).map _).isSome = _
    cases findH l p x2 <;> rfl
  clear hsome hfst
  rcases hk : findH l p x2 with _ | k
  rotate_left
  · have hi : findHI l p x2 = (k : Int) := by unfold findHI; rw [hk]
    rw [hk] at hfs
    have hff : f = true := hfs
    subst hff
    have Hfin := Lib.hid (show addM l p (x0, x1, x2, x3) = (6, []) by rw [Hres.out, if_pos (by rw [hi]; omega)])
    clear h0 hn hk hfs hi hLz
    go_wp2_with fail
    refine (qOf A n c l _ ha3 Hn.out (by omega)).mono ?_
    rintro e w11 ⟨rfl, hp11, hq11, hb11⟩
    have bx_11 := bx3.below hb11 bx3.lt
    have r_11 := r3.below hb11 r3.lt
    have ab_11 := ab3.below hb11 ab3.lt
    have ha_11 := ha3.lift hb11
    have hF_11 := hF3.below hb11
    have hB_11 := hB3.trans (hb11.mono hB3.size)
    rw [Hz.out, Hlz.out] at hq11
    obtain ⟨bx0_11, bx1_11, bx2_11, bx3_11, _, _, _, _⟩ := bx_11.four
    have al12 := (Below.refl w11.heap.size w11).alloc (Nat.le_refl _) (.cells #[.int .i64 p, .int .i64 x2] 161)
    have kb := At.new w11 161 #[.int .i64 p, .int .i64 x2]
    have bx_12 := bx_11.alloc (.cells #[.int .i64 p, .int .i64 x2] 161)
    have r_12 := r_11.alloc (.cells #[.int .i64 p, .int .i64 x2] 161)
    have ab_12 := ab_11.alloc (.cells #[.int .i64 p, .int .i64 x2] 161)
    have q_12 := hp11.alloc (.cells #[.int .i64 p, .int .i64 x2] 161)
    have qm_12 := hq11.alloc (.cells #[.int .i64 p, .int .i64 x2] 161)
    have ha_12 := ha_11.lift al12
    have hF_12 := hF_11.below al12
    have hB_12 := hB_11.alloc hB_11.size (.cells #[.int .i64 p, .int .i64 x2] 161)
    obtain ⟨kb0_12, kb1_12, kbf_12, kbg_12⟩ := kb.two
    go_wp2_with fail
    refine (qFind (w4.heap.size + 1) w4.heap.size (n : Int) L p x2 q0 q1 q2 q3 q4 q5 q6 q7 true _ q_12 qm_12 (hl _)).mono ?_
    rintro e w13 ⟨rfl, hb13⟩
    have bx_13 := bx_12.below hb13 bx_12.lt
    have r_13 := r_12.below hb13 r_12.lt
    have ab_13 := ab_12.below hb13 ab_12.lt
    have q_13 := q_12.below hb13 q_12.lt
    have kb_13 := kb.below hb13 kb.lt
    have qm_13 := qm_12.below hb13 qm_12.lt
    have ha_13 := ha_12.lift hb13
    have hF_13 := hF_12.below hb13
    have hB_13 := hB_12.trans (hb13.mono hB_12.size)
    have al14 := (Below.refl w13.heap.size w13).alloc (Nat.le_refl _) (.cells #[.int .i64 q1, .int .i64 q2, .int .i64 q3, .int .i64 q4, .int .i64 q5, .int .i64 q6, .int .i64 q7] 75)
    have hb := At.new w13 75 #[.int .i64 q1, .int .i64 q2, .int .i64 q3, .int .i64 q4, .int .i64 q5, .int .i64 q6, .int .i64 q7]
    have bx_14 := bx_13.alloc (.cells #[.int .i64 q1, .int .i64 q2, .int .i64 q3, .int .i64 q4, .int .i64 q5, .int .i64 q6, .int .i64 q7] 75)
    have r_14 := r_13.alloc (.cells #[.int .i64 q1, .int .i64 q2, .int .i64 q3, .int .i64 q4, .int .i64 q5, .int .i64 q6, .int .i64 q7] 75)
    have ab_14 := ab_13.alloc (.cells #[.int .i64 q1, .int .i64 q2, .int .i64 q3, .int .i64 q4, .int .i64 q5, .int .i64 q6, .int .i64 q7] 75)
    have q_14 := q_13.alloc (.cells #[.int .i64 q1, .int .i64 q2, .int .i64 q3, .int .i64 q4, .int .i64 q5, .int .i64 q6, .int .i64 q7] 75)
    have kb_14 := kb_13.alloc (.cells #[.int .i64 q1, .int .i64 q2, .int .i64 q3, .int .i64 q4, .int .i64 q5, .int .i64 q6, .int .i64 q7] 75)
    have qm_14 := qm_13.alloc (.cells #[.int .i64 q1, .int .i64 q2, .int .i64 q3, .int .i64 q4, .int .i64 q5, .int .i64 q6, .int .i64 q7] 75)
    have ha_14 := ha_13.lift al14
    have hF_14 := hF_13.below al14
    have hB_14 := hB_13.alloc hB_13.size (.cells #[.int .i64 q1, .int .i64 q2, .int .i64 q3, .int .i64 q4, .int .i64 q5, .int .i64 q6, .int .i64 q7] 75)
    obtain ⟨r0_14, r1_14, rf_14, rg_14⟩ := r_14.two
    go_wp2_with fail
    refine bodyPost_ret (v := .agg #[.int .i64 6, .slice none 0 0]) (by simp [results, Tryz.results93, go_sem, r0_14, r1_14]) rfl ?_
    rw [Hfin.out]
    exact ⟨_, _, _, rfl, Ow.nil, (hB_14.setCell (by simp) _).setCell (by simp) _⟩
  have hi : findHI l p x2 = -1 := by unfold findHI; rw [hk]
  rw [hk] at hfs
  have hff : f = false := hfs
  subst hff
  by_cases hfull : 8 ≤ n
  · have Hfin := Lib.hid (show addM l p (x0, x1, x2, x3) = (7, []) by rw [Hres.out, if_neg (by rw [hi]; omega), if_pos (by omega)])
    have hn8' : n = 8 := by omega
    have hsz : ((n : Int) == 8) = true := by rw [hn8']; rfl
    clear h0 hn hk hfs hi hLz hfull hn8'
    go_wp2_with fail
    refine (qOf A n c l _ ha3 Hn.out (by omega)).mono ?_
    rintro e w11 ⟨rfl, hp11, hq11, hb11⟩
    have bx_11 := bx3.below hb11 bx3.lt
    have r_11 := r3.below hb11 r3.lt
    have ab_11 := ab3.below hb11 ab3.lt
    have ha_11 := ha3.lift hb11
    have hF_11 := hF3.below hb11
    have hB_11 := hB3.trans (hb11.mono hB3.size)
    rw [Hz.out, Hlz.out] at hq11
    obtain ⟨bx0_11, bx1_11, bx2_11, bx3_11, _, _, _, _⟩ := bx_11.four
    have al12 := (Below.refl w11.heap.size w11).alloc (Nat.le_refl _) (.cells #[.int .i64 p, .int .i64 x2] 161)
    have kb := At.new w11 161 #[.int .i64 p, .int .i64 x2]
    have bx_12 := bx_11.alloc (.cells #[.int .i64 p, .int .i64 x2] 161)
    have r_12 := r_11.alloc (.cells #[.int .i64 p, .int .i64 x2] 161)
    have ab_12 := ab_11.alloc (.cells #[.int .i64 p, .int .i64 x2] 161)
    have q_12 := hp11.alloc (.cells #[.int .i64 p, .int .i64 x2] 161)
    have qm_12 := hq11.alloc (.cells #[.int .i64 p, .int .i64 x2] 161)
    have ha_12 := ha_11.lift al12
    have hF_12 := hF_11.below al12
    have hB_12 := hB_11.alloc hB_11.size (.cells #[.int .i64 p, .int .i64 x2] 161)
    obtain ⟨kb0_12, kb1_12, kbf_12, kbg_12⟩ := kb.two
    go_wp2_with fail
    refine (qFind (w4.heap.size + 1) w4.heap.size (n : Int) L p x2 q0 q1 q2 q3 q4 q5 q6 q7 false _ q_12 qm_12 (hl _)).mono ?_
    rintro e w13 ⟨rfl, hb13⟩
    have bx_13 := bx_12.below hb13 bx_12.lt
    have r_13 := r_12.below hb13 r_12.lt
    have ab_13 := ab_12.below hb13 ab_12.lt
    have q_13 := q_12.below hb13 q_12.lt
    have kb_13 := kb.below hb13 kb.lt
    have qm_13 := qm_12.below hb13 qm_12.lt
    have ha_13 := ha_12.lift hb13
    have hF_13 := hF_12.below hb13
    have hB_13 := hB_12.trans (hb13.mono hB_12.size)
    have al14 := (Below.refl w13.heap.size w13).alloc (Nat.le_refl _) (.cells #[.int .i64 q1, .int .i64 q2, .int .i64 q3, .int .i64 q4, .int .i64 q5, .int .i64 q6, .int .i64 q7] 75)
    have hb := At.new w13 75 #[.int .i64 q1, .int .i64 q2, .int .i64 q3, .int .i64 q4, .int .i64 q5, .int .i64 q6, .int .i64 q7]
    have bx_14 := bx_13.alloc (.cells #[.int .i64 q1, .int .i64 q2, .int .i64 q3, .int .i64 q4, .int .i64 q5, .int .i64 q6, .int .i64 q7] 75)
    have r_14 := r_13.alloc (.cells #[.int .i64 q1, .int .i64 q2, .int .i64 q3, .int .i64 q4, .int .i64 q5, .int .i64 q6, .int .i64 q7] 75)
    have ab_14 := ab_13.alloc (.cells #[.int .i64 q1, .int .i64 q2, .int .i64 q3, .int .i64 q4, .int .i64 q5, .int .i64 q6, .int .i64 q7] 75)
    have q_14 := q_13.alloc (.cells #[.int .i64 q1, .int .i64 q2, .int .i64 q3, .int .i64 q4, .int .i64 q5, .int .i64 q6, .int .i64 q7] 75)
    have kb_14 := kb_13.alloc (.cells #[.int .i64 q1, .int .i64 q2, .int .i64 q3, .int .i64 q4, .int .i64 q5, .int .i64 q6, .int .i64 q7] 75)
    have qm_14 := qm_13.alloc (.cells #[.int .i64 q1, .int .i64 q2, .int .i64 q3, .int .i64 q4, .int .i64 q5, .int .i64 q6, .int .i64 q7] 75)
    have ha_14 := ha_13.lift al14
    have hF_14 := hF_13.below al14
    have hB_14 := hB_13.alloc hB_13.size (.cells #[.int .i64 q1, .int .i64 q2, .int .i64 q3, .int .i64 q4, .int .i64 q5, .int .i64 q6, .int .i64 q7] 75)
    obtain ⟨kb0_14, kb1_14, kbf_14, kbg_14⟩ := kb_14.two
    have HSZ := qSize _ _ _ L _ q_14 qm_14
    rw [Hll.out] at HSZ
    go_wp2_with fail
    refine (HSZ).mono ?_
    rintro e w99 ⟨rfl, rfl⟩
    obtain ⟨r0_14, r1_14, rf_14, rg_14⟩ := r_14.two
    go_wp2_with fail
    refine bodyPost_ret (v := .agg #[.int .i64 7, .slice none 0 0]) (by simp [results, Tryz.results93, go_sem, r0_14, r1_14]) rfl ?_
    rw [Hfin.out]
    exact ⟨_, _, _, rfl, Ow.nil, (hB_14.setCell (by simp) _).setCell (by simp) _⟩
  have hm1 := add_zip (l := l) (h := (p, (x0, x1, x2, x3), 0, 0)) hk
  rw [hLz, hn] at hm1
  have Hm0 := Lib.hid hm1
  obtain ⟨L', hL'⟩ : ∃ L', zipQ (l ++ [(p, (x0, x1, x2, x3), 0, 0)]) = L' := ⟨_, rfl⟩
  have Hl' := Lib.hid (hm1.trans hL')
  have Hm1 := Lib.hid (show L'.map Prod.snd = l ++ [(p, (x0, x1, x2, x3), 0, 0)] by rw [← hL', zipQ_snd])
  have Hm2 := Lib.hid (show Rises L' by rw [← hL']; exact rises_zip _)
  have Hm3 := Lib.hid (show L'.length ≤ 1000 by rw [← hL', zipQ_len, List.length_append, List.length_singleton]; omega)
  have Hfin := Lib.hid (show addM l p (x0, x1, x2, x3) = (0, l ++ [(p, (x0, x1, x2, x3), 0, 0)]) by rw [Hres.out, if_neg (by rw [hi]; omega), if_neg (by omega)])
  have hsz : ((n : Int) == 8) = false := by simp; omega
  clear h0 hn hk hfs hi hLz hfull hm1 hL'
  go_wp2_with fail
  refine (qOf A n c l _ ha3 Hn.out (by omega)).mono ?_
  rintro e w11 ⟨rfl, hp11, hq11, hb11⟩
  have bx_11 := bx3.below hb11 bx3.lt
  have r_11 := r3.below hb11 r3.lt
  have ab_11 := ab3.below hb11 ab3.lt
  have ha_11 := ha3.lift hb11
  have hF_11 := hF3.below hb11
  have hB_11 := hB3.trans (hb11.mono hB3.size)
  rw [Hz.out, Hlz.out] at hq11
  obtain ⟨bx0_11, bx1_11, bx2_11, bx3_11, _, _, _, _⟩ := bx_11.four
  have al12 := (Below.refl w11.heap.size w11).alloc (Nat.le_refl _) (.cells #[.int .i64 p, .int .i64 x2] 161)
  have kb := At.new w11 161 #[.int .i64 p, .int .i64 x2]
  have bx_12 := bx_11.alloc (.cells #[.int .i64 p, .int .i64 x2] 161)
  have r_12 := r_11.alloc (.cells #[.int .i64 p, .int .i64 x2] 161)
  have ab_12 := ab_11.alloc (.cells #[.int .i64 p, .int .i64 x2] 161)
  have q_12 := hp11.alloc (.cells #[.int .i64 p, .int .i64 x2] 161)
  have qm_12 := hq11.alloc (.cells #[.int .i64 p, .int .i64 x2] 161)
  have ha_12 := ha_11.lift al12
  have hF_12 := hF_11.below al12
  have hB_12 := hB_11.alloc hB_11.size (.cells #[.int .i64 p, .int .i64 x2] 161)
  obtain ⟨kb0_12, kb1_12, kbf_12, kbg_12⟩ := kb.two
  go_wp2_with fail
  refine (qFind (w4.heap.size + 1) w4.heap.size (n : Int) L p x2 q0 q1 q2 q3 q4 q5 q6 q7 false _ q_12 qm_12 (hl _)).mono ?_
  rintro e w13 ⟨rfl, hb13⟩
  have bx_13 := bx_12.below hb13 bx_12.lt
  have r_13 := r_12.below hb13 r_12.lt
  have ab_13 := ab_12.below hb13 ab_12.lt
  have q_13 := q_12.below hb13 q_12.lt
  have kb_13 := kb.below hb13 kb.lt
  have qm_13 := qm_12.below hb13 qm_12.lt
  have ha_13 := ha_12.lift hb13
  have hF_13 := hF_12.below hb13
  have hB_13 := hB_12.trans (hb13.mono hB_12.size)
  have al14 := (Below.refl w13.heap.size w13).alloc (Nat.le_refl _) (.cells #[.int .i64 q1, .int .i64 q2, .int .i64 q3, .int .i64 q4, .int .i64 q5, .int .i64 q6, .int .i64 q7] 75)
  have hb := At.new w13 75 #[.int .i64 q1, .int .i64 q2, .int .i64 q3, .int .i64 q4, .int .i64 q5, .int .i64 q6, .int .i64 q7]
  have bx_14 := bx_13.alloc (.cells #[.int .i64 q1, .int .i64 q2, .int .i64 q3, .int .i64 q4, .int .i64 q5, .int .i64 q6, .int .i64 q7] 75)
  have r_14 := r_13.alloc (.cells #[.int .i64 q1, .int .i64 q2, .int .i64 q3, .int .i64 q4, .int .i64 q5, .int .i64 q6, .int .i64 q7] 75)
  have ab_14 := ab_13.alloc (.cells #[.int .i64 q1, .int .i64 q2, .int .i64 q3, .int .i64 q4, .int .i64 q5, .int .i64 q6, .int .i64 q7] 75)
  have q_14 := q_13.alloc (.cells #[.int .i64 q1, .int .i64 q2, .int .i64 q3, .int .i64 q4, .int .i64 q5, .int .i64 q6, .int .i64 q7] 75)
  have kb_14 := kb_13.alloc (.cells #[.int .i64 q1, .int .i64 q2, .int .i64 q3, .int .i64 q4, .int .i64 q5, .int .i64 q6, .int .i64 q7] 75)
  have qm_14 := qm_13.alloc (.cells #[.int .i64 q1, .int .i64 q2, .int .i64 q3, .int .i64 q4, .int .i64 q5, .int .i64 q6, .int .i64 q7] 75)
  have ha_14 := ha_13.lift al14
  have hF_14 := hF_13.below al14
  have hB_14 := hB_13.alloc hB_13.size (.cells #[.int .i64 q1, .int .i64 q2, .int .i64 q3, .int .i64 q4, .int .i64 q5, .int .i64 q6, .int .i64 q7] 75)
  obtain ⟨ab0_14, ab1_14, ab2_14, ab3_14, ab4_14, ab5_14, ab6_14⟩ := ab_14.seven
  obtain ⟨kb0_14, kb1_14, kbf_14, kbg_14⟩ := kb_14.two
  have HSZ := qSize _ _ _ L _ q_14 qm_14
  rw [Hll.out] at HSZ
  go_wp2_with fail
  refine (HSZ).mono ?_
  rintro e w99 ⟨rfl, rfl⟩
  go_wp2_with fail
  refine (qPut (w4.heap.size + 1) w4.heap.size w4.heap.size (n : Int) L p x0 x1 x2 x3 0 0 _ q_14 qm_14 (by omega) (Nat.le_refl _) (by omega)).mono ?_
  rintro e w20 ⟨rfl, hp20, hq20, hb20⟩
  rw [Hl'.out] at hq20
  have r20 := r_14.below hb20 r3.lt
  have hB20 := hB_14.trans (hb20.mono hB3.size)
  go_wp2_with fail
  refine (qList _ _ _ L' _ hp20 hq20 Hm2.out Hm3.out).mono ?_
  rintro e w21 ⟨A5, c5, rfl, ow5, hb21⟩
  rw [Hm1.out] at ow5
  have r21 := r20.below hb21 r20.lt
  have hB21 := hB20.trans (hb21.mono hB20.size)
  have lr20 := r20.lt
  obtain ⟨c0, c1, f0, f1⟩ := r21.two
  go_wp2_with fail
  refine bodyPost_ret (v := .agg #[.int .i64 0, .slice A5 (L'.length) c5]) (by simp [results, Tryz.results93, go_sem, c0, c1]) rfl ?_
  rw [Hfin.out]
  exact ⟨_, _, _, rfl, (((ow5.under (p := ⟨w.heap.size + 1, 0, none⟩) lr20 _).under (p := ⟨w.heap.size + 1, 1, none⟩) lr20 _).from_ hB20.size), (hB21.setCell (by simp) _).setCell (by simp) _⟩
end Go.Proofs.YtmaillakhhdkfaaGreatDoor
/-
  The program's DoneHint.
-/
namespace Go.Proofs.YtmaillakhhdkfaaGreatDoor
set_option maxRecDepth 20000
open Go.RowKit Go.Shelf
set_option linter.unusedSimpArgs false
set_option linter.unusedVariables false

set_option maxRecDepth 100000 in
set_option maxHeartbeats 4000000 in
theorem implDoneHint (A : Option Addr) (n c : Nat) (l : List Hnt) (p i : Int) (w : World) (ha : Rd eH w w.heap.size A l) (hn : l.length = n) (hF : Flds w) :
    Calls Tryz.prog 94 #[.slice A n c, .int .i64 p, .int .i64 i] w (RetHs (doneM l p i) w) := by
  have hB0 : Below w.heap.size w (w.alloc (.cells #[.int .i64 0, .slice none 0 0] 138)) := (Below.refl _ _).alloc (Nat.le_refl _) _
  have r0 := At.new w 138 #[.int .i64 0, .slice none 0 0]
  have ha0 := ha.lift hB0
  have hF0 := hF.below hB0
  have HF := implHintsFault A n c l _ ha0 hn hF0
  by_cases h0 : hintsFaultM l = 0
  rotate_left
  · rw [show (doneM l p i) = (hintsFaultM l, []) from if_pos h0]
    have hne : (hintsFaultM l != 0) = true := by rw [bne_iff_ne]; exact h0
    generalize hintsFaultM l = sf at *
    clear h0
    go_enter Tryz.func94, Tryz.ntmps94
    go_wp2_with fail
    refine (HF).mono ?_
    rintro e w1 ⟨rfl, hb1⟩
    have r_1 := r0.below hb1 r0.lt
    have ha_1 := ha0.lift hb1
    have hF_1 := hF0.below hb1
    have hB_1 := hB0.trans (hb1.mono hB0.size)
    obtain ⟨r0_1, r1_1, rf_1, rg_1⟩ := r_1.two
    go_wp2_with fail
    refine bodyPost_ret (v := .agg #[.int .i64 sf, .slice none 0 0]) (by simp [results, Tryz.results94, go_sem, r0_1, r1_1]) rfl ?_
    exact ⟨_, _, _, rfl, Ow.nil, (hB_1.setCell (by simp) _).setCell (by simp) _⟩
  have hn8 := ((hintsFault_iff l).1 h0).1
  rw [hn] at hn8
  have Hn := Lib.hid hn
  have Hz := Lib.hid (queue_zip h0)
  obtain ⟨L, hLz⟩ : ∃ L, zipQ l = L := ⟨_, rfl⟩
  have Hlz := Lib.hid hLz
  have Hll := Lib.hid (show L.length = n by rw [← hLz, zipQ_len, hn])
  obtain ⟨q0, q1, q2, q3, q4, q5, q6, q7, f, hl0, -, hfst, hsome⟩ := lookQ L (p, (0, 0, i, 0), 0, 0) 0
  have hl : ∀ b u, QMap u b L → (Instr.lookup 194 (.map (some b)) (.agg #[.int .i64 p, .int .i64 i]) true).run Tryz.prog u = .ok (.tuple #[.agg #[.int .i64 q0, .int .i64 q1, .int .i64 q2, .int .i64 q3, .int .i64 q4, .int .i64 q5, .int .i64 q6, .int .i64 q7], .bool f]) u := fun b u hu => hl0 u b hu
  clear hl0
  rw [← hLz, first_zip] at hfst hsome
  rcases hk : findH l p i with _ | k
  · have hff : f = false := by
      rw [← hsome]
      show ((findH l p i).map _).isSome = false
      rw [hk]
      rfl
    subst hff
    rw [show (doneM l p i) = (4, []) by unfold doneM; rw [if_neg (by simp [h0]), hk]]
    rw [h0] at HF
    clear h0 hn hk hfst hsome hLz
    go_enter Tryz.func94, Tryz.ntmps94
    go_wp2_with fail
    refine (HF).mono ?_
    rintro e w1 ⟨rfl, hb1⟩
    have r_1 := r0.below hb1 r0.lt
    have ha_1 := ha0.lift hb1
    have hF_1 := hF0.below hb1
    have hB_1 := hB0.trans (hb1.mono hB0.size)
    go_wp2_with fail
    refine (qOf A n c l _ ha_1 Hn.out (by omega)).mono ?_
    rintro e w2 ⟨rfl, hp2, hq2, hb2⟩
    have r_2 := r_1.below hb2 r_1.lt
    have ha_2 := ha_1.lift hb2
    have hF_2 := hF_1.below hb2
    have hB_2 := hB_1.trans (hb2.mono hB_1.size)
    rw [Hz.out, Hlz.out] at hq2
    have al3 := (Below.refl w2.heap.size w2).alloc (Nat.le_refl _) (.cells #[.int .i64 p, .int .i64 i] 161)
    have kb := At.new w2 161 #[.int .i64 p, .int .i64 i]
    have r_3 := r_2.alloc (.cells #[.int .i64 p, .int .i64 i] 161)
    have q_3 := hp2.alloc (.cells #[.int .i64 p, .int .i64 i] 161)
    have qm_3 := hq2.alloc (.cells #[.int .i64 p, .int .i64 i] 161)
    have ha_3 := ha_2.lift al3
    have hF_3 := hF_2.below al3
    have hB_3 := hB_2.alloc hB_2.size (.cells #[.int .i64 p, .int .i64 i] 161)
    obtain ⟨kb0_3, kb1_3, kbf_3, kbg_3⟩ := kb.two
    go_wp2_with fail
    refine (qFind (w1.heap.size + 1) w1.heap.size (n : Int) L p i q0 q1 q2 q3 q4 q5 q6 q7 false _ q_3 qm_3 (hl _)).mono ?_
    rintro e w4 ⟨rfl, hb4⟩
    have r_4 := r_3.below hb4 r_3.lt
    have q_4 := q_3.below hb4 q_3.lt
    have kb_4 := kb.below hb4 kb.lt
    have qm_4 := qm_3.below hb4 qm_3.lt
    have ha_4 := ha_3.lift hb4
    have hF_4 := hF_3.below hb4
    have hB_4 := hB_3.trans (hb4.mono hB_3.size)
    obtain ⟨kb0_4, kb1_4, kbf_4, kbg_4⟩ := kb_4.two
    have al5 := (Below.refl w4.heap.size w4).alloc (Nat.le_refl _) (.cells #[.int .i64 q1, .int .i64 q2, .int .i64 q3, .int .i64 q4, .int .i64 q5, .int .i64 q6, .int .i64 q7] 75)
    have hb := At.new w4 75 #[.int .i64 q1, .int .i64 q2, .int .i64 q3, .int .i64 q4, .int .i64 q5, .int .i64 q6, .int .i64 q7]
    have r_5 := r_4.alloc (.cells #[.int .i64 q1, .int .i64 q2, .int .i64 q3, .int .i64 q4, .int .i64 q5, .int .i64 q6, .int .i64 q7] 75)
    have q_5 := q_4.alloc (.cells #[.int .i64 q1, .int .i64 q2, .int .i64 q3, .int .i64 q4, .int .i64 q5, .int .i64 q6, .int .i64 q7] 75)
    have kb_5 := kb_4.alloc (.cells #[.int .i64 q1, .int .i64 q2, .int .i64 q3, .int .i64 q4, .int .i64 q5, .int .i64 q6, .int .i64 q7] 75)
    have qm_5 := qm_4.alloc (.cells #[.int .i64 q1, .int .i64 q2, .int .i64 q3, .int .i64 q4, .int .i64 q5, .int .i64 q6, .int .i64 q7] 75)
    have ha_5 := ha_4.lift al5
    have hF_5 := hF_4.below al5
    have hB_5 := hB_4.alloc hB_4.size (.cells #[.int .i64 q1, .int .i64 q2, .int .i64 q3, .int .i64 q4, .int .i64 q5, .int .i64 q6, .int .i64 q7] 75)
    obtain ⟨r0_5, r1_5, rf_5, rg_5⟩ := r_5.two
    go_wp2_with fail
    refine bodyPost_ret (v := .agg #[.int .i64 4, .slice none 0 0]) (by simp [results, Tryz.results94, go_sem, r0_5, r1_5]) rfl ?_
    exact ⟨_, _, _, rfl, Ow.nil, (hB_5.setCell (by simp) _).setCell (by simp) _⟩
  · have hff : f = true := by
      rw [← hsome]
      show ((findH l p i).map _).isSome = true
      rw [hk]
      rfl
    subst hff
    obtain ⟨hm1, hm2⟩ := erase_zip hk (h := (p, (0, 0, i, 0), 0, 0)) rfl rfl
    rw [hLz] at hm1 hm2
    obtain ⟨L', hL'⟩ : ∃ L', eraseQ (p, (0, 0, i, 0), 0, 0) L = L' := ⟨_, rfl⟩
    rw [hL'] at hm1 hm2
    have Hl' := Lib.hid hL'
    have Hm1 := Lib.hid hm1
    have Hm2 := Lib.hid hm2
    have Hm3 := Lib.hid (show L'.length ≤ 1000 by have := congrArg List.length hm1; rw [List.length_map, List.length_append, List.length_take, List.length_drop] at this; omega)
    rw [show (doneM l p i) = (0, l.take k ++ l.drop (k + 1)) by unfold doneM; rw [if_neg (by simp [h0]), hk]]
    rw [h0] at HF
    clear h0 hn hk hfst hsome hLz hm1 hm2 hL'
    go_enter Tryz.func94, Tryz.ntmps94
    go_wp2_with fail
    refine (HF).mono ?_
    rintro e w1 ⟨rfl, hb1⟩
    have r_1 := r0.below hb1 r0.lt
    have ha_1 := ha0.lift hb1
    have hF_1 := hF0.below hb1
    have hB_1 := hB0.trans (hb1.mono hB0.size)
    go_wp2_with fail
    refine (qOf A n c l _ ha_1 Hn.out (by omega)).mono ?_
    rintro e w2 ⟨rfl, hp2, hq2, hb2⟩
    have r_2 := r_1.below hb2 r_1.lt
    have ha_2 := ha_1.lift hb2
    have hF_2 := hF_1.below hb2
    have hB_2 := hB_1.trans (hb2.mono hB_1.size)
    rw [Hz.out, Hlz.out] at hq2
    have al3 := (Below.refl w2.heap.size w2).alloc (Nat.le_refl _) (.cells #[.int .i64 p, .int .i64 i] 161)
    have kb := At.new w2 161 #[.int .i64 p, .int .i64 i]
    have r_3 := r_2.alloc (.cells #[.int .i64 p, .int .i64 i] 161)
    have q_3 := hp2.alloc (.cells #[.int .i64 p, .int .i64 i] 161)
    have qm_3 := hq2.alloc (.cells #[.int .i64 p, .int .i64 i] 161)
    have ha_3 := ha_2.lift al3
    have hF_3 := hF_2.below al3
    have hB_3 := hB_2.alloc hB_2.size (.cells #[.int .i64 p, .int .i64 i] 161)
    obtain ⟨kb0_3, kb1_3, kbf_3, kbg_3⟩ := kb.two
    go_wp2_with fail
    refine (qFind (w1.heap.size + 1) w1.heap.size (n : Int) L p i q0 q1 q2 q3 q4 q5 q6 q7 true _ q_3 qm_3 (hl _)).mono ?_
    rintro e w4 ⟨rfl, hb4⟩
    have r_4 := r_3.below hb4 r_3.lt
    have q_4 := q_3.below hb4 q_3.lt
    have kb_4 := kb.below hb4 kb.lt
    have qm_4 := qm_3.below hb4 qm_3.lt
    have ha_4 := ha_3.lift hb4
    have hF_4 := hF_3.below hb4
    have hB_4 := hB_3.trans (hb4.mono hB_3.size)
    obtain ⟨kb0_4, kb1_4, kbf_4, kbg_4⟩ := kb_4.two
    have al5 := (Below.refl w4.heap.size w4).alloc (Nat.le_refl _) (.cells #[.int .i64 q1, .int .i64 q2, .int .i64 q3, .int .i64 q4, .int .i64 q5, .int .i64 q6, .int .i64 q7] 75)
    have hb := At.new w4 75 #[.int .i64 q1, .int .i64 q2, .int .i64 q3, .int .i64 q4, .int .i64 q5, .int .i64 q6, .int .i64 q7]
    have r_5 := r_4.alloc (.cells #[.int .i64 q1, .int .i64 q2, .int .i64 q3, .int .i64 q4, .int .i64 q5, .int .i64 q6, .int .i64 q7] 75)
    have q_5 := q_4.alloc (.cells #[.int .i64 q1, .int .i64 q2, .int .i64 q3, .int .i64 q4, .int .i64 q5, .int .i64 q6, .int .i64 q7] 75)
    have kb_5 := kb_4.alloc (.cells #[.int .i64 q1, .int .i64 q2, .int .i64 q3, .int .i64 q4, .int .i64 q5, .int .i64 q6, .int .i64 q7] 75)
    have qm_5 := qm_4.alloc (.cells #[.int .i64 q1, .int .i64 q2, .int .i64 q3, .int .i64 q4, .int .i64 q5, .int .i64 q6, .int .i64 q7] 75)
    have ha_5 := ha_4.lift al5
    have hF_5 := hF_4.below al5
    have hB_5 := hB_4.alloc hB_4.size (.cells #[.int .i64 q1, .int .i64 q2, .int .i64 q3, .int .i64 q4, .int .i64 q5, .int .i64 q6, .int .i64 q7] 75)
    obtain ⟨kb0_5, kb1_5, kbf_5, kbg_5⟩ := kb_5.two
    go_wp2_with fail
    refine (qRemove (w1.heap.size + 1) w1.heap.size w1.heap.size (n : Int) L p i _ q_5 qm_5 (by omega) (Nat.le_refl _)).mono ?_
    rintro e w20 ⟨rfl, hp20, hq20, hb20⟩
    rw [Hl'.out] at hq20
    have r20 := r_5.below hb20 r_1.lt
    have hB20 := hB_5.trans (hb20.mono hB_1.size)
    go_wp2_with fail
    refine (qList _ _ _ L' _ hp20 hq20 Hm2.out Hm3.out).mono ?_
    rintro e w21 ⟨A5, c5, rfl, ow5, hb21⟩
    rw [Hm1.out] at ow5
    have r21 := r20.below hb21 r20.lt
    have hB21 := hB20.trans (hb21.mono hB20.size)
    have lr20 := r20.lt
    obtain ⟨c0, c1, f0, f1⟩ := r21.two
    go_wp2_with fail
    refine bodyPost_ret (v := .agg #[.int .i64 0, .slice A5 (L'.length) c5]) (by simp [results, Tryz.results94, go_sem, c0, c1]) rfl ?_
    exact ⟨_, _, _, rfl, (((ow5.under (p := ⟨w.heap.size, 0, none⟩) lr20 _).under (p := ⟨w.heap.size, 1, none⟩) lr20 _).from_ hB20.size), (hB21.setCell (Nat.le_refl _) _).setCell (Nat.le_refl _) _⟩
end Go.Proofs.YtmaillakhhdkfaaGreatDoor
/-
  An entry put to a state: the program's.
-/
namespace Go.Proofs.YtmaillakhhdkfaaGreatDoor
set_option maxRecDepth 20000
open Go.RowKit
set_option linter.unusedSimpArgs false
set_option linter.unusedVariables false
attribute [local irreducible] mixW

theorem step_code {z : Int} {s t : Sta} : (if z = 0 then ((0 : Int), t) else (z, s)).1 = z := by
  by_cases h0 : z = 0
  · rw [if_pos h0, h0]
  · rw [if_neg h0]
/-- What applyEntry hands back: where there is no code, the state behind the step. -/
def RetAE (r : Int × Sta) (base : Nat) (w : World) (e : Ending) (w' : World) : Prop := ∃ A n c B m d y, e = .returned (.tuple #[.agg #[.slice A n c, .slice B m d, .int .i64 y], .int .i64 r.1]) ∧ (r.1 = 0 → Ow eS w' base A n c r.2.1 ∧ Ow eH w' base B m d r.2.2.1 ∧ y = r.2.2.2) ∧ Below w.heap.size w w'
set_option maxHeartbeats 8000000 in
theorem applyEntry (base : Nat) (A B : Option Addr) (n c m d : Nat) (l : List Smp) (h : List Hnt) (x a0 a1 a2 a3 a4 a5 a6 : Int) (w : World) (oa : Ow eS w base A n c l) (ob : Ow eH w base B m d h) (hbase : base ≤ w.heap.size) (hn1 : n ≤ 1048576) (hF : Flds w) (hf : recFormM (a0, a1, (a2, a3, a4, a5), a6) = true) :
    Calls Tryz.prog 48 #[.agg #[.slice A n c, .slice B m d, .int .i64 x], entV (a0, a1, (a2, a3, a4, a5), a6)] w (RetAE (stepR (l, h, x) (a0, a1, (a2, a3, a4, a5), a6)) base w) := by
  have Hn := Lib.hid (oa.len okS)
  have Hm := Lib.hid (ob.len okH)
  have hB0 : Below w.heap.size w ((w.alloc (.cells #[.slice A n c, .slice B m d, .int .i64 x] 39)).alloc (.cells #[.slice none 0 0, .slice none 0 0, .int .i64 0] 39)) := ((Below.refl _ _).alloc (Nat.le_refl _) _).alloc (by simp) _
  have sx0 := (At.new w 39 #[.slice A n c, .slice B m d, .int .i64 x]).alloc (.cells #[.slice none 0 0, .slice none 0 0, .int .i64 0] 39)
  have zx0 : At ((w.alloc (.cells #[.slice A n c, .slice B m d, .int .i64 x] 39)).alloc (.cells #[.slice none 0 0, .slice none 0 0, .int .i64 0] 39)) (w.heap.size + 1) 39 #[.slice none 0 0, .slice none 0 0, .int .i64 0] := by
    have := At.new (w.alloc (.cells #[.slice A n c, .slice B m d, .int .i64 x] 39)) 39 #[.slice none 0 0, .slice none 0 0, .int .i64 0]
    simpa using this
  by_cases k1 : a0 = 1
  rotate_left
  by_cases k2 : a0 = 2
  rotate_left
  by_cases k3 : a0 = 3
  rotate_left
  by_cases k4 : a0 = 4
  rotate_left
  · exact absurd hf (by unfold recFormM; rw [if_neg k1, if_neg k2, if_neg k3, if_neg k4]; decide)
  · subst k1
    have q1 := as1_1
    rw [entV_1 hf]
    clear hf
    have al1 := (Below.refl ((w.alloc (.cells #[.slice A n c, .slice B m d, .int .i64 x] 39)).alloc (.cells #[.slice none 0 0, .slice none 0 0, .int .i64 0] 39)).heap.size ((w.alloc (.cells #[.slice A n c, .slice B m d, .int .i64 x] 39)).alloc (.cells #[.slice none 0 0, .slice none 0 0, .int .i64 0] 39))).alloc (Nat.le_refl _) (.cells #[.int .i64 a2, .int .i64 a3, .int .i64 a4, .int .i64 a5] 90)
    have hB1 := hB0.alloc hB0.size (.cells #[.int .i64 a2, .int .i64 a3, .int .i64 a4, .int .i64 a5] 90)
    have sx1 := sx0.alloc (.cells #[.int .i64 a2, .int .i64 a3, .int .i64 a4, .int .i64 a5] 90)
    have zx1 := zx0.alloc (.cells #[.int .i64 a2, .int .i64 a3, .int .i64 a4, .int .i64 a5] 90)
    have ex1 : At (((w.alloc (.cells #[.slice A n c, .slice B m d, .int .i64 x] 39)).alloc (.cells #[.slice none 0 0, .slice none 0 0, .int .i64 0] 39)).alloc (.cells #[.int .i64 a2, .int .i64 a3, .int .i64 a4, .int .i64 a5] 90)) (w.heap.size + 2) 90 #[.int .i64 a2, .int .i64 a3, .int .i64 a4, .int .i64 a5] := by
      have := At.new ((w.alloc (.cells #[.slice A n c, .slice B m d, .int .i64 x] 39)).alloc (.cells #[.slice none 0 0, .slice none 0 0, .int .i64 0] 39)) 90 #[.int .i64 a2, .int .i64 a3, .int .i64 a4, .int .i64 a5]
      simpa using this
    have oa1 := oa.below hB1 (Nat.le_refl _)
    have ob1 := ob.below hB1 (Nat.le_refl _)
    have hF1 := hF.below hB1
    obtain ⟨z, nw, st, hz⟩ : ∃ z b st, insertM l (a2, a3, a4, a5) = (z, b, st) := ⟨_, _, _, rfl⟩
    have Hs := Lib.hid (step1 (s := (l, h, x)) (p := a1) (k := a6) hz)
    have CI := implInsertSample A n c l a2 a3 a4 a5 _ (oa1.rd okS) Hn.out hn1 hF1
    rw [hz] at CI
    clear hz
    have Hcode := Lib.hid (show (stepR (l, h, x) (1, a1, (a2, a3, a4, a5), a6)).1 = z by rw [Hs.out]; exact step_code)
    have Hsta := Lib.hid (show z = 0 → (stepR (l, h, x) (1, a1, (a2, a3, a4, a5), a6)).2 = (st, h, x) from fun h0 => by rw [Hs.out, if_pos h0])
    obtain ⟨s0, s1, s2, sf0, sf1, sf2⟩ := sx1.three
    obtain ⟨z0, z1, z2, zf0, zf1, zf2⟩ := zx1.three
    obtain ⟨e0, e1, e2, e3, _, _, _, _⟩ := ex1.four
    go_enter Tryz.func48, Tryz.ntmps48
    go_wp2_with fail
    refine CI.mono ?_
    rintro e w2 ⟨A2, k2, c2, rfl, ow2, hb2⟩
    have lz1 := zx1.lt
    have hB2 := hB1.trans (hb2.mono hB1.size)
    have sx2 := (sx1.below hb2 sx1.lt).alloc (.cells #[.int .i64 z, .bool nw, .slice A2 k2 c2] 135)
    have zx2 := (zx1.below hb2 zx1.lt).alloc (.cells #[.int .i64 z, .bool nw, .slice A2 k2 c2] 135)
    have px2 := At.new w2 135 #[.int .i64 z, .bool nw, .slice A2 k2 c2]
    have hB3 := hB2.alloc hB2.size (.cells #[.int .i64 z, .bool nw, .slice A2 k2 c2] 135)
    have oa3 := (oa1.below hb2 (Nat.le_refl _)).alloc (.cells #[.int .i64 z, .bool nw, .slice A2 k2 c2] 135)
    have ob3 := (ob1.below hb2 (Nat.le_refl _)).alloc (.cells #[.int .i64 z, .bool nw, .slice A2 k2 c2] 135)
    have ow3 := ow2.alloc (.cells #[.int .i64 z, .bool nw, .slice A2 k2 c2] 135)
    have lz2 := (zx1.below hb2 zx1.lt).lt
    have ne1 : ¬ w.heap.size = w2.heap.size := by omega
    have ne2 : ¬ w.heap.size + 1 = w2.heap.size := by omega
    have hBase1 : base ≤ w.heap.size + 1 + 1 + 1 := by omega
    clear s0 s1 s2 sf0 sf1 sf2 z0 z1 z2 zf0 zf1 zf2
    obtain ⟨s0, s1, s2, sf0, sf1, sf2⟩ := sx2.three
    obtain ⟨z0, z1, z2, zf0, zf1, zf2⟩ := zx2.three
    obtain ⟨q0, q1, q2, _, _, _⟩ := px2.three
    go_wp2
    have sx4 := sx2.set 0 (.slice A2 k2 c2)
    have zx4 := zx2.far (p := ⟨w.heap.size, 0, none⟩) (by simp) (.slice A2 k2 c2)
    have px4 := px2.far (p := ⟨w.heap.size, 0, none⟩) (by simp; omega) (.slice A2 k2 c2)
    have sp4 : At2 _ w.heap.size 39 #[.slice A2 k2 c2, .slice B m d, .int .i64 x] w2.heap.size 135 #[.int .i64 z, .bool nw, .slice A2 k2 c2] := ⟨sx4, px4⟩
    have hB4 := hB3.setCell (p := ⟨w.heap.size, 0, none⟩) (by simp) (.slice A2 k2 c2)
    have oa4 := oa3.apart (by decide) sx2 0 (.slice A2 k2 c2)
    have ob4 := ob3.apart (by decide) sx2 0 (.slice A2 k2 c2)
    have ow4 := ow3.apart (by decide) sx2 0 (.slice A2 k2 c2)
    have sp5 : At2 ((w2.alloc (.cells #[.int .i64 z, .bool nw, .slice A2 k2 c2] 135)).setCell ⟨w.heap.size, 0, none⟩ (.slice A2 k2 c2)).drew w.heap.size 39 #[.slice A2 k2 c2, .slice B m d, .int .i64 x] w2.heap.size 135 #[.int .i64 z, .bool nw, .slice A2 k2 c2] := sp4.drew
    have zx5 : At ((w2.alloc (.cells #[.int .i64 z, .bool nw, .slice A2 k2 c2] 135)).setCell ⟨w.heap.size, 0, none⟩ (.slice A2 k2 c2)).drew (w.heap.size + 1) 39 #[.slice none 0 0, .slice none 0 0, .int .i64 0] := zx4.drew
    have hB5 : Below w.heap.size w ((w2.alloc (.cells #[.int .i64 z, .bool nw, .slice A2 k2 c2] 135)).setCell ⟨w.heap.size, 0, none⟩ (.slice A2 k2 c2)).drew := hB4.drew
    have oa5 : Ow eS ((w2.alloc (.cells #[.int .i64 z, .bool nw, .slice A2 k2 c2] 135)).setCell ⟨w.heap.size, 0, none⟩ (.slice A2 k2 c2)).drew base A n c l := oa4.drewN 1
    have ob5 : Ow eH ((w2.alloc (.cells #[.int .i64 z, .bool nw, .slice A2 k2 c2] 135)).setCell ⟨w.heap.size, 0, none⟩ (.slice A2 k2 c2)).drew base B m d h := ob4.drewN 1
    have ow5 := ow4.drewN 1
    have ow5 : Ow eS ((w2.alloc (.cells #[.int .i64 z, .bool nw, .slice A2 k2 c2] 135)).setCell ⟨w.heap.size, 0, none⟩ (.slice A2 k2 c2)).drew base A2 k2 c2 st := ow5.from_ (Nat.le_trans hbase hB1.size)
    refine wp_region_mix [(0, false), (1, false), (2, false), (3, true), (4, false)] (fun u => At2 u w.heap.size 39 #[.slice A2 k2 c2, .slice B m d, .int .i64 x] w2.heap.size 135 #[.int .i64 z, .bool nw, .slice A2 k2 c2]) (by kernel_rfl) (by kernel_rfl) (fun _ _ _ _ _ h => h) sp5 ?_
    simp only [mixOps, List.map_cons, List.map_nil, List.getElem?_cons_succ, List.getElem?_cons_zero, Option.getD_some]
    repeat (first
      | (refine mix_skip (by rfl) ?_
         (try simp only [Act.put, List.setIfInBounds_toArray, List.set_cons_zero, List.set_cons_succ]))
      | (refine mix_pure (v := ?_) (by rfl) (fun u hu => ?_) ?_
         rotate_left
         · (obtain ⟨hu1, hu2⟩ := hu; obtain ⟨_, _, _, _, _, _⟩ := At.three hu1; obtain ⟨_, _, _, _, _, _⟩ := At.three hu2)
           go_simp
           (with_reducible rfl)
         (try simp only [Act.put, List.setIfInBounds_toArray, List.set_cons_zero, List.set_cons_succ])))
    clear hB0 hB1 hB2 hB3 hB4 sx0 sx1 sx2 sx4 zx0 zx1 zx2 zx4 px2 px4 sp4 oa1 ob1 oa3 ob3 ow3 oa4 ob4 ow4 s0 s1 s2 sf0 sf1 sf2 z0 z1 z2 zf0 zf1 zf2 q0 q1 q2
    generalize ((w2.alloc (.cells #[.int .i64 z, .bool nw, .slice A2 k2 c2] 135)).setCell ⟨w.heap.size, 0, none⟩ (.slice A2 k2 c2)).drew = v9 at *
    obtain ⟨p0, p1, p2, f0, f1, f2⟩ := zx5.three
    refine mix_call (by rfl) (fun K hK => ?_)
    go_simp
    refine hK _ _ (fun u => At2 u w.heap.size 39 #[.slice A2 k2 c2, .slice B m d, .int .i64 x] w2.heap.size 135 #[.int .i64 z, .bool nw, .slice A2 k2 c2]) (fun _ h => h) (((sp5.far (p := ⟨w.heap.size + 1, 0, none⟩) (by simp; omega) _).far (p := ⟨w.heap.size + 1, 1, none⟩) (by simp; omega) _).far (p := ⟨w.heap.size + 1, 2, none⟩) (by simp; omega) _) ?_
    clear hK K
    (try simp only [Act.put, List.setIfInBounds_toArray, List.set_cons_zero, List.set_cons_succ])
    refine mix_pure (v := ?_) (by rfl) (fun u hu => ?_) ?_
    rotate_left
    · go_simp
      (with_reducible rfl)
    (try simp only [Act.put, List.setIfInBounds_toArray, List.set_cons_zero, List.set_cons_succ])
    refine mix_nil ?_
    go_wp2
    refine bodyPost_ret (v := .tuple #[.agg #[.slice A2 k2 c2, .slice B m d, .int .i64 x], .int .i64 z]) (by simp [results, Tryz.results48, go_sem, p0, p1, p2]) rfl ?_
    refine ⟨_, _, _, _, _, _, _, by rw [Hcode.out], fun h0 => ?_, ((hB5.setCell (by simp) _).setCell (by simp) _).setCell (by simp) _⟩
    rw [Hcode.out] at h0
    rw [Hsta.out h0]
    exact ⟨(((ow5.apart (by decide) zx5 0 (.slice A2 k2 c2)).apart (by decide) (zx5.set 0 (.slice A2 k2 c2)) 1 (.slice B m d)).apart (by decide) ((zx5.set 0 (.slice A2 k2 c2)).set 1 (.slice B m d)) 2 (.int .i64 x)), (((ob5.apart (by decide) zx5 0 (.slice A2 k2 c2)).apart (by decide) (zx5.set 0 (.slice A2 k2 c2)) 1 (.slice B m d)).apart (by decide) ((zx5.set 0 (.slice A2 k2 c2)).set 1 (.slice B m d)) 2 (.int .i64 x)), rfl⟩
  · subst k2
    clear k1
    have q1 := as2_1
    have q2 := as2_2
    rw [entV_2 hf]
    clear hf
    have al1 := (Below.refl ((w.alloc (.cells #[.slice A n c, .slice B m d, .int .i64 x] 39)).alloc (.cells #[.slice none 0 0, .slice none 0 0, .int .i64 0] 39)).heap.size ((w.alloc (.cells #[.slice A n c, .slice B m d, .int .i64 x] 39)).alloc (.cells #[.slice none 0 0, .slice none 0 0, .int .i64 0] 39))).alloc (Nat.le_refl _) (.cells #[.int .i64 a1, .int .i64 a2, .int .i64 a3, .int .i64 a4, .int .i64 a5] 93)
    have hB1 := hB0.alloc hB0.size (.cells #[.int .i64 a1, .int .i64 a2, .int .i64 a3, .int .i64 a4, .int .i64 a5] 93)
    have sx1 := sx0.alloc (.cells #[.int .i64 a1, .int .i64 a2, .int .i64 a3, .int .i64 a4, .int .i64 a5] 93)
    have zx1 := zx0.alloc (.cells #[.int .i64 a1, .int .i64 a2, .int .i64 a3, .int .i64 a4, .int .i64 a5] 93)
    have ex1 : At (((w.alloc (.cells #[.slice A n c, .slice B m d, .int .i64 x] 39)).alloc (.cells #[.slice none 0 0, .slice none 0 0, .int .i64 0] 39)).alloc (.cells #[.int .i64 a1, .int .i64 a2, .int .i64 a3, .int .i64 a4, .int .i64 a5] 93)) (w.heap.size + 2) 93 #[.int .i64 a1, .int .i64 a2, .int .i64 a3, .int .i64 a4, .int .i64 a5] := by
      have := At.new ((w.alloc (.cells #[.slice A n c, .slice B m d, .int .i64 x] 39)).alloc (.cells #[.slice none 0 0, .slice none 0 0, .int .i64 0] 39)) 93 #[.int .i64 a1, .int .i64 a2, .int .i64 a3, .int .i64 a4, .int .i64 a5]
      simpa using this
    have oa1 := oa.below hB1 (Nat.le_refl _)
    have ob1 := ob.below hB1 (Nat.le_refl _)
    have hF1 := hF.below hB1
    obtain ⟨z, st, hz⟩ : ∃ z st, addM h a1 (a2, a3, a4, a5) = (z, st) := ⟨_, _, rfl⟩
    have Hs := Lib.hid (step2 (s := (l, h, x)) (k := a6) hz)
    have CI := implAddHint B m d h a1 a2 a3 a4 a5 _ (ob1.rd okH) Hm.out hF1
    rw [hz] at CI
    clear hz
    have Hcode := Lib.hid (show (stepR (l, h, x) (2, a1, (a2, a3, a4, a5), a6)).1 = z by rw [Hs.out]; exact step_code)
    have Hsta := Lib.hid (show z = 0 → (stepR (l, h, x) (2, a1, (a2, a3, a4, a5), a6)).2 = (l, st, x) from fun h0 => by rw [Hs.out, if_pos h0])
    obtain ⟨s0, s1, s2, sf0, sf1, sf2⟩ := sx1.three
    obtain ⟨z0, z1, z2, zf0, zf1, zf2⟩ := zx1.three
    obtain ⟨e0, e1, e2, e3, e4, _, _, _, _, _⟩ := ex1.five
    go_enter Tryz.func48, Tryz.ntmps48
    go_wp2_with fail
    refine CI.mono ?_
    rintro e w2 ⟨A2, k2, c2, rfl, ow2, hb2⟩
    have lz1 := zx1.lt
    have hB2 := hB1.trans (hb2.mono hB1.size)
    have sx2 := (sx1.below hb2 sx1.lt).alloc (.cells #[.int .i64 z, .slice A2 k2 c2] 138)
    have zx2 := (zx1.below hb2 zx1.lt).alloc (.cells #[.int .i64 z, .slice A2 k2 c2] 138)
    have px2 := At.new w2 138 #[.int .i64 z, .slice A2 k2 c2]
    have hB3 := hB2.alloc hB2.size (.cells #[.int .i64 z, .slice A2 k2 c2] 138)
    have oa3 := (oa1.below hb2 (Nat.le_refl _)).alloc (.cells #[.int .i64 z, .slice A2 k2 c2] 138)
    have ob3 := (ob1.below hb2 (Nat.le_refl _)).alloc (.cells #[.int .i64 z, .slice A2 k2 c2] 138)
    have ow3 := ow2.alloc (.cells #[.int .i64 z, .slice A2 k2 c2] 138)
    have lz2 := (zx1.below hb2 zx1.lt).lt
    have ne1 : ¬ w.heap.size = w2.heap.size := by omega
    have ne2 : ¬ w.heap.size + 1 = w2.heap.size := by omega
    have hBase1 : base ≤ w.heap.size + 1 + 1 + 1 := by omega
    clear s0 s1 s2 sf0 sf1 sf2 z0 z1 z2 zf0 zf1 zf2
    obtain ⟨s0, s1, s2, sf0, sf1, sf2⟩ := sx2.three
    obtain ⟨z0, z1, z2, zf0, zf1, zf2⟩ := zx2.three
    obtain ⟨q0, q1, _, _⟩ := px2.two
    go_wp2
    have sx4 := sx2.set 1 (.slice A2 k2 c2)
    have zx4 := zx2.far (p := ⟨w.heap.size, 1, none⟩) (by simp) (.slice A2 k2 c2)
    have px4 := px2.far (p := ⟨w.heap.size, 1, none⟩) (by simp; omega) (.slice A2 k2 c2)
    have sp4 : At2 _ w.heap.size 39 #[.slice A n c, .slice A2 k2 c2, .int .i64 x] w2.heap.size 138 #[.int .i64 z, .slice A2 k2 c2] := ⟨sx4, px4⟩
    have hB4 := hB3.setCell (p := ⟨w.heap.size, 1, none⟩) (by simp) (.slice A2 k2 c2)
    have oa4 := oa3.apart (by decide) sx2 1 (.slice A2 k2 c2)
    have ob4 := ob3.apart (by decide) sx2 1 (.slice A2 k2 c2)
    have ow4 := ow3.apart (by decide) sx2 1 (.slice A2 k2 c2)
    have sp5 : At2 ((w2.alloc (.cells #[.int .i64 z, .slice A2 k2 c2] 138)).setCell ⟨w.heap.size, 1, none⟩ (.slice A2 k2 c2)).drew w.heap.size 39 #[.slice A n c, .slice A2 k2 c2, .int .i64 x] w2.heap.size 138 #[.int .i64 z, .slice A2 k2 c2] := sp4.drew
    have zx5 : At ((w2.alloc (.cells #[.int .i64 z, .slice A2 k2 c2] 138)).setCell ⟨w.heap.size, 1, none⟩ (.slice A2 k2 c2)).drew (w.heap.size + 1) 39 #[.slice none 0 0, .slice none 0 0, .int .i64 0] := zx4.drew
    have hB5 : Below w.heap.size w ((w2.alloc (.cells #[.int .i64 z, .slice A2 k2 c2] 138)).setCell ⟨w.heap.size, 1, none⟩ (.slice A2 k2 c2)).drew := hB4.drew
    have oa5 : Ow eS ((w2.alloc (.cells #[.int .i64 z, .slice A2 k2 c2] 138)).setCell ⟨w.heap.size, 1, none⟩ (.slice A2 k2 c2)).drew base A n c l := oa4.drewN 1
    have ob5 : Ow eH ((w2.alloc (.cells #[.int .i64 z, .slice A2 k2 c2] 138)).setCell ⟨w.heap.size, 1, none⟩ (.slice A2 k2 c2)).drew base B m d h := ob4.drewN 1
    have ow5 := ow4.drewN 1
    have ow5 : Ow eH ((w2.alloc (.cells #[.int .i64 z, .slice A2 k2 c2] 138)).setCell ⟨w.heap.size, 1, none⟩ (.slice A2 k2 c2)).drew base A2 k2 c2 st := ow5.from_ (Nat.le_trans hbase hB1.size)
    refine wp_region_mix [(0, false), (1, false), (2, false), (3, true), (4, false)] (fun u => At2 u w.heap.size 39 #[.slice A n c, .slice A2 k2 c2, .int .i64 x] w2.heap.size 138 #[.int .i64 z, .slice A2 k2 c2]) (by kernel_rfl) (by kernel_rfl) (fun _ _ _ _ _ h => h) sp5 ?_
    simp only [mixOps, List.map_cons, List.map_nil, List.getElem?_cons_succ, List.getElem?_cons_zero, Option.getD_some]
    repeat (first
      | (refine mix_skip (by rfl) ?_
         (try simp only [Act.put, List.setIfInBounds_toArray, List.set_cons_zero, List.set_cons_succ]))
      | (refine mix_pure (v := ?_) (by rfl) (fun u hu => ?_) ?_
         rotate_left
         · (obtain ⟨hu1, hu2⟩ := hu; obtain ⟨_, _, _, _, _, _⟩ := At.three hu1; obtain ⟨_, _, _, _⟩ := At.two hu2)
           go_simp
           (with_reducible rfl)
         (try simp only [Act.put, List.setIfInBounds_toArray, List.set_cons_zero, List.set_cons_succ])))
    clear hB0 hB1 hB2 hB3 hB4 sx0 sx1 sx2 sx4 zx0 zx1 zx2 zx4 px2 px4 sp4 oa1 ob1 oa3 ob3 ow3 oa4 ob4 ow4 s0 s1 s2 sf0 sf1 sf2 z0 z1 z2 zf0 zf1 zf2 q0 q1
    generalize ((w2.alloc (.cells #[.int .i64 z, .slice A2 k2 c2] 138)).setCell ⟨w.heap.size, 1, none⟩ (.slice A2 k2 c2)).drew = v9 at *
    obtain ⟨p0, p1, p2, f0, f1, f2⟩ := zx5.three
    refine mix_call (by rfl) (fun K hK => ?_)
    go_simp
    refine hK _ _ (fun u => At2 u w.heap.size 39 #[.slice A n c, .slice A2 k2 c2, .int .i64 x] w2.heap.size 138 #[.int .i64 z, .slice A2 k2 c2]) (fun _ h => h) (((sp5.far (p := ⟨w.heap.size + 1, 0, none⟩) (by simp; omega) _).far (p := ⟨w.heap.size + 1, 1, none⟩) (by simp; omega) _).far (p := ⟨w.heap.size + 1, 2, none⟩) (by simp; omega) _) ?_
    clear hK K
    (try simp only [Act.put, List.setIfInBounds_toArray, List.set_cons_zero, List.set_cons_succ])
    refine mix_pure (v := ?_) (by rfl) (fun u hu => ?_) ?_
    rotate_left
    · go_simp
      (with_reducible rfl)
    (try simp only [Act.put, List.setIfInBounds_toArray, List.set_cons_zero, List.set_cons_succ])
    refine mix_nil ?_
    go_wp2
    refine bodyPost_ret (v := .tuple #[.agg #[.slice A n c, .slice A2 k2 c2, .int .i64 x], .int .i64 z]) (by simp [results, Tryz.results48, go_sem, p0, p1, p2]) rfl ?_
    refine ⟨_, _, _, _, _, _, _, by rw [Hcode.out], fun h0 => ?_, ((hB5.setCell (by simp) _).setCell (by simp) _).setCell (by simp) _⟩
    rw [Hcode.out] at h0
    rw [Hsta.out h0]
    exact ⟨(((oa5.apart (by decide) zx5 0 (.slice A n c)).apart (by decide) (zx5.set 0 (.slice A n c)) 1 (.slice A2 k2 c2)).apart (by decide) ((zx5.set 0 (.slice A n c)).set 1 (.slice A2 k2 c2)) 2 (.int .i64 x)), (((ow5.apart (by decide) zx5 0 (.slice A n c)).apart (by decide) (zx5.set 0 (.slice A n c)) 1 (.slice A2 k2 c2)).apart (by decide) ((zx5.set 0 (.slice A n c)).set 1 (.slice A2 k2 c2)) 2 (.int .i64 x)), rfl⟩
  · subst k3
    clear k1 k2
    have q1 := as3_1
    have q2 := as3_2
    have q3 := as3_3
    rw [entV_3 hf]
    clear hf
    have al1 := (Below.refl ((w.alloc (.cells #[.slice A n c, .slice B m d, .int .i64 x] 39)).alloc (.cells #[.slice none 0 0, .slice none 0 0, .int .i64 0] 39)).heap.size ((w.alloc (.cells #[.slice A n c, .slice B m d, .int .i64 x] 39)).alloc (.cells #[.slice none 0 0, .slice none 0 0, .int .i64 0] 39))).alloc (Nat.le_refl _) (.cells #[.int .i64 a1, .int .i64 a6] 96)
    have hB1 := hB0.alloc hB0.size (.cells #[.int .i64 a1, .int .i64 a6] 96)
    have sx1 := sx0.alloc (.cells #[.int .i64 a1, .int .i64 a6] 96)
    have zx1 := zx0.alloc (.cells #[.int .i64 a1, .int .i64 a6] 96)
    have ex1 : At (((w.alloc (.cells #[.slice A n c, .slice B m d, .int .i64 x] 39)).alloc (.cells #[.slice none 0 0, .slice none 0 0, .int .i64 0] 39)).alloc (.cells #[.int .i64 a1, .int .i64 a6] 96)) (w.heap.size + 2) 96 #[.int .i64 a1, .int .i64 a6] := by
      have := At.new ((w.alloc (.cells #[.slice A n c, .slice B m d, .int .i64 x] 39)).alloc (.cells #[.slice none 0 0, .slice none 0 0, .int .i64 0] 39)) 96 #[.int .i64 a1, .int .i64 a6]
      simpa using this
    have oa1 := oa.below hB1 (Nat.le_refl _)
    have ob1 := ob.below hB1 (Nat.le_refl _)
    have hF1 := hF.below hB1
    obtain ⟨z, st, hz⟩ : ∃ z st, doneM h a1 a6 = (z, st) := ⟨_, _, rfl⟩
    have Hs := Lib.hid (step3 (s := (l, h, x)) (y := (a2, a3, a4, a5)) hz)
    have CI := implDoneHint B m d h a1 a6 _ (ob1.rd okH) Hm.out hF1
    rw [hz] at CI
    clear hz
    have Hcode := Lib.hid (show (stepR (l, h, x) (3, a1, (a2, a3, a4, a5), a6)).1 = z by rw [Hs.out]; exact step_code)
    have Hsta := Lib.hid (show z = 0 → (stepR (l, h, x) (3, a1, (a2, a3, a4, a5), a6)).2 = (l, st, x) from fun h0 => by rw [Hs.out, if_pos h0])
    obtain ⟨s0, s1, s2, sf0, sf1, sf2⟩ := sx1.three
    obtain ⟨z0, z1, z2, zf0, zf1, zf2⟩ := zx1.three
    obtain ⟨e0, e1, _, _⟩ := ex1.two
    go_enter Tryz.func48, Tryz.ntmps48
    go_wp2_with fail
    refine CI.mono ?_
    rintro e w2 ⟨A2, k2, c2, rfl, ow2, hb2⟩
    have lz1 := zx1.lt
    have hB2 := hB1.trans (hb2.mono hB1.size)
    have sx2 := (sx1.below hb2 sx1.lt).alloc (.cells #[.int .i64 z, .slice A2 k2 c2] 138)
    have zx2 := (zx1.below hb2 zx1.lt).alloc (.cells #[.int .i64 z, .slice A2 k2 c2] 138)
    have px2 := At.new w2 138 #[.int .i64 z, .slice A2 k2 c2]
    have hB3 := hB2.alloc hB2.size (.cells #[.int .i64 z, .slice A2 k2 c2] 138)
    have oa3 := (oa1.below hb2 (Nat.le_refl _)).alloc (.cells #[.int .i64 z, .slice A2 k2 c2] 138)
    have ob3 := (ob1.below hb2 (Nat.le_refl _)).alloc (.cells #[.int .i64 z, .slice A2 k2 c2] 138)
    have ow3 := ow2.alloc (.cells #[.int .i64 z, .slice A2 k2 c2] 138)
    have lz2 := (zx1.below hb2 zx1.lt).lt
    have ne1 : ¬ w.heap.size = w2.heap.size := by omega
    have ne2 : ¬ w.heap.size + 1 = w2.heap.size := by omega
    have hBase1 : base ≤ w.heap.size + 1 + 1 + 1 := by omega
    clear s0 s1 s2 sf0 sf1 sf2 z0 z1 z2 zf0 zf1 zf2
    obtain ⟨s0, s1, s2, sf0, sf1, sf2⟩ := sx2.three
    obtain ⟨z0, z1, z2, zf0, zf1, zf2⟩ := zx2.three
    obtain ⟨q0, q1, _, _⟩ := px2.two
    go_wp2
    have sx4 := sx2.set 1 (.slice A2 k2 c2)
    have zx4 := zx2.far (p := ⟨w.heap.size, 1, none⟩) (by simp) (.slice A2 k2 c2)
    have px4 := px2.far (p := ⟨w.heap.size, 1, none⟩) (by simp; omega) (.slice A2 k2 c2)
    have sp4 : At2 _ w.heap.size 39 #[.slice A n c, .slice A2 k2 c2, .int .i64 x] w2.heap.size 138 #[.int .i64 z, .slice A2 k2 c2] := ⟨sx4, px4⟩
    have hB4 := hB3.setCell (p := ⟨w.heap.size, 1, none⟩) (by simp) (.slice A2 k2 c2)
    have oa4 := oa3.apart (by decide) sx2 1 (.slice A2 k2 c2)
    have ob4 := ob3.apart (by decide) sx2 1 (.slice A2 k2 c2)
    have ow4 := ow3.apart (by decide) sx2 1 (.slice A2 k2 c2)
    have sp5 : At2 ((w2.alloc (.cells #[.int .i64 z, .slice A2 k2 c2] 138)).setCell ⟨w.heap.size, 1, none⟩ (.slice A2 k2 c2)).drew w.heap.size 39 #[.slice A n c, .slice A2 k2 c2, .int .i64 x] w2.heap.size 138 #[.int .i64 z, .slice A2 k2 c2] := sp4.drew
    have zx5 : At ((w2.alloc (.cells #[.int .i64 z, .slice A2 k2 c2] 138)).setCell ⟨w.heap.size, 1, none⟩ (.slice A2 k2 c2)).drew (w.heap.size + 1) 39 #[.slice none 0 0, .slice none 0 0, .int .i64 0] := zx4.drew
    have hB5 : Below w.heap.size w ((w2.alloc (.cells #[.int .i64 z, .slice A2 k2 c2] 138)).setCell ⟨w.heap.size, 1, none⟩ (.slice A2 k2 c2)).drew := hB4.drew
    have oa5 : Ow eS ((w2.alloc (.cells #[.int .i64 z, .slice A2 k2 c2] 138)).setCell ⟨w.heap.size, 1, none⟩ (.slice A2 k2 c2)).drew base A n c l := oa4.drewN 1
    have ob5 : Ow eH ((w2.alloc (.cells #[.int .i64 z, .slice A2 k2 c2] 138)).setCell ⟨w.heap.size, 1, none⟩ (.slice A2 k2 c2)).drew base B m d h := ob4.drewN 1
    have ow5 := ow4.drewN 1
    have ow5 : Ow eH ((w2.alloc (.cells #[.int .i64 z, .slice A2 k2 c2] 138)).setCell ⟨w.heap.size, 1, none⟩ (.slice A2 k2 c2)).drew base A2 k2 c2 st := ow5.from_ (Nat.le_trans hbase hB1.size)
    refine wp_region_mix [(0, false), (1, false), (2, false), (3, true), (4, false)] (fun u => At2 u w.heap.size 39 #[.slice A n c, .slice A2 k2 c2, .int .i64 x] w2.heap.size 138 #[.int .i64 z, .slice A2 k2 c2]) (by kernel_rfl) (by kernel_rfl) (fun _ _ _ _ _ h => h) sp5 ?_
    simp only [mixOps, List.map_cons, List.map_nil, List.getElem?_cons_succ, List.getElem?_cons_zero, Option.getD_some]
    repeat (first
      | (refine mix_skip (by rfl) ?_
         (try simp only [Act.put, List.setIfInBounds_toArray, List.set_cons_zero, List.set_cons_succ]))
      | (refine mix_pure (v := ?_) (by rfl) (fun u hu => ?_) ?_
         rotate_left
         · (obtain ⟨hu1, hu2⟩ := hu; obtain ⟨_, _, _, _, _, _⟩ := At.three hu1; obtain ⟨_, _, _, _⟩ := At.two hu2)
           go_simp
           (with_reducible rfl)
         (try simp only [Act.put, List.setIfInBounds_toArray, List.set_cons_zero, List.set_cons_succ])))
    clear hB0 hB1 hB2 hB3 hB4 sx0 sx1 sx2 sx4 zx0 zx1 zx2 zx4 px2 px4 sp4 oa1 ob1 oa3 ob3 ow3 oa4 ob4 ow4 s0 s1 s2 sf0 sf1 sf2 z0 z1 z2 zf0 zf1 zf2 q0 q1
    generalize ((w2.alloc (.cells #[.int .i64 z, .slice A2 k2 c2] 138)).setCell ⟨w.heap.size, 1, none⟩ (.slice A2 k2 c2)).drew = v9 at *
    obtain ⟨p0, p1, p2, f0, f1, f2⟩ := zx5.three
    refine mix_call (by rfl) (fun K hK => ?_)
    go_simp
    refine hK _ _ (fun u => At2 u w.heap.size 39 #[.slice A n c, .slice A2 k2 c2, .int .i64 x] w2.heap.size 138 #[.int .i64 z, .slice A2 k2 c2]) (fun _ h => h) (((sp5.far (p := ⟨w.heap.size + 1, 0, none⟩) (by simp; omega) _).far (p := ⟨w.heap.size + 1, 1, none⟩) (by simp; omega) _).far (p := ⟨w.heap.size + 1, 2, none⟩) (by simp; omega) _) ?_
    clear hK K
    (try simp only [Act.put, List.setIfInBounds_toArray, List.set_cons_zero, List.set_cons_succ])
    refine mix_pure (v := ?_) (by rfl) (fun u hu => ?_) ?_
    rotate_left
    · go_simp
      (with_reducible rfl)
    (try simp only [Act.put, List.setIfInBounds_toArray, List.set_cons_zero, List.set_cons_succ])
    refine mix_nil ?_
    go_wp2
    refine bodyPost_ret (v := .tuple #[.agg #[.slice A n c, .slice A2 k2 c2, .int .i64 x], .int .i64 z]) (by simp [results, Tryz.results48, go_sem, p0, p1, p2]) rfl ?_
    refine ⟨_, _, _, _, _, _, _, by rw [Hcode.out], fun h0 => ?_, ((hB5.setCell (by simp) _).setCell (by simp) _).setCell (by simp) _⟩
    rw [Hcode.out] at h0
    rw [Hsta.out h0]
    exact ⟨(((oa5.apart (by decide) zx5 0 (.slice A n c)).apart (by decide) (zx5.set 0 (.slice A n c)) 1 (.slice A2 k2 c2)).apart (by decide) ((zx5.set 0 (.slice A n c)).set 1 (.slice A2 k2 c2)) 2 (.int .i64 x)), (((ow5.apart (by decide) zx5 0 (.slice A n c)).apart (by decide) (zx5.set 0 (.slice A n c)) 1 (.slice A2 k2 c2)).apart (by decide) ((zx5.set 0 (.slice A n c)).set 1 (.slice A2 k2 c2)) 2 (.int .i64 x)), rfl⟩
  · subst k4
    clear k1 k2 k3
    have q1 := as4_1
    have q2 := as4_2
    have q3 := as4_3
    have q4 := as4_4
    rw [entV_4 hf]
    clear hf
    have al1 := (Below.refl ((w.alloc (.cells #[.slice A n c, .slice B m d, .int .i64 x] 39)).alloc (.cells #[.slice none 0 0, .slice none 0 0, .int .i64 0] 39)).heap.size ((w.alloc (.cells #[.slice A n c, .slice B m d, .int .i64 x] 39)).alloc (.cells #[.slice none 0 0, .slice none 0 0, .int .i64 0] 39))).alloc (Nat.le_refl _) (.cells #[.int .i64 a6] 101)
    have hB1 := hB0.alloc hB0.size (.cells #[.int .i64 a6] 101)
    have sx1 := sx0.alloc (.cells #[.int .i64 a6] 101)
    have zx1 := zx0.alloc (.cells #[.int .i64 a6] 101)
    have ex1 : At (((w.alloc (.cells #[.slice A n c, .slice B m d, .int .i64 x] 39)).alloc (.cells #[.slice none 0 0, .slice none 0 0, .int .i64 0] 39)).alloc (.cells #[.int .i64 a6] 101)) (w.heap.size + 2) 101 #[.int .i64 a6] := by
      have := At.new ((w.alloc (.cells #[.slice A n c, .slice B m d, .int .i64 x] 39)).alloc (.cells #[.slice none 0 0, .slice none 0 0, .int .i64 0] 39)) 101 #[.int .i64 a6]
      simpa using this
    have oa1 := oa.below hB1 (Nat.le_refl _)
    have ob1 := ob.below hB1 (Nat.le_refl _)
    have hF1 := hF.below hB1
    have Hs := Lib.hid (step4 (s := (l, h, x)) (r0 := 4) (p := a1) (y := (a2, a3, a4, a5)) (k := a6) (by decide) (by decide) (by decide))
    obtain ⟨s0, s1, s2, sf0, sf1, sf2⟩ := sx1.three
    obtain ⟨z0, z1, z2, zf0, zf1, zf2⟩ := zx1.three
    have e0 := ex1.cell 0
    by_cases hlt : a6 < x
    · have Hr := Lib.hid (show stepR (l, h, x) (4, a1, (a2, a3, a4, a5), a6) = (8, (l, h, x)) by rw [Hs.out, if_pos hlt])
      go_enter Tryz.func48, Tryz.ntmps48
      go_wp2
      refine bodyPost_ret (v := .tuple #[.agg #[.slice A n c, .slice B m d, .int .i64 x], .int .i64 8]) (by simp [results, Tryz.results48, go_sem, z0, z1, z2]) rfl ?_
      rw [Hr.out]
      exact ⟨_, _, _, _, _, _, _, rfl, fun h0 => absurd (show (8 : Int) = 0 from h0) (by decide), by repeat (first | exact Below.refl _ _ | refine Below.alloc ?_ (by first | exact Nat.le_refl _ | (simp; done) | (simp; omega)) _)⟩
    · have Hr := Lib.hid (show stepR (l, h, x) (4, a1, (a2, a3, a4, a5), a6) = (0, (l, h, a6)) by rw [Hs.out, if_neg hlt])
      go_enter Tryz.func48, Tryz.ntmps48
      go_wp2
      refine bodyPost_ret (v := .tuple #[.agg #[.slice A n c, .slice B m d, .int .i64 a6], .int .i64 0]) (by simp [results, Tryz.results48, go_sem, z0, z1, z2]) rfl ?_
      rw [Hr.out]
      have HB : Below w.heap.size w (((w.alloc (.cells #[.slice A n c, .slice B m d, .int .i64 a6] 39)).alloc (.cells #[.slice A n c, .slice B m d, .int .i64 a6] 39)).alloc (.cells #[.int .i64 a6] 101)) := (((Below.refl _ _).alloc (Nat.le_refl _) _).alloc (by simp) _).alloc (by simp; omega) _
      exact ⟨_, _, _, _, _, _, _, rfl, fun _ => ⟨oa.below HB (Nat.le_refl _), ob.below HB (Nat.le_refl _), rfl⟩, HB⟩
end Go.Proofs.YtmaillakhhdkfaaGreatDoor
/-
  The program's fault of a state.
-/
namespace Go.Proofs.YtmaillakhhdkfaaGreatDoor
set_option maxRecDepth 20000
open Go.RowKit
set_option linter.unusedSimpArgs false
set_option linter.unusedVariables false

set_option maxHeartbeats 400000 in
theorem cmpOr64S (g n c : Nat) (l : List Int) (w : World) (hl : Ints w g l) (hn : l.length = n) (hm : n ≤ 1000) :
    Calls Tryz.prog 47 #[.slice (some ⟨g, 0, none⟩) n c] w fun e w' => e = .returned (.int .i64 (orM l)) ∧ w' = w := by
  have Hn := Lib.hid hn
  clear hn
  go_enter Tryz.func47, Tryz.ntmps47
  go_wp2
  go_loopw [8] (fun i wr => OrRel w l n i wr) (fun i _ => n - (intOf i).toNat)
  case atStart => exact ⟨0, Nat.zero_le _, rfl, rfl, rfl⟩
  case round =>
    obtain ⟨k, hk, rfl, hd, rfl⟩ := hrel
    have Hd := Lib.hid hd
    clear hd
    by_cases hlt : k < n
    · have hkl : k < l.length := by rw [Hn.out]; exact hlt
      obtain ⟨x, hx⟩ : ∃ x, l[k]? = some x := ⟨l[k], List.getElem?_eq_getElem hkl⟩
      have hc := hl k x hx
      have Ho := Lib.hid (show orM (l.drop k) = if x = 0 then orM (l.drop (k + 1)) else x by
        rw [List.drop_eq_getElem_cons hkl, orM_cons]
        rw [List.getElem?_eq_getElem hkl] at hx
        rw [Option.some.inj hx])
      clear hx
      by_cases h0 : x = 0
      · subst h0
        go_wp2
        refine ⟨⟨k + 1, by omega, by go_num, ?_, rfl⟩, by simp [intOf]; omega⟩
        have := Ho.out
        rw [if_pos rfl] at this
        rw [← this]
        exact Hd.out
      · have hne : (x != 0) = true := by simpa using h0
        have Hx := Lib.hid (show orM l = x by rw [← Hd.out, Ho.out, if_neg h0])
        clear h0
        go_wp2
        go_ret
        exact ⟨by rw [Hx.out]; rfl, rfl⟩
    · obtain rfl : k = n := by omega
      have Hf := Lib.hid (show orM l = 0 by rw [← Hd.out, List.drop_eq_nil_of_le (Nat.le_of_eq Hn.out)]; rfl)
      go_wp2
      go_ret
      exact ⟨by rw [Hf.out]; rfl, rfl⟩

theorem Bnds.of_one {w : World} {g : Nat} {t : TypeId} {a lo hi : Int} (h : At w g t #[.int .i64 a, .int .i64 lo, .int .i64 hi]) : Bnds w g [(a, lo, hi)] := by
  intro k b hk
  match k, hk with
  | 0, hk =>
    obtain rfl : (a, lo, hi) = b := by simpa using hk
    exact ⟨h.cell 0, h.cell 1, h.cell 2⟩
  | k + 1, hk => simp at hk
theorem Ints.of_at {w : World} {g : Nat} {t : TypeId} {l : List Int} (h : At w g t (l.map (Value.int .i64)).toArray) : Ints w g l := fun k x hk => by
  rw [h.cell k]
  simp [hk]
theorem stateFault_or (l : List Smp) (h : List Hnt) (x : Int) : orM [storeFaultM l, hintsFaultM h, rngM [(x, 0, 60000)]] = stateFaultM (l, h, x) := by
  unfold stateFaultM orM rngM
  by_cases h1 : storeFaultM l = 0
  · by_cases h2 : hintsFaultM h = 0
    · rcases h3 : inB (x, 0, 60000) <;> simp [h1, h2, h3]
    · simp [h1, h2]
  · simp [h1]

set_option maxHeartbeats 4000000 in
theorem implStateFault (A B : Option Addr) (n c m d : Nat) (l : List Smp) (h : List Hnt) (x : Int) (w : World) (ha : Rd eS w w.heap.size A l) (hb : Rd eH w w.heap.size B h) (hn : l.length = n) (hm : h.length = m) (hF : Flds w) :
    Calls Tryz.prog 20 #[.agg #[.slice A n c, .slice B m d, .int .i64 x]] w fun e w' => e = .returned (.int .i64 (stateFaultM (l, h, x))) ∧ Below w.heap.size w w' := by
  have hB0 : Below w.heap.size w (w.alloc (.cells #[.slice A n c, .slice B m d, .int .i64 x] 39)) := (Below.refl _ _).alloc (Nat.le_refl _) _
  have x0 := At.new w 39 #[.slice A n c, .slice B m d, .int .i64 x]
  have hBd := hB0.drew
  have ha0 := ha.lift hBd
  have hb0 := hb.lift hBd
  have hF0 := hF.below hBd
  have Hn := Lib.hid hn
  have Hm := Lib.hid hm
  have HO := Lib.hid (stateFault_or l h x)
  clear hn hm ha hb hF
  obtain ⟨c0, c1, c2, _, _, _⟩ := x0.three
  go_enter Tryz.func20, Tryz.ntmps20
  go_wp2
  clear c0 c1 c2
  have x0 := x0.drew
  clear hB0
  have hB0 := hBd
  clear hBd
  refine any_start (fun u => At u w.heap.size 39 #[.slice A n c, .slice B m d, .int .i64 x]) (by kernel_rfl) x0 (fun _ => ?_)
  generalize (w.alloc (.cells #[.slice A n c, .slice B m d, .int .i64 x] 39)).drew = v0 at *
  have hs0 : w.heap.size ≤ v0.heap.size := hB0.size
  refine any_pure (v := ?_) 0 rfl (by kernel_rfl) (fun _ _ _ _ _ h => h) (by rfl) (fun u hu => ?_) x0 ?_
  rotate_left
  · obtain ⟨_, _, _, _, _, _⟩ := At.three hu
    go_simp
    (with_reducible rfl)
  (try simp only [Act.put, List.setIfInBounds_toArray, List.set_cons_zero, List.set_cons_succ])
  refine any_pure (v := ?_) 1 rfl (by kernel_rfl) (fun _ _ _ _ _ h => h) (by rfl) (fun u hu => ?_) x0 ?_
  rotate_left
  · obtain ⟨_, _, _, _, _, _⟩ := At.three hu
    go_simp
    (with_reducible rfl)
  (try simp only [Act.put, List.setIfInBounds_toArray, List.set_cons_zero, List.set_cons_succ])
  refine any_pure (v := ?_) 3 rfl (by kernel_rfl) (fun _ _ _ _ _ h => h) (by rfl) (fun u hu => ?_) x0 ?_
  rotate_left
  · obtain ⟨_, _, _, _, _, _⟩ := At.three hu
    go_simp
    (with_reducible rfl)
  (try simp only [Act.put, List.setIfInBounds_toArray, List.set_cons_zero, List.set_cons_succ])
  refine any_pure (v := ?_) 4 rfl (by kernel_rfl) (fun _ _ _ _ _ h => h) (by rfl) (fun u hu => ?_) x0 ?_
  rotate_left
  · obtain ⟨_, _, _, _, _, _⟩ := At.three hu
    go_simp
    (with_reducible rfl)
  (try simp only [Act.put, List.setIfInBounds_toArray, List.set_cons_zero, List.set_cons_succ])
  refine any_pure (v := ?_) 6 rfl (by kernel_rfl) (fun _ _ _ _ _ h => h) (by rfl) (fun u hu => ?_) x0 ?_
  rotate_left
  · obtain ⟨_, _, _, _, _, _⟩ := At.three hu
    go_simp
    (with_reducible rfl)
  (try simp only [Act.put, List.setIfInBounds_toArray, List.set_cons_zero, List.set_cons_succ])
  refine any_pure (v := ?_) 7 rfl (by kernel_rfl) (fun _ _ _ _ _ h => h) (by rfl) (fun u hu => ?_) x0 ?_
  rotate_left
  · obtain ⟨_, _, _, _, _, _⟩ := At.three hu
    go_simp
    (with_reducible rfl)
  (try simp only [Act.put, List.setIfInBounds_toArray, List.set_cons_zero, List.set_cons_succ])
  refine any_pure (v := ?_) 8 rfl (by kernel_rfl) (fun _ _ _ _ _ h => h) (by rfl) (fun u hu => ?_) x0 ?_
  rotate_left
  · obtain ⟨_, _, _, _, _, _⟩ := At.three hu
    go_simp
    (with_reducible rfl)
  (try simp only [Act.put, List.setIfInBounds_toArray, List.set_cons_zero, List.set_cons_succ])
  refine any_two 2 9 rfl rfl (by kernel_rfl) (by rfl) (by rfl) ?_ ?_
  · go_simp
    refine (implStoreFault A n c l _ ha0 Hn.out hF0).mono ?_
    rintro e w1 ⟨rfl, hb1⟩
    have hB1 := hB0.trans (hb1.mono hB0.size)
    have x1 := x0.below hb1 x0.lt
    have haq1 := ha0.lift hb1
    have hbq1 := hb0.lift hb1
    have hF1 := hF0.below hb1
    refine ⟨(fun u => At u w.heap.size 39 #[.slice A n c, .slice B m d, .int .i64 x]), fun _ h => h, x1, ?_⟩
    (try simp only [Act.put, List.setIfInBounds_toArray, List.set_cons_zero, List.set_cons_succ])
    refine any_two 5 9 rfl rfl (by kernel_rfl) (by rfl) (by rfl) ?_ ?_
    · go_simp
      refine (implHintsFault B m d h _ hbq1 Hm.out hF1).mono ?_
      rintro e w2 ⟨rfl, hb2⟩
      have hB2 := hB1.trans (hb2.mono hB1.size)
      have x2 := x1.below hb2 x1.lt
      have haq2 := haq1.lift hb2
      have hbq2 := hbq1.lift hb2
      have hF2 := hF1.below hb2
      refine ⟨(fun u => At u w.heap.size 39 #[.slice A n c, .slice B m d, .int .i64 x]), fun _ h => h, x2, ?_⟩
      (try simp only [Act.put, List.setIfInBounds_toArray, List.set_cons_zero, List.set_cons_succ])
      refine any_one 9 rfl (by kernel_rfl) (by rfl) ?_
      go_simp
      have bb3 := At.new w2 99 #[.int .i64 x, .int .i64 0, .int .i64 60000]
      have hal3 := (Below.refl w2.heap.size w2).alloc (Nat.le_refl _) (.cells #[.int .i64 x, .int .i64 0, .int .i64 60000] 99)
      have hB3 := hB2.alloc hB2.size (.cells #[.int .i64 x, .int .i64 0, .int .i64 60000] 99)
      have x3 := x2.alloc (.cells #[.int .i64 x, .int .i64 0, .int .i64 60000] 99)
      have haq3 := haq2.lift hal3
      have hbq3 := hbq2.lift hal3
      have hF3 := hF2.below hal3
      refine ⟨(fun u => At u w.heap.size 39 #[.slice A n c, .slice B m d, .int .i64 x]), fun _ h => h, x3, ?_⟩
      (try simp only [Act.put, List.setIfInBounds_toArray, List.set_cons_zero, List.set_cons_succ])
      refine any_one 10 rfl (by kernel_rfl) (by rfl) ?_
      go_simp
      refine (rangeFault _ 1 _ [(x, 0, 60000)] _ (Bnds.of_one bb3) bb3.lt rfl (by omega)).mono ?_
      rintro e w4 ⟨rfl, hb4⟩
      have hB4 := hB3.trans (hb4.mono hB3.size)
      have x4 := x3.below hb4 x3.lt
      have haq4 := haq3.lift hb4
      have hbq4 := hbq3.lift hb4
      have hF4 := hF3.below hb4
      have bb4 := bb3.below hb4 bb3.lt
      refine ⟨(fun u => At u w.heap.size 39 #[.slice A n c, .slice B m d, .int .i64 x]), fun _ h => h, x4, ?_⟩
      (try simp only [Act.put, List.setIfInBounds_toArray, List.set_cons_zero, List.set_cons_succ])
      refine any_one 11 rfl (by kernel_rfl) (by rfl) ?_
      go_simp
      have ii := At.new w4 2 #[.int .i64 (storeFaultM l), .int .i64 (hintsFaultM h), .int .i64 (rngM [(x, 0, 60000)])]
      have hal5 := (Below.refl w4.heap.size w4).alloc (Nat.le_refl _) (.cells #[.int .i64 (storeFaultM l), .int .i64 (hintsFaultM h), .int .i64 (rngM [(x, 0, 60000)])] 2)
      have hB5 := hB4.alloc hB4.size (.cells #[.int .i64 (storeFaultM l), .int .i64 (hintsFaultM h), .int .i64 (rngM [(x, 0, 60000)])] 2)
      have x5 := x4.alloc (.cells #[.int .i64 (storeFaultM l), .int .i64 (hintsFaultM h), .int .i64 (rngM [(x, 0, 60000)])] 2)
      have haq5 := haq4.lift hal5
      have hbq5 := hbq4.lift hal5
      have hF5 := hF4.below hal5
      refine ⟨(fun u => At u w.heap.size 39 #[.slice A n c, .slice B m d, .int .i64 x]), fun _ h => h, x5, ?_⟩
      (try simp only [Act.put, List.setIfInBounds_toArray, List.set_cons_zero, List.set_cons_succ])
      refine any_one 12 rfl (by kernel_rfl) (by rfl) ?_
      go_simp
      refine (cmpOr64S _ 3 _ [storeFaultM l, hintsFaultM h, rngM [(x, 0, 60000)]] _ (Ints.of_at ii) rfl (by omega)).mono ?_
      rintro e w' ⟨rfl, rfl⟩
      refine ⟨(fun u => At u w.heap.size 39 #[.slice A n c, .slice B m d, .int .i64 x]), fun _ h => h, x5, ?_⟩
      (try simp only [Act.put, List.setIfInBounds_toArray, List.set_cons_zero, List.set_cons_succ])
      refine any_pure (v := ?_) 13 rfl (by kernel_rfl) (fun _ _ _ _ _ h => h) (by rfl) (fun u hu => ?_) x5 ?_
      rotate_left
      · go_simp
        (with_reducible rfl)
      (try simp only [Act.put, List.setIfInBounds_toArray, List.set_cons_zero, List.set_cons_succ])
      refine any_done (by kernel_rfl) ?_
      go_wp2
      go_ret
      exact ⟨by rw [← HO.out]; try rfl, hB5⟩
    · go_simp
      have bb6 := At.new w1 99 #[.int .i64 x, .int .i64 0, .int .i64 60000]
      have hal6 := (Below.refl w1.heap.size w1).alloc (Nat.le_refl _) (.cells #[.int .i64 x, .int .i64 0, .int .i64 60000] 99)
      have hB6 := hB1.alloc hB1.size (.cells #[.int .i64 x, .int .i64 0, .int .i64 60000] 99)
      have x6 := x1.alloc (.cells #[.int .i64 x, .int .i64 0, .int .i64 60000] 99)
      have haq6 := haq1.lift hal6
      have hbq6 := hbq1.lift hal6
      have hF6 := hF1.below hal6
      refine ⟨(fun u => At u w.heap.size 39 #[.slice A n c, .slice B m d, .int .i64 x]), fun _ h => h, x6, ?_⟩
      (try simp only [Act.put, List.setIfInBounds_toArray, List.set_cons_zero, List.set_cons_succ])
      refine any_one 5 rfl (by kernel_rfl) (by rfl) ?_
      go_simp
      refine (implHintsFault B m d h _ hbq6 Hm.out hF6).mono ?_
      rintro e w7 ⟨rfl, hb7⟩
      have hB7 := hB6.trans (hb7.mono hB6.size)
      have x7 := x6.below hb7 x6.lt
      have haq7 := haq6.lift hb7
      have hbq7 := hbq6.lift hb7
      have hF7 := hF6.below hb7
      have bb7 := bb6.below hb7 bb6.lt
      refine ⟨(fun u => At u w.heap.size 39 #[.slice A n c, .slice B m d, .int .i64 x]), fun _ h => h, x7, ?_⟩
      (try simp only [Act.put, List.setIfInBounds_toArray, List.set_cons_zero, List.set_cons_succ])
      refine any_one 10 rfl (by kernel_rfl) (by rfl) ?_
      go_simp
      refine (rangeFault _ 1 _ [(x, 0, 60000)] _ (Bnds.of_one bb7) bb7.lt rfl (by omega)).mono ?_
      rintro e w8 ⟨rfl, hb8⟩
      have hB8 := hB7.trans (hb8.mono hB7.size)
      have x8 := x7.below hb8 x7.lt
      have haq8 := haq7.lift hb8
      have hbq8 := hbq7.lift hb8
      have hF8 := hF7.below hb8
      have bb8 := bb7.below hb8 bb7.lt
      refine ⟨(fun u => At u w.heap.size 39 #[.slice A n c, .slice B m d, .int .i64 x]), fun _ h => h, x8, ?_⟩
      (try simp only [Act.put, List.setIfInBounds_toArray, List.set_cons_zero, List.set_cons_succ])
      refine any_one 11 rfl (by kernel_rfl) (by rfl) ?_
      go_simp
      have ii := At.new w8 2 #[.int .i64 (storeFaultM l), .int .i64 (hintsFaultM h), .int .i64 (rngM [(x, 0, 60000)])]
      have hal9 := (Below.refl w8.heap.size w8).alloc (Nat.le_refl _) (.cells #[.int .i64 (storeFaultM l), .int .i64 (hintsFaultM h), .int .i64 (rngM [(x, 0, 60000)])] 2)
      have hB9 := hB8.alloc hB8.size (.cells #[.int .i64 (storeFaultM l), .int .i64 (hintsFaultM h), .int .i64 (rngM [(x, 0, 60000)])] 2)
      have x9 := x8.alloc (.cells #[.int .i64 (storeFaultM l), .int .i64 (hintsFaultM h), .int .i64 (rngM [(x, 0, 60000)])] 2)
      have haq9 := haq8.lift hal9
      have hbq9 := hbq8.lift hal9
      have hF9 := hF8.below hal9
      refine ⟨(fun u => At u w.heap.size 39 #[.slice A n c, .slice B m d, .int .i64 x]), fun _ h => h, x9, ?_⟩
      (try simp only [Act.put, List.setIfInBounds_toArray, List.set_cons_zero, List.set_cons_succ])
      refine any_one 12 rfl (by kernel_rfl) (by rfl) ?_
      go_simp
      refine (cmpOr64S _ 3 _ [storeFaultM l, hintsFaultM h, rngM [(x, 0, 60000)]] _ (Ints.of_at ii) rfl (by omega)).mono ?_
      rintro e w' ⟨rfl, rfl⟩
      refine ⟨(fun u => At u w.heap.size 39 #[.slice A n c, .slice B m d, .int .i64 x]), fun _ h => h, x9, ?_⟩
      (try simp only [Act.put, List.setIfInBounds_toArray, List.set_cons_zero, List.set_cons_succ])
      refine any_pure (v := ?_) 13 rfl (by kernel_rfl) (fun _ _ _ _ _ h => h) (by rfl) (fun u hu => ?_) x9 ?_
      rotate_left
      · go_simp
        (with_reducible rfl)
      (try simp only [Act.put, List.setIfInBounds_toArray, List.set_cons_zero, List.set_cons_succ])
      refine any_done (by kernel_rfl) ?_
      go_wp2
      go_ret
      exact ⟨by rw [← HO.out]; try rfl, hB9⟩
  · go_simp
    have bb10 := At.new v0 99 #[.int .i64 x, .int .i64 0, .int .i64 60000]
    have hal10 := (Below.refl v0.heap.size v0).alloc (Nat.le_refl _) (.cells #[.int .i64 x, .int .i64 0, .int .i64 60000] 99)
    have hB10 := hB0.alloc hB0.size (.cells #[.int .i64 x, .int .i64 0, .int .i64 60000] 99)
    have x10 := x0.alloc (.cells #[.int .i64 x, .int .i64 0, .int .i64 60000] 99)
    have haq10 := ha0.lift hal10
    have hbq10 := hb0.lift hal10
    have hF10 := hF0.below hal10
    refine ⟨(fun u => At u w.heap.size 39 #[.slice A n c, .slice B m d, .int .i64 x]), fun _ h => h, x10, ?_⟩
    (try simp only [Act.put, List.setIfInBounds_toArray, List.set_cons_zero, List.set_cons_succ])
    refine any_one 2 rfl (by kernel_rfl) (by rfl) ?_
    go_simp
    refine (implStoreFault A n c l _ haq10 Hn.out hF10).mono ?_
    rintro e w11 ⟨rfl, hb11⟩
    have hB11 := hB10.trans (hb11.mono hB10.size)
    have x11 := x10.below hb11 x10.lt
    have haq11 := haq10.lift hb11
    have hbq11 := hbq10.lift hb11
    have hF11 := hF10.below hb11
    have bb11 := bb10.below hb11 bb10.lt
    refine ⟨(fun u => At u w.heap.size 39 #[.slice A n c, .slice B m d, .int .i64 x]), fun _ h => h, x11, ?_⟩
    (try simp only [Act.put, List.setIfInBounds_toArray, List.set_cons_zero, List.set_cons_succ])
    refine any_one 5 rfl (by kernel_rfl) (by rfl) ?_
    go_simp
    refine (implHintsFault B m d h _ hbq11 Hm.out hF11).mono ?_
    rintro e w12 ⟨rfl, hb12⟩
    have hB12 := hB11.trans (hb12.mono hB11.size)
    have x12 := x11.below hb12 x11.lt
    have haq12 := haq11.lift hb12
    have hbq12 := hbq11.lift hb12
    have hF12 := hF11.below hb12
    have bb12 := bb11.below hb12 bb11.lt
    refine ⟨(fun u => At u w.heap.size 39 #[.slice A n c, .slice B m d, .int .i64 x]), fun _ h => h, x12, ?_⟩
    (try simp only [Act.put, List.setIfInBounds_toArray, List.set_cons_zero, List.set_cons_succ])
    refine any_one 10 rfl (by kernel_rfl) (by rfl) ?_
    go_simp
    refine (rangeFault _ 1 _ [(x, 0, 60000)] _ (Bnds.of_one bb12) bb12.lt rfl (by omega)).mono ?_
    rintro e w13 ⟨rfl, hb13⟩
    have hB13 := hB12.trans (hb13.mono hB12.size)
    have x13 := x12.below hb13 x12.lt
    have haq13 := haq12.lift hb13
    have hbq13 := hbq12.lift hb13
    have hF13 := hF12.below hb13
    have bb13 := bb12.below hb13 bb12.lt
    refine ⟨(fun u => At u w.heap.size 39 #[.slice A n c, .slice B m d, .int .i64 x]), fun _ h => h, x13, ?_⟩
    (try simp only [Act.put, List.setIfInBounds_toArray, List.set_cons_zero, List.set_cons_succ])
    refine any_one 11 rfl (by kernel_rfl) (by rfl) ?_
    go_simp
    have ii := At.new w13 2 #[.int .i64 (storeFaultM l), .int .i64 (hintsFaultM h), .int .i64 (rngM [(x, 0, 60000)])]
    have hal14 := (Below.refl w13.heap.size w13).alloc (Nat.le_refl _) (.cells #[.int .i64 (storeFaultM l), .int .i64 (hintsFaultM h), .int .i64 (rngM [(x, 0, 60000)])] 2)
    have hB14 := hB13.alloc hB13.size (.cells #[.int .i64 (storeFaultM l), .int .i64 (hintsFaultM h), .int .i64 (rngM [(x, 0, 60000)])] 2)
    have x14 := x13.alloc (.cells #[.int .i64 (storeFaultM l), .int .i64 (hintsFaultM h), .int .i64 (rngM [(x, 0, 60000)])] 2)
    have haq14 := haq13.lift hal14
    have hbq14 := hbq13.lift hal14
    have hF14 := hF13.below hal14
    refine ⟨(fun u => At u w.heap.size 39 #[.slice A n c, .slice B m d, .int .i64 x]), fun _ h => h, x14, ?_⟩
    (try simp only [Act.put, List.setIfInBounds_toArray, List.set_cons_zero, List.set_cons_succ])
    refine any_one 12 rfl (by kernel_rfl) (by rfl) ?_
    go_simp
    refine (cmpOr64S _ 3 _ [storeFaultM l, hintsFaultM h, rngM [(x, 0, 60000)]] _ (Ints.of_at ii) rfl (by omega)).mono ?_
    rintro e w' ⟨rfl, rfl⟩
    refine ⟨(fun u => At u w.heap.size 39 #[.slice A n c, .slice B m d, .int .i64 x]), fun _ h => h, x14, ?_⟩
    (try simp only [Act.put, List.setIfInBounds_toArray, List.set_cons_zero, List.set_cons_succ])
    refine any_pure (v := ?_) 13 rfl (by kernel_rfl) (fun _ _ _ _ _ h => h) (by rfl) (fun u hu => ?_) x14 ?_
    rotate_left
    · go_simp
      (with_reducible rfl)
    (try simp only [Act.put, List.setIfInBounds_toArray, List.set_cons_zero, List.set_cons_succ])
    refine any_done (by kernel_rfl) ?_
    go_wp2
    go_ret
    exact ⟨by rw [← HO.out]; try rfl, hB14⟩
end Go.Proofs.YtmaillakhhdkfaaGreatDoor
