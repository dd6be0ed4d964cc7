/-
  samplesByKey: the first sample of each key, in a map.
-/
import Derived.Test.YtkgbjlbhlhdhbaaDoorConcat
import Derived.Test.YtkgbjlbhlhdhbaaDoorMapS
namespace Go.Proofs.YtkgbjlbhlhdhbaaDoor
set_option maxRecDepth 20000
open Go.RowKit Go.Shelf
set_option linter.unusedSimpArgs false
set_option linter.unusedVariables false

def keyStep (acc : List Smp) (x : Smp) : List Smp := if (firstM acc x).isSome then acc else acc ++ [x]
def byKeyM (l : List Smp) : List Smp := l.foldl keyStep []
theorem byKey_next {l : List Smp} {k : Nat} {x : Smp} (h : l[k]? = some x) : byKeyM (l.take (k + 1)) = keyStep (byKeyM (l.take k)) x := by
  unfold byKeyM
  rw [take_next h, List.foldl_append]
  rfl

theorem implKeyOf (a0 a1 a2 a3 : Int) (w : World) :
    Calls Tryd.prog 51 #[.agg #[.int .i64 a0, .int .i64 a1, .int .i64 a2, .int .i64 a3]] w fun e w' => e = .returned (.agg #[.int .i64 a0, .int .i64 a1, .int .i64 a2]) ∧ Below w.heap.size w w' := by
  go_enter Tryd.func51, Tryd.ntmps51
  go_wp2
  refine bodyPost_ret (v := .agg #[.int .i64 a0, .int .i64 a1, .int .i64 a2]) (by simp [results, Tryd.results51, go_sem]) rfl ?_
  exact ⟨rfl, ((Below.refl _ _).alloc (Nat.le_refl _) _).alloc (by simp) _⟩

theorem S4.grown {w w' : World} {row : Option Nat} {g p : Nat} {a0 a1 a2 a3 : Int} (h : S4 w g p a0 a1 a2 a3) (hg : w.grownBy w' row) (hne : some g ≠ row) : S4 w' g p a0 a1 a2 a3 :=
  ⟨hg.cell h.1 hne, hg.cell h.2.1 hne, hg.cell h.2.2.1 hne, hg.cell h.2.2.2 hne⟩

theorem wp_mapPut {P : Program} {o : Oper} {a : Act} {w w' : World} {K : Act → World → Prop} {Q : Exit → Act → World → Prop} (m k v : Operand) (t : TypeId) (hop : o.op = Op.mapUpdate t m k v) {mv kv vv : Value} (hm : a.eval m = mv) (hk : a.eval k = kv) (hv : a.eval v = vv)
    (hrun : (Instr.mapUpdate t mv kv vv).run P w = .ok () w') (h : K (a.put o.dst undef) w') : o.wp P a w K Q := by
  unfold Oper.wp
  simp [execOp, hop, hm, hk, hv, hrun, Result.andThen]
  exact h

set_option maxRecDepth 100000 in
set_option maxHeartbeats 4000000 in
theorem byKeyS (G k c : Nat) (rows : List Row4) (w : World) (hR : Rows4 w G rows) (hG : G < w.heap.size) (hk : rows.length = k) (hk4 : k ≤ 4) :
    Calls Tryd.prog 50 #[.slice (some ⟨G, 0, none⟩) k c] w fun e w' => ∃ b, e = .returned (.map (some b)) ∧ w.heap.size ≤ b ∧ SMap w' b (byKeyM (flat rows)) ∧ Below w.heap.size w w' := by
  have hB0 : Below w.heap.size w (w.alloc (.map #[] 0)) := (Below.refl _ _).alloc (Nat.le_refl _) _
  have hC := concatS G k c rows (w.alloc (.map #[] 0)) (hR.below hB0 hG) (Nat.lt_of_lt_of_le hG hB0.size) hk hk4
  have hmm := @run_makeMap Tryd.prog
  have s0 := SMap.made w
  clear hR hk
  go_enter Tryd.func50, Tryd.ntmps50
  go_wp2_with fail
  refine hC.mono ?_
  rintro e w1 ⟨A, n, c', rfl, ow1, hb1⟩
  have s1 := s0.below hb1 (by simp)
  have hB1 := hB0.trans (hb1.mono hB0.size)
  have hnl := Ow.len okS ow1
  have hnm := ow1.small
  rw [World.size_alloc] at ow1
  obtain ⟨l, hl0⟩ : ∃ l, flat rows = l := ⟨_, rfl⟩
  rw [hl0] at ow1 hnl
  have Hl := Lib.hid hl0
  clear hl0
  have Hn := Lib.hid hnl
  clear hC hnl s0 hmm
  unfold maxLen at hnm
  go_wp2
  go_loopw [12] (fun i wr => ∃ t : Nat, t ≤ n ∧ i = .int .i64 t ∧ SMap wr w.heap.size (byKeyM (l.take t)) ∧ Ow eS wr (w.heap.size + 1) A n c' l ∧ Below w.heap.size w wr) (fun i _ => n - (intOf i).toNat)
  case atStart => exact ⟨0, Nat.zero_le _, rfl, s1, ow1, hB1⟩
  case round =>
    obtain ⟨t, ht, rfl, hs, how, hbel⟩ := hrel
    by_cases hlt : t < n
    · obtain ⟨g, o, a0, a1, a2, a3, rfl, hg, hx, c0, c1, c2, c3⟩ := (how.rd okS).smp (k := t) (by rw [Hn.out]; exact hlt)
      have hAl := (Below.refl wr.heap.size wr).alloc (Nat.le_refl _) (.cells #[.int .i64 a0, .int .i64 a1, .int .i64 a2, .int .i64 a3] 26)
      have hbA := hbel.trans (hAl.mono hbel.size)
      have hsA := hs.alloc (.cells #[.int .i64 a0, .int .i64 a1, .int .i64 a2, .int .i64 a3] 26)
      have owA := how.alloc (.cells #[.int .i64 a0, .int .i64 a1, .int .i64 a2, .int .i64 a3] 26)
      have atX := At.new wr 26 #[.int .i64 a0, .int .i64 a1, .int .i64 a2, .int .i64 a3]
      have Hx := Lib.hid (byKey_next hx)
      clear hx
      go_wp2_with fail
      refine (implKeyOf a0 a1 a2 a3 _).mono ?_
      rintro e w2 ⟨rfl, hb2⟩
      have hs2 := hsA.below hb2 hsA.lt
      have ow2 := owA.below hb2 (Nat.le_refl _)
      have hB2 := hbA.trans (hb2.mono hbA.size)
      have atX2 := atX.below hb2 atX.lt
      have hl : (Instr.lookup 76 (.map (some w.heap.size)) (.agg #[.int .i64 a0, .int .i64 a1, .int .i64 a2]) true).run Tryd.prog w2 = _ := hs2.look (a0, a1, a2, a3)
      rcases hf : firstM (byKeyM (l.take t)) (a0, a1, a2, a3) with _ | ⟨y0, y1, y2, y3⟩
      · rw [hf] at hl
        simp only [Option.getD_none, Option.isSome_none] at hl
        have Hst := Lib.hid (show byKeyM (l.take (t + 1)) = byKeyM (l.take t) ++ [(a0, a1, a2, a3)] by rw [Hx.out]; unfold keyStep; rw [hf]; rfl)
        have Hf := Lib.hid hf
        clear hf
        go_wp2
        have hAl5 := (Below.refl w2.heap.size w2).alloc (Nat.le_refl _) (.cells #[.int .i64 0, .int .i64 0, .int .i64 0, .int .i64 0] 26)
        have hB5 := hB2.alloc hB2.size (.cells #[.int .i64 0, .int .i64 0, .int .i64 0, .int .i64 0] 26)
        have hs5 := hs2.alloc (.cells #[.int .i64 0, .int .i64 0, .int .i64 0, .int .i64 0] 26)
        have ow5 := ow2.alloc (.cells #[.int .i64 0, .int .i64 0, .int .i64 0, .int .i64 0] 26)
        have atX5 := atX2.alloc (.cells #[.int .i64 0, .int .i64 0, .int .i64 0, .int .i64 0] 26)
        have c5 : S4 (w2.alloc (.cells #[.int .i64 0, .int .i64 0, .int .i64 0, .int .i64 0] 26)) wr.heap.size 0 a0 a1 a2 a3 := by
          obtain ⟨h0, h1, h2, h3, _⟩ := atX5.four
          exact ⟨h0, h1, h2, h3⟩
        have hg5 := atX5.lt
        refine wp_region_mix [(0, false), (1, false), (3, false), (2, true), (4, true)] (fun u => S4 u wr.heap.size 0 a0 a1 a2 a3) (by kernel_rfl) (by kernel_rfl) (fun _ _ _ _ _ h => h) c5.drew ?_
        simp only [mixOps, List.map_cons, List.map_nil, List.getElem?_cons_succ, List.getElem?_cons_zero, Option.getD_some]
        iterate 3 (
          refine mix_pure (v := ?_) (by rfl) (fun u hu => ?_) ?_
          rotate_left
          · obtain ⟨_, _, _, _⟩ := hu
            go_simp
            (with_reducible rfl)
          (try simp only [Act.put, List.setIfInBounds_toArray, List.set_cons_zero, List.set_cons_succ]))
        refine mix_call (by rfl) (fun K hK => ?_)
        go_simp
        refine (implKeyOf a0 a1 a2 a3 _).mono ?_
        rintro e w6 ⟨rfl, hb6⟩
        have hs6 := hs5.drew.below hb6 hs5.lt
        have ow6 := (ow5.drewN 1).below hb6 (Nat.le_refl _)
        have hB6 := hB5.drew.trans (hb6.mono hB5.size)
        have c6 := c5.drew.below hb6 hg5
        obtain ⟨w7, hrun, hs7, hg7⟩ := hs6.put (a0, a1, a2, a3) Hf.out
        have ow7 := ow6.grown hg7 (fun x hx e => by
          have := (ow6.lt x hx).1
          simp only [Option.some.injEq] at e
          omega)
        have hB7 := hB6.grown hg7 hB6.size (fun x e => by cases e; exact Nat.le_refl _)
        refine hK _ _ _ (fun _ h => h) c6 ?_
        (try simp only [Act.put, List.setIfInBounds_toArray, List.set_cons_zero, List.set_cons_succ])
        refine mix_call (by rfl) (fun K hK => ?_)
        refine wp_mapPut _ _ _ _ rfl rfl rfl rfl hrun ?_
        refine hK _ _ _ (fun _ h => h) (c6.grown hg7 (fun e => by
          have := hbel.size
          have := hs.lt
          simp only [Option.some.injEq] at e
          omega)) ?_
        (try simp only [Act.put, List.setIfInBounds_toArray, List.set_cons_zero, List.set_cons_succ])
        refine mix_nil ?_
        go_wp2
        exact ⟨⟨t + 1, by omega, by go_num, by rw [Hst.out]; exact hs7, ow7, hB7⟩, by simp [intOf]; omega⟩
      · rw [hf] at hl
        simp only [Option.getD_some, Option.isSome_some] at hl
        have Hst := Lib.hid (show byKeyM (l.take (t + 1)) = byKeyM (l.take t) by rw [Hx.out]; unfold keyStep; rw [hf]; rfl)
        clear hf
        go_wp2
        exact ⟨⟨t + 1, by omega, by go_num, by rw [Hst.out]; exact hs2.alloc _, ow2.alloc _, hB2.alloc hB2.size _⟩, by simp [intOf]; omega⟩
    · obtain rfl : t = n := by omega
      have Hq := Lib.hid (show l.take t = l by rw [List.take_of_length_le (by rw [Hn.out]; exact Nat.le_refl _)])
      go_wp2
      go_ret
      exact ⟨_, rfl, Nat.le_refl _, by rw [Hl.out, ← Hq.out]; exact hs, hbel⟩
end Go.Proofs.YtkgbjlbhlhdhbaaDoor
