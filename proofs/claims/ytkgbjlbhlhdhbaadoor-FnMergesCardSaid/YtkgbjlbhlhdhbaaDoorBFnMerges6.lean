/-
  Texts of one proof, joined: each has its own namespace.
-/
import Derived.Test.YtkgbjlbhlhdhbaaDoorBFnMerges5
import Derived.Test.YtkgbjlbhlhdhbaaDoorBFnMerges3
import Derived.Test.YtkgbjlbhlhdhbaaDoorBFnMerges4
import Derived.Deep.DeepCutAuto
/-
  samplesByKey: the first sample of each key, in a map.
-/
namespace Go.Proofs.YtkgbjlbhlhdhbaaDoor
set_option maxRecDepth 20000
open Go.RowKit Go.Shelf
set_option linter.unusedSimpArgs false
set_option linter.unusedVariables false

def keyStep (acc : List Smp) (x : Smp) : List Smp := if (firstM acc x).isSome then acc else acc ++ [x]
def byKeyM (l : List Smp) : List Smp := l.foldl keyStep []
theorem byKey_next {l : List Smp} {k : Nat} {x : Smp} (h : l[k]? = some x) : byKeyM (l.take (k + 1)) = keyStep (byKeyM (l.take k)) x := by
  unfold byKeyM
  rw [take_next h, List.foldl_append]
  rfl

theorem implKeyOf (a0 a1 a2 a3 : Int) (w : World) :
    Calls Tryd.prog 51 #[.agg #[.int .i64 a0, .int .i64 a1, .int .i64 a2, .int .i64 a3]] w fun e w' => e = .returned (.agg #[.int .i64 a0, .int .i64 a1, .int .i64 a2]) ∧ Below w.heap.size w w' := by
  go_enter Tryd.func51, Tryd.ntmps51
  go_wp2
  refine bodyPost_ret (v := .agg #[.int .i64 a0, .int .i64 a1, .int .i64 a2]) (by simp [results, Tryd.results51, go_sem]) rfl ?_
  exact ⟨rfl, ((Below.refl _ _).alloc (Nat.le_refl _) _).alloc (by simp) _⟩

theorem S4.grown {w w' : World} {row : Option Nat} {g p : Nat} {a0 a1 a2 a3 : Int} (h : S4 w g p a0 a1 a2 a3) (hg : w.grownBy w' row) (hne : some g ≠ row) : S4 w' g p a0 a1 a2 a3 :=
  ⟨hg.cell h.1 hne, hg.cell h.2.1 hne, hg.cell h.2.2.1 hne, hg.cell h.2.2.2 hne⟩

theorem wp_mapPut {P : Program} {o : Oper} {a : Act} {w w' : World} {K : Act → World → Prop} {Q : Exit → Act → World → Prop} (m k v : Operand) (t : TypeId) (hop : o.op = Op.mapUpdate t m k v) {mv kv vv : Value} (hm : a.eval m = mv) (hk : a.eval k = kv) (hv : a.eval v = vv)
    (hrun : (Instr.mapUpdate t mv kv vv).run P w = .ok () w') (h : K (a.put o.dst undef) w') : o.wp P a w K Q := by
  unfold Oper.wp
  simp [execOp, hop, hm, hk, hv, hrun, Result.andThen]
  exact h

set_option maxRecDepth 100000 in
set_option maxHeartbeats 4000000 in
theorem byKeyS (G k c : Nat) (rows : List Row4) (w : World) (hR : Rows4 w G rows) (hG : G < w.heap.size) (hk : rows.length = k) (hk4 : k ≤ 4) :
    Calls Tryd.prog 50 #[.slice (some ⟨G, 0, none⟩) k c] w fun e w' => ∃ b, e = .returned (.map (some b)) ∧ w.heap.size ≤ b ∧ SMap w' b (byKeyM (flat rows)) ∧ Below w.heap.size w w' := by
  have hB0 : Below w.heap.size w (w.alloc (.map #[] 0)) := (Below.refl _ _).alloc (Nat.le_refl _) _
  have hC := concatS G k c rows (w.alloc (.map #[] 0)) (hR.below hB0 hG) (Nat.lt_of_lt_of_le hG hB0.size) hk hk4
  have hmm := @run_makeMap Tryd.prog
  have s0 := SMap.made w
  clear hR hk
  go_enter Tryd.func50, Tryd.ntmps50
  go_wp2_with fail
  refine hC.mono ?_
  rintro e w1 ⟨A, n, c', rfl, ow1, hb1⟩
  have s1 := s0.below hb1 (by simp)
  have hB1 := hB0.trans (hb1.mono hB0.size)
  have hnl := Ow.len okS ow1
  have hnm := ow1.small
  rw [World.size_alloc] at ow1
  obtain ⟨l, hl0⟩ : ∃ l, flat rows = l := ⟨_, rfl⟩
  rw [hl0] at ow1 hnl
  have Hl := Lib.hid hl0
  clear hl0
  have Hn := Lib.hid hnl
  clear hC hnl s0 hmm
  unfold maxLen at hnm
  go_wp2
  go_loopw [12] (fun i wr => ∃ t : Nat, t ≤ n ∧ i = .int .i64 t ∧ SMap wr w.heap.size (byKeyM (l.take t)) ∧ Ow eS wr (w.heap.size + 1) A n c' l ∧ Below w.heap.size w wr) (fun i _ => n - (intOf i).toNat)
  case atStart => exact ⟨0, Nat.zero_le _, rfl, s1, ow1, hB1⟩
  case round =>
    obtain ⟨t, ht, rfl, hs, how, hbel⟩ := hrel
    by_cases hlt : t < n
    · obtain ⟨g, o, a0, a1, a2, a3, rfl, hg, hx, c0, c1, c2, c3⟩ := (how.rd okS).smp (k := t) (by rw [Hn.out]; exact hlt)
      have hAl := (Below.refl wr.heap.size wr).alloc (Nat.le_refl _) (.cells #[.int .i64 a0, .int .i64 a1, .int .i64 a2, .int .i64 a3] 26)
      have hbA := hbel.trans (hAl.mono hbel.size)
      have hsA := hs.alloc (.cells #[.int .i64 a0, .int .i64 a1, .int .i64 a2, .int .i64 a3] 26)
      have owA := how.alloc (.cells #[.int .i64 a0, .int .i64 a1, .int .i64 a2, .int .i64 a3] 26)
      have atX := At.new wr 26 #[.int .i64 a0, .int .i64 a1, .int .i64 a2, .int .i64 a3]
      have Hx := Lib.hid (byKey_next hx)
      clear hx
      go_wp2_with fail
      refine (implKeyOf a0 a1 a2 a3 _).mono ?_
      rintro e w2 ⟨rfl, hb2⟩
      have hs2 := hsA.below hb2 hsA.lt
      have ow2 := owA.below hb2 (Nat.le_refl _)
      have hB2 := hbA.trans (hb2.mono hbA.size)
      have atX2 := atX.below hb2 atX.lt
      have hl : (Instr.lookup 76 (.map (some w.heap.size)) (.agg #[.int .i64 a0, .int .i64 a1, .int .i64 a2]) true).run Tryd.prog w2 = _ := hs2.look (a0, a1, a2, a3)
      rcases hf : firstM (byKeyM (l.take t)) (a0, a1, a2, a3) with _ | ⟨y0, y1, y2, y3⟩
      · rw [hf] at hl
        simp only [Option.getD_none, Option.isSome_none] at hl
        have Hst := Lib.hid (show byKeyM (l.take (t + 1)) = byKeyM (l.take t) ++ [(a0, a1, a2, a3)] by rw [Hx.out]; unfold keyStep; rw [hf]; rfl)
        have Hf := Lib.hid hf
        clear hf
        go_wp2
        have hAl5 := (Below.refl w2.heap.size w2).alloc (Nat.le_refl _) (.cells #[.int .i64 0, .int .i64 0, .int .i64 0, .int .i64 0] 26)
        have hB5 := hB2.alloc hB2.size (.cells #[.int .i64 0, .int .i64 0, .int .i64 0, .int .i64 0] 26)
        have hs5 := hs2.alloc (.cells #[.int .i64 0, .int .i64 0, .int .i64 0, .int .i64 0] 26)
        have ow5 := ow2.alloc (.cells #[.int .i64 0, .int .i64 0, .int .i64 0, .int .i64 0] 26)
        have atX5 := atX2.alloc (.cells #[.int .i64 0, .int .i64 0, .int .i64 0, .int .i64 0] 26)
        have c5 : S4 (w2.alloc (.cells #[.int .i64 0, .int .i64 0, .int .i64 0, .int .i64 0] 26)) wr.heap.size 0 a0 a1 a2 a3 := by
          obtain ⟨h0, h1, h2, h3, _⟩ := atX5.four
          exact ⟨h0, h1, h2, h3⟩
        have hg5 := atX5.lt
        refine wp_region_mix [(0, false), (1, false), (3, false), (2, true), (4, true)] (fun u => S4 u wr.heap.size 0 a0 a1 a2 a3) (by kernel_rfl) (by kernel_rfl) (fun _ _ _ _ _ h => h) c5.drew ?_
        simp only [mixOps, List.map_cons, List.map_nil, List.getElem?_cons_succ, List.getElem?_cons_zero, Option.getD_some]
        iterate 3 (
          refine mix_pure (v := ?_) (by rfl) (fun u hu => ?_) ?_
          rotate_left
          · obtain ⟨_, _, _, _⟩ := hu
            go_simp
            (with_reducible rfl)
          (try simp only [Act.put, List.setIfInBounds_toArray, List.set_cons_zero, List.set_cons_succ]))
        refine mix_call (by rfl) (fun K hK => ?_)
        go_simp
        refine (implKeyOf a0 a1 a2 a3 _).mono ?_
        rintro e w6 ⟨rfl, hb6⟩
        have hs6 := hs5.drew.below hb6 hs5.lt
        have ow6 := (ow5.drewN 1).below hb6 (Nat.le_refl _)
        have hB6 := hB5.drew.trans (hb6.mono hB5.size)
        have c6 := c5.drew.below hb6 hg5
        obtain ⟨w7, hrun, hs7, hg7⟩ := hs6.put (a0, a1, a2, a3) Hf.out
        have ow7 := ow6.grown hg7 (fun x hx e => by
          have := (ow6.lt x hx).1
          simp only [Option.some.injEq] at e
          omega)
        have hB7 := hB6.grown hg7 hB6.size (fun x e => by cases e; exact Nat.le_refl _)
        refine hK _ _ _ (fun _ h => h) c6 ?_
        (try simp only [Act.put, List.setIfInBounds_toArray, List.set_cons_zero, List.set_cons_succ])
        refine mix_call (by rfl) (fun K hK => ?_)
        refine wp_mapPut _ _ _ _ rfl rfl rfl rfl hrun ?_
        refine hK _ _ _ (fun _ h => h) (c6.grown hg7 (fun e => by
          have := hbel.size
          have := hs.lt
          simp only [Option.some.injEq] at e
          omega)) ?_
        (try simp only [Act.put, List.setIfInBounds_toArray, List.set_cons_zero, List.set_cons_succ])
        refine mix_nil ?_
        go_wp2
        exact ⟨⟨t + 1, by omega, by go_num, by rw [Hst.out]; exact hs7, ow7, hB7⟩, by simp [intOf]; omega⟩
      · rw [hf] at hl
        simp only [Option.getD_some, Option.isSome_some] at hl
        have Hst := Lib.hid (show byKeyM (l.take (t + 1)) = byKeyM (l.take t) by rw [Hx.out]; unfold keyStep; rw [hf]; rfl)
        clear hf
        go_wp2
        exact ⟨⟨t + 1, by omega, by go_num, by rw [Hst.out]; exact hs2.alloc _, ow2.alloc _, hB2.alloc hB2.size _⟩, by simp [intOf]; omega⟩
    · obtain rfl : t = n := by omega
      have Hq := Lib.hid (show l.take t = l by rw [List.take_of_length_le (by rw [Hn.out]; exact Nat.le_refl _)])
      go_wp2
      go_ret
      exact ⟨_, rfl, Nat.le_refl _, by rw [Hl.out, ← Hq.out]; exact hs, hbel⟩
end Go.Proofs.YtkgbjlbhlhdhbaaDoor
/-
  The program's StoreFault: a list held against what a store is.
-/
namespace Go.Proofs.YtkgbjlbhlhdhbaaDoor
set_option maxRecDepth 20000
open Go.RowKit
set_option linter.unusedSimpArgs false

theorem risesM_no {l : List Smp} {k : Nat} (hk : k < l.length) (hs : stepM l k = false) : risesM l = false := by
  unfold risesM
  rw [List.all_eq_false]
  exact ⟨k, List.mem_range.2 hk, by simp [hs]⟩
theorem risesM_yes {l : List Smp} {n : Nat} (hn : l.length = n) (hal : ∀ j, j + 1 < n → stepM l j = true) : risesM l = true := by
  unfold risesM
  rw [List.all_eq_true]
  intro j hj
  have hj' := List.mem_range.1 hj
  rcases Nat.lt_or_ge (j + 1) n with h1 | h1
  · exact hal j h1
  · unfold stepM
    rw [List.getElem?_eq_none (l := l) (i := j + 1) (by omega)]
    cases l[j]? <;> rfl

set_option maxHeartbeats 2000000 in
theorem implIsRising (A : Option Addr) (n c : Nat) (l : List Smp) (w : World) (ha : Rd eS w w.heap.size A l) (hn : l.length = n) (hm : n ≤ 1000) :
    Calls Tryd.prog 61 #[.slice A n c] w fun e w' => e = .returned (.bool (risesM l)) ∧ Below w.heap.size w w' := by
  have Hn := Lib.hid hn
  clear hn
  go_enter Tryd.func61, Tryd.ntmps61
  go_wp2
  go_loopw [3] (fun i wr => RiseRel w l n i wr) (fun i _ => n - (intOf i).toNat)
  case atStart => exact ⟨0, .inr rfl, rfl, fun _ h => absurd h (by omega), Below.refl _ _⟩
  case round =>
    obtain ⟨k, hk, rfl, hal, hbel⟩ := hrel
    have Hal := Lib.hid hal
    clear hal
    by_cases hlt : k + 1 < n
    · obtain ⟨g, o, a0, a1, a2, a3, rfl, hg, hx, ca⟩ := (ha.below hbel (Nat.le_refl _)).smp (k := k) (by rw [Hn.out]; omega)
      obtain ⟨g', o', b0, b1, b2, b3, e', hg', hy, cb⟩ := (ha.below hbel (Nat.le_refl _)).smp (k := k + 1) (by rw [Hn.out]; omega)
      obtain ⟨rfl, rfl⟩ : g = g' ∧ o = o' := by simpa using Option.some.inj e'
      have Hst := Lib.hid (stepM_at hx hy)
      clear hx hy e'
      have hbd := hbel.drew
      have hw : IntKind.i64.wrap (k : Int) = (k : Int) := IntWalk.i64_in _ (by omega)
      have i1 : (k : Int) < (n : Int) := by omega
      have i2 : (k : Int) + 1 < (n : Int) := by omega
      have i3 : (0 : Int) ≤ (k : Int) + 1 := by omega
      have i4 : ((k : Int) + 1).toNat = k + 1 := by omega
      go_wp2
      refine wp_region_mix [(0, false), (1, false), (2, false), (3, false), (4, false), (5, false), (6, false), (7, false), (8, false), (9, true), (10, false)] (fun u => S4 u g (o + k * 4) a0 a1 a2 a3 ∧ S4 u g (o + (k + 1) * 4) b0 b1 b2 b3) (by kernel_rfl) (by kernel_rfl) (fun _ _ _ _ _ h => h) ⟨ca.drew, cb.drew⟩ ?_
      simp only [mixOps, List.map_cons, List.map_nil, List.getElem?_cons_succ, List.getElem?_cons_zero, Option.getD_some]
      repeat (first
        | (refine mix_skip (by rfl) ?_
           (try simp only [Act.put, List.setIfInBounds_toArray, List.set_cons_zero, List.set_cons_succ]))
        | (refine mix_pure (v := ?_) (by rfl) (fun u hu => ?_) ?_
           rotate_left
           · obtain ⟨⟨_, _, _, _⟩, _, _, _, _⟩ := hu
             go_simp
             (with_reducible rfl)
           (try simp only [Act.put, List.setIfInBounds_toArray, List.set_cons_zero, List.set_cons_succ])))
      refine mix_call (by rfl) (fun K hK => ?_)
      go_simp
      refine (implIsAhead a0 a1 a2 a3 b0 b1 b2 b3 _).mono ?_
      rintro e w1 ⟨rfl, hb1⟩
      have hB1 := hbd.trans (hb1.mono hbd.size)
      refine hK _ _ _ (fun _ h => h) ⟨ca.drew.below hb1 (Nat.lt_of_lt_of_le hg hbd.size), cb.drew.below hb1 (Nat.lt_of_lt_of_le hg hbd.size)⟩ ?_
      (try simp only [Act.put, List.setIfInBounds_toArray, List.set_cons_zero, List.set_cons_succ])
      rw [← Hst.out]
      rcases hs : stepM l k
      · have Hf := Lib.hid (risesM_no (show k < l.length by rw [Hn.out]; omega) hs)
        clear hs
        refine mix_pure (v := ?_) (by rfl) (fun u hu => ?_) ?_
        rotate_left
        · go_simp
          (with_reducible rfl)
        (try simp only [Act.put, List.setIfInBounds_toArray, List.set_cons_zero, List.set_cons_succ])
        refine mix_nil ?_
        go_wp2
        go_ret
        exact ⟨by rw [Hf.out]; rfl, hB1⟩
      · have Hs := Lib.hid hs
        clear hs
        refine mix_pure (v := ?_) (by rfl) (fun u hu => ?_) ?_
        rotate_left
        · go_simp
          (with_reducible rfl)
        (try simp only [Act.put, List.setIfInBounds_toArray, List.set_cons_zero, List.set_cons_succ])
        refine mix_nil ?_
        go_wp2
        refine ⟨⟨k + 1, .inl (by omega), by go_num, fun j hj => ?_, hB1⟩, by simp [intOf]; omega⟩
        rcases Nat.lt_or_ge j k with h | h
        · exact Hal.out j h
        · obtain rfl : j = k := by omega
          exact Hs.out
    · have hq := risesM_yes Hn.out (fun j hj => Hal.out j (by omega))
      have Hq := Lib.hid hq
      clear hq
      have i5 : ¬ (k : Int) + 1 < (n : Int) := by omega
      go_wp2
      go_ret
      exact ⟨by rw [Hq.out]; rfl, hbel⟩

theorem storeFault_is {l : List Smp} (h : ¬ 160 < l.length) (hr : rightM l = true) : storeFaultM l = if risesM l = false then 1 else 0 := by
  unfold storeFaultM
  rw [if_neg h, if_neg (by simp [hr])]

set_option maxHeartbeats 2000000 in
theorem implStoreFault (A : Option Addr) (n c : Nat) (l : List Smp) (w : World) (ha : Rd eS w w.heap.size A l) (hn : l.length = n) (hF : Flds w) :
    Calls Tryd.prog 23 #[.slice A n c] w fun e w' => e = .returned (.int .i64 (storeFaultM l)) ∧ Below w.heap.size w w' := by
  by_cases hbig : 160 < n
  · have hb : (160 : Int) < (n : Int) := by omega
    rw [storeFault_many (by omega)]
    go_enter Tryd.func23, Tryd.ntmps23
    go_wp2
    go_ret
    exact ⟨rfl, Below.refl _ _⟩
  have hb : (n : Int) ≤ 160 := by omega
  have hn160 : n ≤ 160 := by omega
  have Hbig := Lib.hid (show ¬ 160 < l.length by omega)
  have Hn := Lib.hid hn
  clear hn hbig
  go_enter Tryd.func23, Tryd.ntmps23
  go_wp2
  go_loopw [11] (fun i wr => RightRel w l n i wr) (fun i _ => n - (intOf i).toNat)
  case atStart => exact ⟨0, Nat.zero_le _, rfl, fun _ _ h => absurd h (by omega), Below.refl _ _⟩
  case round =>
    obtain ⟨k, hk, rfl, hal, hbel⟩ := hrel
    have Hal := Lib.hid hal
    clear hal
    by_cases hlt : k < n
    · obtain ⟨g, o, a0, a1, a2, a3, rfl, hg, hx, c0, c1, c2, c3⟩ := (ha.below hbel (Nat.le_refl _)).smp (k := k) (by rw [Hn.out]; exact hlt)
      have hbA := hbel.alloc hbel.size (.cells #[.int .i64 a0, .int .i64 a1, .int .i64 a2, .int .i64 a3] 26)
      rcases faultM_or (a0, a1, a2, a3) with hf | hf
      · have hq := implSampleFault a0 a1 a2 a3 _ (hF.below hbA)
        rw [hf] at hq
        have Hx := Lib.hid hx
        have Hf := Lib.hid hf
        clear hx hf
        go_wp2_with fail
        refine hq.mono ?_
        rintro e w2 ⟨rfl, hb2⟩
        have hB2 := hbA.trans (hb2.mono hbA.size)
        go_wp2
        refine ⟨⟨k + 1, by omega, by go_num, fun j x hj hx => ?_, hB2⟩, by simp [intOf]; omega⟩
        rcases Nat.lt_or_ge j k with h | h
        · exact Hal.out j x h hx
        · obtain rfl : j = k := by omega
          obtain rfl := Option.some.inj (Hx.out.symm.trans hx)
          exact Hf.out
      · have hq := implSampleFault a0 a1 a2 a3 _ (hF.below hbA)
        rw [hf] at hq
        have Hr := Lib.hid (storeFault_wrong Hbig.out hx hf)
        clear hx hf
        go_wp2_with fail
        refine hq.mono ?_
        rintro e w2 ⟨rfl, hb2⟩
        have hB2 := hbA.trans (hb2.mono hbA.size)
        go_wp2
        go_ret
        exact ⟨by rw [Hr.out]; rfl, hB2⟩
    · obtain rfl : n = k := by omega
      have hright := rightM_of Hn.out Hal.out
      have Hq := Lib.hid (storeFault_is Hbig.out hright)
      have hq := implIsRising A n c l wr (ha.lift hbel) Hn.out (by omega)
      clear Hal hright
      go_wp2_with fail
      refine hq.mono ?_
      rintro e w2 ⟨rfl, hb2⟩
      have hB2 := hbel.trans (hb2.mono hbel.size)
      have Hs := Lib.hid Hq.out
      rcases hr : risesM l
      · have Hf := Lib.hid (show storeFaultM l = 1 by rw [Hq.out, hr]; rfl)
        clear hr
        go_wp2
        go_ret
        exact ⟨by rw [Hf.out]; rfl, hB2⟩
      · have Hf := Lib.hid (show storeFaultM l = 0 by rw [Hq.out, hr]; rfl)
        clear hr
        go_wp2
        go_ret
        exact ⟨by rw [Hf.out]; rfl, hB2⟩

theorem hiStoreFault : ∀ (A0 : Option Addr) (m0 e0 : Nat) (q0 : List Smp)  (W : World), Rd eS W W.heap.size A0 q0 → q0.length = m0 → m0 ≤ 1048576 → Flds W → Calls Tryd.prog 23 #[.slice A0 m0 e0] W (fun e W' => e = .returned (.int .i64 (storeFaultM q0)) ∧ Below W.heap.size W W') :=
  fun A0 m0 e0 q0 W ha hn _ hF => implStoreFault A0 m0 e0 q0 W ha hn hF
end Go.Proofs.YtkgbjlbhlhdhbaaDoor
/-
  The program's FindSample.
-/
namespace Go.Proofs.YtkgbjlbhlhdhbaaDoor
set_option maxRecDepth 20000
open Go.RowKit Go.Shelf
set_option linter.unusedSimpArgs false
set_option linter.unusedVariables false

theorem sameKey_symm (a b : Smp) : sameKeyM a b = sameKeyM b a := by
  unfold sameKeyM
  by_cases h0 : a.1 = b.1 <;> by_cases h1 : a.2.1 = b.2.1 <;> by_cases h2 : a.2.2.1 = b.2.2.1 <;> simp [h0, h1, h2, eq_comm]
theorem sameKey_iff {a b : Smp} : sameKeyM a b = true ↔ a.1 = b.1 ∧ a.2.1 = b.2.1 ∧ a.2.2.1 = b.2.2.1 := by simp [sameKeyM]
theorem sameKey_trans {a b c : Smp} (h : sameKeyM a b = true) (k : sameKeyM b c = true) : sameKeyM a c = true := by
  rw [sameKey_iff] at *
  exact ⟨h.1.trans k.1, h.2.1.trans k.2.1, h.2.2.trans k.2.2⟩
theorem first_cons (x : Smp) (L : List Smp) (y : Smp) : firstM (x :: L) y = if sameKeyM y x then some x else firstM L y := by
  unfold firstM
  rw [List.find?_cons]
  cases sameKeyM y x <;> rfl
theorem first_append (L M : List Smp) (y : Smp) : firstM (L ++ M) y = (firstM L y).or (firstM M y) := by
  unfold firstM
  rw [List.find?_append]
theorem first_is {L : List Smp} {y x : Smp} (h : firstM L y = some x) : sameKeyM y x = true ∧ x ∈ L := by
  unfold firstM at h
  exact ⟨List.find?_some h, List.mem_of_find?_eq_some h⟩
theorem first_same {L : List Smp} {y x : Smp} (h : sameKeyM y x = true) : firstM L y = firstM L x := by
  unfold firstM
  congr 1
  funext z
  rw [Bool.eq_iff_iff]
  constructor
  · exact fun k => sameKey_trans (by rw [sameKey_symm]; exact h) k
  · exact fun k => sameKey_trans h k
/-- The first of a key is the same in what samplesByKey keeps. -/
theorem first_step (acc : List Smp) (x y : Smp) : firstM (keyStep acc x) y = firstM (acc ++ [x]) y := by
  unfold keyStep
  split
  · rename_i h
    rw [first_append, first_cons]
    rcases hs : sameKeyM y x
    · simp [firstM]
    · rw [first_same hs]
      obtain ⟨z, hz⟩ := Option.isSome_iff_exists.1 h
      rw [hz]
      rfl
  · rfl
theorem first_fold : ∀ (l acc : List Smp) (y : Smp), firstM (l.foldl keyStep acc) y = firstM (acc ++ l) y
  | [], acc, y => by simp
  | x :: l, acc, y => by
    rw [List.foldl_cons, first_fold l, first_append, first_step, ← first_append]
    simp
theorem first_byKey (l : List Smp) (y : Smp) : firstM (byKeyM l) y = firstM l y := by
  unfold byKeyM
  rw [first_fold]
  rfl
theorem find_is (l : List Smp) (y : Smp) : (match findM l y with | some i => ((0 : Int), (l[i]?).getD (0, 0, 0, 0)) | none => (4, (0, 0, 0, 0))) = match firstM l y with | some x => (0, x) | none => (4, (0, 0, 0, 0)) := by
  rcases hf : findM l y with _ | i
  · have h1 := hf
    unfold findM at h1
    rw [List.find?_range_eq_none] at h1
    have h2 : firstM l y = none := by
      unfold firstM
      rw [List.find?_eq_none]
      intro x hx
      obtain ⟨i, hi⟩ := List.mem_iff_getElem?.1 hx
      have h3 := h1 i (getElem?_some_lt hi)
      rw [hitM_at hi] at h3
      rw [sameKey_symm]
      simpa using h3
    rw [h2]
  · have h1 := hf
    unfold findM at h1
    rw [List.find?_range_eq_some] at h1
    obtain ⟨h1, h2, h3⟩ := h1
    have hi : i < l.length := by simpa using h2
    have hx : l[i]? = some l[i] := List.getElem?_eq_getElem hi
    rw [hitM_at hx] at h1
    have h4 : firstM l y = some l[i] := by
      unfold firstM
      rw [List.find?_eq_some_iff_getElem]
      refine ⟨by rw [sameKey_symm]; exact h1, i, hi, rfl, fun j hj => ?_⟩
      have h5 := h3 j hj
      rw [hitM_at (List.getElem?_eq_getElem (by omega : j < l.length))] at h5
      rw [sameKey_symm]
      simpa using h5
    rw [h4]
    show ((0 : Int), (l[i]?).getD (0, 0, 0, 0)) = (0, l[i])
    rw [hx]
    rfl

theorem flat_one (A : Option Addr) (n c : Nat) (l : List Smp) : flat [(A, n, c, l)] = l := by simp [flat]
theorem rows_one {w : World} {T G : Nat} {A : Option Addr} {n c : Nat} {l : List Smp} (ha : Rd eS w w.heap.size A l) (hn : l.length = n) (hm : n ≤ 1000) (hG : w.heap.size = G) : Rows4 (w.alloc (.cells #[.slice A n c] T)) G [(A, n, c, l)] := fun i r hr => by
  subst hG
  match i, hr with
  | 0, hr =>
    obtain rfl : (A, n, c, l) = r := by simpa using hr
    exact ⟨(At.new w T #[.slice A n c]).cell 0, ha.lift ((Below.refl _ _).alloc (Nat.le_refl _) _), hn, hm⟩
  | i + 1, hr => simp at hr

set_option maxRecDepth 100000 in
set_option maxHeartbeats 8000000 in
theorem implFindSample (A : Option Addr) (n c : Nat) (l : List Smp) (x0 x1 x2 x3 : Int) (w : World) (ha : Rd eS w w.heap.size A l) (hn : l.length = n) (hF : Flds w) :
    Calls Tryd.prog 16 #[.slice A n c, .agg #[.int .i64 x0, .int .i64 x1, .int .i64 x2, .int .i64 x3]] w (RetSR (lookM l (x0, x1, x2, x3)) w) := by
  have hAx := (Below.refl w.heap.size w).alloc (Nat.le_refl _) (.cells #[.int .i64 x0, .int .i64 x1, .int .i64 x2, .int .i64 x3] 26)
  have hB0 := hAx.alloc hAx.size (.cells #[.int .i64 0, .int .i64 0, .int .i64 0, .int .i64 0, .int .i64 0] 38)
  have ax := (At.new w 26 #[.int .i64 x0, .int .i64 x1, .int .i64 x2, .int .i64 x3]).alloc (.cells #[.int .i64 0, .int .i64 0, .int .i64 0, .int .i64 0, .int .i64 0] 38)
  have r0 := At.newAt' (t := 38) (cs := #[.int .i64 0, .int .i64 0, .int .i64 0, .int .i64 0, .int .i64 0]) (show (w.alloc (.cells #[.int .i64 x0, .int .i64 x1, .int .i64 x2, .int .i64 x3] 26)).heap.size = w.heap.size + 1 by simp)
  have ha0 := ha.lift hB0
  have HF := implStoreFault A n c l _ ha0 hn (hF.below hB0)
  by_cases h0 : storeFaultM l = 0
  rotate_left
  · rw [show lookM l (x0, x1, x2, x3) = (storeFaultM l, (0, 0, 0, 0)) from if_pos h0]
    have hne : (storeFaultM l != 0) = true := by rw [bne_iff_ne]; exact h0
    generalize storeFaultM l = sf at *
    clear h0
    go_enter Tryd.func16, Tryd.ntmps16
    go_wp2_with fail
    refine (HF).mono ?_
    rintro e w1 ⟨rfl, hb1⟩
    have hB1 := hB0.trans (hb1.mono hB0.size)
    have r1 := r0.below hb1 r0.lt
    obtain ⟨c0, c1, c2, c3, c4, _⟩ := r1.five
    go_wp2_with fail
    refine bodyPost_ret (v := .agg #[.int .i64 sf, .int .i64 0, .int .i64 0, .int .i64 0, .int .i64 0]) (by simp [results, Tryd.results16, go_sem, c0, c1, c2, c3, c4]) rfl ?_
    refine ⟨rfl, ?_⟩
    have HB := hB1
    repeat (first | exact HB | refine Below.setCell ?_ (p := ⟨w.heap.size + 1, _, none⟩) (Nat.le_succ _) _)
  have hn1000 : n ≤ 1000 := by
    rcases Nat.lt_or_ge 160 n with h | h
    · rw [storeFault_many (by omega)] at h0
      cases h0
    · omega
  have Hlook := Lib.hid (show lookM l (x0, x1, x2, x3) = match firstM l (x0, x1, x2, x3) with | some x => (0, x) | none => (4, (0, 0, 0, 0)) by
    unfold lookM
    rw [if_neg (by simp [h0])]
    exact find_is l _)
  have Hby := Lib.hid (first_byKey l (x0, x1, x2, x3))
  rw [h0] at HF
  clear h0
  obtain ⟨y0, y1, y2, y3, i, hi, hlook⟩ : ∃ (y0 y1 y2 y3 : Int) (i : Bool), (match firstM l (x0, x1, x2, x3) with | some x => ((0 : Int), x) | none => (4, (0, 0, 0, 0))) = (if i then (0, (y0, y1, y2, y3)) else (4, (0, 0, 0, 0))) ∧
      ∀ (u : World) (b : Nat), SMap u b (byKeyM l) → (Instr.lookup 76 (.map (some b)) (.agg #[.int .i64 x0, .int .i64 x1, .int .i64 x2]) true).run Tryd.prog u = .ok (.tuple #[.agg #[.int .i64 y0, .int .i64 y1, .int .i64 y2, .int .i64 y3], .bool i]) u := by
    rcases hf : firstM l (x0, x1, x2, x3) with _ | ⟨y0, y1, y2, y3⟩
    · exact ⟨0, 0, 0, 0, false, rfl, fun u b hs => by have := hs.look (x0, x1, x2, x3); rw [Hby.out, hf] at this; exact this⟩
    · exact ⟨y0, y1, y2, y3, true, rfl, fun u b hs => by have := hs.look (x0, x1, x2, x3); rw [Hby.out, hf] at this; exact this⟩
  have Hi := Lib.hid (Hlook.out.trans hi)
  clear hi Hlook Hby
  go_enter Tryd.func16, Tryd.ntmps16
  go_wp2_with fail
  refine (HF).mono ?_
  rintro e w1 ⟨rfl, hb1⟩
  have hB1 := hB0.trans (hb1.mono hB0.size)
  have ax1 := ax.below hb1 ax.lt
  have r1 := r0.below hb1 r0.lt
  have ha1 := ha0.lift hb1
  go_upto_region 4 with fail
  go_cut [6, 7] (fun s t wx => ∃ g, s = .pointer (some ⟨g, 0, none⟩) ∧ t = .bool i ∧ At wx g 26 #[.int .i64 y0, .int .i64 y1, .int .i64 y2, .int .i64 y3] ∧ At wx (w.heap.size + 1) 38 #[.int .i64 0, .int .i64 0, .int .i64 0, .int .i64 0, .int .i64 0] ∧ Below w.heap.size w wx)
  case first =>
    refine any_start (fun u => At u w.heap.size 26 #[.int .i64 x0, .int .i64 x1, .int .i64 x2, .int .i64 x3]) (by kernel_rfl) ax1.drew (fun _ => ?_)
    have hBd := hB1.drew
    have axd := ax1.drew
    have rd := r1.drew
    have had := ha1.drewN 1
    refine any_pure (v := ?_) 0 rfl (by kernel_rfl) (fun _ _ _ _ _ h => h) (by rfl) (fun u hu => ?_) axd ?_
    rotate_left
    · skip
      go_simp
      (with_reducible rfl)
    (try simp only [Act.put, List.setIfInBounds_toArray, List.set_cons_zero, List.set_cons_succ])
    refine any_pure (v := ?_) 3 rfl (by kernel_rfl) (fun _ _ _ _ _ h => h) (by rfl) (fun u hu => ?_) axd ?_
    rotate_left
    · obtain ⟨_, _, _, _, _, _, _, _⟩ := At.four hu
      go_simp
      (with_reducible rfl)
    (try simp only [Act.put, List.setIfInBounds_toArray, List.set_cons_zero, List.set_cons_succ])
    refine any_two 1 9 rfl rfl (by kernel_rfl) (by rfl) (by rfl) ?_ ?_
    · go_simp
      have hl1 := (Below.refl w1.drew.heap.size w1.drew).alloc (Nat.le_refl _) (.cells #[.slice A n c] 24)
      have hB1 := hBd.alloc hBd.size (.cells #[.slice A n c] 24)
      have ax1 := axd.alloc (.cells #[.slice A n c] 24)
      have r1 := rd.alloc (.cells #[.slice A n c] 24)
      have ha1 := had.lift hl1
      have hR1 : Rows4 (w1.drew.alloc (.cells #[.slice A n c] 24)) (w1.heap.size) [(A, n, c, l)] := rows_one had hn hn1000 (by first | rfl | simp)
      have gl1 : w1.heap.size < (w1.drew.alloc (.cells #[.slice A n c] 24)).heap.size := by simp
      refine ⟨(fun u => At u w.heap.size 26 #[.int .i64 x0, .int .i64 x1, .int .i64 x2, .int .i64 x3]), fun _ h => h, ax1, ?_⟩
      (try simp only [Act.put, List.setIfInBounds_toArray, List.set_cons_zero, List.set_cons_succ])
      refine any_two 2 9 rfl rfl (by kernel_rfl) (by rfl) (by rfl) ?_ ?_
      · go_simp
        refine (byKeyS _ 1 1 [(A, n, c, l)] _ hR1 gl1 rfl (by omega)).mono ?_
        rintro e v2 ⟨b2, rfl, hc2, hs2, hb2⟩
        have hB2 := hB1.trans (hb2.mono hB1.size)
        have ax2 := ax1.below hb2 ax1.lt
        have r2 := r1.below hb2 r1.lt
        have ha2 := ha1.lift hb2
        rw [flat_one] at hs2
        refine ⟨(fun u => At u w.heap.size 26 #[.int .i64 x0, .int .i64 x1, .int .i64 x2, .int .i64 x3] ∧ SMap u b2 (byKeyM l)), fun _ h => h.1, ⟨ax2, hs2⟩, ?_⟩
        (try simp only [Act.put, List.setIfInBounds_toArray, List.set_cons_zero, List.set_cons_succ])
        refine any_two 4 9 rfl rfl (by kernel_rfl) (by rfl) (by rfl) ?_ ?_
        · go_simp
          refine (implKeyOf x0 x1 x2 x3 _).mono ?_
          rintro e v3 ⟨rfl, hb3⟩
          have hB3 := hB2.trans (hb3.mono hB2.size)
          have ax3 := ax2.below hb3 ax2.lt
          have r3 := r2.below hb3 r2.lt
          have hs3 := hs2.below hb3 hs2.lt
          have ha3 := ha2.lift hb3
          refine ⟨(fun u => At u w.heap.size 26 #[.int .i64 x0, .int .i64 x1, .int .i64 x2, .int .i64 x3] ∧ SMap u b2 (byKeyM l)), fun _ h => h, ⟨ax3, hs3⟩, ?_⟩
          (try simp only [Act.put, List.setIfInBounds_toArray, List.set_cons_zero, List.set_cons_succ])
          refine any_pure (v := ?_) 5 rfl (by kernel_rfl) (fun _ _ _ _ _ h => h) (by rfl) (fun u hu => ?_) ⟨ax3, hs3⟩ ?_
          rotate_left
          · have hlk := hlook u _ hu.2
            go_simp
            (with_reducible rfl)
          (try simp only [Act.put, List.setIfInBounds_toArray, List.set_cons_zero, List.set_cons_succ])
          refine any_pure (v := ?_) 6 rfl (by kernel_rfl) (fun _ _ _ _ _ h => h) (by rfl) (fun u hu => ?_) ⟨ax3, hs3⟩ ?_
          rotate_left
          · skip
            go_simp
            (with_reducible rfl)
          (try simp only [Act.put, List.setIfInBounds_toArray, List.set_cons_zero, List.set_cons_succ])
          refine any_pure (v := ?_) 7 rfl (by kernel_rfl) (fun _ _ _ _ _ h => h) (by rfl) (fun u hu => ?_) ⟨ax3, hs3⟩ ?_
          rotate_left
          · skip
            go_simp
            (with_reducible rfl)
          (try simp only [Act.put, List.setIfInBounds_toArray, List.set_cons_zero, List.set_cons_succ])
          refine any_pure (v := ?_) 8 rfl (by kernel_rfl) (fun _ _ _ _ _ h => h) (by rfl) (fun u hu => ?_) ⟨ax3, hs3⟩ ?_
          rotate_left
          · skip
            go_simp
            (with_reducible rfl)
          (try simp only [Act.put, List.setIfInBounds_toArray, List.set_cons_zero, List.set_cons_succ])
          refine any_one 9 rfl (by kernel_rfl) (by rfl) ?_
          go_simp
          have hg4 : v3.heap.size = v3.heap.size := by first | rfl | simp
          have gw4 : w.heap.size + 1 < v3.heap.size := by rw [← hg4]; exact r3.lt
          have bg4 : b2 ≠ v3.heap.size := by rw [← hg4]; exact Nat.ne_of_lt hs3.lt
          have hl4 := (Below.refl v3.heap.size v3).alloc (Nat.le_refl _) (.cells #[.int .i64 0, .int .i64 0, .int .i64 0, .int .i64 0] 26)
          have hB4 := hB3.alloc hB3.size (.cells #[.int .i64 0, .int .i64 0, .int .i64 0, .int .i64 0] 26)
          have ax4 := ax3.alloc (.cells #[.int .i64 0, .int .i64 0, .int .i64 0, .int .i64 0] 26)
          have r4 := r3.alloc (.cells #[.int .i64 0, .int .i64 0, .int .i64 0, .int .i64 0] 26)
          have hs4 := hs3.alloc (.cells #[.int .i64 0, .int .i64 0, .int .i64 0, .int .i64 0] 26)
          have ha4 := ha3.lift hl4
          have ag4 := At.newAt' (t := 26) (cs := #[.int .i64 0, .int .i64 0, .int .i64 0, .int .i64 0]) hg4
          clear hg4
          refine ⟨(fun u => At u w.heap.size 26 #[.int .i64 x0, .int .i64 x1, .int .i64 x2, .int .i64 x3] ∧ SMap u b2 (byKeyM l)), fun _ h => h, ⟨ax4, hs4⟩, ?_⟩
          (try simp only [Act.put, List.setIfInBounds_toArray, List.set_cons_zero, List.set_cons_succ])
          refine any_one 10 rfl (by kernel_rfl) (by rfl) ?_
          go_simp
          have AG := At.new v3 26 #[.int .i64 y0, .int .i64 y1, .int .i64 y2, .int .i64 y3]
          have AXX := ax3.alloc (.cells #[.int .i64 y0, .int .i64 y1, .int .i64 y2, .int .i64 y3] 26)
          have RR := r3.alloc (.cells #[.int .i64 y0, .int .i64 y1, .int .i64 y2, .int .i64 y3] 26)
          have HS := hs3.alloc (.cells #[.int .i64 y0, .int .i64 y1, .int .i64 y2, .int .i64 y3] 26)
          have HB := hB3.alloc hB3.size (.cells #[.int .i64 y0, .int .i64 y1, .int .i64 y2, .int .i64 y3] 26)
          refine ⟨_, fun _ h => h, ⟨AXX, HS⟩, ?_⟩
          (try simp only [Act.put, List.setIfInBounds_toArray, List.set_cons_zero, List.set_cons_succ])
          refine any_pure (v := ?_) 11 rfl (by kernel_rfl) (fun _ _ _ _ _ h => h) (by rfl) (fun u hu => ?_) ⟨AXX, HS⟩ ?_
          rotate_left
          · go_simp
            (with_reducible rfl)
          (try simp only [Act.put, List.setIfInBounds_toArray, List.set_cons_zero, List.set_cons_succ])
          refine any_done (by kernel_rfl) ?_
          go_wp2
          go_meet
          exact ⟨_, rfl, rfl, AG, RR, HB⟩
        · go_simp
          have hg5 : v2.heap.size = v2.heap.size := by first | rfl | simp
          have gw5 : w.heap.size + 1 < v2.heap.size := by rw [← hg5]; exact r2.lt
          have bg5 : b2 ≠ v2.heap.size := by rw [← hg5]; exact Nat.ne_of_lt hs2.lt
          have hl5 := (Below.refl v2.heap.size v2).alloc (Nat.le_refl _) (.cells #[.int .i64 0, .int .i64 0, .int .i64 0, .int .i64 0] 26)
          have hB5 := hB2.alloc hB2.size (.cells #[.int .i64 0, .int .i64 0, .int .i64 0, .int .i64 0] 26)
          have ax5 := ax2.alloc (.cells #[.int .i64 0, .int .i64 0, .int .i64 0, .int .i64 0] 26)
          have r5 := r2.alloc (.cells #[.int .i64 0, .int .i64 0, .int .i64 0, .int .i64 0] 26)
          have hs5 := hs2.alloc (.cells #[.int .i64 0, .int .i64 0, .int .i64 0, .int .i64 0] 26)
          have ha5 := ha2.lift hl5
          have ag5 := At.newAt' (t := 26) (cs := #[.int .i64 0, .int .i64 0, .int .i64 0, .int .i64 0]) hg5
          clear hg5
          refine ⟨(fun u => At u w.heap.size 26 #[.int .i64 x0, .int .i64 x1, .int .i64 x2, .int .i64 x3] ∧ SMap u b2 (byKeyM l)), fun _ h => h, ⟨ax5, hs5⟩, ?_⟩
          (try simp only [Act.put, List.setIfInBounds_toArray, List.set_cons_zero, List.set_cons_succ])
          refine any_one 4 rfl (by kernel_rfl) (by rfl) ?_
          go_simp
          refine (implKeyOf x0 x1 x2 x3 _).mono ?_
          rintro e v6 ⟨rfl, hb6⟩
          have hB6 := hB5.trans (hb6.mono hB5.size)
          have ax6 := ax5.below hb6 ax5.lt
          have r6 := r5.below hb6 r5.lt
          have ag6 := ag5.below hb6 ag5.lt
          have hs6 := hs5.below hb6 hs5.lt
          have ha6 := ha5.lift hb6
          refine ⟨(fun u => At u w.heap.size 26 #[.int .i64 x0, .int .i64 x1, .int .i64 x2, .int .i64 x3] ∧ SMap u b2 (byKeyM l)), fun _ h => h, ⟨ax6, hs6⟩, ?_⟩
          (try simp only [Act.put, List.setIfInBounds_toArray, List.set_cons_zero, List.set_cons_succ])
          refine any_pure (v := ?_) 5 rfl (by kernel_rfl) (fun _ _ _ _ _ h => h) (by rfl) (fun u hu => ?_) ⟨ax6, hs6⟩ ?_
          rotate_left
          · have hlk := hlook u _ hu.2
            go_simp
            (with_reducible rfl)
          (try simp only [Act.put, List.setIfInBounds_toArray, List.set_cons_zero, List.set_cons_succ])
          refine any_pure (v := ?_) 6 rfl (by kernel_rfl) (fun _ _ _ _ _ h => h) (by rfl) (fun u hu => ?_) ⟨ax6, hs6⟩ ?_
          rotate_left
          · skip
            go_simp
            (with_reducible rfl)
          (try simp only [Act.put, List.setIfInBounds_toArray, List.set_cons_zero, List.set_cons_succ])
          refine any_pure (v := ?_) 7 rfl (by kernel_rfl) (fun _ _ _ _ _ h => h) (by rfl) (fun u hu => ?_) ⟨ax6, hs6⟩ ?_
          rotate_left
          · skip
            go_simp
            (with_reducible rfl)
          (try simp only [Act.put, List.setIfInBounds_toArray, List.set_cons_zero, List.set_cons_succ])
          refine any_pure (v := ?_) 8 rfl (by kernel_rfl) (fun _ _ _ _ _ h => h) (by rfl) (fun u hu => ?_) ⟨ax6, hs6⟩ ?_
          rotate_left
          · skip
            go_simp
            (with_reducible rfl)
          (try simp only [Act.put, List.setIfInBounds_toArray, List.set_cons_zero, List.set_cons_succ])
          refine any_one 10 rfl (by kernel_rfl) (by rfl) ?_
          obtain ⟨k0, k1, k2, k3, k4, k5, k6, k7⟩ := ag6.four
          go_simp
          have AG := ag6
          have AXX := ax6
          have RR := r6
          have HS := hs6
          have HB := hB6
          have AG := AG.set 0 (.int .i64 y0)
          have AXX := AXX.far (p := ⟨v2.heap.size, 0, none⟩) (by show w.heap.size ≠ v2.heap.size; omega) (.int .i64 y0)
          have RR := RR.far (p := ⟨v2.heap.size, 0, none⟩) (by show w.heap.size + 1 ≠ v2.heap.size; omega) (.int .i64 y0)
          have HS := HS.kept (grown_setCell _ ⟨v2.heap.size, 0, none⟩ (.int .i64 y0)) (fun e => bg5 (Option.some.inj e))
          have HB := HB.setCell (p := ⟨v2.heap.size, 0, none⟩) (by show w.heap.size ≤ v2.heap.size; omega) (.int .i64 y0)
          have AG := AG.set 1 (.int .i64 y1)
          have AXX := AXX.far (p := ⟨v2.heap.size, 1, none⟩) (by show w.heap.size ≠ v2.heap.size; omega) (.int .i64 y1)
          have RR := RR.far (p := ⟨v2.heap.size, 1, none⟩) (by show w.heap.size + 1 ≠ v2.heap.size; omega) (.int .i64 y1)
          have HS := HS.kept (grown_setCell _ ⟨v2.heap.size, 1, none⟩ (.int .i64 y1)) (fun e => bg5 (Option.some.inj e))
          have HB := HB.setCell (p := ⟨v2.heap.size, 1, none⟩) (by show w.heap.size ≤ v2.heap.size; omega) (.int .i64 y1)
          have AG := AG.set 2 (.int .i64 y2)
          have AXX := AXX.far (p := ⟨v2.heap.size, 2, none⟩) (by show w.heap.size ≠ v2.heap.size; omega) (.int .i64 y2)
          have RR := RR.far (p := ⟨v2.heap.size, 2, none⟩) (by show w.heap.size + 1 ≠ v2.heap.size; omega) (.int .i64 y2)
          have HS := HS.kept (grown_setCell _ ⟨v2.heap.size, 2, none⟩ (.int .i64 y2)) (fun e => bg5 (Option.some.inj e))
          have HB := HB.setCell (p := ⟨v2.heap.size, 2, none⟩) (by show w.heap.size ≤ v2.heap.size; omega) (.int .i64 y2)
          have AG := AG.set 3 (.int .i64 y3)
          have AXX := AXX.far (p := ⟨v2.heap.size, 3, none⟩) (by show w.heap.size ≠ v2.heap.size; omega) (.int .i64 y3)
          have RR := RR.far (p := ⟨v2.heap.size, 3, none⟩) (by show w.heap.size + 1 ≠ v2.heap.size; omega) (.int .i64 y3)
          have HS := HS.kept (grown_setCell _ ⟨v2.heap.size, 3, none⟩ (.int .i64 y3)) (fun e => bg5 (Option.some.inj e))
          have HB := HB.setCell (p := ⟨v2.heap.size, 3, none⟩) (by show w.heap.size ≤ v2.heap.size; omega) (.int .i64 y3)
          refine ⟨_, fun _ h => h, ⟨AXX, HS⟩, ?_⟩
          (try simp only [Act.put, List.setIfInBounds_toArray, List.set_cons_zero, List.set_cons_succ])
          refine any_pure (v := ?_) 11 rfl (by kernel_rfl) (fun _ _ _ _ _ h => h) (by rfl) (fun u hu => ?_) ⟨AXX, HS⟩ ?_
          rotate_left
          · go_simp
            (with_reducible rfl)
          (try simp only [Act.put, List.setIfInBounds_toArray, List.set_cons_zero, List.set_cons_succ])
          refine any_done (by kernel_rfl) ?_
          go_wp2
          go_meet
          exact ⟨_, rfl, rfl, AG, RR, HB⟩
      · go_simp
        have hg7 : (w1.drew.alloc (.cells #[.slice A n c] 24)).heap.size = w1.heap.size + 1 := by first | rfl | simp
        have gw7 : w.heap.size + 1 < w1.heap.size + 1 := by rw [← hg7]; exact r1.lt
        have hl7 := (Below.refl (w1.drew.alloc (.cells #[.slice A n c] 24)).heap.size (w1.drew.alloc (.cells #[.slice A n c] 24))).alloc (Nat.le_refl _) (.cells #[.int .i64 0, .int .i64 0, .int .i64 0, .int .i64 0] 26)
        have hB7 := hB1.alloc hB1.size (.cells #[.int .i64 0, .int .i64 0, .int .i64 0, .int .i64 0] 26)
        have ax7 := ax1.alloc (.cells #[.int .i64 0, .int .i64 0, .int .i64 0, .int .i64 0] 26)
        have r7 := r1.alloc (.cells #[.int .i64 0, .int .i64 0, .int .i64 0, .int .i64 0] 26)
        have ha7 := ha1.lift hl7
        have hR7 := hR1.below hl7 gl1
        have gl7 := Nat.lt_of_lt_of_le gl1 hl7.size
        have ag7 := At.newAt' (t := 26) (cs := #[.int .i64 0, .int .i64 0, .int .i64 0, .int .i64 0]) hg7
        clear hg7
        refine ⟨(fun u => At u w.heap.size 26 #[.int .i64 x0, .int .i64 x1, .int .i64 x2, .int .i64 x3]), fun _ h => h, ax7, ?_⟩
        (try simp only [Act.put, List.setIfInBounds_toArray, List.set_cons_zero, List.set_cons_succ])
        refine any_one 2 rfl (by kernel_rfl) (by rfl) ?_
        go_simp
        refine (byKeyS _ 1 1 [(A, n, c, l)] _ hR7 gl7 rfl (by omega)).mono ?_
        rintro e v8 ⟨b8, rfl, hc8, hs8, hb8⟩
        have bg8 : b8 ≠ w1.heap.size + 1 := by have := ag7.lt; omega
        have hB8 := hB7.trans (hb8.mono hB7.size)
        have ax8 := ax7.below hb8 ax7.lt
        have r8 := r7.below hb8 r7.lt
        have ag8 := ag7.below hb8 ag7.lt
        have ha8 := ha7.lift hb8
        rw [flat_one] at hs8
        refine ⟨(fun u => At u w.heap.size 26 #[.int .i64 x0, .int .i64 x1, .int .i64 x2, .int .i64 x3] ∧ SMap u b8 (byKeyM l)), fun _ h => h.1, ⟨ax8, hs8⟩, ?_⟩
        (try simp only [Act.put, List.setIfInBounds_toArray, List.set_cons_zero, List.set_cons_succ])
        refine any_one 4 rfl (by kernel_rfl) (by rfl) ?_
        go_simp
        refine (implKeyOf x0 x1 x2 x3 _).mono ?_
        rintro e v9 ⟨rfl, hb9⟩
        have hB9 := hB8.trans (hb9.mono hB8.size)
        have ax9 := ax8.below hb9 ax8.lt
        have r9 := r8.below hb9 r8.lt
        have ag9 := ag8.below hb9 ag8.lt
        have hs9 := hs8.below hb9 hs8.lt
        have ha9 := ha8.lift hb9
        refine ⟨(fun u => At u w.heap.size 26 #[.int .i64 x0, .int .i64 x1, .int .i64 x2, .int .i64 x3] ∧ SMap u b8 (byKeyM l)), fun _ h => h, ⟨ax9, hs9⟩, ?_⟩
        (try simp only [Act.put, List.setIfInBounds_toArray, List.set_cons_zero, List.set_cons_succ])
        refine any_pure (v := ?_) 5 rfl (by kernel_rfl) (fun _ _ _ _ _ h => h) (by rfl) (fun u hu => ?_) ⟨ax9, hs9⟩ ?_
        rotate_left
        · have hlk := hlook u _ hu.2
          go_simp
          (with_reducible rfl)
        (try simp only [Act.put, List.setIfInBounds_toArray, List.set_cons_zero, List.set_cons_succ])
        refine any_pure (v := ?_) 6 rfl (by kernel_rfl) (fun _ _ _ _ _ h => h) (by rfl) (fun u hu => ?_) ⟨ax9, hs9⟩ ?_
        rotate_left
        · skip
          go_simp
          (with_reducible rfl)
        (try simp only [Act.put, List.setIfInBounds_toArray, List.set_cons_zero, List.set_cons_succ])
        refine any_pure (v := ?_) 7 rfl (by kernel_rfl) (fun _ _ _ _ _ h => h) (by rfl) (fun u hu => ?_) ⟨ax9, hs9⟩ ?_
        rotate_left
        · skip
          go_simp
          (with_reducible rfl)
        (try simp only [Act.put, List.setIfInBounds_toArray, List.set_cons_zero, List.set_cons_succ])
        refine any_pure (v := ?_) 8 rfl (by kernel_rfl) (fun _ _ _ _ _ h => h) (by rfl) (fun u hu => ?_) ⟨ax9, hs9⟩ ?_
        rotate_left
        · skip
          go_simp
          (with_reducible rfl)
        (try simp only [Act.put, List.setIfInBounds_toArray, List.set_cons_zero, List.set_cons_succ])
        refine any_one 10 rfl (by kernel_rfl) (by rfl) ?_
        obtain ⟨k0, k1, k2, k3, k4, k5, k6, k7⟩ := ag9.four
        go_simp
        have AG := ag9
        have AXX := ax9
        have RR := r9
        have HS := hs9
        have HB := hB9
        have AG := AG.set 0 (.int .i64 y0)
        have AXX := AXX.far (p := ⟨w1.heap.size + 1, 0, none⟩) (by show w.heap.size ≠ w1.heap.size + 1; omega) (.int .i64 y0)
        have RR := RR.far (p := ⟨w1.heap.size + 1, 0, none⟩) (by show w.heap.size + 1 ≠ w1.heap.size + 1; omega) (.int .i64 y0)
        have HS := HS.kept (grown_setCell _ ⟨w1.heap.size + 1, 0, none⟩ (.int .i64 y0)) (fun e => bg8 (Option.some.inj e))
        have HB := HB.setCell (p := ⟨w1.heap.size + 1, 0, none⟩) (by show w.heap.size ≤ w1.heap.size + 1; omega) (.int .i64 y0)
        have AG := AG.set 1 (.int .i64 y1)
        have AXX := AXX.far (p := ⟨w1.heap.size + 1, 1, none⟩) (by show w.heap.size ≠ w1.heap.size + 1; omega) (.int .i64 y1)
        have RR := RR.far (p := ⟨w1.heap.size + 1, 1, none⟩) (by show w.heap.size + 1 ≠ w1.heap.size + 1; omega) (.int .i64 y1)
        have HS := HS.kept (grown_setCell _ ⟨w1.heap.size + 1, 1, none⟩ (.int .i64 y1)) (fun e => bg8 (Option.some.inj e))
        have HB := HB.setCell (p := ⟨w1.heap.size + 1, 1, none⟩) (by show w.heap.size ≤ w1.heap.size + 1; omega) (.int .i64 y1)
        have AG := AG.set 2 (.int .i64 y2)
        have AXX := AXX.far (p := ⟨w1.heap.size + 1, 2, none⟩) (by show w.heap.size ≠ w1.heap.size + 1; omega) (.int .i64 y2)
        have RR := RR.far (p := ⟨w1.heap.size + 1, 2, none⟩) (by show w.heap.size + 1 ≠ w1.heap.size + 1; omega) (.int .i64 y2)
        have HS := HS.kept (grown_setCell _ ⟨w1.heap.size + 1, 2, none⟩ (.int .i64 y2)) (fun e => bg8 (Option.some.inj e))
        have HB := HB.setCell (p := ⟨w1.heap.size + 1, 2, none⟩) (by show w.heap.size ≤ w1.heap.size + 1; omega) (.int .i64 y2)
        have AG := AG.set 3 (.int .i64 y3)
        have AXX := AXX.far (p := ⟨w1.heap.size + 1, 3, none⟩) (by show w.heap.size ≠ w1.heap.size + 1; omega) (.int .i64 y3)
        have RR := RR.far (p := ⟨w1.heap.size + 1, 3, none⟩) (by show w.heap.size + 1 ≠ w1.heap.size + 1; omega) (.int .i64 y3)
        have HS := HS.kept (grown_setCell _ ⟨w1.heap.size + 1, 3, none⟩ (.int .i64 y3)) (fun e => bg8 (Option.some.inj e))
        have HB := HB.setCell (p := ⟨w1.heap.size + 1, 3, none⟩) (by show w.heap.size ≤ w1.heap.size + 1; omega) (.int .i64 y3)
        refine ⟨_, fun _ h => h, ⟨AXX, HS⟩, ?_⟩
        (try simp only [Act.put, List.setIfInBounds_toArray, List.set_cons_zero, List.set_cons_succ])
        refine any_pure (v := ?_) 11 rfl (by kernel_rfl) (fun _ _ _ _ _ h => h) (by rfl) (fun u hu => ?_) ⟨AXX, HS⟩ ?_
        rotate_left
        · go_simp
          (with_reducible rfl)
        (try simp only [Act.put, List.setIfInBounds_toArray, List.set_cons_zero, List.set_cons_succ])
        refine any_done (by kernel_rfl) ?_
        go_wp2
        go_meet
        exact ⟨_, rfl, rfl, AG, RR, HB⟩
    · go_simp
      have hg10 : w1.drew.heap.size = w1.heap.size := by first | rfl | simp
      have gw10 : w.heap.size + 1 < w1.heap.size := by rw [← hg10]; exact rd.lt
      have hl10 := (Below.refl w1.drew.heap.size w1.drew).alloc (Nat.le_refl _) (.cells #[.int .i64 0, .int .i64 0, .int .i64 0, .int .i64 0] 26)
      have hB10 := hBd.alloc hBd.size (.cells #[.int .i64 0, .int .i64 0, .int .i64 0, .int .i64 0] 26)
      have ax10 := axd.alloc (.cells #[.int .i64 0, .int .i64 0, .int .i64 0, .int .i64 0] 26)
      have r10 := rd.alloc (.cells #[.int .i64 0, .int .i64 0, .int .i64 0, .int .i64 0] 26)
      have ha10 := had.lift hl10
      have ag10 := At.newAt' (t := 26) (cs := #[.int .i64 0, .int .i64 0, .int .i64 0, .int .i64 0]) hg10
      clear hg10
      refine ⟨(fun u => At u w.heap.size 26 #[.int .i64 x0, .int .i64 x1, .int .i64 x2, .int .i64 x3]), fun _ h => h, ax10, ?_⟩
      (try simp only [Act.put, List.setIfInBounds_toArray, List.set_cons_zero, List.set_cons_succ])
      refine any_one 1 rfl (by kernel_rfl) (by rfl) ?_
      go_simp
      have hl11 := (Below.refl (w1.drew.alloc (.cells #[.int .i64 0, .int .i64 0, .int .i64 0, .int .i64 0] 26)).heap.size (w1.drew.alloc (.cells #[.int .i64 0, .int .i64 0, .int .i64 0, .int .i64 0] 26))).alloc (Nat.le_refl _) (.cells #[.slice A n c] 24)
      have hB11 := hB10.alloc hB10.size (.cells #[.slice A n c] 24)
      have ax11 := ax10.alloc (.cells #[.slice A n c] 24)
      have r11 := r10.alloc (.cells #[.slice A n c] 24)
      have ag11 := ag10.alloc (.cells #[.slice A n c] 24)
      have ha11 := ha10.lift hl11
      have hR11 : Rows4 ((w1.drew.alloc (.cells #[.int .i64 0, .int .i64 0, .int .i64 0, .int .i64 0] 26)).alloc (.cells #[.slice A n c] 24)) (w1.heap.size + 1) [(A, n, c, l)] := rows_one ha10 hn hn1000 (by first | rfl | simp)
      have gl11 : w1.heap.size + 1 < ((w1.drew.alloc (.cells #[.int .i64 0, .int .i64 0, .int .i64 0, .int .i64 0] 26)).alloc (.cells #[.slice A n c] 24)).heap.size := by simp
      refine ⟨(fun u => At u w.heap.size 26 #[.int .i64 x0, .int .i64 x1, .int .i64 x2, .int .i64 x3]), fun _ h => h, ax11, ?_⟩
      (try simp only [Act.put, List.setIfInBounds_toArray, List.set_cons_zero, List.set_cons_succ])
      refine any_one 2 rfl (by kernel_rfl) (by rfl) ?_
      go_simp
      refine (byKeyS _ 1 1 [(A, n, c, l)] _ hR11 gl11 rfl (by omega)).mono ?_
      rintro e v12 ⟨b12, rfl, hc12, hs12, hb12⟩
      have bg12 : b12 ≠ w1.heap.size := by have := ag11.lt; omega
      have hB12 := hB11.trans (hb12.mono hB11.size)
      have ax12 := ax11.below hb12 ax11.lt
      have r12 := r11.below hb12 r11.lt
      have ag12 := ag11.below hb12 ag11.lt
      have ha12 := ha11.lift hb12
      rw [flat_one] at hs12
      refine ⟨(fun u => At u w.heap.size 26 #[.int .i64 x0, .int .i64 x1, .int .i64 x2, .int .i64 x3] ∧ SMap u b12 (byKeyM l)), fun _ h => h.1, ⟨ax12, hs12⟩, ?_⟩
      (try simp only [Act.put, List.setIfInBounds_toArray, List.set_cons_zero, List.set_cons_succ])
      refine any_one 4 rfl (by kernel_rfl) (by rfl) ?_
      go_simp
      refine (implKeyOf x0 x1 x2 x3 _).mono ?_
      rintro e v13 ⟨rfl, hb13⟩
      have hB13 := hB12.trans (hb13.mono hB12.size)
      have ax13 := ax12.below hb13 ax12.lt
      have r13 := r12.below hb13 r12.lt
      have ag13 := ag12.below hb13 ag12.lt
      have hs13 := hs12.below hb13 hs12.lt
      have ha13 := ha12.lift hb13
      refine ⟨(fun u => At u w.heap.size 26 #[.int .i64 x0, .int .i64 x1, .int .i64 x2, .int .i64 x3] ∧ SMap u b12 (byKeyM l)), fun _ h => h, ⟨ax13, hs13⟩, ?_⟩
      (try simp only [Act.put, List.setIfInBounds_toArray, List.set_cons_zero, List.set_cons_succ])
      refine any_pure (v := ?_) 5 rfl (by kernel_rfl) (fun _ _ _ _ _ h => h) (by rfl) (fun u hu => ?_) ⟨ax13, hs13⟩ ?_
      rotate_left
      · have hlk := hlook u _ hu.2
        go_simp
        (with_reducible rfl)
      (try simp only [Act.put, List.setIfInBounds_toArray, List.set_cons_zero, List.set_cons_succ])
      refine any_pure (v := ?_) 6 rfl (by kernel_rfl) (fun _ _ _ _ _ h => h) (by rfl) (fun u hu => ?_) ⟨ax13, hs13⟩ ?_
      rotate_left
      · skip
        go_simp
        (with_reducible rfl)
      (try simp only [Act.put, List.setIfInBounds_toArray, List.set_cons_zero, List.set_cons_succ])
      refine any_pure (v := ?_) 7 rfl (by kernel_rfl) (fun _ _ _ _ _ h => h) (by rfl) (fun u hu => ?_) ⟨ax13, hs13⟩ ?_
      rotate_left
      · skip
        go_simp
        (with_reducible rfl)
      (try simp only [Act.put, List.setIfInBounds_toArray, List.set_cons_zero, List.set_cons_succ])
      refine any_pure (v := ?_) 8 rfl (by kernel_rfl) (fun _ _ _ _ _ h => h) (by rfl) (fun u hu => ?_) ⟨ax13, hs13⟩ ?_
      rotate_left
      · skip
        go_simp
        (with_reducible rfl)
      (try simp only [Act.put, List.setIfInBounds_toArray, List.set_cons_zero, List.set_cons_succ])
      refine any_one 10 rfl (by kernel_rfl) (by rfl) ?_
      obtain ⟨k0, k1, k2, k3, k4, k5, k6, k7⟩ := ag13.four
      go_simp
      have AG := ag13
      have AXX := ax13
      have RR := r13
      have HS := hs13
      have HB := hB13
      have AG := AG.set 0 (.int .i64 y0)
      have AXX := AXX.far (p := ⟨w1.heap.size, 0, none⟩) (by show w.heap.size ≠ w1.heap.size; omega) (.int .i64 y0)
      have RR := RR.far (p := ⟨w1.heap.size, 0, none⟩) (by show w.heap.size + 1 ≠ w1.heap.size; omega) (.int .i64 y0)
      have HS := HS.kept (grown_setCell _ ⟨w1.heap.size, 0, none⟩ (.int .i64 y0)) (fun e => bg12 (Option.some.inj e))
      have HB := HB.setCell (p := ⟨w1.heap.size, 0, none⟩) (by show w.heap.size ≤ w1.heap.size; omega) (.int .i64 y0)
      have AG := AG.set 1 (.int .i64 y1)
      have AXX := AXX.far (p := ⟨w1.heap.size, 1, none⟩) (by show w.heap.size ≠ w1.heap.size; omega) (.int .i64 y1)
      have RR := RR.far (p := ⟨w1.heap.size, 1, none⟩) (by show w.heap.size + 1 ≠ w1.heap.size; omega) (.int .i64 y1)
      have HS := HS.kept (grown_setCell _ ⟨w1.heap.size, 1, none⟩ (.int .i64 y1)) (fun e => bg12 (Option.some.inj e))
      have HB := HB.setCell (p := ⟨w1.heap.size, 1, none⟩) (by show w.heap.size ≤ w1.heap.size; omega) (.int .i64 y1)
      have AG := AG.set 2 (.int .i64 y2)
      have AXX := AXX.far (p := ⟨w1.heap.size, 2, none⟩) (by show w.heap.size ≠ w1.heap.size; omega) (.int .i64 y2)
      have RR := RR.far (p := ⟨w1.heap.size, 2, none⟩) (by show w.heap.size + 1 ≠ w1.heap.size; omega) (.int .i64 y2)
      have HS := HS.kept (grown_setCell _ ⟨w1.heap.size, 2, none⟩ (.int .i64 y2)) (fun e => bg12 (Option.some.inj e))
      have HB := HB.setCell (p := ⟨w1.heap.size, 2, none⟩) (by show w.heap.size ≤ w1.heap.size; omega) (.int .i64 y2)
      have AG := AG.set 3 (.int .i64 y3)
      have AXX := AXX.far (p := ⟨w1.heap.size, 3, none⟩) (by show w.heap.size ≠ w1.heap.size; omega) (.int .i64 y3)
      have RR := RR.far (p := ⟨w1.heap.size, 3, none⟩) (by show w.heap.size + 1 ≠ w1.heap.size; omega) (.int .i64 y3)
      have HS := HS.kept (grown_setCell _ ⟨w1.heap.size, 3, none⟩ (.int .i64 y3)) (fun e => bg12 (Option.some.inj e))
      have HB := HB.setCell (p := ⟨w1.heap.size, 3, none⟩) (by show w.heap.size ≤ w1.heap.size; omega) (.int .i64 y3)
      refine ⟨_, fun _ h => h, ⟨AXX, HS⟩, ?_⟩
      (try simp only [Act.put, List.setIfInBounds_toArray, List.set_cons_zero, List.set_cons_succ])
      refine any_pure (v := ?_) 11 rfl (by kernel_rfl) (fun _ _ _ _ _ h => h) (by rfl) (fun u hu => ?_) ⟨AXX, HS⟩ ?_
      rotate_left
      · go_simp
        (with_reducible rfl)
      (try simp only [Act.put, List.setIfInBounds_toArray, List.set_cons_zero, List.set_cons_succ])
      refine any_done (by kernel_rfl) ?_
      go_wp2
      go_meet
      exact ⟨_, rfl, rfl, AG, RR, HB⟩
  case rest =>
    obtain ⟨g, rfl, rfl, ag, r, hB⟩ := hcut
    obtain ⟨c0, c1, c2, c3, c4, _⟩ := r.five
    obtain ⟨k0, k1, k2, k3, _⟩ := ag.four
    have HB := hB
    rcases i
    · go_wp2_with fail
      refine bodyPost_ret (v := .agg #[.int .i64 4, .int .i64 0, .int .i64 0, .int .i64 0, .int .i64 0]) (by simp [results, Tryd.results16, go_sem, c0, c1, c2, c3, c4]) rfl ?_
      refine ⟨by rw [Hi.out]; rfl, ?_⟩
      repeat (first | exact HB | refine Below.setCell ?_ (p := ⟨w.heap.size + 1, _, none⟩) (Nat.le_succ _) _)
    · go_wp2_with fail
      refine bodyPost_ret (v := .agg #[.int .i64 0, .int .i64 y0, .int .i64 y1, .int .i64 y2, .int .i64 y3]) (by simp [results, Tryd.results16, go_sem, c0, c1, c2, c3, c4]) rfl ?_
      refine ⟨by rw [Hi.out]; rfl, ?_⟩
      repeat (first | exact HB | refine Below.setCell ?_ (p := ⟨w.heap.size + 1, _, none⟩) (Nat.le_succ _) _)

theorem hiFindSample : ∀ (A : Option Addr) (n c : Nat) (l : List Smp) (x0 x1 x2 x3 : Int) (W : World), Rd eS W W.heap.size A l → l.length = n → n ≤ 1048576 → Flds W → Calls Tryd.prog 16 #[.slice A n c, .agg #[.int .i64 x0, .int .i64 x1, .int .i64 x2, .int .i64 x3]] W (RetSR (lookM l (x0, x1, x2, x3)) W) :=
  fun A n c l x0 x1 x2 x3 W ha hn _ hF => implFindSample A n c l x0 x1 x2 x3 W ha hn hF
end Go.Proofs.YtkgbjlbhlhdhbaaDoor
