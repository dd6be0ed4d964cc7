/-
  The model's DueHints.
-/
import Derived.Test.YtjlkmfijkhjjkaaDoorHintS
import Derived.Test.YtjlkmfijkhjjkaaDoorAny
namespace Go.Proofs.YtjlkmfijkhjjkaaDoor
set_option maxRecDepth 20000
open Go.RowKit
set_option linter.unusedSimpArgs false
set_option linter.unusedVariables false

def DueRel (w : World) (l : List Hnt) (now : Int) (n go : Nat) (i : Value) (wr : World) : Prop :=
  ∃ (k : Nat) (A : Option Addr) (L c : Nat), k ≤ n ∧ i = .int .i64 k ∧ L ≤ k ∧ At wr go 30 #[.int .i64 0, .slice A L c] ∧ Ow eH wr (go + 1) A L c (dueL (l.take k) now) ∧ At wr w.heap.size 30 #[.int .i64 0, .slice none 0 0] ∧ Below w.heap.size w wr

set_option maxRecDepth 100000 in
set_option maxHeartbeats 4000000 in
theorem specDueHints (A : Option Addr) (n c : Nat) (l : List Hnt) (now : Int) (w : World) (ha : Rd eH w w.heap.size A l) (hn : l.length = n) :
    Calls Tryd.prog 24 #[.slice A n c, .int .i64 now] w (RetHs (dueM l now) w) := by
  have hB0 : Below w.heap.size w (w.alloc (.cells #[.int .i64 0, .slice none 0 0] 30)) := (Below.refl _ _).alloc (Nat.le_refl _) _
  have r0 := At.new w 30 #[.int .i64 0, .slice none 0 0]
  have ha0 := ha.lift hB0
  have HF := specHintsFault A n c l _ ha0 hn
  by_cases h0 : hintsFaultM l = 0
  rotate_left
  · rw [show (dueM l now) = (hintsFaultM l, []) from if_pos h0]
    have hne : (hintsFaultM l != 0) = true := by rw [bne_iff_ne]; exact h0
    generalize hintsFaultM l = sf at *
    clear h0
    go_enter Tryd.func24, Tryd.ntmps24
    go_wp2_with fail
    refine (HF).mono ?_
    rintro e w1 ⟨rfl, hb1⟩
    have hB1 := hB0.trans (hb1.mono hB0.size)
    have r1 := r0.below hb1 r0.lt
    have ha1 := ha0.lift hb1
    obtain ⟨c0, c1, _, _⟩ := r1.two
    go_wp2_with fail
    refine bodyPost_ret (v := .agg #[.int .i64 sf, .slice none 0 0]) (by simp [results, Tryd.results24, go_sem, c0, c1]) rfl ?_
    exact ⟨_, _, _, rfl, Ow.nil, (hB1.setCell (by simp) _).setCell (by simp) _⟩
  obtain ⟨h8, hall, hdis⟩ := (hintsFault_iff l).1 h0
  rw [h0] at HF
  rw [show (dueM l now) = (0, dueL l now) by unfold dueM; rw [if_neg (by simp [h0])]]
  have Hn := Lib.hid hn
  have hn8 : n ≤ 8 := by omega
  clear h0 hn h8 hall hdis
  go_enter Tryd.func24, Tryd.ntmps24
  go_wp2_with fail
  refine (HF).mono ?_
  rintro e w1 ⟨rfl, hb1⟩
  have hB1 := hB0.trans (hb1.mono hB0.size)
  have r1 := r0.below hb1 r0.lt
  have ha1 := ha0.lift hb1
  have at1 := At.new w1 30 #[.int .i64 0, .slice none 0 0]
  have r2 := r1.alloc (.cells #[.int .i64 0, .slice none 0 0] 30)
  have hB2 := hB1.alloc hB1.size (.cells #[.int .i64 0, .slice none 0 0] 30)
  have lr : w.heap.size < w1.heap.size := r1.lt
  have ow2 : Ow eH (w1.alloc (.cells #[.int .i64 0, .slice none 0 0] 30)) (w1.heap.size + 1) none 0 0 [] := Ow.nil
  go_wp2
  go_loopw [7] (fun i wr => DueRel w l now n w1.heap.size i wr) (fun i _ => n - (intOf i).toNat)
  case atStart => exact ⟨0, none, 0, 0, Nat.zero_le _, rfl, Nat.le_refl _, at1, by simpa [dueL] using ow2, r2, hB2⟩
  case round =>
    clear at1 ow2 r2 hB2
    obtain ⟨k, A1, L1, c1, hk, rfl, hL, at0, ow0, rr0, hbel⟩ := hrel
    by_cases hlt : k < n
    · obtain ⟨g, o, a0, a1, a2, a3, a4, a5, a6, rfl, hg, hx, ca⟩ := (ha.below hbel (Nat.le_refl _)).hnt (k := k) (by rw [Hn.out]; exact hlt)
      have Hq := Lib.hid (due_next now hx)
      clear hx
      have hlo := ow0.len okH
      have lat := at0.lt
      by_cases hnow : a6 ≤ now
      · have Hnow := Lib.hid hnow
        have hnow' : (a6 ≤ now) = True := by simpa using hnow
        have Ca := Lib.hid ca
        obtain ⟨q0, q1, q2, q3, q4, q5, q6⟩ := ca
        go_wp2
        clear q0 q1 q2 q3 q4 q5 q6
        have ca0 := Ca.out.drew
        have atd := at0.drew
        have rrd := rr0.drew
        have owd := ow0.drewN 1
        have hBd := hbel.drew
        refine any_start (fun u => S7 u g (o + k * 7) a0 a1 a2 a3 a4 a5 a6) (by kernel_rfl) ca0 (fun _ => ?_)
        refine any_pure (v := ?_) 0 rfl (by kernel_rfl) (fun _ _ _ _ _ h => h) (by rfl) (fun u hu => ?_) ca0 ?_
        rotate_left
        · obtain ⟨_, _, _, _, _, _, _⟩ := hu
          go_simp
          (with_reducible rfl)
        (try simp only [Act.put, List.setIfInBounds_toArray, List.set_cons_zero, List.set_cons_succ])
        refine any_pure (v := ?_) 2 rfl (by kernel_rfl) (fun _ _ _ _ _ h => h) (by rfl) (fun u hu => ?_) ca0 ?_
        rotate_left
        · obtain ⟨_, _, _, _, _, _, _⟩ := hu
          go_simp
          (with_reducible rfl)
        (try simp only [Act.put, List.setIfInBounds_toArray, List.set_cons_zero, List.set_cons_succ])
        refine any_pure (v := ?_) 3 rfl (by kernel_rfl) (fun _ _ _ _ _ h => h) (by rfl) (fun u hu => ?_) ca0 ?_
        rotate_left
        · obtain ⟨_, _, _, _, _, _, _⟩ := hu
          go_simp
          (with_reducible rfl)
        (try simp only [Act.put, List.setIfInBounds_toArray, List.set_cons_zero, List.set_cons_succ])
        refine any_pure (v := ?_) 4 rfl (by kernel_rfl) (fun _ _ _ _ _ h => h) (by rfl) (fun u hu => ?_) ca0 ?_
        rotate_left
        · obtain ⟨_, _, _, _, _, _, _⟩ := hu
          go_simp
          (with_reducible rfl)
        (try simp only [Act.put, List.setIfInBounds_toArray, List.set_cons_zero, List.set_cons_succ])
        refine any_pure (v := ?_) 5 rfl (by kernel_rfl) (fun _ _ _ _ _ h => h) (by rfl) (fun u hu => ?_) ca0 ?_
        rotate_left
        · obtain ⟨_, _, _, _, _, _, _⟩ := hu
          go_simp
          (with_reducible rfl)
        (try simp only [Act.put, List.setIfInBounds_toArray, List.set_cons_zero, List.set_cons_succ])
        refine any_two 1 6 rfl rfl (by kernel_rfl) (by rfl) (by rfl) ?_ ?_
        · obtain ⟨k0, k1, m0, m1⟩ := atd.two
          go_simp
          refine ⟨(fun u => S7 u g (o + k * 7) a0 a1 a2 a3 a4 a5 a6), fun _ h => h, ca0, ?_⟩
          (try simp only [Act.put, List.setIfInBounds_toArray, List.set_cons_zero, List.set_cons_succ])
          refine any_one 6 rfl (by kernel_rfl) (by rfl) ?_
          go_simp
          have hB7 := hBd.alloc hBd.size (.cells #[.int .i64 a0, .int .i64 a1, .int .i64 a2, .int .i64 a3, .int .i64 a4, .int .i64 a5, .int .i64 a6] 50)
          have at7 := atd.alloc (.cells #[.int .i64 a0, .int .i64 a1, .int .i64 a2, .int .i64 a3, .int .i64 a4, .int .i64 a5, .int .i64 a6] 50)
          have rr7 := rrd.alloc (.cells #[.int .i64 a0, .int .i64 a1, .int .i64 a2, .int .i64 a3, .int .i64 a4, .int .i64 a5, .int .i64 a6] 50)
          have ow7 := owd.alloc (.cells #[.int .i64 a0, .int .i64 a1, .int .i64 a2, .int .i64 a3, .int .i64 a4, .int .i64 a5, .int .i64 a6] 50)
          have ob7 := rd_lit okH wr.drew 50 [(a0, (a1, a2, a3, a4), a5, a6)] #[.int .i64 a0, .int .i64 a1, .int .i64 a2, .int .i64 a3, .int .i64 a4, .int .i64 a5, .int .i64 a6] rfl
          have ca7 : S7 (wr.drew.alloc (.cells #[.int .i64 a0, .int .i64 a1, .int .i64 a2, .int .i64 a3, .int .i64 a4, .int .i64 a5, .int .i64 a6] 50)) g (o + k * 7) a0 a1 a2 a3 a4 a5 a6 := ca0.grown (World.grownBy_alloc _ _ none) (by simp)
          have hs7 : w1.heap.size + 1 ≤ (wr.drew.alloc (.cells #[.int .i64 a0, .int .i64 a1, .int .i64 a2, .int .i64 a3, .int .i64 a4, .int .i64 a5, .int .i64 a6] 50)).heap.size := by simp; omega
          refine ⟨(fun u => S7 u g (o + k * 7) a0 a1 a2 a3 a4 a5 a6), fun _ h => h, ca7, ?_⟩
          (try simp only [Act.put, List.setIfInBounds_toArray, List.set_cons_zero, List.set_cons_succ])
          refine any_one 7 rfl (by kernel_rfl) (by rfl) ?_
          refine wp_append_ow okH _ (.tmp 29) (.tmp 34) _ rfl (w1.heap.size + 1) info_hnt Tryd.underlying24 rfl A1 L1 c1 _ rfl ow7 _ 1 1 _ [(a0, (a1, a2, a3, a4), a5, a6)] rfl ob7 rfl (by unfold maxLen; omega) (by omega) hs7 ?_
          intro A5 c5 w5 ow5 hg5 _
          have hB5 := hB7.grown hg5 hB7.size (fun g hg => by have := (ow7.lt g hg).1; omega)
          have at5 := at7.grown hg5 (fun e => by have := (ow7.lt _ e).1; omega)
          have r5 := rr7.grown hg5 (fun e => by have := (ow7.lt _ e).1; omega)
          have ca5 := ca7.grown hg5 (fun e => by have := (ow7.lt _ e.symm).1; omega)
          refine ⟨(fun u => S7 u g (o + k * 7) a0 a1 a2 a3 a4 a5 a6), fun _ h => h, ca5, ?_⟩
          (try simp only [Act.put, List.setIfInBounds_toArray, List.set_cons_zero, List.set_cons_succ])
          refine any_pure (v := ?_) 8 rfl (by kernel_rfl) (fun _ _ _ _ _ h => h) (by rfl) (fun u hu => ?_) ca5 ?_
          rotate_left
          · skip
            go_simp
            (with_reducible rfl)
          (try simp only [Act.put, List.setIfInBounds_toArray, List.set_cons_zero, List.set_cons_succ])
          obtain ⟨k0, k1, m0, m1⟩ := at5.two
          refine any_one 9 rfl (by kernel_rfl) (by rfl) ?_
          go_simp
          have at6 := at5.set 1 (.slice A5 (L1 + 1) c5)
          have ow6 := ow5.under (p := ⟨w1.heap.size, 1, none⟩) (by simp) (.slice A5 (L1 + 1) c5)
          have r6 := r5.far (p := ⟨w1.heap.size, 1, none⟩) (by simp; omega) (.slice A5 (L1 + 1) c5)
          have hB6 := hB5.setCell (p := ⟨w1.heap.size, 1, none⟩) (by simp; omega) (.slice A5 (L1 + 1) c5)
          have ca6 : S7 (w5.setCell ⟨w1.heap.size, 1, none⟩ (.slice A5 (L1 + 1) c5)) g (o + k * 7) a0 a1 a2 a3 a4 a5 a6 := ca5.grown (grown_setCell _ _ _) (by simp; omega)
          refine ⟨(fun u => S7 u g (o + k * 7) a0 a1 a2 a3 a4 a5 a6), fun _ h => h, ca6, ?_⟩
          (try simp only [Act.put, List.setIfInBounds_toArray, List.set_cons_zero, List.set_cons_succ])
          refine any_done (by kernel_rfl) ?_
          go_wp2
          refine ⟨⟨k + 1, A5, L1 + 1, c5, by omega, by go_num, by omega, at6, ?_, r6, hB6⟩, by simp [intOf]; omega⟩
          rw [Hq.out, if_pos Hnow.out]
          exact ow6
        · go_simp
          have hB7 := hbel.alloc hbel.size (.cells #[.int .i64 a0, .int .i64 a1, .int .i64 a2, .int .i64 a3, .int .i64 a4, .int .i64 a5, .int .i64 a6] 50)
          have at7 := at0.alloc (.cells #[.int .i64 a0, .int .i64 a1, .int .i64 a2, .int .i64 a3, .int .i64 a4, .int .i64 a5, .int .i64 a6] 50)
          have rr7 := rr0.alloc (.cells #[.int .i64 a0, .int .i64 a1, .int .i64 a2, .int .i64 a3, .int .i64 a4, .int .i64 a5, .int .i64 a6] 50)
          have ow7 := ow0.alloc (.cells #[.int .i64 a0, .int .i64 a1, .int .i64 a2, .int .i64 a3, .int .i64 a4, .int .i64 a5, .int .i64 a6] 50)
          have ob7 := rd_lit okH wr 50 [(a0, (a1, a2, a3, a4), a5, a6)] #[.int .i64 a0, .int .i64 a1, .int .i64 a2, .int .i64 a3, .int .i64 a4, .int .i64 a5, .int .i64 a6] rfl
          have ca7 : S7 (wr.alloc (.cells #[.int .i64 a0, .int .i64 a1, .int .i64 a2, .int .i64 a3, .int .i64 a4, .int .i64 a5, .int .i64 a6] 50)) g (o + k * 7) a0 a1 a2 a3 a4 a5 a6 := Ca.out.grown (World.grownBy_alloc _ _ none) (by simp)
          have hs7 : w1.heap.size + 1 ≤ (wr.alloc (.cells #[.int .i64 a0, .int .i64 a1, .int .i64 a2, .int .i64 a3, .int .i64 a4, .int .i64 a5, .int .i64 a6] 50)).heap.size := by simp; omega
          have hB8 := hB7.drew
          have at8 := at7.drew
          have rr8 := rr7.drew
          have ow8 := ow7.drewN 1
          have ob8 := ob7.drewN 1
          have ca8 := ca7.drew
          have hs8 := hs7
          refine ⟨(fun u => S7 u g (o + k * 7) a0 a1 a2 a3 a4 a5 a6), fun _ h => h, ca8, ?_⟩
          (try simp only [Act.put, List.setIfInBounds_toArray, List.set_cons_zero, List.set_cons_succ])
          obtain ⟨k0, k1, m0, m1⟩ := at8.two
          refine any_one 1 rfl (by kernel_rfl) (by rfl) ?_
          go_simp
          refine ⟨(fun u => S7 u g (o + k * 7) a0 a1 a2 a3 a4 a5 a6), fun _ h => h, ca8, ?_⟩
          (try simp only [Act.put, List.setIfInBounds_toArray, List.set_cons_zero, List.set_cons_succ])
          refine any_one 7 rfl (by kernel_rfl) (by rfl) ?_
          refine wp_append_ow okH _ (.tmp 29) (.tmp 34) _ rfl (w1.heap.size + 1) info_hnt Tryd.underlying24 rfl A1 L1 c1 _ rfl ow8 _ 1 1 _ [(a0, (a1, a2, a3, a4), a5, a6)] rfl ob8 rfl (by unfold maxLen; omega) (by omega) hs8 ?_
          intro A5 c5 w5 ow5 hg5 _
          have hB5 := hB8.grown hg5 hB8.size (fun g hg => by have := (ow8.lt g hg).1; omega)
          have at5 := at8.grown hg5 (fun e => by have := (ow8.lt _ e).1; omega)
          have r5 := rr8.grown hg5 (fun e => by have := (ow8.lt _ e).1; omega)
          have ca5 := ca8.grown hg5 (fun e => by have := (ow8.lt _ e.symm).1; omega)
          refine ⟨(fun u => S7 u g (o + k * 7) a0 a1 a2 a3 a4 a5 a6), fun _ h => h, ca5, ?_⟩
          (try simp only [Act.put, List.setIfInBounds_toArray, List.set_cons_zero, List.set_cons_succ])
          refine any_pure (v := ?_) 8 rfl (by kernel_rfl) (fun _ _ _ _ _ h => h) (by rfl) (fun u hu => ?_) ca5 ?_
          rotate_left
          · skip
            go_simp
            (with_reducible rfl)
          (try simp only [Act.put, List.setIfInBounds_toArray, List.set_cons_zero, List.set_cons_succ])
          obtain ⟨k0, k1, m0, m1⟩ := at5.two
          refine any_one 9 rfl (by kernel_rfl) (by rfl) ?_
          go_simp
          have at6 := at5.set 1 (.slice A5 (L1 + 1) c5)
          have ow6 := ow5.under (p := ⟨w1.heap.size, 1, none⟩) (by simp) (.slice A5 (L1 + 1) c5)
          have r6 := r5.far (p := ⟨w1.heap.size, 1, none⟩) (by simp; omega) (.slice A5 (L1 + 1) c5)
          have hB6 := hB5.setCell (p := ⟨w1.heap.size, 1, none⟩) (by simp; omega) (.slice A5 (L1 + 1) c5)
          have ca6 : S7 (w5.setCell ⟨w1.heap.size, 1, none⟩ (.slice A5 (L1 + 1) c5)) g (o + k * 7) a0 a1 a2 a3 a4 a5 a6 := ca5.grown (grown_setCell _ _ _) (by simp; omega)
          refine ⟨(fun u => S7 u g (o + k * 7) a0 a1 a2 a3 a4 a5 a6), fun _ h => h, ca6, ?_⟩
          (try simp only [Act.put, List.setIfInBounds_toArray, List.set_cons_zero, List.set_cons_succ])
          refine any_done (by kernel_rfl) ?_
          go_wp2
          refine ⟨⟨k + 1, A5, L1 + 1, c5, by omega, by go_num, by omega, at6, ?_, r6, hB6⟩, by simp [intOf]; omega⟩
          rw [Hq.out, if_pos Hnow.out]
          exact ow6
      · obtain ⟨q0, q1, q2, q3, q4, q5, q6⟩ := ca
        have Hnow := Lib.hid hnow
        have hnow' : ¬ a6 ≤ now := hnow
        clear hnow
        go_wp2
        refine ⟨⟨k + 1, A1, L1, c1, by omega, by go_num, by omega, at0, ?_, rr0, hbel⟩, by simp [intOf]; omega⟩
        rw [Hq.out, if_neg Hnow.out, List.append_nil]
        exact ow0
    · obtain rfl : n = k := by omega
      rw [show l.take n = l from List.take_of_length_le (by rw [Hn.out]; exact Nat.le_refl _)] at ow0
      obtain ⟨k0, k1, m0, m1⟩ := at0.two
      obtain ⟨c0, c1', f0, f1⟩ := rr0.two
      go_wp2
      refine bodyPost_ret (v := .agg #[.int .i64 0, .slice A1 L1 c1]) (by simp [results, Tryd.results24, go_sem, c0, c1']) rfl ?_
      exact ⟨_, _, _, rfl, (((ow0.under (p := ⟨w.heap.size, 0, none⟩) (by simp; omega) _).under (p := ⟨w.heap.size, 1, none⟩) (by simp; omega) _).from_ (by omega)), (hbel.setCell (Nat.le_refl _) _).setCell (Nat.le_refl _) _⟩
end Go.Proofs.YtjlkmfijkhjjkaaDoor
