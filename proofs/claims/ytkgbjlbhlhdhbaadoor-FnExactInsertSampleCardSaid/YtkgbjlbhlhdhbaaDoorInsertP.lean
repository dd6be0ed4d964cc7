/-
  The program's InsertSample: both merged.
-/
import Derived.Test.YtkgbjlbhlhdhbaaDoorMergeP
import Derived.Test.YtkgbjlbhlhdhbaaDoorAny
namespace Go.Proofs.YtkgbjlbhlhdhbaaDoor
set_option maxRecDepth 20000
open Go.RowKit Go.Shelf
set_option linter.unusedSimpArgs false
set_option linter.unusedVariables false

theorem fault_one (x : Smp) : storeFaultM [x] = faultM x := by
  have hr : risesM [x] = true := risesM_yes (n := 1) rfl (fun j hj => absurd hj (by omega))
  rcases faultM_or x with h | h
  · rw [h]
    unfold storeFaultM
    rw [if_neg (by simp), if_neg (by simp [rightM, h]), if_neg (by simp [hr])]
  · rw [h]
    unfold storeFaultM
    rw [if_neg (by simp), if_pos (by simp [rightM, h])]
theorem insert_is (l : List Smp) (x : Smp) : insertM l x = if (mergeListsM l [x]).1 ≠ 0 then ((mergeListsM l [x]).1, false, []) else (0, decide (l.length < (mergeListsM l [x]).2.length), (mergeListsM l [x]).2) := by
  unfold insertM
  by_cases h0 : storeFaultM l = 0
  · rw [if_neg (by simp [h0])]
    by_cases h1 : faultM x = 0
    · rw [if_neg (by simp [h1])]
      have hl := storeFault_small h0
      by_cases h2 : findI l x < 0
      · have hm : mergeM l [x] = insM l x := by simp [mergeM, mergeStep, h2]
        rw [if_neg (by omega)]
        by_cases h3 : 160 ≤ l.length
        · have e : mergeListsM l [x] = (7, []) := by
            unfold mergeListsM
            rw [if_neg (by simp [h0]), if_neg (by rw [fault_one]; simp [h1]), hm, insM_len, if_pos (by omega)]
          rw [e, if_pos h3, if_pos (by simp)]
        · have e : mergeListsM l [x] = (0, insM l x) := by
            unfold mergeListsM
            rw [if_neg (by simp [h0]), if_neg (by rw [fault_one]; simp [h1]), hm, insM_len, if_neg (by omega)]
          rw [e, if_neg h3, if_neg (by simp)]
          simp [insM_len]
      · have hm : mergeM l [x] = l := by simp [mergeM, mergeStep, h2]
        have e : mergeListsM l [x] = (0, l) := by
          unfold mergeListsM
          rw [if_neg (by simp [h0]), if_neg (by rw [fault_one]; simp [h1]), hm, if_neg (by omega)]
        rw [if_pos (by omega), e, if_neg (by simp)]
        simp
    · have e : mergeListsM l [x] = (faultM x, []) := by
        unfold mergeListsM
        rw [if_neg (by simp [h0]), fault_one, if_pos h1]
      rw [if_pos h1, e, if_pos h1]
  · have e : mergeListsM l [x] = (storeFaultM l, []) := by
      unfold mergeListsM
      rw [if_pos h0]
    rw [if_pos h0, e, if_pos h0]

set_option maxRecDepth 100000 in
set_option maxHeartbeats 4000000 in
theorem implInsertSample (A : Option Addr) (n c : Nat) (l : List Smp) (x0 x1 x2 x3 : Int) (w : World) (ha : Rd eS w w.heap.size A l) (hn : l.length = n) (hnm : n ≤ 1048576) (hF : Flds w) :
    Calls Tryd.prog 12 #[.slice A n c, .agg #[.int .i64 x0, .int .i64 x1, .int .i64 x2, .int .i64 x3]] w (RetSt (insertM l (x0, x1, x2, x3)) w) := by
  have hB0a := (Below.refl w.heap.size w).alloc (Nat.le_refl _) (.cells #[.int .i64 x0, .int .i64 x1, .int .i64 x2, .int .i64 x3] 26)
  have hB0 := hB0a.alloc hB0a.size (.cells #[.int .i64 0, .bool false, .slice none 0 0] 30)
  have r0 := At.newAt' (t := 30) (cs := #[.int .i64 0, .bool false, .slice none 0 0]) (show (w.alloc (.cells #[.int .i64 x0, .int .i64 x1, .int .i64 x2, .int .i64 x3] 26)).heap.size = w.heap.size + 1 by simp)
  obtain ⟨w0, hw0⟩ : ∃ w0, (w.alloc (.cells #[.int .i64 x0, .int .i64 x1, .int .i64 x2, .int .i64 x3] 26)).alloc (.cells #[.int .i64 0, .bool false, .slice none 0 0] 30) = w0 := ⟨_, rfl⟩
  have hl1 := (Below.refl w0.heap.size w0).alloc (Nat.le_refl _) (.cells #[.int .i64 x0, .int .i64 x1, .int .i64 x2, .int .i64 x3] 26)
  have hs0 : w0.heap.size = w.heap.size + 1 + 1 := by rw [← hw0]; simp
  rw [hw0] at hB0 r0
  have hB1 := hB0.trans (hl1.mono hB0.size)
  have r1 := r0.below hl1 r0.lt
  have hM := implMergeLists A (some ⟨w0.heap.size, 0, none⟩) n 1 c 1 l [(x0, x1, x2, x3)] _ ((ha.lift hB0).lift hl1) ((rd_lit okS w0 26 [(x0, x1, x2, x3)] #[.int .i64 x0, .int .i64 x1, .int .i64 x2, .int .i64 x3] rfl).more (by simp)) hn rfl (hF.below hB1)
  have Hins := Lib.hid (insert_is l (x0, x1, x2, x3))
  obtain ⟨⟨mc, ml⟩, hmr⟩ : ∃ r, mergeListsM l [(x0, x1, x2, x3)] = r := ⟨_, rfl⟩
  have hml := mergeLists_le l [(x0, x1, x2, x3)]
  rw [hmr] at hM Hins hml
  simp only at hml
  have Hn := Lib.hid hn
  rw [hs0] at hM
  rw [← hw0] at hM
  rw [← hw0] at hl1 hB0 hB1 r1
  clear hmr hn hw0 r0 hs0 ha hF hB0a
  go_enter Tryd.func12, Tryd.ntmps12
  go_wp2_with fail
  refine (hM).mono ?_
  rintro e w2 ⟨A2, n2, c2, rfl, ow2, hb2⟩
  have hB2 := hB1.trans (hb2.mono hB1.size)
  have r2 := r1.below hb2 r1.lt
  have hl2 := Ow.len okS ow2
  have hB3 := hB2.alloc hB2.size (.cells #[.int .i64 mc, .slice A2 n2 c2] 35)
  have r3 := r2.alloc (.cells #[.int .i64 mc, .slice A2 n2 c2] 35)
  have ow3 := ow2.alloc (.cells #[.int .i64 mc, .slice A2 n2 c2] 35)
  have m3 := At.new w2 35 #[.int .i64 mc, .slice A2 n2 c2]
  obtain ⟨c0, c1, cc2, _⟩ := r3.three
  obtain ⟨d0, d1, _, _⟩ := m3.two
  have hlt := r1.lt
  have Hl2 := Lib.hid hl2
  clear hM hl2
  by_cases h0 : mc = 0
  · subst h0
    have h00 : ((0 : Int) != 0) = false := rfl
    by_cases hgt : n < n2
    · have hi : (n : Int) < (n2 : Int) := by omega
      have Hg := Lib.hid (show insertM l (x0, x1, x2, x3) = (0, true, ml) by rw [Hins.out, if_neg (by simp)]; simp only [Hl2.out, Hn.out, hgt, decide_true])
      clear hgt
      go_wp2_with fail
      refine bodyPost_ret (v := .agg #[.int .i64 0, .bool true, .slice A2 n2 c2]) (by simp [results, Tryd.results12, go_sem, c0, c1, cc2]) rfl ?_
      rw [Hg.out]
      exact ⟨_, _, _, rfl, ((((ow3.under (p := ⟨w.heap.size + 1, 0, none⟩) hlt _).under (p := ⟨w.heap.size + 1, 1, none⟩) hlt _).under (p := ⟨w.heap.size + 1, 2, none⟩) hlt _).from_ hB1.size), ((hB3.setCell (p := ⟨w.heap.size + 1, 0, none⟩) (Nat.le_succ _) _).setCell (p := ⟨w.heap.size + 1, 1, none⟩) (Nat.le_succ _) _).setCell (p := ⟨w.heap.size + 1, 2, none⟩) (Nat.le_succ _) _⟩
    · have hi : (n2 : Int) ≤ (n : Int) := by omega
      have hle : n2 ≤ n := by omega
      have Hg := Lib.hid (show insertM l (x0, x1, x2, x3) = (0, false, ml) by rw [Hins.out, if_neg (by simp)]; rw [show decide (l.length < ml.length) = false from decide_eq_false (by rw [Hl2.out, Hn.out]; exact hgt)])
      clear hgt
      go_wp2_with fail
      refine bodyPost_ret (v := .agg #[.int .i64 0, .bool false, .slice A2 n2 c2]) (by simp [results, Tryd.results12, go_sem, c0, c1, cc2, hle]) rfl ?_
      rw [Hg.out]
      exact ⟨_, _, _, rfl, ((((ow3.under (p := ⟨w.heap.size + 1, 0, none⟩) hlt _).under (p := ⟨w.heap.size + 1, 1, none⟩) hlt _).under (p := ⟨w.heap.size + 1, 2, none⟩) hlt _).from_ hB1.size), ((hB3.setCell (p := ⟨w.heap.size + 1, 0, none⟩) (Nat.le_succ _) _).setCell (p := ⟨w.heap.size + 1, 1, none⟩) (Nat.le_succ _) _).setCell (p := ⟨w.heap.size + 1, 2, none⟩) (Nat.le_succ _) _⟩
  · have hne : (mc != 0) = true := by rw [bne_iff_ne]; exact h0
    have Hg := Lib.hid (show insertM l (x0, x1, x2, x3) = (mc, false, []) by rw [Hins.out, if_pos h0])
    clear h0
    go_wp2_with fail
    refine bodyPost_ret (v := .agg #[.int .i64 mc, .bool false, .slice none 0 0]) (by simp [results, Tryd.results12, go_sem, c0, c1, cc2]) rfl ?_
    rw [Hg.out]
    exact ⟨_, _, _, rfl, Ow.nil, ((hB3.setCell (p := ⟨w.heap.size + 1, 0, none⟩) (Nat.le_succ _) _).setCell (p := ⟨w.heap.size + 1, 1, none⟩) (Nat.le_succ _) _).setCell (p := ⟨w.heap.size + 1, 2, none⟩) (Nat.le_succ _) _⟩

theorem hiInsertSample : ∀ (A : Option Addr) (n c : Nat) (l : List Smp) (x0 x1 x2 x3 : Int) (W : World), Rd eS W W.heap.size A l → l.length = n → n ≤ 1048576 → Flds W → Calls Tryd.prog 12 #[.slice A n c, .agg #[.int .i64 x0, .int .i64 x1, .int .i64 x2, .int .i64 x3]] W (RetSt (insertM l (x0, x1, x2, x3)) W) :=
  fun A n c l x0 x1 x2 x3 W ha hn hm hF => implInsertSample A n c l x0 x1 x2 x3 W ha hn hm hF
end Go.Proofs.YtkgbjlbhlhdhbaaDoor
