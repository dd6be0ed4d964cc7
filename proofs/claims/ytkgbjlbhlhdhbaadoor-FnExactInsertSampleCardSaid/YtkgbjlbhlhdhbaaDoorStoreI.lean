/-
  A sample put into a store, and one looked for: the model's.
-/
import Derived.Test.YtkgbjlbhlhdhbaaDoorInsert
import Derived.Test.YtkgbjlbhlhdhbaaDoorSmpRes
namespace Go.Proofs.YtkgbjlbhlhdhbaaDoor
set_option maxRecDepth 20000
open Go.RowKit
set_option linter.unusedSimpArgs false

theorem findI_or (l : List Smp) (x : Smp) : findI l x = -1 ∨ ∃ k : Nat, findI l x = (k : Int) ∧ k < l.length := by
  unfold findI
  rcases h : findM l x with _ | i
  · exact .inl rfl
  · refine .inr ⟨i, rfl, ?_⟩
    unfold findM at h
    rw [List.find?_range_eq_some] at h
    simpa using h.2.1
theorem storeFault_zero {l : List Smp} (h : storeFaultM l = 0) : l.length ≤ 160 := by
  unfold storeFaultM at h
  by_cases hb : 160 < l.length
  · rw [if_pos hb] at h
    cases h
  · omega
/-- What InsertSample answers. -/
def insertM (l : List Smp) (x : Smp) : Int × Bool × List Smp :=
  if storeFaultM l ≠ 0 then (storeFaultM l, false, []) else if faultM x ≠ 0 then (faultM x, false, []) else if 0 ≤ findI l x then (0, false, l) else if 160 ≤ l.length then (7, false, []) else (0, true, insM l x)
/-- What FindSample answers. -/
def lookM (l : List Smp) (x : Smp) : Int × Smp :=
  if storeFaultM l ≠ 0 then (storeFaultM l, (0, 0, 0, 0)) else match findM l x with | some i => (0, (l[i]?).getD (0, 0, 0, 0)) | none => (4, (0, 0, 0, 0))

set_option maxRecDepth 100000 in
set_option maxHeartbeats 2000000 in
theorem specInsertSample (A : Option Addr) (n c : Nat) (l : List Smp) (x0 x1 x2 x3 : Int) (w : World) (ha : Rd eS w w.heap.size A l) (hn : l.length = n) (hm : n ≤ 1048576) :
    Calls Tryd.prog 18 #[.slice A n c, .agg #[.int .i64 x0, .int .i64 x1, .int .i64 x2, .int .i64 x3]] w fun e w' => RetSt (insertM l (x0, x1, x2, x3)) w e w' := by
  have hB0 : Below w.heap.size w ((w.alloc (.cells #[.int .i64 x0, .int .i64 x1, .int .i64 x2, .int .i64 x3] 26)).alloc (.cells #[.int .i64 0, .bool false, .slice none 0 0] 30)) := ((Below.refl _ _).alloc (Nat.le_refl _) _).alloc (by simp) _
  have bx0 := (At.new w 26 #[.int .i64 x0, .int .i64 x1, .int .i64 x2, .int .i64 x3]).alloc (.cells #[.int .i64 0, .bool false, .slice none 0 0] 30)
  have e1 : (w.alloc (.cells #[.int .i64 x0, .int .i64 x1, .int .i64 x2, .int .i64 x3] 26)).heap.size = w.heap.size + 1 := by simp
  have r0 := At.new (w.alloc (.cells #[.int .i64 x0, .int .i64 x1, .int .i64 x2, .int .i64 x3] 26)) 30 #[.int .i64 0, .bool false, .slice none 0 0]
  rw [e1] at r0
  have ha0 := ha.lift hB0
  have HF := specStoreFault A n c l _ ha0 hn
  by_cases h0 : storeFaultM l = 0
  rotate_left
  · rw [show insertM l (x0, x1, x2, x3) = (storeFaultM l, false, []) from if_pos h0]
    have hne : (storeFaultM l != 0) = true := by rw [bne_iff_ne]; exact h0
    generalize storeFaultM l = sf at *
    clear h0
    go_enter Tryd.func18, Tryd.ntmps18
    go_wp2_with fail
    refine (HF).mono ?_
    rintro e w1 ⟨rfl, hb1⟩
    have hB1 := hB0.trans (hb1.mono hB0.size)
    have bx1 := bx0.below hb1 bx0.lt
    have r1 := r0.below hb1 r0.lt
    have ha1 := ha0.lift hb1
    obtain ⟨b1_0, b1_1, b1_2, b1_3, _, _, _, _⟩ := bx1.four
    obtain ⟨c0, c1, c2, _, _, _⟩ := r1.three
    go_wp2_with fail
    refine bodyPost_ret (v := .agg #[.int .i64 sf, .bool false, .slice none 0 0]) (by simp [results, Tryd.results18, go_sem, c0, c1, c2]) rfl ?_
    exact ⟨_, _, _, rfl, Ow.nil, (((hB1.setCell (by simp) _).setCell (by simp) _).setCell (by simp) _)⟩
  have h160 := storeFault_zero h0
  rw [h0] at HF
  rcases faultM_or (x0, x1, x2, x3) with hf | hf
  rotate_left
  · rw [show insertM l (x0, x1, x2, x3) = (3, false, []) by unfold insertM; rw [if_neg (by simp [h0]), if_pos (by simp [hf]), hf]]
    have XF := specSampleFault x0 x1 x2 x3
    rw [hf] at XF
    clear hf h0
    go_enter Tryd.func18, Tryd.ntmps18
    go_wp2_with fail
    refine (HF).mono ?_
    rintro e w1 ⟨rfl, hb1⟩
    have hB1 := hB0.trans (hb1.mono hB0.size)
    have bx1 := bx0.below hb1 bx0.lt
    have r1 := r0.below hb1 r0.lt
    have ha1 := ha0.lift hb1
    obtain ⟨b1_0, b1_1, b1_2, b1_3, _, _, _, _⟩ := bx1.four
    go_wp2_with fail
    refine (XF _).mono ?_
    rintro e w2 ⟨rfl, hb2⟩
    have hB2 := hB1.trans (hb2.mono hB1.size)
    have bx2 := bx1.below hb2 bx1.lt
    have r2 := r1.below hb2 r1.lt
    have ha2 := ha1.lift hb2
    obtain ⟨b2_0, b2_1, b2_2, b2_3, _, _, _, _⟩ := bx2.four
    obtain ⟨c0, c1, c2, _, _, _⟩ := r2.three
    go_wp2_with fail
    refine bodyPost_ret (v := .agg #[.int .i64 3, .bool false, .slice none 0 0]) (by simp [results, Tryd.results18, go_sem, c0, c1, c2]) rfl ?_
    exact ⟨_, _, _, rfl, Ow.nil, (((hB2.setCell (by simp) _).setCell (by simp) _).setCell (by simp) _)⟩
  have XF := specSampleFault x0 x1 x2 x3
  rw [hf] at XF
  have HL := fun W (h1 : Rd eS W W.heap.size A l) h2 h3 => l3Find A n c l w.heap.size 0 x0 x1 x2 x3 W h1 hn (by unfold maxLen; omega) h2 h3
  rcases findI_or l (x0, x1, x2, x3) with hi | ⟨k, hi, hk⟩
  · rw [hi] at HL
    by_cases hfull : 160 ≤ n
    · rw [show insertM l (x0, x1, x2, x3) = (7, false, []) by unfold insertM; rw [if_neg (by simp [h0]), if_neg (by simp [hf]), if_neg (by rw [hi]; omega), if_pos (by omega)]]
      have hfi : (160 : Int) ≤ (n : Int) := by omega
      clear hf h0 hi
      go_enter Tryd.func18, Tryd.ntmps18
      go_wp2_with fail
      refine (HF).mono ?_
      rintro e w1 ⟨rfl, hb1⟩
      have hB1 := hB0.trans (hb1.mono hB0.size)
      have bx1 := bx0.below hb1 bx0.lt
      have r1 := r0.below hb1 r0.lt
      have ha1 := ha0.lift hb1
      obtain ⟨b1_0, b1_1, b1_2, b1_3, _, _, _, _⟩ := bx1.four
      go_wp2_with fail
      refine (XF _).mono ?_
      rintro e w2 ⟨rfl, hb2⟩
      have hB2 := hB1.trans (hb2.mono hB1.size)
      have bx2 := bx1.below hb2 bx1.lt
      have r2 := r1.below hb2 r1.lt
      have ha2 := ha1.lift hb2
      obtain ⟨b2_0, b2_1, b2_2, b2_3, _, _, _, _⟩ := bx2.four
      go_wp2_with fail
      refine (HL _ ha2 ⟨bx2.cell 0, bx2.cell 1, bx2.cell 2, bx2.cell 3⟩ bx2.lt).mono ?_
      rintro e w3 ⟨rfl, hb3⟩
      have hB3 := hB2.trans (hb3.mono hB2.size)
      have bx3 := bx2.below hb3 bx2.lt
      have r3 := r2.below hb3 r2.lt
      have ha3 := ha2.lift hb3
      obtain ⟨b3_0, b3_1, b3_2, b3_3, _, _, _, _⟩ := bx3.four
      obtain ⟨c0, c1, c2, _, _, _⟩ := r3.three
      go_wp2_with fail
      refine bodyPost_ret (v := .agg #[.int .i64 7, .bool false, .slice none 0 0]) (by simp [results, Tryd.results18, go_sem, c0, c1, c2]) rfl ?_
      exact ⟨_, _, _, rfl, Ow.nil, (((hB3.setCell (by simp) _).setCell (by simp) _).setCell (by simp) _)⟩
    · rw [show insertM l (x0, x1, x2, x3) = (0, true, insM l (x0, x1, x2, x3)) by unfold insertM; rw [if_neg (by simp [h0]), if_neg (by simp [hf]), if_neg (by rw [hi]; omega), if_neg (by omega)]]
      have hfi : ¬ (160 : Int) ≤ (n : Int) := by omega
      clear hf h0 hi
      go_enter Tryd.func18, Tryd.ntmps18
      go_wp2_with fail
      refine (HF).mono ?_
      rintro e w1 ⟨rfl, hb1⟩
      have hB1 := hB0.trans (hb1.mono hB0.size)
      have bx1 := bx0.below hb1 bx0.lt
      have r1 := r0.below hb1 r0.lt
      have ha1 := ha0.lift hb1
      obtain ⟨b1_0, b1_1, b1_2, b1_3, _, _, _, _⟩ := bx1.four
      go_wp2_with fail
      refine (XF _).mono ?_
      rintro e w2 ⟨rfl, hb2⟩
      have hB2 := hB1.trans (hb2.mono hB1.size)
      have bx2 := bx1.below hb2 bx1.lt
      have r2 := r1.below hb2 r1.lt
      have ha2 := ha1.lift hb2
      obtain ⟨b2_0, b2_1, b2_2, b2_3, _, _, _, _⟩ := bx2.four
      go_wp2_with fail
      refine (HL _ ha2 ⟨bx2.cell 0, bx2.cell 1, bx2.cell 2, bx2.cell 3⟩ bx2.lt).mono ?_
      rintro e w3 ⟨rfl, hb3⟩
      have hB3 := hB2.trans (hb3.mono hB2.size)
      have bx3 := bx2.below hb3 bx2.lt
      have r3 := r2.below hb3 r2.lt
      have ha3 := ha2.lift hb3
      obtain ⟨b3_0, b3_1, b3_2, b3_3, _, _, _, _⟩ := bx3.four
      go_wp2_with fail
      refine (l3Insert A n c l x0 x1 x2 x3 _ ha3 hn hm).mono ?_
      rintro e w4 ⟨A4, c4, rfl, ow4, hb4⟩
      have hB4 := hB3.trans (hb4.mono hB3.size)
      have bx4 := bx3.below hb4 bx3.lt
      have r4 := r3.below hb4 r3.lt
      have ha4 := ha3.lift hb4
      obtain ⟨b4_0, b4_1, b4_2, b4_3, _, _, _, _⟩ := bx4.four
      obtain ⟨c0, c1, c2, _, _, _⟩ := r4.three
      go_wp2_with fail
      refine bodyPost_ret (v := .agg #[.int .i64 0, .bool true, .slice A4 (n + 1) c4]) (by simp [results, Tryd.results18, go_sem, c0, c1, c2]) rfl ?_
      exact ⟨_, _, _, rfl, ((((ow4.under (p := ⟨w.heap.size + 1, 0, none⟩) r3.lt _).under (p := ⟨w.heap.size + 1, 1, none⟩) r3.lt _).under (p := ⟨w.heap.size + 1, 2, none⟩) r3.lt _).from_ hB3.size), (((hB4.setCell (by simp) _).setCell (by simp) _).setCell (by simp) _)⟩
  · rw [hi] at HL
    rw [show insertM l (x0, x1, x2, x3) = (0, false, l) by unfold insertM; rw [if_neg (by simp [h0]), if_neg (by simp [hf]), if_pos (by rw [hi]; omega)]]
    have hk0 : (0 : Int) ≤ (k : Int) := by omega
    clear hf h0 hi
    go_enter Tryd.func18, Tryd.ntmps18
    go_wp2_with fail
    refine (HF).mono ?_
    rintro e w1 ⟨rfl, hb1⟩
    have hB1 := hB0.trans (hb1.mono hB0.size)
    have bx1 := bx0.below hb1 bx0.lt
    have r1 := r0.below hb1 r0.lt
    have ha1 := ha0.lift hb1
    obtain ⟨b1_0, b1_1, b1_2, b1_3, _, _, _, _⟩ := bx1.four
    go_wp2_with fail
    refine (XF _).mono ?_
    rintro e w2 ⟨rfl, hb2⟩
    have hB2 := hB1.trans (hb2.mono hB1.size)
    have bx2 := bx1.below hb2 bx1.lt
    have r2 := r1.below hb2 r1.lt
    have ha2 := ha1.lift hb2
    obtain ⟨b2_0, b2_1, b2_2, b2_3, _, _, _, _⟩ := bx2.four
    go_wp2_with fail
    refine (HL _ ha2 ⟨bx2.cell 0, bx2.cell 1, bx2.cell 2, bx2.cell 3⟩ bx2.lt).mono ?_
    rintro e w3 ⟨rfl, hb3⟩
    have hB3 := hB2.trans (hb3.mono hB2.size)
    have bx3 := bx2.below hb3 bx2.lt
    have r3 := r2.below hb3 r2.lt
    have ha3 := ha2.lift hb3
    obtain ⟨b3_0, b3_1, b3_2, b3_3, _, _, _, _⟩ := bx3.four
    go_wp2_with fail
    refine (l3Copy A n c l _ ha3 hn hm).mono ?_
    rintro e w4 ⟨A4, c4, rfl, ow4, hb4⟩
    have hB4 := hB3.trans (hb4.mono hB3.size)
    have bx4 := bx3.below hb4 bx3.lt
    have r4 := r3.below hb4 r3.lt
    have ha4 := ha3.lift hb4
    obtain ⟨b4_0, b4_1, b4_2, b4_3, _, _, _, _⟩ := bx4.four
    obtain ⟨c0, c1, c2, _, _, _⟩ := r4.three
    go_wp2_with fail
    refine bodyPost_ret (v := .agg #[.int .i64 0, .bool false, .slice A4 n c4]) (by simp [results, Tryd.results18, go_sem, c0, c1, c2]) rfl ?_
    exact ⟨_, _, _, rfl, ((((ow4.under (p := ⟨w.heap.size + 1, 0, none⟩) r3.lt _).under (p := ⟨w.heap.size + 1, 1, none⟩) r3.lt _).under (p := ⟨w.heap.size + 1, 2, none⟩) r3.lt _).from_ hB3.size), (((hB4.setCell (by simp) _).setCell (by simp) _).setCell (by simp) _)⟩

theorem findI_find {l : List Smp} {x : Smp} {k : Nat} (h : findI l x = (k : Int)) : findM l x = some k := by
  unfold findI at h
  rcases hf : findM l x with _ | i
  · rw [hf] at h
    simp only at h
    omega
  · rw [hf] at h
    simp only at h
    rw [show i = k by omega]
theorem findI_miss {l : List Smp} {x : Smp} (h : findI l x = -1) : findM l x = none := by
  unfold findI at h
  rcases hf : findM l x with _ | i
  · rfl
  · rw [hf] at h
    simp only at h
    omega

set_option maxRecDepth 100000 in
set_option maxHeartbeats 2000000 in
theorem specFindSample (A : Option Addr) (n c : Nat) (l : List Smp) (x0 x1 x2 x3 : Int) (w : World) (ha : Rd eS w w.heap.size A l) (hn : l.length = n) (hm : n ≤ 1048576) :
    Calls Tryd.prog 21 #[.slice A n c, .agg #[.int .i64 x0, .int .i64 x1, .int .i64 x2, .int .i64 x3]] w fun e w' => RetSR (lookM l (x0, x1, x2, x3)) w e w' := by
  have hB0 : Below w.heap.size w ((w.alloc (.cells #[.int .i64 x0, .int .i64 x1, .int .i64 x2, .int .i64 x3] 26)).alloc (.cells #[.int .i64 0, .int .i64 0, .int .i64 0, .int .i64 0, .int .i64 0] 38)) := ((Below.refl _ _).alloc (Nat.le_refl _) _).alloc (by simp) _
  have bx0 := (At.new w 26 #[.int .i64 x0, .int .i64 x1, .int .i64 x2, .int .i64 x3]).alloc (.cells #[.int .i64 0, .int .i64 0, .int .i64 0, .int .i64 0, .int .i64 0] 38)
  have e1 : (w.alloc (.cells #[.int .i64 x0, .int .i64 x1, .int .i64 x2, .int .i64 x3] 26)).heap.size = w.heap.size + 1 := by simp
  have r0 := At.new (w.alloc (.cells #[.int .i64 x0, .int .i64 x1, .int .i64 x2, .int .i64 x3] 26)) 38 #[.int .i64 0, .int .i64 0, .int .i64 0, .int .i64 0, .int .i64 0]
  rw [e1] at r0
  have ha0 := ha.lift hB0
  have HF := specStoreFault A n c l _ ha0 hn
  by_cases h0 : storeFaultM l = 0
  rotate_left
  · rw [show lookM l (x0, x1, x2, x3) = (storeFaultM l, (0, 0, 0, 0)) from if_pos h0]
    have hne : (storeFaultM l != 0) = true := by rw [bne_iff_ne]; exact h0
    generalize storeFaultM l = sf at *
    clear h0
    go_enter Tryd.func21, Tryd.ntmps21
    go_wp2_with fail
    refine (HF).mono ?_
    rintro e w1 ⟨rfl, hb1⟩
    have hB1 := hB0.trans (hb1.mono hB0.size)
    have bx1 := bx0.below hb1 bx0.lt
    have r1 := r0.below hb1 r0.lt
    have ha1 := ha0.lift hb1
    obtain ⟨b1_0, b1_1, b1_2, b1_3, _, _, _, _⟩ := bx1.four
    obtain ⟨c0, c1, c2, c3, c4, _, _, _, _, _⟩ := r1.five
    go_wp2_with fail
    refine bodyPost_ret (v := .agg #[.int .i64 sf, .int .i64 0, .int .i64 0, .int .i64 0, .int .i64 0]) (by simp [results, Tryd.results21, go_sem, c0, c1, c2, c3, c4]) rfl ?_
    exact ⟨rfl, (((((hB1.setCell (by simp) _).setCell (by simp) _).setCell (by simp) _).setCell (by simp) _).setCell (by simp) _)⟩
  have h160 := storeFault_zero h0
  rw [h0] at HF
  have HL := fun W (h1 : Rd eS W W.heap.size A l) h2 h3 => l3Find A n c l w.heap.size 0 x0 x1 x2 x3 W h1 hn (by unfold maxLen; omega) h2 h3
  rcases findI_or l (x0, x1, x2, x3) with hi | ⟨k, hi, hk⟩
  · rw [hi] at HL
    rw [show lookM l (x0, x1, x2, x3) = (4, (0, 0, 0, 0)) by unfold lookM; rw [if_neg (by simp [h0]), findI_miss hi]]
    clear h0 hi
    go_enter Tryd.func21, Tryd.ntmps21
    go_wp2_with fail
    refine (HF).mono ?_
    rintro e w1 ⟨rfl, hb1⟩
    have hB1 := hB0.trans (hb1.mono hB0.size)
    have bx1 := bx0.below hb1 bx0.lt
    have r1 := r0.below hb1 r0.lt
    have ha1 := ha0.lift hb1
    obtain ⟨b1_0, b1_1, b1_2, b1_3, _, _, _, _⟩ := bx1.four
    go_wp2_with fail
    refine (HL _ ha1 ⟨bx1.cell 0, bx1.cell 1, bx1.cell 2, bx1.cell 3⟩ bx1.lt).mono ?_
    rintro e w2 ⟨rfl, hb2⟩
    have hB2 := hB1.trans (hb2.mono hB1.size)
    have bx2 := bx1.below hb2 bx1.lt
    have r2 := r1.below hb2 r1.lt
    have ha2 := ha1.lift hb2
    obtain ⟨b2_0, b2_1, b2_2, b2_3, _, _, _, _⟩ := bx2.four
    obtain ⟨c0, c1, c2, c3, c4, _, _, _, _, _⟩ := r2.five
    go_wp2_with fail
    refine bodyPost_ret (v := .agg #[.int .i64 4, .int .i64 0, .int .i64 0, .int .i64 0, .int .i64 0]) (by simp [results, Tryd.results21, go_sem, c0, c1, c2, c3, c4]) rfl ?_
    exact ⟨rfl, (((((hB2.setCell (by simp) _).setCell (by simp) _).setCell (by simp) _).setCell (by simp) _).setCell (by simp) _)⟩
  · rw [hi] at HL
    obtain ⟨g, o, a0, a1, a2, a3, rfl, hg, hx, -⟩ := ha0.smp hk
    rw [show lookM l (x0, x1, x2, x3) = (0, (a0, a1, a2, a3)) by unfold lookM; rw [if_neg (by simp [h0]), findI_find hi]; simp only; rw [hx]; rfl]
    have hkn : (k : Int) < (n : Int) := by omega
    have hk0 : (0 : Int) ≤ (k : Int) := by omega
    have Hx := Lib.hid hx
    clear h0 hi hx
    go_enter Tryd.func21, Tryd.ntmps21
    go_wp2_with fail
    refine (HF).mono ?_
    rintro e w1 ⟨rfl, hb1⟩
    have hB1 := hB0.trans (hb1.mono hB0.size)
    have bx1 := bx0.below hb1 bx0.lt
    have r1 := r0.below hb1 r0.lt
    have ha1 := ha0.lift hb1
    obtain ⟨b1_0, b1_1, b1_2, b1_3, _, _, _, _⟩ := bx1.four
    go_wp2_with fail
    refine (HL _ ha1 ⟨bx1.cell 0, bx1.cell 1, bx1.cell 2, bx1.cell 3⟩ bx1.lt).mono ?_
    rintro e w2 ⟨rfl, hb2⟩
    have hB2 := hB1.trans (hb2.mono hB1.size)
    have bx2 := bx1.below hb2 bx1.lt
    have r2 := r1.below hb2 r1.lt
    have ha2 := ha1.lift hb2
    obtain ⟨b2_0, b2_1, b2_2, b2_3, _, _, _, _⟩ := bx2.four
    obtain ⟨a_0, a_1, a_2, a_3⟩ := ha2.smp_is Hx.out
    obtain ⟨c0, c1, c2, c3, c4, _, _, _, _, _⟩ := r2.five
    go_wp2_with fail
    refine bodyPost_ret (v := .agg #[.int .i64 0, .int .i64 a0, .int .i64 a1, .int .i64 a2, .int .i64 a3]) (by simp [results, Tryd.results21, go_sem, c0, c1, c2, c3, c4]) rfl ?_
    exact ⟨rfl, (((((hB2.setCell (by simp) _).setCell (by simp) _).setCell (by simp) _).setCell (by simp) _).setCell (by simp) _)⟩
end Go.Proofs.YtkgbjlbhlhdhbaaDoor
