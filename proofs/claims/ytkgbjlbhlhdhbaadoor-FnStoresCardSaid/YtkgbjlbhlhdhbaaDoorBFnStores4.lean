/-
  Texts of one proof, joined: each has its own namespace.
-/
import Derived.Test.YtkgbjlbhlhdhbaaDoorBFnStores3
import Derived.Test.YtkgbjlbhlhdhbaaDoorBFnStores0
import Derived.Test.YtkgbjlbhlhdhbaaDoorBFnStores2
/-
  A sample put into a store, and one looked for: the model's.
-/
namespace Go.Proofs.YtkgbjlbhlhdhbaaDoor
set_option maxRecDepth 20000
open Go.RowKit
set_option linter.unusedSimpArgs false

theorem findI_or (l : List Smp) (x : Smp) : findI l x = -1 ∨ ∃ k : Nat, findI l x = (k : Int) ∧ k < l.length := by
  unfold findI
  rcases h : findM l x with _ | i
  · exact .inl rfl
  · refine .inr ⟨i, rfl, ?_⟩
    unfold findM at h
    rw [List.find?_range_eq_some] at h
    simpa using h.2.1
theorem storeFault_zero {l : List Smp} (h : storeFaultM l = 0) : l.length ≤ 160 := by
  unfold storeFaultM at h
  by_cases hb : 160 < l.length
  · rw [if_pos hb] at h
    cases h
  · omega
/-- What InsertSample answers. -/
def insertM (l : List Smp) (x : Smp) : Int × Bool × List Smp :=
  if storeFaultM l ≠ 0 then (storeFaultM l, false, []) else if faultM x ≠ 0 then (faultM x, false, []) else if 0 ≤ findI l x then (0, false, l) else if 160 ≤ l.length then (7, false, []) else (0, true, insM l x)
/-- What FindSample answers. -/
def lookM (l : List Smp) (x : Smp) : Int × Smp :=
  if storeFaultM l ≠ 0 then (storeFaultM l, (0, 0, 0, 0)) else match findM l x with | some i => (0, (l[i]?).getD (0, 0, 0, 0)) | none => (4, (0, 0, 0, 0))

set_option maxRecDepth 100000 in
set_option maxHeartbeats 2000000 in
theorem specInsertSample (A : Option Addr) (n c : Nat) (l : List Smp) (x0 x1 x2 x3 : Int) (w : World) (ha : Rd eS w w.heap.size A l) (hn : l.length = n) (hm : n ≤ 1048576) :
    Calls Tryd.prog 18 #[.slice A n c, .agg #[.int .i64 x0, .int .i64 x1, .int .i64 x2, .int .i64 x3]] w fun e w' => RetSt (insertM l (x0, x1, x2, x3)) w e w' := by
  have hB0 : Below w.heap.size w ((w.alloc (.cells #[.int .i64 x0, .int .i64 x1, .int .i64 x2, .int .i64 x3] 26)).alloc (.cells #[.int .i64 0, .bool false, .slice none 0 0] 30)) := ((Below.refl _ _).alloc (Nat.le_refl _) _).alloc (by simp) _
  have bx0 := (At.new w 26 #[.int .i64 x0, .int .i64 x1, .int .i64 x2, .int .i64 x3]).alloc (.cells #[.int .i64 0, .bool false, .slice none 0 0] 30)
  have e1 : (w.alloc (.cells #[.int .i64 x0, .int .i64 x1, .int .i64 x2, .int .i64 x3] 26)).heap.size = w.heap.size + 1 := by simp
  have r0 := At.new (w.alloc (.cells #[.int .i64 x0, .int .i64 x1, .int .i64 x2, .int .i64 x3] 26)) 30 #[.int .i64 0, .bool false, .slice none 0 0]
  rw [e1] at r0
  have ha0 := ha.lift hB0
  have HF := specStoreFault A n c l _ ha0 hn
  by_cases h0 : storeFaultM l = 0
  rotate_left
  · rw [show insertM l (x0, x1, x2, x3) = (storeFaultM l, false, []) from if_pos h0]
    have hne : (storeFaultM l != 0) = true := by rw [bne_iff_ne]; exact h0
    generalize storeFaultM l = sf at *
    clear h0
    go_enter Tryd.func18, Tryd.ntmps18
    go_wp2_with fail
    refine (HF).mono ?_
    rintro e w1 ⟨rfl, hb1⟩
    have hB1 := hB0.trans (hb1.mono hB0.size)
    have bx1 := bx0.below hb1 bx0.lt
    have r1 := r0.below hb1 r0.lt
    have ha1 := ha0.lift hb1
    obtain ⟨b1_0, b1_1, b1_2, b1_3, _, _, _, _⟩ := bx1.four
    obtain ⟨c0, c1, c2, _, _, _⟩ := r1.three
    go_wp2_with fail
    refine bodyPost_ret (v := .agg #[.int .i64 sf, .bool false, .slice none 0 0]) (by simp [results, Tryd.results18, go_sem, c0, c1, c2]) rfl ?_
    exact ⟨_, _, _, rfl, Ow.nil, (((hB1.setCell (by simp) _).setCell (by simp) _).setCell (by simp) _)⟩
  have h160 := storeFault_zero h0
  rw [h0] at HF
  rcases faultM_or (x0, x1, x2, x3) with hf | hf
  rotate_left
  · rw [show insertM l (x0, x1, x2, x3) = (3, false, []) by unfold insertM; rw [if_neg (by simp [h0]), if_pos (by simp [hf]), hf]]
    have XF := specSampleFault x0 x1 x2 x3
    rw [hf] at XF
    clear hf h0
    go_enter Tryd.func18, Tryd.ntmps18
    go_wp2_with fail
    refine (HF).mono ?_
    rintro e w1 ⟨rfl, hb1⟩
    have hB1 := hB0.trans (hb1.mono hB0.size)
    have bx1 := bx0.below hb1 bx0.lt
    have r1 := r0.below hb1 r0.lt
    have ha1 := ha0.lift hb1
    obtain ⟨b1_0, b1_1, b1_2, b1_3, _, _, _, _⟩ := bx1.four
    go_wp2_with fail
    refine (XF _).mono ?_
    rintro e w2 ⟨rfl, hb2⟩
    have hB2 := hB1.trans (hb2.mono hB1.size)
    have bx2 := bx1.below hb2 bx1.lt
    have r2 := r1.below hb2 r1.lt
    have ha2 := ha1.lift hb2
    obtain ⟨b2_0, b2_1, b2_2, b2_3, _, _, _, _⟩ := bx2.four
    obtain ⟨c0, c1, c2, _, _, _⟩ := r2.three
    go_wp2_with fail
    refine bodyPost_ret (v := .agg #[.int .i64 3, .bool false, .slice none 0 0]) (by simp [results, Tryd.results18, go_sem, c0, c1, c2]) rfl ?_
    exact ⟨_, _, _, rfl, Ow.nil, (((hB2.setCell (by simp) _).setCell (by simp) _).setCell (by simp) _)⟩
  have XF := specSampleFault x0 x1 x2 x3
  rw [hf] at XF
  have HL := fun W (h1 : Rd eS W W.heap.size A l) h2 h3 => l3Find A n c l w.heap.size 0 x0 x1 x2 x3 W h1 hn (by unfold maxLen; omega) h2 h3
  rcases findI_or l (x0, x1, x2, x3) with hi | ⟨k, hi, hk⟩
  · rw [hi] at HL
    by_cases hfull : 160 ≤ n
    · rw [show insertM l (x0, x1, x2, x3) = (7, false, []) by unfold insertM; rw [if_neg (by simp [h0]), if_neg (by simp [hf]), if_neg (by rw [hi]; omega), if_pos (by omega)]]
      have hfi : (160 : Int) ≤ (n : Int) := by omega
      clear hf h0 hi
      go_enter Tryd.func18, Tryd.ntmps18
      go_wp2_with fail
      refine (HF).mono ?_
      rintro e w1 ⟨rfl, hb1⟩
      have hB1 := hB0.trans (hb1.mono hB0.size)
      have bx1 := bx0.below hb1 bx0.lt
      have r1 := r0.below hb1 r0.lt
      have ha1 := ha0.lift hb1
      obtain ⟨b1_0, b1_1, b1_2, b1_3, _, _, _, _⟩ := bx1.four
      go_wp2_with fail
      refine (XF _).mono ?_
      rintro e w2 ⟨rfl, hb2⟩
      have hB2 := hB1.trans (hb2.mono hB1.size)
      have bx2 := bx1.below hb2 bx1.lt
      have r2 := r1.below hb2 r1.lt
      have ha2 := ha1.lift hb2
      obtain ⟨b2_0, b2_1, b2_2, b2_3, _, _, _, _⟩ := bx2.four
      go_wp2_with fail
      refine (HL _ ha2 ⟨bx2.cell 0, bx2.cell 1, bx2.cell 2, bx2.cell 3⟩ bx2.lt).mono ?_
      rintro e w3 ⟨rfl, hb3⟩
      have hB3 := hB2.trans (hb3.mono hB2.size)
      have bx3 := bx2.below hb3 bx2.lt
      have r3 := r2.below hb3 r2.lt
      have ha3 := ha2.lift hb3
      obtain ⟨b3_0, b3_1, b3_2, b3_3, _, _, _, _⟩ := bx3.four
      obtain ⟨c0, c1, c2, _, _, _⟩ := r3.three
      go_wp2_with fail
      refine bodyPost_ret (v := .agg #[.int .i64 7, .bool false, .slice none 0 0]) (by simp [results, Tryd.results18, go_sem, c0, c1, c2]) rfl ?_
      exact ⟨_, _, _, rfl, Ow.nil, (((hB3.setCell (by simp) _).setCell (by simp) _).setCell (by simp) _)⟩
    · rw [show insertM l (x0, x1, x2, x3) = (0, true, insM l (x0, x1, x2, x3)) by unfold insertM; rw [if_neg (by simp [h0]), if_neg (by simp [hf]), if_neg (by rw [hi]; omega), if_neg (by omega)]]
      have hfi : ¬ (160 : Int) ≤ (n : Int) := by omega
      clear hf h0 hi
      go_enter Tryd.func18, Tryd.ntmps18
      go_wp2_with fail
      refine (HF).mono ?_
      rintro e w1 ⟨rfl, hb1⟩
      have hB1 := hB0.trans (hb1.mono hB0.size)
      have bx1 := bx0.below hb1 bx0.lt
      have r1 := r0.below hb1 r0.lt
      have ha1 := ha0.lift hb1
      obtain ⟨b1_0, b1_1, b1_2, b1_3, _, _, _, _⟩ := bx1.four
      go_wp2_with fail
      refine (XF _).mono ?_
      rintro e w2 ⟨rfl, hb2⟩
      have hB2 := hB1.trans (hb2.mono hB1.size)
      have bx2 := bx1.below hb2 bx1.lt
      have r2 := r1.below hb2 r1.lt
      have ha2 := ha1.lift hb2
      obtain ⟨b2_0, b2_1, b2_2, b2_3, _, _, _, _⟩ := bx2.four
      go_wp2_with fail
      refine (HL _ ha2 ⟨bx2.cell 0, bx2.cell 1, bx2.cell 2, bx2.cell 3⟩ bx2.lt).mono ?_
      rintro e w3 ⟨rfl, hb3⟩
      have hB3 := hB2.trans (hb3.mono hB2.size)
      have bx3 := bx2.below hb3 bx2.lt
      have r3 := r2.below hb3 r2.lt
      have ha3 := ha2.lift hb3
      obtain ⟨b3_0, b3_1, b3_2, b3_3, _, _, _, _⟩ := bx3.four
      go_wp2_with fail
      refine (l3Insert A n c l x0 x1 x2 x3 _ ha3 hn hm).mono ?_
      rintro e w4 ⟨A4, c4, rfl, ow4, hb4⟩
      have hB4 := hB3.trans (hb4.mono hB3.size)
      have bx4 := bx3.below hb4 bx3.lt
      have r4 := r3.below hb4 r3.lt
      have ha4 := ha3.lift hb4
      obtain ⟨b4_0, b4_1, b4_2, b4_3, _, _, _, _⟩ := bx4.four
      obtain ⟨c0, c1, c2, _, _, _⟩ := r4.three
      go_wp2_with fail
      refine bodyPost_ret (v := .agg #[.int .i64 0, .bool true, .slice A4 (n + 1) c4]) (by simp [results, Tryd.results18, go_sem, c0, c1, c2]) rfl ?_
      exact ⟨_, _, _, rfl, ((((ow4.under (p := ⟨w.heap.size + 1, 0, none⟩) r3.lt _).under (p := ⟨w.heap.size + 1, 1, none⟩) r3.lt _).under (p := ⟨w.heap.size + 1, 2, none⟩) r3.lt _).from_ hB3.size), (((hB4.setCell (by simp) _).setCell (by simp) _).setCell (by simp) _)⟩
  · rw [hi] at HL
    rw [show insertM l (x0, x1, x2, x3) = (0, false, l) by unfold insertM; rw [if_neg (by simp [h0]), if_neg (by simp [hf]), if_pos (by rw [hi]; omega)]]
    have hk0 : (0 : Int) ≤ (k : Int) := by omega
    clear hf h0 hi
    go_enter Tryd.func18, Tryd.ntmps18
    go_wp2_with fail
    refine (HF).mono ?_
    rintro e w1 ⟨rfl, hb1⟩
    have hB1 := hB0.trans (hb1.mono hB0.size)
    have bx1 := bx0.below hb1 bx0.lt
    have r1 := r0.below hb1 r0.lt
    have ha1 := ha0.lift hb1
    obtain ⟨b1_0, b1_1, b1_2, b1_3, _, _, _, _⟩ := bx1.four
    go_wp2_with fail
    refine (XF _).mono ?_
    rintro e w2 ⟨rfl, hb2⟩
    have hB2 := hB1.trans (hb2.mono hB1.size)
    have bx2 := bx1.below hb2 bx1.lt
    have r2 := r1.below hb2 r1.lt
    have ha2 := ha1.lift hb2
    obtain ⟨b2_0, b2_1, b2_2, b2_3, _, _, _, _⟩ := bx2.four
    go_wp2_with fail
    refine (HL _ ha2 ⟨bx2.cell 0, bx2.cell 1, bx2.cell 2, bx2.cell 3⟩ bx2.lt).mono ?_
    rintro e w3 ⟨rfl, hb3⟩
    have hB3 := hB2.trans (hb3.mono hB2.size)
    have bx3 := bx2.below hb3 bx2.lt
    have r3 := r2.below hb3 r2.lt
    have ha3 := ha2.lift hb3
    obtain ⟨b3_0, b3_1, b3_2, b3_3, _, _, _, _⟩ := bx3.four
    go_wp2_with fail
    refine (l3Copy A n c l _ ha3 hn hm).mono ?_
    rintro e w4 ⟨A4, c4, rfl, ow4, hb4⟩
    have hB4 := hB3.trans (hb4.mono hB3.size)
    have bx4 := bx3.below hb4 bx3.lt
    have r4 := r3.below hb4 r3.lt
    have ha4 := ha3.lift hb4
    obtain ⟨b4_0, b4_1, b4_2, b4_3, _, _, _, _⟩ := bx4.four
    obtain ⟨c0, c1, c2, _, _, _⟩ := r4.three
    go_wp2_with fail
    refine bodyPost_ret (v := .agg #[.int .i64 0, .bool false, .slice A4 n c4]) (by simp [results, Tryd.results18, go_sem, c0, c1, c2]) rfl ?_
    exact ⟨_, _, _, rfl, ((((ow4.under (p := ⟨w.heap.size + 1, 0, none⟩) r3.lt _).under (p := ⟨w.heap.size + 1, 1, none⟩) r3.lt _).under (p := ⟨w.heap.size + 1, 2, none⟩) r3.lt _).from_ hB3.size), (((hB4.setCell (by simp) _).setCell (by simp) _).setCell (by simp) _)⟩

theorem findI_find {l : List Smp} {x : Smp} {k : Nat} (h : findI l x = (k : Int)) : findM l x = some k := by
  unfold findI at h
  rcases hf : findM l x with _ | i
  · rw [hf] at h
    simp only at h
    omega
  · rw [hf] at h
    simp only at h
    rw [show i = k by omega]
theorem findI_miss {l : List Smp} {x : Smp} (h : findI l x = -1) : findM l x = none := by
  unfold findI at h
  rcases hf : findM l x with _ | i
  · rfl
  · rw [hf] at h
    simp only at h
    omega

set_option maxRecDepth 100000 in
set_option maxHeartbeats 2000000 in
theorem specFindSample (A : Option Addr) (n c : Nat) (l : List Smp) (x0 x1 x2 x3 : Int) (w : World) (ha : Rd eS w w.heap.size A l) (hn : l.length = n) (hm : n ≤ 1048576) :
    Calls Tryd.prog 21 #[.slice A n c, .agg #[.int .i64 x0, .int .i64 x1, .int .i64 x2, .int .i64 x3]] w fun e w' => RetSR (lookM l (x0, x1, x2, x3)) w e w' := by
  have hB0 : Below w.heap.size w ((w.alloc (.cells #[.int .i64 x0, .int .i64 x1, .int .i64 x2, .int .i64 x3] 26)).alloc (.cells #[.int .i64 0, .int .i64 0, .int .i64 0, .int .i64 0, .int .i64 0] 38)) := ((Below.refl _ _).alloc (Nat.le_refl _) _).alloc (by simp) _
  have bx0 := (At.new w 26 #[.int .i64 x0, .int .i64 x1, .int .i64 x2, .int .i64 x3]).alloc (.cells #[.int .i64 0, .int .i64 0, .int .i64 0, .int .i64 0, .int .i64 0] 38)
  have e1 : (w.alloc (.cells #[.int .i64 x0, .int .i64 x1, .int .i64 x2, .int .i64 x3] 26)).heap.size = w.heap.size + 1 := by simp
  have r0 := At.new (w.alloc (.cells #[.int .i64 x0, .int .i64 x1, .int .i64 x2, .int .i64 x3] 26)) 38 #[.int .i64 0, .int .i64 0, .int .i64 0, .int .i64 0, .int .i64 0]
  rw [e1] at r0
  have ha0 := ha.lift hB0
  have HF := specStoreFault A n c l _ ha0 hn
  by_cases h0 : storeFaultM l = 0
  rotate_left
  · rw [show lookM l (x0, x1, x2, x3) = (storeFaultM l, (0, 0, 0, 0)) from if_pos h0]
    have hne : (storeFaultM l != 0) = true := by rw [bne_iff_ne]; exact h0
    generalize storeFaultM l = sf at *
    clear h0
    go_enter Tryd.func21, Tryd.ntmps21
    go_wp2_with fail
    refine (HF).mono ?_
    rintro e w1 ⟨rfl, hb1⟩
    have hB1 := hB0.trans (hb1.mono hB0.size)
    have bx1 := bx0.below hb1 bx0.lt
    have r1 := r0.below hb1 r0.lt
    have ha1 := ha0.lift hb1
    obtain ⟨b1_0, b1_1, b1_2, b1_3, _, _, _, _⟩ := bx1.four
    obtain ⟨c0, c1, c2, c3, c4, _, _, _, _, _⟩ := r1.five
    go_wp2_with fail
    refine bodyPost_ret (v := .agg #[.int .i64 sf, .int .i64 0, .int .i64 0, .int .i64 0, .int .i64 0]) (by simp [results, Tryd.results21, go_sem, c0, c1, c2, c3, c4]) rfl ?_
    exact ⟨rfl, (((((hB1.setCell (by simp) _).setCell (by simp) _).setCell (by simp) _).setCell (by simp) _).setCell (by simp) _)⟩
  have h160 := storeFault_zero h0
  rw [h0] at HF
  have HL := fun W (h1 : Rd eS W W.heap.size A l) h2 h3 => l3Find A n c l w.heap.size 0 x0 x1 x2 x3 W h1 hn (by unfold maxLen; omega) h2 h3
  rcases findI_or l (x0, x1, x2, x3) with hi | ⟨k, hi, hk⟩
  · rw [hi] at HL
    rw [show lookM l (x0, x1, x2, x3) = (4, (0, 0, 0, 0)) by unfold lookM; rw [if_neg (by simp [h0]), findI_miss hi]]
    clear h0 hi
    go_enter Tryd.func21, Tryd.ntmps21
    go_wp2_with fail
    refine (HF).mono ?_
    rintro e w1 ⟨rfl, hb1⟩
    have hB1 := hB0.trans (hb1.mono hB0.size)
    have bx1 := bx0.below hb1 bx0.lt
    have r1 := r0.below hb1 r0.lt
    have ha1 := ha0.lift hb1
    obtain ⟨b1_0, b1_1, b1_2, b1_3, _, _, _, _⟩ := bx1.four
    go_wp2_with fail
    refine (HL _ ha1 ⟨bx1.cell 0, bx1.cell 1, bx1.cell 2, bx1.cell 3⟩ bx1.lt).mono ?_
    rintro e w2 ⟨rfl, hb2⟩
    have hB2 := hB1.trans (hb2.mono hB1.size)
    have bx2 := bx1.below hb2 bx1.lt
    have r2 := r1.below hb2 r1.lt
    have ha2 := ha1.lift hb2
    obtain ⟨b2_0, b2_1, b2_2, b2_3, _, _, _, _⟩ := bx2.four
    obtain ⟨c0, c1, c2, c3, c4, _, _, _, _, _⟩ := r2.five
    go_wp2_with fail
    refine bodyPost_ret (v := .agg #[.int .i64 4, .int .i64 0, .int .i64 0, .int .i64 0, .int .i64 0]) (by simp [results, Tryd.results21, go_sem, c0, c1, c2, c3, c4]) rfl ?_
    exact ⟨rfl, (((((hB2.setCell (by simp) _).setCell (by simp) _).setCell (by simp) _).setCell (by simp) _).setCell (by simp) _)⟩
  · rw [hi] at HL
    obtain ⟨g, o, a0, a1, a2, a3, rfl, hg, hx, -⟩ := ha0.smp hk
    rw [show lookM l (x0, x1, x2, x3) = (0, (a0, a1, a2, a3)) by unfold lookM; rw [if_neg (by simp [h0]), findI_find hi]; simp only; rw [hx]; rfl]
    have hkn : (k : Int) < (n : Int) := by omega
    have hk0 : (0 : Int) ≤ (k : Int) := by omega
    have Hx := Lib.hid hx
    clear h0 hi hx
    go_enter Tryd.func21, Tryd.ntmps21
    go_wp2_with fail
    refine (HF).mono ?_
    rintro e w1 ⟨rfl, hb1⟩
    have hB1 := hB0.trans (hb1.mono hB0.size)
    have bx1 := bx0.below hb1 bx0.lt
    have r1 := r0.below hb1 r0.lt
    have ha1 := ha0.lift hb1
    obtain ⟨b1_0, b1_1, b1_2, b1_3, _, _, _, _⟩ := bx1.four
    go_wp2_with fail
    refine (HL _ ha1 ⟨bx1.cell 0, bx1.cell 1, bx1.cell 2, bx1.cell 3⟩ bx1.lt).mono ?_
    rintro e w2 ⟨rfl, hb2⟩
    have hB2 := hB1.trans (hb2.mono hB1.size)
    have bx2 := bx1.below hb2 bx1.lt
    have r2 := r1.below hb2 r1.lt
    have ha2 := ha1.lift hb2
    obtain ⟨b2_0, b2_1, b2_2, b2_3, _, _, _, _⟩ := bx2.four
    obtain ⟨a_0, a_1, a_2, a_3⟩ := ha2.smp_is Hx.out
    obtain ⟨c0, c1, c2, c3, c4, _, _, _, _, _⟩ := r2.five
    go_wp2_with fail
    refine bodyPost_ret (v := .agg #[.int .i64 0, .int .i64 a0, .int .i64 a1, .int .i64 a2, .int .i64 a3]) (by simp [results, Tryd.results21, go_sem, c0, c1, c2, c3, c4]) rfl ?_
    exact ⟨rfl, (((((hB2.setCell (by simp) _).setCell (by simp) _).setCell (by simp) _).setCell (by simp) _).setCell (by simp) _)⟩
end Go.Proofs.YtkgbjlbhlhdhbaaDoor
/-
  A region that draws its order, step by step: what may come is asked at each step; two that may come are walked both.
-/
namespace Go.Proofs.YtkgbjlbhlhdhbaaDoor
set_option maxRecDepth 20000
open Go.RowKit

section
variable {P : Program} {md : Region.Mode} {Q : Exit → Act → World → Prop} {l : List Oper} {S : World → Prop} {fuel : Nat} {listed : Array Bool} {a : Act} {w : World}

theorem any_start {id : Nat} (S : World → Prop) (hm : P.follows .mixedOrders = true) (hS : S w.drew) (h : S w.drew → wpAnyH P .any l.toArray Q S l.length (Array.replicate l.length false) a w.drew) : (Code.region id l.toArray true).wp P Q a w := by
  refine wp_region_held (S := S) hm ?_
  simpa using h hS
theorem any_pure (k : Nat) {o : Oper} {v : Value} (hoa : l[k]? = some o) (hB : (Region.noSelect l.toArray && ((Region.ready md l.toArray listed).contains k && Region.free md l.toArray listed k)) = true)
    (hQ : ∀ c a (d : Nat) v w, Q (.panic c) (Act.put a (some d) v) w → Q (.panic c) a w) (hw : Region.wanted o (yielded l.toArray a.tmps) = true) (hv : ∀ x, S x → (execOp a.eval o).run P x = .ok (.value v) x) (hS : S w)
    (h : wpAnyH P md l.toArray Q S fuel (listed.setIfInBounds k true) (a.put o.dst v) w) : wpAnyH P md l.toArray Q S (fuel + 1) listed a w := by
  simp only [Bool.and_eq_true] at hB
  obtain ⟨h1, h2, h3⟩ := hB
  refine wpAnyH_take (by simpa using hoa) h1 h3 h2 (fun c a w => ?_) (.inl ⟨hw, hv⟩) hS h
  cases hd : o.dst with
  | none => exact fun h => h
  | some d => exact hQ c a d v w
theorem any_op {k : Nat} {o : Oper} (hoa : l[k]? = some o) (hw : Region.wanted o (yielded l.toArray a.tmps) = true)
    (h : o.wp P a w (fun a' w' => ∃ S' : World → Prop, (∀ x, S' x → S x) ∧ S' w' ∧ wpAnyH P md l.toArray Q S' fuel (listed.setIfInBounds k true) a' w') Q) :
    wpOp P l.toArray Q k (fun a' w' => S w' ∧ wpAnyH P md l.toArray Q S fuel (listed.setIfInBounds k true) a' w') a w := by
  have h1 : wpOp P l.toArray Q k (fun a' w' => ∃ S' : World → Prop, (∀ x, S' x → S x) ∧ S' w' ∧ wpAnyH P md l.toArray Q S' fuel (listed.setIfInBounds k true) a' w') a w := by
    unfold wpOp
    rw [show l.toArray[k]? = some o by simpa using hoa]
    simp only
    rw [if_pos hw]
    exact .inl h
  exact wpOp_mono (fun a' w' ⟨S', h1, h2, h3⟩ => ⟨h1 _ h2, held_mono h1 _ _ _ _ h3⟩) h1
theorem any_one (k : Nat) {o : Oper} (hoa : l[k]? = some o) (hB : (Region.ready md l.toArray listed == [k]) = true) (hw : Region.wanted o (yielded l.toArray a.tmps) = true)
    (h : o.wp P a w (fun a' w' => ∃ S' : World → Prop, (∀ x, S' x → S x) ∧ S' w' ∧ wpAnyH P md l.toArray Q S' fuel (listed.setIfInBounds k true) a' w') Q) : wpAnyH P md l.toArray Q S (fuel + 1) listed a w := by
  refine wpAnyH_all (rs := [k]) (by simpa using hB) (by simp) fun i hi => ?_
  obtain rfl : i = k := by simpa using hi
  exact any_op hoa hw h
theorem any_two (i j : Nat) {o o' : Oper} (hoa : l[i]? = some o) (hob : l[j]? = some o') (hB : (Region.ready md l.toArray listed == [i, j]) = true) (hw : Region.wanted o (yielded l.toArray a.tmps) = true) (hw' : Region.wanted o' (yielded l.toArray a.tmps) = true)
    (h : o.wp P a w (fun a' w' => ∃ S' : World → Prop, (∀ x, S' x → S x) ∧ S' w' ∧ wpAnyH P md l.toArray Q S' fuel (listed.setIfInBounds i true) a' w') Q)
    (h' : o'.wp P a w (fun a' w' => ∃ S' : World → Prop, (∀ x, S' x → S x) ∧ S' w' ∧ wpAnyH P md l.toArray Q S' fuel (listed.setIfInBounds j true) a' w') Q) : wpAnyH P md l.toArray Q S (fuel + 1) listed a w := by
  refine wpAnyH_all (rs := [i, j]) (by simpa using hB) (by simp) fun k hk => ?_
  rcases (show k = i ∨ k = j by simpa using hk) with rfl | rfl
  · exact any_op hoa hw h
  · exact any_op hob hw' h'
theorem any_done (hB : (Region.ready md l.toArray listed).isEmpty = true) (h : Q .normal a w) : wpAnyH P md l.toArray Q S 0 listed a w := wpAnyH_done (by simpa using hB) h 0
theorem At.newAt' {w : World} {g : Nat} {t : TypeId} {cs : Array Value} (h : w.heap.size = g) : At (w.alloc (.cells cs t)) g t cs := by
  subst h
  exact At.new w t cs
/-- Behind a step: what is known from there on. -/
theorem any_next {S' : World → Prop} {Z : (World → Prop) → Prop} (h1 : ∀ x, S' x → S x) (h2 : S' w) (h3 : Z S') : ∃ S' : World → Prop, (∀ x, S' x → S x) ∧ S' w ∧ Z S' := ⟨S', h1, h2, h3⟩
end
end Go.Proofs.YtkgbjlbhlhdhbaaDoor
/-
  Rows of samples that are drawn.
-/
namespace Go.Proofs.YtkgbjlbhlhdhbaaDoor
set_option maxRecDepth 20000
open Go.RowKit
set_option linter.unusedSimpArgs false

def DrawLRel (base g : Nat) (A : Option Addr) (m c k : Nat) (l : List UInt8) (n : Nat) (w : World) (vn out : Value) (wr : World) : Prop :=
  ∃ (j : Nat) (A' : Option Addr) (L c' : Nat) (xs : List Smp), j ≤ n ∧ vn = .int .i64 ((n : Int) - (j : Int)) ∧ out = .slice A' L c' ∧ L ≤ j ∧ Ow eS wr w.heap.size A' L c' xs ∧ Src wr base g A m c (k + 1 + 4 * j) l ∧ Within g (g + 1) w wr

set_option maxHeartbeats 1600000 in
theorem l3Draw (w : World) (base g : Nat) (A : Option Addr) (m c k : Nat) (l : List UInt8) (h : Src w base g A m c k l) (hk : k < 700000000) :
    Calls Tryd.prog 52 #[.pointer (some ⟨g, 0, none⟩)] w fun e w' => ∃ (k' : Nat) (A' : Option Addr) (L c' : Nat) (xs : List Smp), e = .returned (.slice A' L c') ∧ L ≤ 12 ∧ Ow eS w' w.heap.size A' L c' xs ∧ k' ≤ k + 60 ∧ Src w' base g A m c k' l ∧ Within g (g + 1) w w' := by
  have hgl := h.at_.lt
  go_enter Tryd.func52, Tryd.ntmps52
  go_wp2_with fail
  refine (l1Next _ base g A m c k l 12 (h.alloc _) (by omega) (by omega)).mono ?_
  rintro e w1 ⟨r, rfl, hr, -, s1, hw1, -⟩
  obtain ⟨hr0, hr1⟩ := hr (by omega)
  obtain ⟨n, rfl⟩ := Int.eq_ofNat_of_zero_le hr0
  have hn : n < 12 := by omega
  have hwi0 := ((Within.refl g (g + 1) w).alloc (.cells #[] 26)).trans hw1
  have how00 : Ow eS (w.alloc (.cells #[] 26)) w.heap.size (some ⟨w.heap.size, 0, none⟩) 0 0 [] := Ow.lit (E := eS) w [] #[] 0 (Nat.le_refl _) (by unfold maxLen; omega) rfl rfl
  have how0 := how00.within hw1 how00.lt (.inr hgl)
  clear how00
  clear hr hr0 hr1
  go_wp2_with fail
  have g1 := s1.at_.lt
  go_loopw [3, 4] (fun out vn wr => DrawLRel base g A m c k l n w vn out wr) (fun _ vn _ => (intOf vn).toNat)
  case atStart => exact ⟨0, _, 0, 0, [], Nat.zero_le _, by simp, rfl, Nat.le_refl _, how0, s1, hwi0⟩
  case round =>
    obtain ⟨j, A1, L, c1, xs, hj, rfl, rfl, hL, how, hsrc, hwi⟩ := hrel
    have Hs := Lib.hid hsrc
    by_cases hlt : j < n
    · go_wp2_with fail
      refine (l2Draw _ base g A m c _ l hsrc (by omega)).mono ?_
      rintro e w2 ⟨n0, n1, n2, n3, rfl, -, -, -, -, s2, hw2⟩
      have ow2 := how.within hw2 how.lt (.inr hgl)
      have g2 := s2.at_.lt
      have wi2 := hwi.trans hw2
      have hz2 := wi2.size
      generalize ((n3 : Int) - 1000) = y3 at *
      generalize (n0 : Int) = y0 at *
      generalize (n1 : Int) = y1 at *
      generalize (n2 : Int) = y2 at *
      have hat := At.new w2 26 #[.int .i64 y0, .int .i64 y1, .int .i64 y2, .int .i64 y3]
      have cA : S4 (w2.alloc (.cells #[.int .i64 y0, .int .i64 y1, .int .i64 y2, .int .i64 y3] 26)) w2.heap.size 0 y0 y1 y2 y3 := by
        obtain ⟨h0, h1, h2, h3, _⟩ := hat.four
        exact ⟨h0, h1, h2, h3⟩
      have wi3 := wi2.alloc (.cells #[.int .i64 y0, .int .i64 y1, .int .i64 y2, .int .i64 y3] 26)
      have s3 := s2.alloc (.cells #[.int .i64 y0, .int .i64 y1, .int .i64 y2, .int .i64 y3] 26)
      have ow3 := ow2.alloc (.cells #[.int .i64 y0, .int .i64 y1, .int .i64 y2, .int .i64 y3] 26)
      have hl3 := ow3.len okS
      have hfi := l3Find A1 L c1 xs w2.heap.size 0 y0 y1 y2 y3 _ (ow3.rd okS) hl3 (by unfold maxLen; omega) cA hat.lt
      rcases findI_or xs (y0, y1, y2, y3) with hi | ⟨j', hi, _⟩
      · rw [hi] at hfi
        clear hi
        go_wp2_with fail
        refine hfi.mono ?_
        rintro e w4 ⟨rfl, hb4⟩
        have ow4 := ow3.below hb4 (Nat.le_refl _)
        have wi4 := wi3.trans (Within.of_below hb4)
        have s4 := s3.below hb4 s3.at_.lt
        obtain ⟨_, _, _, _, _, _, _, _⟩ := (hat.below hb4 hat.lt).four
        go_wp2_with fail
        refine (l3Insert A1 L c1 xs y0 y1 y2 y3 _ (ow4.rd okS) hl3 (by omega)).mono ?_
        rintro e w5 ⟨A5, c5, rfl, ow5, hb5⟩
        have wi5 := wi4.trans (Within.of_below hb5)
        have s5 := s4.below hb5 s4.at_.lt
        go_wp2
        refine ⟨⟨j + 1, A5, L + 1, c5, _, by omega, by go_num, rfl, by omega, ow5.from_ wi4.size, ?_, wi5⟩, by simp [intOf]; omega⟩
        rw [show k + 1 + 4 * (j + 1) = k + 1 + 4 * j + 4 by omega]
        exact s5
      · have hj' : ¬ (j' : Int) < 0 := by omega
        rw [hi] at hfi
        clear hi
        go_wp2_with fail
        refine hfi.mono ?_
        rintro e w4 ⟨rfl, hb4⟩
        have ow4 := ow3.below hb4 (Nat.le_refl _)
        have wi4 := wi3.trans (Within.of_below hb4)
        have s4 := s3.below hb4 s3.at_.lt
        go_wp2
        refine ⟨⟨j + 1, A1, L, c1, xs, by omega, by go_num, rfl, by omega, ow4, ?_, wi4⟩, by simp [intOf]; omega⟩
        rw [show k + 1 + 4 * (j + 1) = k + 1 + 4 * j + 4 by omega]
        exact s4
    · obtain rfl : n = j := by omega
      go_wp2
      go_ret
      exact ⟨_, A1, L, c1, xs, rfl, by omega, how, by omega, Hs.out, hwi⟩
end Go.Proofs.YtkgbjlbhlhdhbaaDoor
/-
  Rows of samples that are drawn, some of them no store.
-/
namespace Go.Proofs.YtkgbjlbhlhdhbaaDoor
set_option maxRecDepth 20000
open Go.RowKit
set_option linter.unusedSimpArgs false

def DrawBRel (base g : Nat) (A : Option Addr) (m c k : Nat) (l : List UInt8) (n : Nat) (w : World) (vn out : Value) (wr : World) : Prop :=
  ∃ (j : Nat) (A' : Option Addr) (c' : Nat) (xs : List Smp), j ≤ n ∧ vn = .int .i64 ((n : Int) - (j : Int)) ∧ out = .slice A' j c' ∧ Ow eS wr w.heap.size A' j c' xs ∧ Src wr base g A m c k l ∧ Within g (g + 1) w wr

set_option maxHeartbeats 1600000 in
theorem l3Bent (w : World) (base g : Nat) (A : Option Addr) (m c k : Nat) (l : List UInt8) (h : Src w base g A m c k l) (hk : k < 600000000) :
    Calls Tryd.prog 42 #[.pointer (some ⟨g, 0, none⟩)] w fun e w' => ∃ (k' : Nat) (A' : Option Addr) (L c' : Nat) (xs : List Smp), e = .returned (.slice A' L c') ∧ L ≤ 200 ∧ Ow eS w' w.heap.size A' L c' xs ∧ k' ≤ k + 100 ∧ Src w' base g A m c k' l ∧ Within g (g + 1) w w' := by
  have hgl := h.at_.lt
  go_enter Tryd.func42, Tryd.ntmps42
  go_wp2_with fail
  refine (l3Draw w base g A m c k l h (by omega)).mono ?_
  rintro e w1 ⟨k1, A1, L1, c1, xs, rfl, hL, ow1, hk1, s1, wi1⟩
  have g1 := s1.at_.lt
  go_wp2_with fail
  refine (l1Next _ base g A m c _ l 14 s1 (by omega) (by omega)).mono ?_
  rintro e w2 ⟨r, rfl, hr, -, s2, hw2, -⟩
  obtain ⟨hr0, hr1⟩ := hr (by omega)
  have ow2 := ow1.within hw2 ow1.lt (.inr hgl)
  have wi2 := wi1.trans hw2
  have hl2 := ow2.len okS
  have g2 := s2.at_.lt
  clear hr ow1
  rcases (show r = 0 ∨ r = 1 ∨ r = 2 ∨ 3 ≤ r by omega) with rfl | rfl | rfl | hr3
  · go_wp2_with fail
    refine (l2Bent _ base g A m c _ l s2 (by omega)).mono ?_
    rintro e w3 ⟨a0, a1, a2, a3, rfl, ⟨k3, hk3, s3⟩, hw3⟩
    have ow3 := ow2.within hw3 ow2.lt (.inr hgl)
    have wi3 := wi2.trans hw3
    have g3 := s3.at_.lt
    go_wp2_with (at_builtin; refine wpList_append_ow okS _ rfl (.tmp 11) (.tmp 14) _ rfl w.heap.size info_smp Tryd.underlying24 rfl A1 L1 c1 xs rfl (ow3.alloc _) _ 1 1 _ [(a0, a1, a2, a3)] rfl ((ow_smp _ a0 a1 a2 a3).rd okS) rfl (by unfold maxLen; omega) (by omega) ((wi3.alloc _).size) ?_; intro A5 c5 w5 ow5 hg5 _)
    have hr5 : ∀ x, A1.map (·.block) = some x → w.heap.size ≤ x := fun x hx => (ow3.lt x hx).1
    go_wp2
    go_ret
    exact ⟨k3, A5, L1 + 1, c5, rfl, by omega, ⟨_, ow5⟩, by omega, (s3.alloc _).grown hg5 fun x hx => Nat.lt_of_lt_of_le hgl (hr5 x hx), (wi3.alloc _).push hg5 hr5⟩
  · go_wp2_with (at_builtin; refine wpList_append_ow okS _ rfl (.tmp 18) (.tmp 19) _ rfl w.heap.size info_smp Tryd.underlying24 rfl A1 L1 c1 xs rfl ow2 A1 L1 c1 _ xs rfl (ow2.rd okS) hl2 (by unfold maxLen; omega) (by omega) wi2.size ?_; intro A5 c5 w5 ow5 hg5 _)
    have hr5 : ∀ x, A1.map (·.block) = some x → w.heap.size ≤ x := fun x hx => (ow2.lt x hx).1
    go_wp2
    go_ret
    exact ⟨_, A5, L1 + L1, c5, rfl, by omega, ⟨_, ow5⟩, by omega, s2.grown hg5 fun x hx => Nat.lt_of_lt_of_le hgl (hr5 x hx), wi2.push hg5 hr5⟩
  · go_wp2_with fail
    have s3 := s2.alloc (.cells #[] 26)
    have wi3 := wi2.alloc (.cells #[] 26)
    have ow3 : Ow eS (w2.alloc (.cells #[] 26)) w.heap.size (some ⟨w2.heap.size, 0, none⟩) 0 0 [] := Ow.lit (E := eS) w2 [] #[] 0 wi2.size (by unfold maxLen; omega) rfl rfl
    refine (l1Pick _ _ _ A m c _ l (w2.heap.size + 1) #[.int .i64 100, .int .i64 159, .int .i64 160, .int .i64 161] [100, 159, 160, 161] 4 4 (s3.alloc _) (by omega) (At.newAt (by simp)) (by simp [intCells]) (by omega) rfl (by omega) (by omega)).mono ?_
    rintro e w4 ⟨v, hv, rfl, s4, hw4, -⟩
    have wi4 := (wi3.alloc _).trans hw4
    have ow3' := ow3.alloc (.cells #[.int .i64 100, .int .i64 159, .int .i64 160, .int .i64 161] 2)
    have ow4 := ow3'.within hw4 ow3'.lt (.inr hgl)
    clear ow3 ow3'
    obtain ⟨n, rfl, hn⟩ := pick_nat 161 hv rfl
    have g4 := s4.at_.lt
    clear hv
    go_wp2_with fail
    go_loopw [3, 4] (fun out vn wr => DrawBRel base g A m c (k1 + 1 + 1) l n w vn out wr) (fun _ vn _ => (intOf vn).toNat)
    case atStart => exact ⟨0, _, 0, [], Nat.zero_le _, by simp, rfl, ow4, s4, wi4⟩
    case round =>
      obtain ⟨j, A3, c3, ys, hj, rfl, rfl, how, hsrc, hwi⟩ := hrel
      have Hs := Lib.hid hsrc
      have Hw := Lib.hid hwi
      have hr5 : ∀ x, A3.map (·.block) = some x → w.heap.size ≤ x := fun x hx => (how.lt x hx).1
      by_cases hlt : j < n
      · go_wp2_with (at_builtin; refine wpList_append_ow okS _ rfl (.tmp 31) (.tmp 35) _ rfl w.heap.size info_smp Tryd.underlying24 rfl A3 j c3 ys rfl (how.alloc _) _ 1 1 _ [(3, 0, (j : Int), 0)] rfl ((ow_smp _ 3 0 j 0).rd okS) rfl (by unfold maxLen; omega) (by omega) ((Hw.out.alloc _).size) ?_; intro A5 c5 w5 ow5 hg5 _)
        exact ⟨⟨j + 1, A5, c5, _, by omega, by go_num, rfl, ow5, (Hs.out.alloc _).grown hg5 fun x hx => Nat.lt_of_lt_of_le hgl (hr5 x hx), (Hw.out.alloc _).push hg5 hr5⟩, by simp [intOf]; omega⟩
      · obtain rfl : n = j := by omega
        go_wp2
        go_ret
        exact ⟨_, A3, n, c3, ys, rfl, by omega, how, by omega, Hs.out, Hw.out⟩
  · have b0 : (r == 0) = false := by simp; omega
    have b1 : (r == 1) = false := by simp; omega
    have b2 : (r == 2) = false := by simp; omega
    go_wp2_with fail
    go_ret
    exact ⟨_, A1, L1, c1, xs, rfl, by omega, ow2, by omega, s2, wi2⟩
end Go.Proofs.YtkgbjlbhlhdhbaaDoor
/-
  What the laws of stores draw.
-/
namespace Go.Proofs.YtkgbjlbhlhdhbaaDoor
set_option maxRecDepth 20000
open Go.RowKit
set_option linter.unusedSimpArgs false

set_option maxHeartbeats 2000000 in
theorem drawMergeLists (A : Option Addr) (m c : Nat) (l : List UInt8) (w : World) (ha : Rd eB w w.heap.size A l) (hn : l.length = m) (hm : m ≤ 1048576) :
    Calls Tryd.prog 25 #[.slice A m c] w fun e w' => ∃ (X Y : Option Addr) (L M cx cy : Nat) (xs ys : List Smp), e = .returned (.tuple #[.slice X L cx, .slice Y M cy]) ∧ L ≤ 200 ∧ M ≤ 200 ∧ Ow eS w' w.heap.size X L cx xs ∧ Ow eS w' w.heap.size Y M cy ys ∧ Below w.heap.size w w' := by
  go_enter Tryd.func25, Tryd.ntmps25
  go_wp2_with fail
  refine (l1Source A m c l _ ha hn hm).mono ?_
  rintro e w1 ⟨rfl, s1, hb1, -⟩
  have g1 := s1.at_.lt
  go_wp2_with fail
  refine (l3Bent w1 w.heap.size w.heap.size A m c 0 l s1 (by omega)).mono ?_
  rintro e w2 ⟨k2, X, L, cx, xs, rfl, hL, ox, hk2, s2, wi2⟩
  have B2 := wi2.below hb1 (Nat.le_of_lt g1) (Nat.le_refl _)
  have g2 := s2.at_.lt
  go_wp2_with fail
  refine (l3Bent w2 w.heap.size w.heap.size A m c k2 l s2 (by omega)).mono ?_
  rintro e w3 ⟨k3, Y, M, cy, ys, rfl, hM, oy, hk3, s3, wi3⟩
  have B3 := wi3.below B2 (Nat.le_of_lt g2) (Nat.le_refl _)
  have ox3 := ox.within wi3 ox.lt (.inr g1)
  go_wp2_with fail
  refine bodyPost_ret (v := .tuple #[.slice X L cx, .slice Y M cy]) (by simp [results, Tryd.results25, go_sem]) rfl ?_
  exact ⟨X, Y, L, M, cx, cy, xs, ys, rfl, hL, hM, ox3.from_ (Nat.le_of_lt g1), oy.from_ (Nat.le_of_lt g2), B3⟩

set_option maxHeartbeats 2000000 in
theorem drawQueryStore (A : Option Addr) (m c : Nat) (l : List UInt8) (w : World) (ha : Rd eB w w.heap.size A l) (hn : l.length = m) (hm : m ≤ 1048576) :
    Calls Tryd.prog 13 #[.slice A m c] w fun e w' => ∃ (X : Option Addr) (L cx : Nat) (xs : List Smp) (u v t : Int), e = .returned (.tuple #[.slice X L cx, .int .i64 u, .int .i64 v, .int .i64 t]) ∧ L ≤ 200 ∧ Ow eS w' w.heap.size X L cx xs ∧ Below w.heap.size w w' := by
  go_enter Tryd.func13, Tryd.ntmps13
  go_wp2_with fail
  refine (l1Source A m c l _ ha hn hm).mono ?_
  rintro e w1 ⟨rfl, s1, hb1, -⟩
  have g1 := s1.at_.lt
  go_wp2_with fail
  refine (l3Bent w1 w.heap.size w.heap.size A m c 0 l s1 (by omega)).mono ?_
  rintro e w2 ⟨k2, X, L, cx, xs, rfl, hL, ox, hk2, s2, wi2⟩
  have B2 := wi2.below hb1 (Nat.le_of_lt g1) (Nat.le_refl _)
  have g2 := s2.at_.lt
  go_wp2_with fail
  refine (l1Pick (w2.alloc (.cells #[.int .i64 0, .int .i64 1, .int .i64 2, .int .i64 3, .int .i64 9, .int .i64 10, .int .i64 (-1)] 2)) _ _ A m c k2 l w2.heap.size #[.int .i64 0, .int .i64 1, .int .i64 2, .int .i64 3, .int .i64 9, .int .i64 10, .int .i64 (-1)] [0, 1, 2, 3, 9, 10, (-1)] 7 7 (s2.alloc _) (by omega) (At.newAt (by first | rfl | simp)) (by simp [intCells]) (by omega) rfl (by omega) (by omega)).mono ?_
  rintro e w3 ⟨u, -, rfl, s3, hw3, -⟩
  have g3 := s3.at_.lt
  have ox3' := ox.alloc (.cells #[.int .i64 0, .int .i64 1, .int .i64 2, .int .i64 3, .int .i64 9, .int .i64 10, .int .i64 (-1)] 2)
  have ox3 := ox3'.within hw3 ox3'.lt (.inr g1)
  have A3 := B2.alloc B2.size (.cells #[.int .i64 0, .int .i64 1, .int .i64 2, .int .i64 3, .int .i64 9, .int .i64 10, .int .i64 (-1)] 2)
  have B3 := hw3.below A3 A3.size (Nat.le_refl _)
  go_wp2_with fail
  refine (l1Pick (w3.alloc (.cells #[.int .i64 0, .int .i64 5, .int .i64 6, .int .i64 (-9)] 2)) _ _ A m c (k2 + 1) l w3.heap.size #[.int .i64 0, .int .i64 5, .int .i64 6, .int .i64 (-9)] [0, 5, 6, (-9)] 4 4 (s3.alloc _) (by omega) (At.newAt (by first | rfl | simp)) (by simp [intCells]) (by omega) rfl (by omega) (by omega)).mono ?_
  rintro e w4 ⟨v, -, rfl, s4, hw4, -⟩
  have g4 := s4.at_.lt
  have ox4' := ox3.alloc (.cells #[.int .i64 0, .int .i64 5, .int .i64 6, .int .i64 (-9)] 2)
  have ox4 := ox4'.within hw4 ox4'.lt (.inr g1)
  have A4 := B3.alloc B3.size (.cells #[.int .i64 0, .int .i64 5, .int .i64 6, .int .i64 (-9)] 2)
  have B4 := hw4.below A4 A4.size (Nat.le_refl _)
  go_wp2_with fail
  refine (l1Pick (w4.alloc (.cells #[.int .i64 5, .int .i64 7, .int .i64 999, .int .i64 9223372036854775807, .int .i64 0] 2)) _ _ A m c ((k2 + 1) + 1) l w4.heap.size #[.int .i64 5, .int .i64 7, .int .i64 999, .int .i64 9223372036854775807, .int .i64 0] [5, 7, 999, 9223372036854775807, 0] 5 5 (s4.alloc _) (by omega) (At.newAt (by first | rfl | simp)) (by simp [intCells]) (by omega) rfl (by omega) (by omega)).mono ?_
  rintro e w5 ⟨t, -, rfl, s5, hw5, -⟩
  have g5 := s5.at_.lt
  have ox5' := ox4.alloc (.cells #[.int .i64 5, .int .i64 7, .int .i64 999, .int .i64 9223372036854775807, .int .i64 0] 2)
  have ox5 := ox5'.within hw5 ox5'.lt (.inr g1)
  have A5 := B4.alloc B4.size (.cells #[.int .i64 5, .int .i64 7, .int .i64 999, .int .i64 9223372036854775807, .int .i64 0] 2)
  have B5 := hw5.below A5 A5.size (Nat.le_refl _)
  go_wp2_with fail
  refine bodyPost_ret (v := .tuple #[.slice X L cx, .int .i64 u, .int .i64 v, .int .i64 t]) (by simp [results, Tryd.results13, go_sem]) rfl ?_
  exact ⟨X, L, cx, xs, u, v, t, rfl, hL, ox5.from_ (Nat.le_of_lt g1), B5⟩

set_option maxHeartbeats 2000000 in
theorem drawSameSamples (A : Option Addr) (m c : Nat) (l : List UInt8) (w : World) (ha : Rd eB w w.heap.size A l) (hn : l.length = m) (hm : m ≤ 1048576) :
    Calls Tryd.prog 17 #[.slice A m c] w fun e w' => ∃ (X Y : Option Addr) (L M cx cy : Nat) (xs ys : List Smp), e = .returned (.tuple #[.slice X L cx, .slice Y M cy]) ∧ L ≤ 200 ∧ M ≤ 200 ∧ Ow eS w' w.heap.size X L cx xs ∧ Ow eS w' w.heap.size Y M cy ys ∧ Below w.heap.size w w' := by
  go_enter Tryd.func17, Tryd.ntmps17
  go_wp2_with fail
  refine (l1Source A m c l _ ha hn hm).mono ?_
  rintro e w1 ⟨rfl, s1, hb1, -⟩
  have g1 := s1.at_.lt
  go_wp2_with fail
  refine (l3Draw w1 w.heap.size w.heap.size A m c 0 l s1 (by omega)).mono ?_
  rintro e w2 ⟨k2, X, L, cx, xs, rfl, hL, ox, hk2, s2, wi2⟩
  have B2 := wi2.below hb1 (Nat.le_of_lt g1) (Nat.le_refl _)
  have g2 := s2.at_.lt
  go_wp2_with fail
  refine (l3Copy X L cx xs w2 (ox.rd okS) (ox.len okS) (by omega)).mono ?_
  rintro e w3 ⟨Y, cy, rfl, oy, hb3⟩
  have B3 := B2.trans (hb3.mono (Nat.le_of_lt g2))
  have ox3 := ox.below hb3 (Nat.le_refl _)
  have s3 := s2.below hb3 g2
  by_cases h0 : 0 < L
  · go_wp2_with fail
    refine (l1Chance _ _ _ A m c k2 l 2 s3 (by omega) (by omega)).mono ?_
    rintro e w4 ⟨ch, rfl, s4, hw4, -⟩
    have B4 := hw4.below B3 B3.size (Nat.le_refl _)
    have ox4 := ox3.within hw4 ox3.lt (.inr g1)
    have oy4 := oy.within hw4 oy.lt (.inr g2)
    cases ch
    · go_wp2_with fail
      refine bodyPost_ret (v := .tuple #[.slice X L cx, .slice Y L cy]) (by simp [results, Tryd.results17, go_sem]) rfl ?_
      exact ⟨X, Y, L, L, cx, cy, xs, xs, rfl, by omega, by omega, ox4.from_ (Nat.le_of_lt g1), oy4.from_ (Nat.le_of_lt g2), B4⟩
    · go_wp2_with fail
      refine (l1Next _ _ _ A m c _ l L s4 (by omega) (by omega)).mono ?_
      rintro e w5 ⟨r, rfl, hr, -, s5, hw5, -⟩
      obtain ⟨hr0, hr1⟩ := hr (by omega)
      obtain ⟨q, rfl⟩ := Int.eq_ofNat_of_zero_le hr0
      have hq : q < L := by omega
      have B5 := hw5.below B4 B4.size (Nat.le_refl _)
      have ox5 := ox4.within hw5 ox4.lt (.inr g1)
      have oy5 := oy4.within hw5 oy4.lt (.inr g2)
      have hl5 := oy5.len okS
      obtain ⟨gY, rfl, hgy, hgz⟩ := oy5.form h0
      obtain ⟨⟨b0, b1, b2, b3⟩, hb⟩ : ∃ y, xs[q]? = some y := ⟨xs[q], List.getElem?_eq_getElem (by omega)⟩
      obtain ⟨d0, d1, d2, d3⟩ := oy5.smpAt hb
      have f3 := oy5.frozenAt (q * 4 + 3)
      clear hr hr0 hr1
      go_wp2_with fail
      have hp := oy5.smpPut (j := 3) (y := (b0, b1, b2, wrap64 (b3 + 1))) (u := .int .i64 (wrap64 (b3 + 1))) hb (by omega) rfl
      refine bodyPost_ret (v := .tuple #[.slice X L cx, .slice (some ⟨gY, 0, none⟩) L cy]) (by simp [results, Tryd.results17, go_sem]) rfl ?_
      refine ⟨X, some ⟨gY, 0, none⟩, L, L, cx, cy, xs, _, rfl, by omega, by omega, (ox5.grown hp.2 fun x hx he => ?_).from_ (Nat.le_of_lt g1), hp.1.from_ (Nat.le_of_lt g2), B5.setCell (p := ⟨gY, q * 4 + 3, none⟩) (by show w.heap.size ≤ gY; omega) _⟩
      have h1 := (ox.lt x hx).2
      obtain rfl := Option.some.inj he
      omega
  · go_wp2_with fail
    refine bodyPost_ret (v := .tuple #[.slice X L cx, .slice Y L cy]) (by simp [results, Tryd.results17, go_sem]) rfl ?_
    exact ⟨X, Y, L, L, cx, cy, xs, xs, rfl, by omega, by omega, ox3.from_ (Nat.le_of_lt g1), oy.from_ (Nat.le_of_lt g2), B3⟩
end Go.Proofs.YtkgbjlbhlhdhbaaDoor
/-
  Two samples that are drawn, and bytes of samples.
-/
namespace Go.Proofs.YtkgbjlbhlhdhbaaDoor
set_option maxRecDepth 20000
open Go.RowKit
set_option linter.unusedSimpArgs false

theorem At.put4 {w : World} {g b : Nat} {t : TypeId} {cs : Array Value} (h : At w g t cs) (hne : g ≠ b) (v0 v1 v2 v3 : Value) : At ((((w.setCell ⟨b, 0, none⟩ v0).setCell ⟨b, 1, none⟩ v1).setCell ⟨b, 2, none⟩ v2).setCell ⟨b, 3, none⟩ v3) g t cs :=
  (((h.far (p := ⟨b, 0, none⟩) hne v0).far (p := ⟨b, 1, none⟩) hne v1).far (p := ⟨b, 2, none⟩) hne v2).far (p := ⟨b, 3, none⟩) hne v3
theorem At.set4 {w : World} {g : Nat} {t : TypeId} {a b c d : Value} (h : At w g t #[a, b, c, d]) (v0 v1 v2 v3 : Value) : At ((((w.setCell ⟨g, 0, none⟩ v0).setCell ⟨g, 1, none⟩ v1).setCell ⟨g, 2, none⟩ v2).setCell ⟨g, 3, none⟩ v3) g t #[v0, v1, v2, v3] :=
  (((h.set 0 v0).set 1 v1).set 2 v2).set 3 v3
theorem Below.put4 {B b : Nat} {a w : World} (h : Below B a w) (hb : B ≤ b) (v0 v1 v2 v3 : Value) : Below B a ((((w.setCell ⟨b, 0, none⟩ v0).setCell ⟨b, 1, none⟩ v1).setCell ⟨b, 2, none⟩ v2).setCell ⟨b, 3, none⟩ v3) :=
  (((h.setCell (p := ⟨b, 0, none⟩) hb v0).setCell (p := ⟨b, 1, none⟩) hb v1).setCell (p := ⟨b, 2, none⟩) hb v2).setCell (p := ⟨b, 3, none⟩) hb v3

end Go.Proofs.YtkgbjlbhlhdhbaaDoor
/-
  What the laws of stores draw: a store and a sample.
-/
namespace Go.Proofs.YtkgbjlbhlhdhbaaDoor
set_option maxRecDepth 20000
open Go.RowKit
set_option linter.unusedSimpArgs false

theorem Ow.far {α : Type} {E : Enc α} {w : World} {base n c : Nat} {A : Option Addr} {l : List α} (h : Ow E w base A n c l) {p : Addr} (hne : ∀ g, A.map (·.block) = some g → g ≠ p.block) (u : Value) : Ow E (w.setCell p u) base A n c l :=
  h.grown (grown_setCell w p u) (fun g hg he => hne g hg (Option.some.inj he).symm)
theorem Ow.far4 {α : Type} {E : Enc α} {w : World} {base n c b : Nat} {A : Option Addr} {l : List α} (h : Ow E w base A n c l) (hne : ∀ g, A.map (·.block) = some g → g ≠ b) (v0 v1 v2 v3 : Value) : Ow E ((((w.setCell ⟨b, 0, none⟩ v0).setCell ⟨b, 1, none⟩ v1).setCell ⟨b, 2, none⟩ v2).setCell ⟨b, 3, none⟩ v3) base A n c l :=
  (((h.far (p := ⟨b, 0, none⟩) hne v0).far (p := ⟨b, 1, none⟩) hne v1).far (p := ⟨b, 2, none⟩) hne v2).far (p := ⟨b, 3, none⟩) hne v3
theorem Src.put4 {w : World} {base g n c k b : Nat} {A : Option Addr} {l : List UInt8} (h : Src w base g A n c k l) (hb : g < b) (v0 v1 v2 v3 : Value) : Src ((((w.setCell ⟨b, 0, none⟩ v0).setCell ⟨b, 1, none⟩ v1).setCell ⟨b, 2, none⟩ v2).setCell ⟨b, 3, none⟩ v3) base g A n c k l :=
  (((h.put (p := ⟨b, 0, none⟩) hb v0).put (p := ⟨b, 1, none⟩) hb v1).put (p := ⟨b, 2, none⟩) hb v2).put (p := ⟨b, 3, none⟩) hb v3

set_option maxHeartbeats 4000000 in
theorem drawInsertSample (A : Option Addr) (m c : Nat) (l : List UInt8) (w : World) (ha : Rd eB w w.heap.size A l) (hn : l.length = m) (hm : m ≤ 1048576) :
    Calls Tryd.prog 11 #[.slice A m c] w fun e w' => ∃ (X : Option Addr) (L cx : Nat) (xs : List Smp) (a0 a1 a2 a3 : Int), e = .returned (.tuple #[.slice X L cx, .agg #[.int .i64 a0, .int .i64 a1, .int .i64 a2, .int .i64 a3]]) ∧ L ≤ 200 ∧ Ow eS w' w.heap.size X L cx xs ∧ Below w.heap.size w w' := by
  have B0 := (Below.refl w.heap.size w).alloc (Nat.le_refl _) (.cells #[.int .i64 0, .int .i64 0, .int .i64 0, .int .i64 0] 26)
  have r0 := At.new w 26 #[.int .i64 0, .int .i64 0, .int .i64 0, .int .i64 0]
  go_enter Tryd.func11, Tryd.ntmps11
  go_wp2_with fail
  refine (l1Source A m c l _ (ha.lift B0) hn hm).mono ?_
  rintro e w1 ⟨rfl, s1, hb1, -⟩
  rw [show (w.alloc (.cells #[.int .i64 0, .int .i64 0, .int .i64 0, .int .i64 0] 26)).heap.size = w.heap.size + 1 by simp] at s1
  have B1 := B0.trans (hb1.mono B0.size)
  have r1 := r0.below hb1 r0.lt
  have g1 := s1.at_.lt
  go_wp2_with fail
  refine (l3Bent w1 (w.heap.size + 1) (w.heap.size + 1) A m c 0 l s1 (by omega)).mono ?_
  rintro e w2 ⟨k2, X, L, cx, xs, rfl, hL, ox2, hk2, s2, wi2⟩
  have B2 := wi2.below B1 B1.size (by omega)
  have r2 := r1.within wi2 (by omega)
  have g2 := s2.at_.lt
  have z2 := wi2.size
  go_wp2_with fail
  refine (l2Bent w2 (w.heap.size + 1) (w.heap.size + 1) A m c k2 l s2 (by omega)).mono ?_
  rintro e w3 ⟨a0, a1, a2, a3, rfl, ⟨k3, hk3, s3⟩, wi3⟩
  have B3 := wi3.below B2 B2.size (by omega)
  have r3 := (r2.within wi3 (by omega)).alloc (.cells #[.int .i64 a0, .int .i64 a1, .int .i64 a2, .int .i64 a3] 26)
  have g3 := s3.at_.lt
  have z3 := wi3.size
  have ox3' := ox2.within wi3 ox2.lt (.inr g1)
  have ox3 := ox3'.alloc (.cells #[.int .i64 a0, .int .i64 a1, .int .i64 a2, .int .i64 a3] 26)
  have x3 := At.new w3 26 #[.int .i64 a0, .int .i64 a1, .int .i64 a2, .int .i64 a3]
  have s3' := s3.alloc (.cells #[.int .i64 a0, .int .i64 a1, .int .i64 a2, .int .i64 a3] 26)
  have B3' := B3.alloc B3.size (.cells #[.int .i64 a0, .int .i64 a1, .int .i64 a2, .int .i64 a3] 26)
  have hXr : ∀ g, X.map (·.block) = some g → g ≠ w.heap.size := fun g hg => by have := (ox2.lt g hg).1; omega
  have hXx : ∀ g, X.map (·.block) = some g → g ≠ w3.heap.size := fun g hg => by have := (ox2.lt g hg).2; omega
  have hne : w3.heap.size ≠ w.heap.size := by omega
  have z1 := B1.size
  clear r0 r1 r2 s1 s2 s3 B0 B1 B2 hb1 ox3' wi2 wi3 ha
  by_cases h0 : 0 < L
  · go_wp2_with fail
    refine (l1Chance _ _ _ A m c k3 l 3 s3' (by omega) (by omega)).mono ?_
    rintro e w4 ⟨ch, rfl, s4, hw4, -⟩
    have B4 := hw4.below B3' B3'.size (by omega)
    have r4 := r3.within hw4 (by omega)
    have x4 := x3.within hw4 (by omega)
    have ox4 := ox3.within hw4 ox3.lt (.inr g1)
    have lx4 := x4.lt
    cases ch
    · have q4 := hne
      obtain ⟨c0, c1, c2, c3, f0, f1, f2, f3⟩ := r4.four
      go_wp2_with fail
      refine wp_region_mix [(0, false), (1, false), (2, false), (3, true)] (fun u => At u w3.heap.size 26 #[.int .i64 a0, .int .i64 a1, .int .i64 a2, .int .i64 a3]) (by kernel_rfl) (by kernel_rfl) (fun _ _ _ _ _ h => h) x4.drew ?_
      simp only [mixOps, List.map_cons, List.map_nil, List.getElem?_cons_succ, List.getElem?_cons_zero, Option.getD_some]
      iterate 3 (
        refine mix_pure (v := ?_) (by rfl) (fun u hu => ?_) ?_
        rotate_left
        · obtain ⟨_, _, _, _, _, _, _, _⟩ := hu.four
          go_simp
          (with_reducible rfl)
        (try simp only [Act.put, List.setIfInBounds_toArray, List.set_cons_zero, List.set_cons_succ]))
      have X1 := x4.put4 hne (.int .i64 a0) (.int .i64 a1) (.int .i64 a2) (.int .i64 a3)
      have G1 := Below.put4 B4 (Nat.le_refl _) (.int .i64 a0) (.int .i64 a1) (.int .i64 a2) (.int .i64 a3)
      have O1 := ox4.far4 hXr (.int .i64 a0) (.int .i64 a1) (.int .i64 a2) (.int .i64 a3)
      refine mix_call (by rfl) (fun K hK => ?_)
      go_simp
      refine hK _ _ _ (fun _ h => h) X1.drew ?_
      (try simp only [Act.put, List.setIfInBounds_toArray, List.set_cons_zero, List.set_cons_succ])
      refine mix_nil ?_
      go_wp2
      refine bodyPost_ret (v := .tuple #[.slice X L cx, .agg #[.int .i64 a0, .int .i64 a1, .int .i64 a2, .int .i64 a3]]) (by simp [results, Tryd.results11, go_sem, c0, c1, c2, c3]) rfl ?_
      exact ⟨_, L, cx, xs, a0, a1, a2, a3, rfl, hL, (O1.from_ (by omega)).drewN 1, G1.drew⟩
    · go_wp2_with fail
      refine (l1Next _ _ _ A m c _ l L s4 (by omega) (by omega)).mono ?_
      rintro e w5 ⟨r, rfl, hr, -, s5, hw5, -⟩
      obtain ⟨hr0, hr1⟩ := hr (by omega)
      obtain ⟨q, rfl⟩ := Int.eq_ofNat_of_zero_le hr0
      have hq : q < L := by omega
      have B5 := hw5.below B4 B4.size (by omega)
      have r5 := r4.within hw5 (by omega)
      have x5 := x4.within hw5 (by omega)
      have ox5 := ox4.within hw5 ox4.lt (.inr g1)
      have lx5 := x5.lt
      have hl5 := ox5.len okS
      obtain ⟨gX, rfl, hgy, hgz⟩ := ox5.form h0
      obtain ⟨⟨b0, b1, b2, b3⟩, hb⟩ : ∃ y, xs[q]? = some y := ⟨xs[q], List.getElem?_eq_getElem (by omega)⟩
      obtain ⟨d0, d1, d2, d3⟩ := ox5.smpAt hb
      have x6 := x5.set4 (.int .i64 b0) (.int .i64 b1) (.int .i64 b2) (.int .i64 b3)
      have r6 := r5.put4 hne.symm (.int .i64 b0) (.int .i64 b1) (.int .i64 b2) (.int .i64 b3)
      have ox6 := ox5.far4 hXx (.int .i64 b0) (.int .i64 b1) (.int .i64 b2) (.int .i64 b3)
      have s6 := s5.put4 (b := w3.heap.size) (by omega) (.int .i64 b0) (.int .i64 b1) (.int .i64 b2) (.int .i64 b3)
      have B6 := Below.put4 B5 (b := w3.heap.size) (by omega) (.int .i64 b0) (.int .i64 b1) (.int .i64 b2) (.int .i64 b3)
      obtain ⟨_, _, _, _, bf0, bf1, bf2, bf3⟩ := x5.four
      clear hr hr0 hr1
      go_wp2_with fail
      refine (l1Pick _ _ _ A m c _ l w5.heap.size #[.int .i64 b3, .int .i64 9] [b3, 9] 2 2 (s6.alloc _) (by omega) (At.newAt (by simp)) (by simp [intCells]) (by omega) rfl (by omega) (by omega)).mono ?_
      rintro e w7 ⟨v, -, rfl, s7, hw7, -⟩
      have s6' := s6.alloc (.cells #[.int .i64 b3, .int .i64 9] 2)
      have x7 := (x6.alloc (.cells #[.int .i64 b3, .int .i64 9] 2)).within hw7 (by omega)
      have r7 := (r6.alloc (.cells #[.int .i64 b3, .int .i64 9] 2)).within hw7 (by omega)
      have ox6' := ox6.alloc (.cells #[.int .i64 b3, .int .i64 9] 2)
      have ox7 := ox6'.within hw7 ox6'.lt (.inr g1)
      have B6' := B6.alloc B6.size (.cells #[.int .i64 b3, .int .i64 9] 2)
      have B7 := hw7.below B6' B6'.size (by omega)
      obtain ⟨_, _, _, _, vf0, vf1, vf2, vf3⟩ := x7.four
      have x9 := x7.set 3 (.int .i64 v)
      have r9 := r7.far (p := ⟨w3.heap.size, 3, none⟩) (show w.heap.size ≠ w3.heap.size by omega) (.int .i64 v)
      have ox9 := ox7.far (p := ⟨w3.heap.size, 3, none⟩) hXx (.int .i64 v)
      have B9 := B7.setCell (p := ⟨w3.heap.size, 3, none⟩) (show w.heap.size ≤ w3.heap.size by omega) (.int .i64 v)
      clear x6 r6 ox6 s6 B6 s6' ox6' B6' bf0 bf1 bf2 bf3 d0 d1 d2 d3
      obtain ⟨c0, c1, c2, c3, f0, f1, f2, f3⟩ := r9.four
      go_wp2_with fail
      refine wp_region_mix [(0, false), (1, false), (2, false), (3, true)] (fun u => At u w3.heap.size 26 #[.int .i64 b0, .int .i64 b1, .int .i64 b2, .int .i64 v]) (by kernel_rfl) (by kernel_rfl) (fun _ _ _ _ _ h => h) x9.drew ?_
      simp only [mixOps, List.map_cons, List.map_nil, List.getElem?_cons_succ, List.getElem?_cons_zero, Option.getD_some]
      iterate 3 (
        refine mix_pure (v := ?_) (by rfl) (fun u hu => ?_) ?_
        rotate_left
        · obtain ⟨_, _, _, _, _, _, _, _⟩ := hu.four
          go_simp
          (with_reducible rfl)
        (try simp only [Act.put, List.setIfInBounds_toArray, List.set_cons_zero, List.set_cons_succ]))
      have X1 := x9.put4 hne (.int .i64 b0) (.int .i64 b1) (.int .i64 b2) (.int .i64 v)
      have G1 := Below.put4 B9 (Nat.le_refl _) (.int .i64 b0) (.int .i64 b1) (.int .i64 b2) (.int .i64 v)
      have O1 := ox9.far4 hXr (.int .i64 b0) (.int .i64 b1) (.int .i64 b2) (.int .i64 v)
      refine mix_call (by rfl) (fun K hK => ?_)
      go_simp
      refine hK _ _ _ (fun _ h => h) X1.drew ?_
      (try simp only [Act.put, List.setIfInBounds_toArray, List.set_cons_zero, List.set_cons_succ])
      refine mix_nil ?_
      go_wp2
      refine bodyPost_ret (v := .tuple #[.slice (some ⟨gX, 0, none⟩) L cx, .agg #[.int .i64 b0, .int .i64 b1, .int .i64 b2, .int .i64 v]]) (by simp [results, Tryd.results11, go_sem, c0, c1, c2, c3]) rfl ?_
      exact ⟨_, L, cx, xs, b0, b1, b2, v, rfl, hL, (O1.from_ (by omega)).drewN 1, G1.drew⟩
  · have q4 := hne
    obtain ⟨c0, c1, c2, c3, f0, f1, f2, f3⟩ := r3.four
    go_wp2_with fail
    refine wp_region_mix [(0, false), (1, false), (2, false), (3, true)] (fun u => At u w3.heap.size 26 #[.int .i64 a0, .int .i64 a1, .int .i64 a2, .int .i64 a3]) (by kernel_rfl) (by kernel_rfl) (fun _ _ _ _ _ h => h) x3.drew ?_
    simp only [mixOps, List.map_cons, List.map_nil, List.getElem?_cons_succ, List.getElem?_cons_zero, Option.getD_some]
    iterate 3 (
      refine mix_pure (v := ?_) (by rfl) (fun u hu => ?_) ?_
      rotate_left
      · obtain ⟨_, _, _, _, _, _, _, _⟩ := hu.four
        go_simp
        (with_reducible rfl)
      (try simp only [Act.put, List.setIfInBounds_toArray, List.set_cons_zero, List.set_cons_succ]))
    have X1 := x3.put4 hne (.int .i64 a0) (.int .i64 a1) (.int .i64 a2) (.int .i64 a3)
    have G1 := Below.put4 B3' (Nat.le_refl _) (.int .i64 a0) (.int .i64 a1) (.int .i64 a2) (.int .i64 a3)
    have O1 := ox3.far4 hXr (.int .i64 a0) (.int .i64 a1) (.int .i64 a2) (.int .i64 a3)
    refine mix_call (by rfl) (fun K hK => ?_)
    go_simp
    refine hK _ _ _ (fun _ h => h) X1.drew ?_
    (try simp only [Act.put, List.setIfInBounds_toArray, List.set_cons_zero, List.set_cons_succ])
    refine mix_nil ?_
    go_wp2
    refine bodyPost_ret (v := .tuple #[.slice X L cx, .agg #[.int .i64 a0, .int .i64 a1, .int .i64 a2, .int .i64 a3]]) (by simp [results, Tryd.results11, go_sem, c0, c1, c2, c3]) rfl ?_
    exact ⟨_, L, cx, xs, a0, a1, a2, a3, rfl, hL, (O1.from_ (by omega)).drewN 1, G1.drew⟩

set_option maxHeartbeats 1000000 in
theorem drawFindSample (A : Option Addr) (m c : Nat) (l : List UInt8) (w : World) (ha : Rd eB w w.heap.size A l) (hn : l.length = m) (hm : m ≤ 1048576) :
    Calls Tryd.prog 15 #[.slice A m c] w fun e w' => ∃ (X : Option Addr) (L cx : Nat) (xs : List Smp) (a0 a1 a2 a3 : Int), e = .returned (.tuple #[.slice X L cx, .agg #[.int .i64 a0, .int .i64 a1, .int .i64 a2, .int .i64 a3]]) ∧ L ≤ 200 ∧ Ow eS w' w.heap.size X L cx xs ∧ Below w.heap.size w w' := by
  have B0 := (Below.refl w.heap.size w).alloc (Nat.le_refl _) (.cells #[.int .i64 0, .int .i64 0, .int .i64 0, .int .i64 0] 26)
  have r0 := At.new w 26 #[.int .i64 0, .int .i64 0, .int .i64 0, .int .i64 0]
  go_enter Tryd.func15, Tryd.ntmps15
  go_wp2_with fail
  refine (drawInsertSample A m c l _ (ha.lift B0) hn hm).mono ?_
  rintro e w1 ⟨X, L, cx, xs, a0, a1, a2, a3, rfl, hL, ox, hb1⟩
  have B1 := B0.trans (hb1.mono B0.size)
  have r1 := r0.below hb1 r0.lt
  obtain ⟨c0, c1, c2, c3, f0, f1, f2, f3⟩ := r1.four
  have hXr : ∀ g, X.map (·.block) = some g → g ≠ w.heap.size := fun g hg => by have := (ox.lt g hg).1; simp at this; omega
  have G1 := Below.put4 B1 (Nat.le_refl _) (.int .i64 a0) (.int .i64 a1) (.int .i64 a2) (.int .i64 a3)
  have O1 := ox.far4 hXr (.int .i64 a0) (.int .i64 a1) (.int .i64 a2) (.int .i64 a3)
  go_wp2_with fail
  refine bodyPost_ret (v := .tuple #[.slice X L cx, .agg #[.int .i64 a0, .int .i64 a1, .int .i64 a2, .int .i64 a3]]) (by simp [results, Tryd.results15, go_sem, c0, c1, c2, c3]) rfl ?_
  exact ⟨X, L, cx, xs, a0, a1, a2, a3, rfl, hL, O1.from_ (by simp), G1⟩
end Go.Proofs.YtkgbjlbhlhdhbaaDoor
