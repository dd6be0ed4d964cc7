import Derived.Test.YtkdfbaiolgndeaaFrame
import Derived.Test.YtkdfbaiolgndeaaBR
namespace Go.Proofs.Ytkdfbaiolgndeaa
open Go.RowKit

/-- What PackFrame answers. -/
def packFrameM (b : List UInt8) : Int × List UInt8 := if 1 ≤ b.length ∧ b.length ≤ 40 then (0, frameL b) else (2, [])
theorem packFrameM_len (b : List UInt8) : (packFrameM b).2.length ≤ 43 := by
  unfold packFrameM
  split
  · rw [frameL_len]; omega
  · simp
theorem packFrameM_bad {b : List UInt8} (h : ¬ (1 ≤ b.length ∧ b.length ≤ 40)) : packFrameM b = (2, []) := if_neg h
theorem packFrameM_ok {b : List UInt8} (h : 1 ≤ b.length ∧ b.length ≤ 40) : packFrameM b = (0, frameL b) := if_pos h

set_option maxHeartbeats 400000 in
theorem specPackFrame_no (A : Option Addr) (n c : Nat) (b : List UInt8) (w : World) (hn : b.length = n) (h : n = 0 ∨ 40 < n) :
    Calls Try.prog 21 #[.slice A n c] w fun e w' => RetBR (packFrameM b) w e w' := by
  have Hf := Lib.hid (packFrameM_bad (b := b) (by omega))
  clear hn
  rcases h with rfl | h
  all_goals
    go_enter Try.func21, Try.ntmps21
    go_wp2
    refine bodyPost_ret (v := .agg #[.int .i64 2, .slice none 0 0]) (by simp [results, Try.results21, go_sem]) rfl ?_
    rw [Hf.out]
    exact ⟨none, 0, 0, rfl, Ow.nil, (Below.refl _ _).alloc (Nat.le_refl _) _⟩

set_option maxHeartbeats 400000 in
theorem specPackFrame_ok (A : Option Addr) (n c : Nat) (b : List UInt8) (w : World) (ha : Rd eB w w.heap.size A b) (hn : b.length = n) (h1 : 1 ≤ n) (h2 : n ≤ 40) :
    Calls Try.prog 21 #[.slice A n c] w fun e w' => RetBR (packFrameM b) w e w' := by
  have Hf := Lib.hid (packFrameM_ok (b := b) (by omega))
  have Hn := Lib.hid hn
  clear hn
  have B0 := (Below.refl w.heap.size w).alloc (Nat.le_refl _) (.cells #[.int .i64 0, .slice none 0 0] 30)
  have a0 := ha.lift B0
  go_enter Try.func21, Try.ntmps21
  go_wp2_with (go_at_call 43; refine (l1Frame A n c b _ a0 Hn.out h2).mono ?_; rintro e w1 ⟨A1, c1, rfl, ow1, hb1⟩; have r1 := (At.new w 30 #[.int .i64 0, .slice none 0 0]).below hb1 (by simp); obtain ⟨r0, r1, _, _⟩ := r1.two)
  refine bodyPost_ret (v := .agg #[.int .i64 0, .slice A1 (n + 3) c1]) (by simp [results, Try.results21, go_sem, r0, r1]) rfl ?_
  rw [Hf.out]
  exact ⟨A1, n + 3, c1, rfl, ((ow1.under (p := ⟨w.heap.size, 0, none⟩) (by simp) _).under (p := ⟨w.heap.size, 1, none⟩) (by simp) _).from_ (by simp), ((B0.trans (hb1.mono B0.size)).setCell (Nat.le_refl _) _).setCell (Nat.le_refl _) _⟩

theorem specPackFrame (A : Option Addr) (n c : Nat) (b : List UInt8) (w : World) (ha : Rd eB w w.heap.size A b) (hn : b.length = n) :
    Calls Try.prog 21 #[.slice A n c] w fun e w' => RetBR (packFrameM b) w e w' := by
  by_cases h : n = 0 ∨ 40 < n
  · exact specPackFrame_no A n c b w hn h
  · exact specPackFrame_ok A n c b w ha hn (by omega) (by omega)

/-! ### impl -/
set_option maxHeartbeats 400000 in
theorem sumBytes (A : Option Addr) (n c : Nat) (l : List UInt8) (w : World) (ha : Rd eB w w.heap.size A l) (hn : l.length = n) (hm : n ≤ 20000) :
    Calls Try.prog 50 #[.slice A n c] w fun e w' => ∃ A' c', e = .returned (.slice A' 2 c') ∧ Ow eB w' w.heap.size A' 2 c' (sumL l) ∧ Below w.heap.size w w' := by
  have Hf := sumM_ok (l := l) (by omega)
  have h := implSumOf A n c l w ha hn
  rw [Hf] at h
  have H := Lib.hid h
  have hs2 : ((sumN l : Nat) : Int) ≤ 65535 := by have := sumN_lt l; omega
  clear hn hm Hf h
  have hfd : ∀ w : World, (Instr.field 40 (.agg #[.int .i64 0, .int .i64 (sumN l : Nat)]) 1).run Try.prog w = .ok (.int .i64 (sumN l : Nat)) w := fun _ => by kernel_rfl
  go_enter Try.func50, Try.ntmps50
  go_wp2_with (go_at_call 27; refine H.out.mono ?_; rintro e w1 ⟨rfl, hb1⟩)
  go_ret
  have o3 := ow_two w1 (UInt8.ofNat (sumN l / 256)) (UInt8.ofNat (sumN l)) (((sumN l : Nat) : Int) / 256) (((sumN l : Nat) : Int) % 256) (by rw [byte_num']; omega) (by rw [byte_num'])
  exact ⟨_, _, rfl, o3.from_ hb1.size, hb1.alloc hb1.size _⟩

set_option maxHeartbeats 400000 in
theorem implPackFrame_no (A : Option Addr) (n c : Nat) (b : List UInt8) (w : World) (hn : b.length = n) (h : ¬ (1 ≤ n ∧ n ≤ 40)) :
    Calls Try.prog 15 #[.slice A n c] w fun e w' => RetBR (packFrameM b) w e w' := by
  have Hf := Lib.hid (packFrameM_bad (b := b) (by omega))
  have hno : [((n : Int), (1 : Int), (40 : Int))].all inB = false := by simp [inB]; omega
  clear hn h
  go_enter Try.func15, Try.ntmps15
  go_wp2_with (go_at_call 49; refine (areWithin_any _ _ _ [((n : Int), 1, 40)] _ (bnds_one (by simp)) (by simp) rfl (by simp)).mono ?_; rintro e w1 ⟨rfl, hb1⟩; have a1 := ((At.new w 30 #[.int .i64 0, .slice none 0 0]).alloc _).below hb1 (by simp; omega); obtain ⟨r0, r1, _, _⟩ := a1.two)
  have B1 : Below w.heap.size w w1 := (((Below.refl _ _).alloc (Nat.le_refl _) _).alloc (by simp) _).trans (hb1.mono (by simp; omega))
  refine bodyPost_ret (v := .agg #[.int .i64 2, .slice none 0 0]) (by simp [results, Try.results15, go_sem, r0, r1]) rfl ?_
  rw [Hf.out]
  exact ⟨none, 0, 0, rfl, Ow.nil, (B1.setCell (Nat.le_refl _) _).setCell (Nat.le_refl _) _⟩

set_option maxHeartbeats 800000 in
theorem implPackFrame_ok (A : Option Addr) (n c : Nat) (b : List UInt8) (w : World) (ha : Rd eB w w.heap.size A b) (hn : b.length = n) (h1 : 1 ≤ n) (h2 : n ≤ 40) :
    Calls Try.prog 15 #[.slice A n c] w fun e w' => RetBR (packFrameM b) w e w' := by
  have Hf := Lib.hid (packFrameM_ok (b := b) (by omega))
  have Hn := Lib.hid hn
  have hno : [((n : Int), (1 : Int), (40 : Int))].all inB = true := by simp [inB]; omega
  clear hn
  go_enter Try.func15, Try.ntmps15
  go_wp2_with (first
    | (go_at_call 49
       refine (areWithin_any _ _ _ [((n : Int), 1, 40)] _ (bnds_one (by simp)) (by simp) rfl (by simp)).mono ?_
       rintro e w1 ⟨rfl, hb1⟩
       have a1 := ((At.new w 30 #[.int .i64 0, .slice none 0 0]).alloc _).below hb1 (by simp; omega)
       have z1 := a1.lt
       have B1 : Below w.heap.size w w1 := (((Below.refl _ _).alloc (Nat.le_refl _) _).alloc (by simp) _).trans (hb1.mono (by simp; omega))
       have o1 := ow_one w1 (UInt8.ofNat n) (n : Int) (byte_small (by omega)).symm
       have B2 := B1.alloc B1.size (.cells #[.int .u8 (n : Int)] 5)
       have a2 := a1.alloc (.cells #[.int .u8 (n : Int)] 5)
       have rd2 := ha.lift B2)
    | (at_builtin
       refine wpList_append_ow okB _ rfl (.tmp 14) (.tmp 15) _ rfl w1.heap.size info_u8 Try.underlying22 rfl (some ⟨w1.heap.size, 0, none⟩) 1 1 [UInt8.ofNat n] rfl o1 A n c _ b rfl rd2 Hn.out (by unfold maxLen; omega) (by omega) (by simp) ?_
       intro A3 c3 w3 ow3 hg3 _
       have B3 : Below w.heap.size w w3 := B2.grown hg3 B2.size (fun g hg => by simp at hg; omega)
       have a3 := a2.grown hg3 (by simp; omega)
       have ow3' : Ow eB w3 w1.heap.size A3 (1 + n) c3 (frontL b) := by
         rw [frontL, Hn.out]
         exact ow3)
    | (go_at_call 50
       refine (sumBytes A3 (1 + n) c3 (frontL b) _ (ow3'.rd okB) (ow3'.len okB) (by omega)).mono ?_
       rintro e w4 ⟨A4, c4, rfl, ow4, hb4⟩
       have ow5 := ow3'.below hb4 (Nat.le_refl _)
       have a4 := a3.below hb4 a3.lt
       have B4 := B3.trans (hb4.mono B3.size)
       have z4 := a4.lt
       have le4 : w1.heap.size ≤ w4.heap.size := by have h1 := hg3.size; have h2 := hb4.size; simp at h1; omega)
    | (at_builtin
       refine wpList_append_ow okB _ rfl (.tmp 17) (.tmp 19) _ rfl w1.heap.size info_u8 Try.underlying22 rfl A3 (1 + n) c3 (frontL b) rfl ow5 A4 2 c4 _ (sumL (frontL b)) rfl (ow4.rd okB) rfl (by unfold maxLen; omega) (by omega) le4 ?_
       intro A6 c6 w6 ow6 hg6 _
       have B6 := B4.grown hg6 B4.size (fun g hg => by have := (ow5.lt g hg).1; omega)
       have a6 := a4.grown hg6 (fun e => by have := (ow5.lt _ e).1; omega)
       obtain ⟨r0, r1, _, _⟩ := a6.two))
  refine bodyPost_ret (v := .agg #[.int .i64 0, .slice A6 (1 + n + 2) c6]) (by simp [results, Try.results15, go_sem, r0, r1]) rfl ?_
  rw [Hf.out]
  exact ⟨A6, 1 + n + 2, c6, rfl, ((ow6.under (p := ⟨w.heap.size, 0, none⟩) (by simp; omega) _).under (p := ⟨w.heap.size, 1, none⟩) (by simp; omega) _).from_ (by omega), (B6.setCell (Nat.le_refl _) _).setCell (Nat.le_refl _) _⟩

theorem implPackFrame (A : Option Addr) (n c : Nat) (b : List UInt8) (w : World) (ha : Rd eB w w.heap.size A b) (hn : b.length = n) :
    Calls Try.prog 15 #[.slice A n c] w fun e w' => RetBR (packFrameM b) w e w' := by
  by_cases h : 1 ≤ n ∧ n ≤ 40
  · exact implPackFrame_ok A n c b w ha hn h.1 h.2
  · exact implPackFrame_no A n c b w hn h
end Go.Proofs.Ytkdfbaiolgndeaa
