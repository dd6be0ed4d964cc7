/-
  A record's bytes: the model's.
-/
import Derived.Test.YteiclanlhnccnaaDoorEncAt
import Derived.Test.YteiclanlhnccnaaDoorRecS
import Derived.Test.YteiclanlhnccnaaDoorRDec
import Derived.Test.YteiclanlhnccnaaDoorMix
namespace Go.Proofs.YteiclanlhnccnaaDoor
set_option maxRecDepth 20000
open Go.RowKit
set_option linter.unusedSimpArgs false
set_option linter.unusedVariables false
attribute [local irreducible] mixW

theorem ow_one (w : World) (b : UInt8) (v : Int) (hv : v = (b.toNat : Int)) : Ow eB (w.alloc (.cells #[.int .u8 v] 5)) w.heap.size (some ⟨w.heap.size, 0, none⟩) 1 1 [b] :=
  Ow.lit w [b] _ 1 (Nat.le_refl _) (by unfold maxLen; omega) (by simp [Enc.row, eB, hv]) rfl
/-- A record with no fault: its numbers. -/
theorem rec_nat {a0 a1 a2 a3 a4 a5 a6 : Int} (h : recFaultM (a0, a1, (a2, a3, a4, a5), a6) = 0) : (∃ n0 n1 n2 n3 : Nat, a2 = n0 ∧ a3 = n1 ∧ a4 = n2 ∧ a5 = (n3 : Int) - 1000 ∧ n0 ≤ 9 ∧ n1 ≤ 999 ∧ n2 ≤ 9999 ∧ n3 ≤ 2000) ∧ (∃ p : Nat, a1 = p ∧ p ≤ 3) ∧ (∃ k : Nat, a6 = k ∧ k ≤ 60000 ∧ (a0 ≠ 4 → k ≤ 9999)) ∧ (a0 = 1 ∨ a0 = 2 ∨ a0 = 3 ∨ a0 = 4) ∧ recFormM (a0, a1, (a2, a3, a4, a5), a6) = true ∧ faultM (a2, a3, a4, a5) = 0 := by
  have hf : recFormM (a0, a1, (a2, a3, a4, a5), a6) = true := by
    rcases hf : recFormM (a0, a1, (a2, a3, a4, a5), a6)
    · rw [recFault_form hf] at h; cases h
    · rfl
  have h1 := h
  rw [recFault_range hf] at h1
  unfold rrangeM at h1
  rcases hb : (inB (a1, 0, 3) && inB (a6, 0, mostM (a0, a1, (a2, a3, a4, a5), a6)))
  · simp only [hb] at h1; cases h1
  · simp only [hb, if_true] at h1
    have hb2 : (0 ≤ a1 ∧ a1 ≤ 3) ∧ (0 ≤ a6 ∧ a6 ≤ mostM (a0, a1, (a2, a3, a4, a5), a6)) := by simpa [inB] using hb
    have hm : mostM (a0, a1, (a2, a3, a4, a5), a6) ≤ 60000 ∧ (a0 ≠ 4 → mostM (a0, a1, (a2, a3, a4, a5), a6) ≤ 9999) := by
      unfold mostM
      by_cases h4 : a0 = 4
      · rw [if_pos h4]; exact ⟨by omega, fun q => absurd h4 q⟩
      · rw [if_neg h4]; exact ⟨by omega, fun _ => by omega⟩
    have hk : a0 = 1 ∨ a0 = 2 ∨ a0 = 3 ∨ a0 = 4 := by
      by_cases k1 : a0 = 1
      · exact .inl k1
      by_cases k2 : a0 = 2
      · exact .inr (.inl k2)
      by_cases k3 : a0 = 3
      · exact .inr (.inr (.inl k3))
      by_cases k4 : a0 = 4
      · exact .inr (.inr (.inr k4))
      · unfold recFormM at hf; rw [if_neg k1, if_neg k2, if_neg k3, if_neg k4] at hf; cases hf
    refine ⟨faultM_nat h1, ⟨a1.toNat, by omega, by omega⟩, ⟨a6.toNat, by omega, by omega, fun q => by have := hm.2 q; omega⟩, hk, hf, h1⟩
theorem encS_nat (n0 n1 n2 n3 : Nat) : encS ((n0 : Int), (n1 : Int), (n2 : Int), (n3 : Int) - 1000) = encL n0 n1 n2 n3 := by
  unfold encS
  simp only [Int.toNat_natCast, Int.sub_add_cancel]
theorem packL_is (k s : Nat) : packL ((k : Int)).toNat s = packL k s := by rw [Int.toNat_natCast]

set_option maxHeartbeats 4000000 in
theorem l5Encode (g : Nat) (a0 a1 a2 a3 a4 a5 a6 : Int) (w : World) (hx : At w g 29 #[.int .i64 a0, .int .i64 a1, .int .i64 a2, .int .i64 a3, .int .i64 a4, .int .i64 a5, .int .i64 a6]) (h : recFaultM (a0, a1, (a2, a3, a4, a5), a6) = 0) :
    Calls Tryd.prog 32 #[.pointer (some ⟨g, 0, none⟩)] w fun e w' => ∃ A n c, e = .returned (.slice A n c) ∧ Ow eB w' w.heap.size A n c (encR (a0, a1, (a2, a3, a4, a5), a6)) ∧ Below w.heap.size w w' := by
  obtain ⟨⟨n0, n1, n2, n3, rfl, rfl, rfl, rfl, k0, k1, k2, k3⟩, ⟨p, rfl, kp⟩, ⟨k, rfl, kk, kk2⟩, hk, -, -⟩ := rec_nat h
  clear h
  have hg := hx.lt
  rcases hk with rfl | rfl | rfl | rfl
  · rw [encR_1, encS_nat]
    have hx0 := hx.alloc (.cells #[.int .u8 1] 5)
    have hB0 : Below w.heap.size w (w.alloc (.cells #[.int .u8 1] 5)) := (Below.refl _ _).alloc (Nat.le_refl _) _
    have ob := ow_one w 1 1 rfl
    obtain ⟨c0, c1, c2, c3, c4, c5, c6⟩ := hx.seven
    obtain ⟨y0, y1, y2, y3, y4, y5, y6⟩ := hx0.seven
    go_enter Tryd.func32, Tryd.ntmps32
    go_wp2_with fail
    refine (l2EncodeR g n0 n1 n2 n3 1 p k _ hx0 k0 k1 k2 k3).mono ?_
    rintro e w2 ⟨A2, c2', rfl, o2, hb2⟩
    have hB2 := hB0.trans (hb2.mono hB0.size)
    have ob2 := ob.below hb2 (Nat.le_refl _)
    go_wp2_with (at_builtin; refine wpList_append_ow okB _ rfl (.tmp 16) (.tmp 20) _ rfl w.heap.size info_u8 Tryd.underlying32 rfl _ 1 1 [1] rfl ob2 A2 7 c2' _ (encL n0 n1 n2 n3) rfl (o2.rd okB) (o2.len okB) (by unfold maxLen; omega) (by omega) hB2.size ?_; intro A9 c9 w9 ow9 hg9 _)
    go_ret
    exact ⟨A9, _, c9, rfl, ow9, hB2.grown hg9 hB2.size (fun g hg => (ob2.lt g hg).1)⟩
  · rw [encR_2, encS_nat]
    have hx0 := hx.alloc (.cells #[.int .u8 2] 5)
    have hB0 : Below w.heap.size w (w.alloc (.cells #[.int .u8 2] 5)) := (Below.refl _ _).alloc (Nat.le_refl _) _
    have ob := ow_one w 2 2 rfl
    obtain ⟨c0, c1, c2, c3, c4, c5, c6⟩ := hx.seven
    obtain ⟨y0, y1, y2, y3, y4, y5, y6⟩ := hx0.seven
    go_enter Tryd.func32, Tryd.ntmps32
    go_wp2
    refine wp_region_mix [(0, false), (1, false), (2, false), (3, false), (4, false), (5, false), (8, false), (9, false), (10, false), (6, true), (7, true), (11, true), (12, true), (13, false)] (fun u => At u g 29 #[.int .i64 2, .int .i64 p, .int .i64 n0, .int .i64 n1, .int .i64 n2, .int .i64 ((n3 : Int) - 1000), .int .i64 k]) (by kernel_rfl) (by kernel_rfl) (fun _ _ _ _ _ h => h) hx0.drew ?_
    simp only [mixOps, List.map_cons, List.map_nil, List.getElem?_cons_succ, List.getElem?_cons_zero, Option.getD_some]
    repeat (first
        | (refine mix_skip (by rfl) ?_
           (try simp only [Act.put, List.setIfInBounds_toArray, List.set_cons_zero, List.set_cons_succ]))
        | (refine mix_pure (v := ?_) (by rfl) (fun u hu => ?_) ?_
           rotate_left
           · obtain ⟨_, _, _, _, _, _, _⟩ := hu.seven
             go_simp
             (with_reducible rfl)
           (try simp only [Act.put, List.setIfInBounds_toArray, List.set_cons_zero, List.set_cons_succ])))
    have hB0 := hB0.drew
    have X0 : At (w.alloc (.cells #[.int .u8 2] 5)).drew g 29 #[.int .i64 2, .int .i64 p, .int .i64 n0, .int .i64 n1, .int .i64 n2, .int .i64 ((n3 : Int) - 1000), .int .i64 k] := hx0.drew
    have ob : Ow eB (w.alloc (.cells #[.int .u8 2] 5)).drew w.heap.size (some ⟨w.heap.size, 0, none⟩) 1 1 [2] := ob
    generalize (w.alloc (.cells #[.int .u8 2] 5)).drew = v0 at *
    refine mix_call (by rfl) (fun K hK => ?_)
    go_simp
    have X1 := X0.alloc (.cells #[.int .u8 (IntKind.u8.wrap (p : Int))] 5)
    have hB1 := hB0.alloc hB0.size (.cells #[.int .u8 (IntKind.u8.wrap (p : Int))] 5)
    have ob1 := ob.alloc (.cells #[.int .u8 (IntKind.u8.wrap (p : Int))] 5)
    have oc1 := (ow_one v0 (UInt8.ofNat p) (IntKind.u8.wrap (p : Int)) (by rw [byte_small1 (by omega)]; exact IntWalk.u8_in _ (by omega)))
    refine hK _ _ (fun u => At u g 29 #[.int .i64 2, .int .i64 p, .int .i64 n0, .int .i64 n1, .int .i64 n2, .int .i64 ((n3 : Int) - 1000), .int .i64 k]) (fun _ h => h) X1 ?_
    clear hK K
    (try simp only [Act.put, List.setIfInBounds_toArray, List.set_cons_zero, List.set_cons_succ])
    refine mix_call (by rfl) (fun K hK => ?_)
    refine wp_append_ow okB _ (.tmp 24) (.tmp 30) _ rfl w.heap.size info_u8 Tryd.underlying32 rfl _ 1 1 [2] rfl ob1 _ 1 1 _ [UInt8.ofNat p] rfl (oc1.rd okB) rfl (by unfold maxLen; omega) (by omega) hB1.size ?_
    intro A3 c3' w3 ow3 hg3 _
    have hB3 : Below w.heap.size w w3 := hB1.grown hg3 hB1.size (fun g hg => (ob1.lt g hg).1)
    have X3 := X1.grown hg3 (fun e => by have := (ob1.lt _ e).1; omega)
    refine hK _ _ (fun u => At u g 29 #[.int .i64 2, .int .i64 p, .int .i64 n0, .int .i64 n1, .int .i64 n2, .int .i64 ((n3 : Int) - 1000), .int .i64 k]) (fun _ h => h) X3 ?_
    clear hK K
    (try simp only [Act.put, List.setIfInBounds_toArray, List.set_cons_zero, List.set_cons_succ])
    refine mix_call (by rfl) (fun K hK => ?_)
    go_simp
    refine (l2EncodeR g n0 n1 n2 n3 2 p k _ X3 k0 k1 k2 k3).mono ?_
    rintro e w4 ⟨A4, c4', rfl, o4, hb4⟩
    have hB4 := hB3.trans (hb4.mono hB3.size)
    have X4 := X3.below hb4 X3.lt
    have ow4 := ow3.below hb4 (Nat.le_refl _)
    refine hK _ _ (fun u => At u g 29 #[.int .i64 2, .int .i64 p, .int .i64 n0, .int .i64 n1, .int .i64 n2, .int .i64 ((n3 : Int) - 1000), .int .i64 k]) (fun _ h => h) X4 ?_
    clear hK K
    (try simp only [Act.put, List.setIfInBounds_toArray, List.set_cons_zero, List.set_cons_succ])
    refine mix_call (by rfl) (fun K hK => ?_)
    refine wp_append_ow okB _ (.tmp 31) (.tmp 35) _ rfl w.heap.size info_u8 Tryd.underlying32 rfl A3 (1 + 1) c3' ([2] ++ [UInt8.ofNat p]) rfl ow4 A4 7 c4' _ (encL n0 n1 n2 n3) rfl (o4.rd okB) (o4.len okB) (by unfold maxLen; omega) (by omega) hB4.size ?_
    intro A9 c9 w9 ow9 hg9 _
    have hB9 : Below w.heap.size w w9 := hB4.grown hg9 hB4.size (fun g hg => (ow4.lt g hg).1)
    have X9 := X4.grown hg9 (fun e => by have := (ow4.lt _ e).1; omega)
    refine hK _ _ (fun u => At u g 29 #[.int .i64 2, .int .i64 p, .int .i64 n0, .int .i64 n1, .int .i64 n2, .int .i64 ((n3 : Int) - 1000), .int .i64 k]) (fun _ h => h) X9 ?_
    clear hK K
    (try simp only [Act.put, List.setIfInBounds_toArray, List.set_cons_zero, List.set_cons_succ])
    refine mix_pure (v := ?_) (by rfl) (fun u hu => ?_) ?_
    rotate_left
    · go_simp
      (with_reducible rfl)
    (try simp only [Act.put, List.setIfInBounds_toArray, List.set_cons_zero, List.set_cons_succ])
    refine mix_nil ?_
    go_wp2
    go_ret
    exact ⟨A9, _, c9, rfl, ow9, hB9⟩
  · rw [encR_3, packL_is]
    have hx0 := hx.alloc (.cells #[.int .u8 3] 5)
    have hB0 : Below w.heap.size w (w.alloc (.cells #[.int .u8 3] 5)) := (Below.refl _ _).alloc (Nat.le_refl _) _
    have ob := ow_one w 3 3 rfl
    obtain ⟨c0, c1, c2, c3, c4, c5, c6⟩ := hx.seven
    obtain ⟨y0, y1, y2, y3, y4, y5, y6⟩ := hx0.seven
    go_enter Tryd.func32, Tryd.ntmps32
    go_wp2
    refine wp_region_mix [(0, false), (1, false), (2, false), (3, false), (4, false), (5, false), (8, false), (9, false), (10, false), (11, false), (6, true), (7, true), (12, true), (13, true), (14, false)] (fun u => At u g 29 #[.int .i64 3, .int .i64 p, .int .i64 n0, .int .i64 n1, .int .i64 n2, .int .i64 ((n3 : Int) - 1000), .int .i64 k]) (by kernel_rfl) (by kernel_rfl) (fun _ _ _ _ _ h => h) hx0.drew ?_
    simp only [mixOps, List.map_cons, List.map_nil, List.getElem?_cons_succ, List.getElem?_cons_zero, Option.getD_some]
    repeat (first
        | (refine mix_skip (by rfl) ?_
           (try simp only [Act.put, List.setIfInBounds_toArray, List.set_cons_zero, List.set_cons_succ]))
        | (refine mix_pure (v := ?_) (by rfl) (fun u hu => ?_) ?_
           rotate_left
           · obtain ⟨_, _, _, _, _, _, _⟩ := hu.seven
             go_simp
             (with_reducible rfl)
           (try simp only [Act.put, List.setIfInBounds_toArray, List.set_cons_zero, List.set_cons_succ])))
    have hB0 := hB0.drew
    have X0 : At (w.alloc (.cells #[.int .u8 3] 5)).drew g 29 #[.int .i64 3, .int .i64 p, .int .i64 n0, .int .i64 n1, .int .i64 n2, .int .i64 ((n3 : Int) - 1000), .int .i64 k] := hx0.drew
    have ob : Ow eB (w.alloc (.cells #[.int .u8 3] 5)).drew w.heap.size (some ⟨w.heap.size, 0, none⟩) 1 1 [3] := ob
    generalize (w.alloc (.cells #[.int .u8 3] 5)).drew = v0 at *
    refine mix_call (by rfl) (fun K hK => ?_)
    go_simp
    have X1 := X0.alloc (.cells #[.int .u8 (IntKind.u8.wrap (p : Int))] 5)
    have hB1 := hB0.alloc hB0.size (.cells #[.int .u8 (IntKind.u8.wrap (p : Int))] 5)
    have ob1 := ob.alloc (.cells #[.int .u8 (IntKind.u8.wrap (p : Int))] 5)
    have oc1 := (ow_one v0 (UInt8.ofNat p) (IntKind.u8.wrap (p : Int)) (by rw [byte_small1 (by omega)]; exact IntWalk.u8_in _ (by omega)))
    refine hK _ _ (fun u => At u g 29 #[.int .i64 3, .int .i64 p, .int .i64 n0, .int .i64 n1, .int .i64 n2, .int .i64 ((n3 : Int) - 1000), .int .i64 k]) (fun _ h => h) X1 ?_
    clear hK K
    (try simp only [Act.put, List.setIfInBounds_toArray, List.set_cons_zero, List.set_cons_succ])
    refine mix_call (by rfl) (fun K hK => ?_)
    refine wp_append_ow okB _ (.tmp 39) (.tmp 45) _ rfl w.heap.size info_u8 Tryd.underlying32 rfl _ 1 1 [3] rfl ob1 _ 1 1 _ [UInt8.ofNat p] rfl (oc1.rd okB) rfl (by unfold maxLen; omega) (by omega) hB1.size ?_
    intro A3 c3' w3 ow3 hg3 _
    have hB3 : Below w.heap.size w w3 := hB1.grown hg3 hB1.size (fun g hg => (ob1.lt g hg).1)
    have X3 := X1.grown hg3 (fun e => by have := (ob1.lt _ e).1; omega)
    refine hK _ _ (fun u => At u g 29 #[.int .i64 3, .int .i64 p, .int .i64 n0, .int .i64 n1, .int .i64 n2, .int .i64 ((n3 : Int) - 1000), .int .i64 k]) (fun _ h => h) X3 ?_
    clear hK K
    (try simp only [Act.put, List.setIfInBounds_toArray, List.set_cons_zero, List.set_cons_succ])
    refine mix_call (by rfl) (fun K hK => ?_)
    go_simp
    refine (l1Pack k 2 _ (by omega) (by omega)).mono ?_
    rintro e w4 ⟨A4, c4', rfl, o4, hb4⟩
    have hB4 := hB3.trans (hb4.mono hB3.size)
    have X4 := X3.below hb4 X3.lt
    have ow4 := ow3.below hb4 (Nat.le_refl _)
    refine hK _ _ (fun u => At u g 29 #[.int .i64 3, .int .i64 p, .int .i64 n0, .int .i64 n1, .int .i64 n2, .int .i64 ((n3 : Int) - 1000), .int .i64 k]) (fun _ h => h) X4 ?_
    clear hK K
    (try simp only [Act.put, List.setIfInBounds_toArray, List.set_cons_zero, List.set_cons_succ])
    refine mix_call (by rfl) (fun K hK => ?_)
    refine wp_append_ow okB _ (.tmp 46) (.tmp 51) _ rfl w.heap.size info_u8 Tryd.underlying32 rfl A3 (1 + 1) c3' ([3] ++ [UInt8.ofNat p]) rfl ow4 A4 2 c4' _ (packL k 2) rfl (o4.rd okB) (packL_len _ _) (by unfold maxLen; omega) (by omega) hB4.size ?_
    intro A9 c9 w9 ow9 hg9 _
    have hB9 : Below w.heap.size w w9 := hB4.grown hg9 hB4.size (fun g hg => (ow4.lt g hg).1)
    have X9 := X4.grown hg9 (fun e => by have := (ow4.lt _ e).1; omega)
    refine hK _ _ (fun u => At u g 29 #[.int .i64 3, .int .i64 p, .int .i64 n0, .int .i64 n1, .int .i64 n2, .int .i64 ((n3 : Int) - 1000), .int .i64 k]) (fun _ h => h) X9 ?_
    clear hK K
    (try simp only [Act.put, List.setIfInBounds_toArray, List.set_cons_zero, List.set_cons_succ])
    refine mix_pure (v := ?_) (by rfl) (fun u hu => ?_) ?_
    rotate_left
    · go_simp
      (with_reducible rfl)
    (try simp only [Act.put, List.setIfInBounds_toArray, List.set_cons_zero, List.set_cons_succ])
    refine mix_nil ?_
    go_wp2
    go_ret
    exact ⟨A9, _, c9, rfl, ow9, hB9⟩
  · rw [encR_4, packL_is]
    have hx0 := hx.alloc (.cells #[.int .u8 4] 5)
    have hB0 : Below w.heap.size w (w.alloc (.cells #[.int .u8 4] 5)) := (Below.refl _ _).alloc (Nat.le_refl _) _
    have ob := ow_one w 4 4 rfl
    obtain ⟨c0, c1, c2, c3, c4, c5, c6⟩ := hx.seven
    obtain ⟨y0, y1, y2, y3, y4, y5, y6⟩ := hx0.seven
    go_enter Tryd.func32, Tryd.ntmps32
    go_wp2_with fail
    refine (l1Pack k 2 _ (by omega) (by omega)).mono ?_
    rintro e w2 ⟨A2, c2', rfl, o2, hb2⟩
    have hB2 := hB0.trans (hb2.mono hB0.size)
    have ob2 := ob.below hb2 (Nat.le_refl _)
    go_wp2_with (at_builtin; refine wpList_append_ow okB _ rfl (.tmp 53) (.tmp 58) _ rfl w.heap.size info_u8 Tryd.underlying32 rfl _ 1 1 [4] rfl ob2 A2 2 c2' _ (packL k 2) rfl (o2.rd okB) (packL_len _ _) (by unfold maxLen; omega) (by omega) hB2.size ?_; intro A9 c9 w9 ow9 hg9 _)
    go_ret
    exact ⟨A9, _, c9, rfl, ow9, hB2.grown hg9 hB2.size (fun g hg => (ob2.lt g hg).1)⟩

theorem encR_len (r : Rcd) : (encR r).length ≤ 9 := by
  unfold encR encT
  repeat (first | split | (simp [encS_len, packL_len]))
theorem encRecM_len (r : Rcd) : (encRecM r).2.length ≤ 9 := by
  unfold encRecM
  split
  · exact encR_len r
  · simp
theorem encRecM_code (r : Rcd) : (encRecM r).1 = recFaultM r := by
  unfold encRecM
  by_cases h : recFaultM r = 0
  · rw [if_pos h, h]
  · rw [if_neg h]
set_option maxHeartbeats 1000000 in
theorem specEncodeRecord (a0 a1 a2 a3 a4 a5 a6 : Int) (w : World) :
    Calls Tryd.prog 10 #[.agg #[.int .i64 a0, .int .i64 a1, .int .i64 a2, .int .i64 a3, .int .i64 a4, .int .i64 a5, .int .i64 a6]] w fun e w' => RetBR (encRecM (a0, a1, (a2, a3, a4, a5), a6)) w e w' := by
  have hB0 : Below w.heap.size w ((w.alloc (.cells #[.int .i64 a0, .int .i64 a1, .int .i64 a2, .int .i64 a3, .int .i64 a4, .int .i64 a5, .int .i64 a6] 29)).alloc (.cells #[.int .i64 0, .slice none 0 0] 34)) := ((Below.refl _ _).alloc (Nat.le_refl _) _).alloc (by simp) _
  have x0 := (At.new w 29 #[.int .i64 a0, .int .i64 a1, .int .i64 a2, .int .i64 a3, .int .i64 a4, .int .i64 a5, .int .i64 a6]).alloc (.cells #[.int .i64 0, .slice none 0 0] 34)
  have r0 := At.new (w.alloc (.cells #[.int .i64 a0, .int .i64 a1, .int .i64 a2, .int .i64 a3, .int .i64 a4, .int .i64 a5, .int .i64 a6] 29)) 34 #[.int .i64 0, .slice none 0 0]
  rw [show (w.alloc (.cells #[.int .i64 a0, .int .i64 a1, .int .i64 a2, .int .i64 a3, .int .i64 a4, .int .i64 a5, .int .i64 a6] 29)).heap.size = w.heap.size + 1 by simp] at r0
  obtain ⟨c0, c1, c2, c3, c4, c5, c6⟩ := x0.seven
  have hq := specRecordFault a0 a1 a2 a3 a4 a5 a6 ((w.alloc (.cells #[.int .i64 a0, .int .i64 a1, .int .i64 a2, .int .i64 a3, .int .i64 a4, .int .i64 a5, .int .i64 a6] 29)).alloc (.cells #[.int .i64 0, .slice none 0 0] 34))
  by_cases h : recFaultM (a0, a1, (a2, a3, a4, a5), a6) = 0
  · rw [h] at hq
    have Hr := Lib.hid (show encRecM (a0, a1, (a2, a3, a4, a5), a6) = (0, encR (a0, a1, (a2, a3, a4, a5), a6)) from if_pos h)
    have LE := fun W hw => l5Encode w.heap.size a0 a1 a2 a3 a4 a5 a6 W hw h
    clear h
    go_enter Tryd.func10, Tryd.ntmps10
    go_wp2_with fail
    refine hq.mono ?_
    rintro e w1 ⟨rfl, hb1⟩
    have hB1 := hB0.trans (hb1.mono hB0.size)
    have x1 := x0.below hb1 x0.lt
    have r1 := r0.below hb1 r0.lt
    go_wp2_with fail
    refine (LE _ x1).mono ?_
    rintro e w2 ⟨A, n, c, rfl, ow, hb2⟩
    have hB2 := hB1.trans (hb2.mono hB1.size)
    have r2 := r1.below hb2 r1.lt
    obtain ⟨d0, d1, f0, f1⟩ := r2.two
    go_wp2_with fail
    refine bodyPost_ret (v := .agg #[.int .i64 0, .slice A n c]) (by simp [results, Tryd.results10, go_sem, d0, d1]) rfl ?_
    rw [Hr.out]
    exact ⟨A, n, c, rfl, ((ow.under (p := ⟨w.heap.size + 1, 0, none⟩) r1.lt _).under (p := ⟨w.heap.size + 1, 1, none⟩) r1.lt _).from_ hB1.size, (hB2.setCell (by simp) _).setCell (by simp) _⟩
  · have Hr := Lib.hid (show encRecM (a0, a1, (a2, a3, a4, a5), a6) = (recFaultM (a0, a1, (a2, a3, a4, a5), a6), []) from if_neg h)
    have hne : (recFaultM (a0, a1, (a2, a3, a4, a5), a6) != 0) = true := by rw [bne_iff_ne]; exact h
    rw [Hr.out]
    clear Hr h
    generalize recFaultM (a0, a1, (a2, a3, a4, a5), a6) = rf at *
    go_enter Tryd.func10, Tryd.ntmps10
    go_wp2_with fail
    refine hq.mono ?_
    rintro e w1 ⟨rfl, hb1⟩
    have hB1 := hB0.trans (hb1.mono hB0.size)
    have r1 := r0.below hb1 r0.lt
    obtain ⟨d0, d1, f0, f1⟩ := r1.two
    go_wp2_with fail
    refine bodyPost_ret (v := .agg #[.int .i64 rf, .slice none 0 0]) (by simp [results, Tryd.results10, go_sem, d0, d1]) rfl ?_
    exact ⟨none, 0, 0, rfl, Ow.nil, (hB1.setCell (by simp) _).setCell (by simp) _⟩
end Go.Proofs.YteiclanlhnccnaaDoor
