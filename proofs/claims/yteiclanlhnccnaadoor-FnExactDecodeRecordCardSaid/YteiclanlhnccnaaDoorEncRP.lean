/-
  A record's bytes: the program's.
-/
import Derived.Test.YteiclanlhnccnaaDoorEncR
import Derived.Test.YteiclanlhnccnaaDoorEntP
import Derived.Test.YteiclanlhnccnaaDoorEncI
import Derived.Test.YteiclanlhnccnaaDoorRecP
namespace Go.Proofs.YteiclanlhnccnaaDoor
set_option maxRecDepth 20000
open Go.RowKit
set_option linter.unusedSimpArgs false
set_option linter.unusedVariables false
attribute [local irreducible] mixW

theorem packs2 {n : Nat} (h : n ≤ 60000) (w : World) : Calls Tryd.prog 33 #[.int .i64 (n : Int), .int .i64 2] w fun e w' => RetBR (0, packL n 2) w e w' := by
  have h1 := implPackWord (n : Int) 2 w
  have h2 : packM (n : Int) 2 = (0, packL n 2) := by simpa using packM_nat (m := n) (s := 2) (by omega) (by omega) (by omega)
  rw [h2] at h1
  exact h1
theorem packsK {k : Int} (h : 0 ≤ k ∧ k ≤ 9) (w : World) : Calls Tryd.prog 33 #[.int .i64 k, .int .i64 1] w fun e w' => RetBR (0, [UInt8.ofNat k.toNat]) w e w' := by
  obtain ⟨n, rfl⟩ := Int.eq_ofNat_of_zero_le h.1
  rw [Int.toNat_natCast]
  exact packs1 (by omega) w
/-- What packEntry hands back: bytes to be read. -/
def RetPE (r : Rcd) (w : World) (e : Ending) (w' : World) : Prop := ∃ A n c, e = .returned (.slice A n c) ∧ Rd eB w' w'.heap.size A (encT r) ∧ (encT r).length = n ∧ n ≤ 8 ∧ Below w.heap.size w w'
theorem encT_1 (p : Int) (y : Smp) (k : Int) : encT (1, p, y, k) = encS y := by unfold encT; rw [if_pos rfl]
theorem encT_2 (p : Int) (y : Smp) (k : Int) : encT (2, p, y, k) = UInt8.ofNat p.toNat :: encS y := by unfold encT; rw [if_neg ne21, if_pos rfl]
theorem encT_3 (p : Int) (y : Smp) (k : Int) : encT (3, p, y, k) = UInt8.ofNat p.toNat :: packL k.toNat 2 := by unfold encT; rw [if_neg ne31, if_neg ne32, if_pos rfl]
theorem encT_4 (p : Int) (y : Smp) (k : Int) : encT (4, p, y, k) = packL k.toNat 2 := by unfold encT; rw [if_neg ne41, if_neg ne42, if_neg ne43]

set_option maxHeartbeats 4000000 in
theorem packEntry (a0 a1 a2 a3 a4 a5 a6 : Int) (w : World) (hF : Flds w) (h : recFaultM (a0, a1, (a2, a3, a4, a5), a6) = 0) : Calls Tryd.prog 34 #[entV (a0, a1, (a2, a3, a4, a5), a6)] w (RetPE (a0, a1, (a2, a3, a4, a5), a6) w) := by
  obtain ⟨⟨n0, n1, n2, n3, rfl, rfl, rfl, rfl, k0, k1, k2, k3⟩, ⟨p, rfl, kp⟩, ⟨k, rfl, kk, kk2⟩, hk, hf, hfm⟩ := rec_nat h
  clear h
  have fB := fldB1'
  have HE := fun W hW => implEncodeSample (n0 : Int) (n1 : Int) (n2 : Int) ((n3 : Int) - 1000) W hW
  rw [encodeM_nat hfm] at HE
  clear hfm
  rcases hk with rfl | rfl | rfl | rfl
  · have hT := Lib.hid (show encT (1, (p : Int), ((n0 : Int), (n1 : Int), (n2 : Int), (n3 : Int) - 1000), (k : Int)) = encL n0 n1 n2 n3 by rw [encT_1, encS_nat])
    rw [entV_1 hf]
    clear hf
    have q1 := as1_1
    have hB0 : Below w.heap.size w (w.alloc (.cells #[.int .i64 n0, .int .i64 n1, .int .i64 n2, .int .i64 ((n3 : Int) - 1000)] 66)) := (Below.refl _ _).alloc (Nat.le_refl _) _
    have x0 := At.new w 66 #[.int .i64 n0, .int .i64 n1, .int .i64 n2, .int .i64 ((n3 : Int) - 1000)]
    have hF0 := hF.below hB0
    go_enter Tryd.func34, Tryd.ntmps34
    go_wp2_with fail
    refine (HE _ hF0).mono ?_
    rintro e w1 ⟨A1, j1, c1', rfl, o1, hb1⟩
    have hB1 := hB0.trans (hb1.mono hB0.size)
    have hl := o1.len okA
    go_wp2
    go_ret
    refine ⟨A1, j1, c1', rfl, by rw [hT.out]; exact (o1.rd okA).ofA, by rw [hT.out]; exact hl, ?_, hB1⟩
    rw [← hl]
    try rw [encL_eq]
    simp [packL]
  · have hT := Lib.hid (show encT (2, (p : Int), ((n0 : Int), (n1 : Int), (n2 : Int), (n3 : Int) - 1000), (k : Int)) = UInt8.ofNat p :: encL n0 n1 n2 n3 by rw [encT_2, encS_nat, Int.toNat_natCast])
    rw [entV_2 hf]
    clear hf
    have q1 := as2_1
    have q2 := as2_2
    have hB0 : Below w.heap.size w (w.alloc (.cells #[.int .i64 p, .int .i64 n0, .int .i64 n1, .int .i64 n2, .int .i64 ((n3 : Int) - 1000)] 69)) := (Below.refl _ _).alloc (Nat.le_refl _) _
    have x0 := At.new w 69 #[.int .i64 p, .int .i64 n0, .int .i64 n1, .int .i64 n2, .int .i64 ((n3 : Int) - 1000)]
    have hF0 := hF.below hB0
    go_enter Tryd.func34, Tryd.ntmps34
    go_wp2
    refine wp_region_mix [(0, false), (1, false), (4, false), (5, false), (2, true), (3, false), (6, true), (7, false), (8, true), (9, false)] (fun u => At u w.heap.size 69 #[.int .i64 p, .int .i64 n0, .int .i64 n1, .int .i64 n2, .int .i64 ((n3 : Int) - 1000)]) (by kernel_rfl) (by kernel_rfl) (fun _ _ _ _ _ h => h) x0.drew ?_
    simp only [mixOps, List.map_cons, List.map_nil, List.getElem?_cons_succ, List.getElem?_cons_zero, Option.getD_some]
    repeat (first
        | (refine mix_skip (by rfl) ?_
           (try simp only [Act.put, List.setIfInBounds_toArray, List.set_cons_zero, List.set_cons_succ]))
        | (refine mix_pure (v := ?_) (by rfl) (fun u hu => ?_) ?_
           rotate_left
           · obtain ⟨_, _, _, _, _, _, _, _, _, _⟩ := hu.five
             go_simp
             (with_reducible rfl)
           (try simp only [Act.put, List.setIfInBounds_toArray, List.set_cons_zero, List.set_cons_succ])))
    have hB0 := hB0.drew
    have X0 : At (w.alloc (.cells #[.int .i64 p, .int .i64 n0, .int .i64 n1, .int .i64 n2, .int .i64 ((n3 : Int) - 1000)] 69)).drew w.heap.size 69 #[.int .i64 p, .int .i64 n0, .int .i64 n1, .int .i64 n2, .int .i64 ((n3 : Int) - 1000)] := x0.drew
    have hF0 : Flds (w.alloc (.cells #[.int .i64 p, .int .i64 n0, .int .i64 n1, .int .i64 n2, .int .i64 ((n3 : Int) - 1000)] 69)).drew := hF0
    generalize (w.alloc (.cells #[.int .i64 p, .int .i64 n0, .int .i64 n1, .int .i64 n2, .int .i64 ((n3 : Int) - 1000)] 69)).drew = v0 at *
    refine mix_call (by rfl) (fun K hK => ?_)
    go_simp
    refine (packs1 (n := p) (by omega) _).mono ?_
    rintro e w4 ⟨A4, j4, c4', rfl, o4, hb4⟩
    obtain rfl : 1 = j4 := o4.len okB
    have hB4 := hB0.trans (hb4.mono hB0.size)
    have X4 := X0.below hb4 X0.lt
    have hF4 := hF0.below hb4
    refine hK _ _ (fun u => At u w.heap.size 69 #[.int .i64 p, .int .i64 n0, .int .i64 n1, .int .i64 n2, .int .i64 ((n3 : Int) - 1000)]) (fun _ h => h) X4 ?_
    clear hK K
    (try simp only [Act.put, List.setIfInBounds_toArray, List.set_cons_zero, List.set_cons_succ])
    refine mix_pure (v := ?_) (by rfl) (fun u hu => ?_) ?_
    rotate_left
    · go_simp
      (with_reducible rfl)
    (try simp only [Act.put, List.setIfInBounds_toArray, List.set_cons_zero, List.set_cons_succ])
    refine mix_call (by rfl) (fun K hK => ?_)
    go_simp
    refine (HE _ hF4).mono ?_
    rintro e w5 ⟨A5, j5, c5', rfl, o5, hb5⟩
    have hl5 := o5.len okA
    have hB5 := hB4.trans (hb5.mono hB4.size)
    have X5 := X4.below hb5 X4.lt
    have ow5 := (o4.below hb5 (Nat.le_refl _)).from_ hB0.size
    refine hK _ _ (fun u => At u w.heap.size 69 #[.int .i64 p, .int .i64 n0, .int .i64 n1, .int .i64 n2, .int .i64 ((n3 : Int) - 1000)]) (fun _ h => h) X5 ?_
    clear hK K
    (try simp only [Act.put, List.setIfInBounds_toArray, List.set_cons_zero, List.set_cons_succ])
    refine mix_pure (v := ?_) (by rfl) (fun u hu => ?_) ?_
    rotate_left
    · go_simp
      (with_reducible rfl)
    (try simp only [Act.put, List.setIfInBounds_toArray, List.set_cons_zero, List.set_cons_succ])
    refine mix_call (by rfl) (fun K hK => ?_)
    refine wp_append_ow okB _ (.tmp 21) (.tmp 25) _ rfl w.heap.size info_u8 Tryd.underlying32 rfl A4 1 c4' [UInt8.ofNat p] rfl ow5 A5 j5 c5' _ (encL n0 n1 n2 n3) rfl ((o5.rd okA).ofA) hl5 (by rw [← hl5]; unfold maxLen; (try rw [encL_eq]); simp [packL]) (by rw [← hl5]; (try rw [encL_eq]); simp [packL]) hB5.size ?_
    intro A9 c9 w9 ow9 hg9 _
    have hB9 : Below w.heap.size w w9 := hB5.grown hg9 hB5.size (fun g hg => (ow5.lt g hg).1)
    have X9 := X5.grown hg9 (fun e => by have := (ow5.lt _ e).1; have hz : w.heap.size < v0.heap.size := X0.lt; have := (o4.lt _ e).1; omega)
    refine hK _ _ (fun u => At u w.heap.size 69 #[.int .i64 p, .int .i64 n0, .int .i64 n1, .int .i64 n2, .int .i64 ((n3 : Int) - 1000)]) (fun _ h => h) X9 ?_
    clear hK K
    (try simp only [Act.put, List.setIfInBounds_toArray, List.set_cons_zero, List.set_cons_succ])
    refine mix_pure (v := ?_) (by rfl) (fun u hu => ?_) ?_
    rotate_left
    · go_simp
      (with_reducible rfl)
    (try simp only [Act.put, List.setIfInBounds_toArray, List.set_cons_zero, List.set_cons_succ])
    refine mix_nil ?_
    go_wp2
    go_ret
    refine ⟨A9, _, c9, rfl, by rw [hT.out]; exact ow9.rd okB, by rw [hT.out]; exact ow9.len okB, ?_, hB9⟩
    rw [← hl5]
    (try rw [encL_eq]); simp [packL]
  · have hT := Lib.hid (show encT (3, (p : Int), ((n0 : Int), (n1 : Int), (n2 : Int), (n3 : Int) - 1000), (k : Int)) = UInt8.ofNat p :: packL k 2 by rw [encT_3, packL_is, Int.toNat_natCast])
    rw [entV_3 hf]
    clear hf
    have q1 := as3_1
    have q2 := as3_2
    have q3 := as3_3
    have hB0 : Below w.heap.size w (w.alloc (.cells #[.int .i64 p, .int .i64 k] 74)) := (Below.refl _ _).alloc (Nat.le_refl _) _
    have x0 := At.new w 74 #[.int .i64 p, .int .i64 k]
    have hF0 := hF.below hB0
    go_enter Tryd.func34, Tryd.ntmps34
    go_wp2
    refine wp_region_mix [(0, false), (1, false), (4, false), (5, false), (2, true), (3, false), (6, true), (7, false), (8, true), (9, false)] (fun u => At u w.heap.size 74 #[.int .i64 p, .int .i64 k]) (by kernel_rfl) (by kernel_rfl) (fun _ _ _ _ _ h => h) x0.drew ?_
    simp only [mixOps, List.map_cons, List.map_nil, List.getElem?_cons_succ, List.getElem?_cons_zero, Option.getD_some]
    repeat (first
        | (refine mix_skip (by rfl) ?_
           (try simp only [Act.put, List.setIfInBounds_toArray, List.set_cons_zero, List.set_cons_succ]))
        | (refine mix_pure (v := ?_) (by rfl) (fun u hu => ?_) ?_
           rotate_left
           · obtain ⟨_, _, _, _⟩ := hu.two
             go_simp
             (with_reducible rfl)
           (try simp only [Act.put, List.setIfInBounds_toArray, List.set_cons_zero, List.set_cons_succ])))
    have hB0 := hB0.drew
    have X0 : At (w.alloc (.cells #[.int .i64 p, .int .i64 k] 74)).drew w.heap.size 74 #[.int .i64 p, .int .i64 k] := x0.drew
    have hF0 : Flds (w.alloc (.cells #[.int .i64 p, .int .i64 k] 74)).drew := hF0
    generalize (w.alloc (.cells #[.int .i64 p, .int .i64 k] 74)).drew = v0 at *
    refine mix_call (by rfl) (fun K hK => ?_)
    go_simp
    refine (packs1 (n := p) (by omega) _).mono ?_
    rintro e w4 ⟨A4, j4, c4', rfl, o4, hb4⟩
    obtain rfl : 1 = j4 := o4.len okB
    have hB4 := hB0.trans (hb4.mono hB0.size)
    have X4 := X0.below hb4 X0.lt
    have hF4 := hF0.below hb4
    refine hK _ _ (fun u => At u w.heap.size 74 #[.int .i64 p, .int .i64 k]) (fun _ h => h) X4 ?_
    clear hK K
    (try simp only [Act.put, List.setIfInBounds_toArray, List.set_cons_zero, List.set_cons_succ])
    refine mix_pure (v := ?_) (by rfl) (fun u hu => ?_) ?_
    rotate_left
    · go_simp
      (with_reducible rfl)
    (try simp only [Act.put, List.setIfInBounds_toArray, List.set_cons_zero, List.set_cons_succ])
    refine mix_call (by rfl) (fun K hK => ?_)
    go_simp
    refine (packs2 kk _).mono ?_
    rintro e w5 ⟨A5, j5, c5', rfl, o5, hb5⟩
    have hl5 := o5.len okB
    have hB5 := hB4.trans (hb5.mono hB4.size)
    have X5 := X4.below hb5 X4.lt
    have ow5 := (o4.below hb5 (Nat.le_refl _)).from_ hB0.size
    refine hK _ _ (fun u => At u w.heap.size 74 #[.int .i64 p, .int .i64 k]) (fun _ h => h) X5 ?_
    clear hK K
    (try simp only [Act.put, List.setIfInBounds_toArray, List.set_cons_zero, List.set_cons_succ])
    refine mix_pure (v := ?_) (by rfl) (fun u hu => ?_) ?_
    rotate_left
    · go_simp
      (with_reducible rfl)
    (try simp only [Act.put, List.setIfInBounds_toArray, List.set_cons_zero, List.set_cons_succ])
    refine mix_call (by rfl) (fun K hK => ?_)
    refine wp_append_ow okB _ (.tmp 33) (.tmp 37) _ rfl w.heap.size info_u8 Tryd.underlying32 rfl A4 1 c4' [UInt8.ofNat p] rfl ow5 A5 j5 c5' _ (packL k 2) rfl (o5.rd okB) hl5 (by rw [← hl5]; unfold maxLen; (try rw [encL_eq]); simp [packL]) (by rw [← hl5]; (try rw [encL_eq]); simp [packL]) hB5.size ?_
    intro A9 c9 w9 ow9 hg9 _
    have hB9 : Below w.heap.size w w9 := hB5.grown hg9 hB5.size (fun g hg => (ow5.lt g hg).1)
    have X9 := X5.grown hg9 (fun e => by have := (ow5.lt _ e).1; have hz : w.heap.size < v0.heap.size := X0.lt; have := (o4.lt _ e).1; omega)
    refine hK _ _ (fun u => At u w.heap.size 74 #[.int .i64 p, .int .i64 k]) (fun _ h => h) X9 ?_
    clear hK K
    (try simp only [Act.put, List.setIfInBounds_toArray, List.set_cons_zero, List.set_cons_succ])
    refine mix_pure (v := ?_) (by rfl) (fun u hu => ?_) ?_
    rotate_left
    · go_simp
      (with_reducible rfl)
    (try simp only [Act.put, List.setIfInBounds_toArray, List.set_cons_zero, List.set_cons_succ])
    refine mix_nil ?_
    go_wp2
    go_ret
    refine ⟨A9, _, c9, rfl, by rw [hT.out]; exact ow9.rd okB, by rw [hT.out]; exact ow9.len okB, ?_, hB9⟩
    rw [← hl5]
    (try rw [encL_eq]); simp [packL]
  · have hT := Lib.hid (show encT (4, (p : Int), ((n0 : Int), (n1 : Int), (n2 : Int), (n3 : Int) - 1000), (k : Int)) = packL k 2 by rw [encT_4, packL_is])
    rw [entV_4 hf]
    clear hf
    have q1 := as4_1
    have q2 := as4_2
    have q3 := as4_3
    have q4 := as4_4
    have hB0 : Below w.heap.size w (w.alloc (.cells #[.int .i64 k] 79)) := (Below.refl _ _).alloc (Nat.le_refl _) _
    have x0 := At.new w 79 #[.int .i64 k]
    have hF0 := hF.below hB0
    go_enter Tryd.func34, Tryd.ntmps34
    go_wp2_with fail
    refine (packs2 kk _).mono ?_
    rintro e w1 ⟨A1, j1, c1', rfl, o1, hb1⟩
    have hB1 := hB0.trans (hb1.mono hB0.size)
    have hl := o1.len okB
    go_wp2
    go_ret
    refine ⟨A1, j1, c1', rfl, by rw [hT.out]; exact o1.rd okB, by rw [hT.out]; exact hl, ?_, hB1⟩
    rw [← hl]
    try rw [encL_eq]
    simp [packL]

set_option maxHeartbeats 2000000 in
theorem implEncodeRecord (a0 a1 a2 a3 a4 a5 a6 : Int) (w : World) (hF : Flds w) :
    Calls Tryd.prog 11 #[.agg #[.int .i64 a0, .int .i64 a1, .int .i64 a2, .int .i64 a3, .int .i64 a4, .int .i64 a5, .int .i64 a6]] w fun e w' => RetBR (encRecM (a0, a1, (a2, a3, a4, a5), a6)) w e w' := by
  have hB0 : Below w.heap.size w ((w.alloc (.cells #[.int .i64 a0, .int .i64 a1, .int .i64 a2, .int .i64 a3, .int .i64 a4, .int .i64 a5, .int .i64 a6] 29)).alloc (.cells #[.int .i64 0, .slice none 0 0] 34)) := ((Below.refl _ _).alloc (Nat.le_refl _) _).alloc (by simp) _
  have x0 := (At.new w 29 #[.int .i64 a0, .int .i64 a1, .int .i64 a2, .int .i64 a3, .int .i64 a4, .int .i64 a5, .int .i64 a6]).alloc (.cells #[.int .i64 0, .slice none 0 0] 34)
  have r0 := At.new (w.alloc (.cells #[.int .i64 a0, .int .i64 a1, .int .i64 a2, .int .i64 a3, .int .i64 a4, .int .i64 a5, .int .i64 a6] 29)) 34 #[.int .i64 0, .slice none 0 0]
  rw [show (w.alloc (.cells #[.int .i64 a0, .int .i64 a1, .int .i64 a2, .int .i64 a3, .int .i64 a4, .int .i64 a5, .int .i64 a6] 29)).heap.size = w.heap.size + 1 by simp] at r0
  obtain ⟨c0, c1, c2, c3, c4, c5, c6⟩ := x0.seven
  have hF0 := hF.below hB0
  have hq := implRecordFault a0 a1 a2 a3 a4 a5 a6 _ hF0
  by_cases h : recFaultM (a0, a1, (a2, a3, a4, a5), a6) = 0
  · rw [h] at hq
    have Hr := Lib.hid (show encRecM (a0, a1, (a2, a3, a4, a5), a6) = (0, encR (a0, a1, (a2, a3, a4, a5), a6)) from if_pos h)
    have hka : 0 ≤ a0 ∧ a0 ≤ 9 := by
      have := (rec_nat h).2.2.2.1
      omega
    have PEN := fun W hW => packEntry a0 a1 a2 a3 a4 a5 a6 W hW h
    have fB := fldB1'
    have HT := Lib.hid (show encR (a0, a1, (a2, a3, a4, a5), a6) = UInt8.ofNat a0.toNat :: encT (a0, a1, (a2, a3, a4, a5), a6) from rfl)
    clear h
    go_enter Tryd.func11, Tryd.ntmps11
    go_wp2_with fail
    refine hq.mono ?_
    rintro e w1 ⟨rfl, hb1⟩
    have hB1 := hB0.trans (hb1.mono hB0.size)
    have x1 := x0.below hb1 x0.lt
    have r1 := r0.below hb1 r0.lt
    have hF1 := hF0.below hb1
    clear c0 c1 c2 c3 c4 c5 c6
    obtain ⟨c0, c1, c2, c3, c4, c5, c6⟩ := x1.seven
    go_wp2_with fail
    refine (packsK hka _).mono ?_
    rintro e w2 ⟨A2, j2, d2, rfl, o2, hb2⟩
    obtain rfl : 1 = j2 := o2.len okB
    have hB2 := hB1.trans (hb2.mono hB1.size)
    have x2 := x1.below hb2 x1.lt
    have r2 := r1.below hb2 r1.lt
    have hF2 := hF1.below hb2
    clear c0 c1 c2 c3 c4 c5 c6
    obtain ⟨c0, c1, c2, c3, c4, c5, c6⟩ := x2.seven
    go_wp2_with fail
    refine (entryOf a0 a1 a2 a3 a4 a5 a6 _).mono ?_
    rintro e w3 ⟨rfl, hb3⟩
    have hB3 := hB2.trans (hb3.mono hB2.size)
    have r3 := r2.below hb3 r2.lt
    have o3 := o2.below hb3 (Nat.le_refl _)
    have hF3 := hF2.below hb3
    go_wp2_with fail
    refine (PEN _ hF3).mono ?_
    rintro e w4 ⟨A4, j4, d4, rfl, rd4, hl4, hs4, hb4⟩
    have hB4 := hB3.trans (hb4.mono hB3.size)
    have r4 := r3.below hb4 r3.lt
    have o4 := o3.below hb4 (Nat.le_refl _)
    have hw14 : w1.heap.size ≤ w4.heap.size := Nat.le_trans hb2.size (Nat.le_trans hb3.size hb4.size)
    have Hl4 := Lib.hid hl4
    clear hl4 c0 c1 c2 c3 c4 c5 c6
    have lr1 := r1.lt
    obtain ⟨e0, e1, f0, f1⟩ := r4.two
    go_wp2_with (at_builtin; refine wpList_append_ow okB _ rfl (.tmp 15) (.tmp 18) _ rfl w1.heap.size info_u8 Tryd.underlying32 rfl A2 1 d2 [UInt8.ofNat a0.toNat] rfl o4 A4 j4 d4 _ (encT (a0, a1, (a2, a3, a4, a5), a6)) rfl rd4 Hl4.out (by unfold maxLen; omega) (by omega) hw14 ?_; intro A9 c9 w9 ow9 hg9 _; have r9 := r4.grown hg9 (fun e => by have := (o4.lt _ e).1; omega); have hB9 : Below w.heap.size w w9 := hB4.grown hg9 hB4.size (fun g hg => Nat.le_trans hB1.size (o4.lt g hg).1); clear e0 e1 f0 f1; obtain ⟨e0, e1, f0, f1⟩ := r9.two)
    refine bodyPost_ret (v := .agg #[.int .i64 0, .slice A9 (1 + j4) c9]) (by simp [results, Tryd.results11, go_sem, e0, e1]) rfl ?_
    rw [Hr.out, HT.out]
    exact ⟨A9, _, c9, rfl, ((ow9.under (p := ⟨w.heap.size + 1, 0, none⟩) lr1 _).under (p := ⟨w.heap.size + 1, 1, none⟩) lr1 _).from_ hB1.size, (hB9.setCell (by simp) _).setCell (by simp) _⟩
  · have Hr := Lib.hid (show encRecM (a0, a1, (a2, a3, a4, a5), a6) = (recFaultM (a0, a1, (a2, a3, a4, a5), a6), []) from if_neg h)
    have hne : (recFaultM (a0, a1, (a2, a3, a4, a5), a6) != 0) = true := by rw [bne_iff_ne]; exact h
    rw [Hr.out]
    clear Hr h
    generalize recFaultM (a0, a1, (a2, a3, a4, a5), a6) = rf at *
    go_enter Tryd.func11, Tryd.ntmps11
    go_wp2_with fail
    refine hq.mono ?_
    rintro e w1 ⟨rfl, hb1⟩
    have hB1 := hB0.trans (hb1.mono hB0.size)
    have r1 := r0.below hb1 r0.lt
    obtain ⟨d0, d1, f0, f1⟩ := r1.two
    go_wp2_with fail
    refine bodyPost_ret (v := .agg #[.int .i64 rf, .slice none 0 0]) (by simp [results, Tryd.results11, go_sem, d0, d1]) rfl ?_
    exact ⟨none, 0, 0, rfl, Ow.nil, (hB1.setCell (by simp) _).setCell (by simp) _⟩
end Go.Proofs.YteiclanlhnccnaaDoor
