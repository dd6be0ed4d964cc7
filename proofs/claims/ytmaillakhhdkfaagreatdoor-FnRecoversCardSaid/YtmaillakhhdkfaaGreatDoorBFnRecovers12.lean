/-
  Texts of one proof, joined: each has its own namespace.
-/
import Derived.Test.YtmaillakhhdkfaaGreatDoorBFnRecovers10
import Derived.Test.YtmaillakhhdkfaaGreatDoorBFnRecovers9
import Derived.Test.YtmaillakhhdkfaaGreatDoorBFnRecovers11
import Derived.Test.YtmaillakhhdkfaaGreatDoorBFnRecovers0
/-
  A record's bytes: the program's.
-/
namespace Go.Proofs.YtmaillakhhdkfaaGreatDoor
set_option maxRecDepth 20000
open Go.RowKit
set_option linter.unusedSimpArgs false
set_option linter.unusedVariables false
attribute [local irreducible] mixW

theorem packs2 {n : Nat} (h : n ≤ 60000) (w : World) : Calls Tryz.prog 36 #[.int .i64 (n : Int), .int .i64 2] w fun e w' => RetBR (0, packL n 2) w e w' := by
  have h1 := implPackWord (n : Int) 2 w
  have h2 : packM (n : Int) 2 = (0, packL n 2) := by simpa using packM_nat (m := n) (s := 2) (by omega) (by omega) (by omega)
  rw [h2] at h1
  exact h1
theorem packsK {k : Int} (h : 0 ≤ k ∧ k ≤ 9) (w : World) : Calls Tryz.prog 36 #[.int .i64 k, .int .i64 1] w fun e w' => RetBR (0, [UInt8.ofNat k.toNat]) w e w' := by
  obtain ⟨n, rfl⟩ := Int.eq_ofNat_of_zero_le h.1
  rw [Int.toNat_natCast]
  exact packs1 (by omega) w
/-- What packEntry hands back: bytes to be read. -/
def RetPE (r : Rcd) (w : World) (e : Ending) (w' : World) : Prop := ∃ A n c, e = .returned (.slice A n c) ∧ Rd eB w' w'.heap.size A (encT r) ∧ (encT r).length = n ∧ n ≤ 8 ∧ Below w.heap.size w w'
theorem encT_1 (p : Int) (y : Smp) (k : Int) : encT (1, p, y, k) = encSb y := by unfold encT; rw [if_pos rfl]
theorem encT_2 (p : Int) (y : Smp) (k : Int) : encT (2, p, y, k) = UInt8.ofNat p.toNat :: encSb y := by unfold encT; rw [if_neg ne21, if_pos rfl]
theorem encT_3 (p : Int) (y : Smp) (k : Int) : encT (3, p, y, k) = UInt8.ofNat p.toNat :: packL k.toNat 2 := by unfold encT; rw [if_neg ne31, if_neg ne32, if_pos rfl]
theorem encT_4 (p : Int) (y : Smp) (k : Int) : encT (4, p, y, k) = packL k.toNat 2 := by unfold encT; rw [if_neg ne41, if_neg ne42, if_neg ne43]

set_option maxHeartbeats 4000000 in
theorem packEntry (a0 a1 a2 a3 a4 a5 a6 : Int) (w : World) (hF : Flds w) (h : recFaultM (a0, a1, (a2, a3, a4, a5), a6) = 0) : Calls Tryz.prog 37 #[entV (a0, a1, (a2, a3, a4, a5), a6)] w (RetPE (a0, a1, (a2, a3, a4, a5), a6) w) := by
  obtain ⟨⟨n0, n1, n2, n3, rfl, rfl, rfl, rfl, k0, k1, k2, k3⟩, ⟨p, rfl, kp⟩, ⟨k, rfl, kk, kk2⟩, hk, hf, hfm⟩ := rec_nat h
  clear h
  have fB := fldB1'
  have HE := fun W hW => implEncodeSample (n0 : Int) (n1 : Int) (n2 : Int) ((n3 : Int) - 1000) W hW
  rw [encodeM_nat hfm] at HE
  clear hfm
  rcases hk with rfl | rfl | rfl | rfl
  · have hT := Lib.hid (show encT (1, (p : Int), ((n0 : Int), (n1 : Int), (n2 : Int), (n3 : Int) - 1000), (k : Int)) = encL n0 n1 n2 n3 by rw [encT_1, encSb_nat])
    rw [entV_1 hf]
    clear hf
    have q1 := as1_1
    have hB0 : Below w.heap.size w (w.alloc (.cells #[.int .i64 n0, .int .i64 n1, .int .i64 n2, .int .i64 ((n3 : Int) - 1000)] 90)) := (Below.refl _ _).alloc (Nat.le_refl _) _
    have x0 := At.new w 90 #[.int .i64 n0, .int .i64 n1, .int .i64 n2, .int .i64 ((n3 : Int) - 1000)]
    have hF0 := hF.below hB0
    go_enter Tryz.func37, Tryz.ntmps37
    go_wp2_with fail
    refine (HE _ hF0).mono ?_
    rintro e w1 ⟨A1, j1, c1', rfl, o1, hb1⟩
    have hB1 := hB0.trans (hb1.mono hB0.size)
    have hl := o1.len okA
    go_wp2
    go_ret
    refine ⟨A1, j1, c1', rfl, by rw [hT.out]; exact (o1.rd okA).ofA, by rw [hT.out]; exact hl, ?_, hB1⟩
    rw [← hl]
    try rw [encL_eq]
    simp [packL]
  · have hT := Lib.hid (show encT (2, (p : Int), ((n0 : Int), (n1 : Int), (n2 : Int), (n3 : Int) - 1000), (k : Int)) = UInt8.ofNat p :: encL n0 n1 n2 n3 by rw [encT_2, encSb_nat, Int.toNat_natCast])
    rw [entV_2 hf]
    clear hf
    have q1 := as2_1
    have q2 := as2_2
    have hB0 : Below w.heap.size w (w.alloc (.cells #[.int .i64 p, .int .i64 n0, .int .i64 n1, .int .i64 n2, .int .i64 ((n3 : Int) - 1000)] 93)) := (Below.refl _ _).alloc (Nat.le_refl _) _
    have x0 := At.new w 93 #[.int .i64 p, .int .i64 n0, .int .i64 n1, .int .i64 n2, .int .i64 ((n3 : Int) - 1000)]
    have hF0 := hF.below hB0
    go_enter Tryz.func37, Tryz.ntmps37
    go_wp2
    refine wp_region_mix [(0, false), (1, false), (4, false), (5, false), (2, true), (3, false), (6, true), (7, false), (8, true), (9, false)] (fun u => At u w.heap.size 93 #[.int .i64 p, .int .i64 n0, .int .i64 n1, .int .i64 n2, .int .i64 ((n3 : Int) - 1000)]) (by kernel_rfl) (by kernel_rfl) (fun _ _ _ _ _ h => h) x0.drew ?_
    simp only [mixOps, List.map_cons, List.map_nil, List.getElem?_cons_succ, List.getElem?_cons_zero, Option.getD_some]
    repeat (first
        | (refine mix_skip (by rfl) ?_
           (try simp only [Act.put, List.setIfInBounds_toArray, List.set_cons_zero, List.set_cons_succ]))
        | (refine mix_pure (v := ?_) (by rfl) (fun u hu => ?_) ?_
           rotate_left
           · obtain ⟨_, _, _, _, _, _, _, _, _, _⟩ := hu.five
             go_simp
             (with_reducible rfl)
           (try simp only [Act.put, List.setIfInBounds_toArray, List.set_cons_zero, List.set_cons_succ])))
    have hB0 := hB0.drew
    have X0 : At (w.alloc (.cells #[.int .i64 p, .int .i64 n0, .int .i64 n1, .int .i64 n2, .int .i64 ((n3 : Int) - 1000)] 93)).drew w.heap.size 93 #[.int .i64 p, .int .i64 n0, .int .i64 n1, .int .i64 n2, .int .i64 ((n3 : Int) - 1000)] := x0.drew
    have hF0 : Flds (w.alloc (.cells #[.int .i64 p, .int .i64 n0, .int .i64 n1, .int .i64 n2, .int .i64 ((n3 : Int) - 1000)] 93)).drew := hF0
    generalize (w.alloc (.cells #[.int .i64 p, .int .i64 n0, .int .i64 n1, .int .i64 n2, .int .i64 ((n3 : Int) - 1000)] 93)).drew = v0 at *
    refine mix_call (by rfl) (fun K hK => ?_)
    go_simp
    refine (packs1 (n := p) (by omega) _).mono ?_
    rintro e w4 ⟨A4, j4, c4', rfl, o4, hb4⟩
    obtain rfl : 1 = j4 := o4.len okB
    have hB4 := hB0.trans (hb4.mono hB0.size)
    have X4 := X0.below hb4 X0.lt
    have hF4 := hF0.below hb4
    refine hK _ _ (fun u => At u w.heap.size 93 #[.int .i64 p, .int .i64 n0, .int .i64 n1, .int .i64 n2, .int .i64 ((n3 : Int) - 1000)]) (fun _ h => h) X4 ?_
    clear hK K
    (try simp only [Act.put, List.setIfInBounds_toArray, List.set_cons_zero, List.set_cons_succ])
    refine mix_pure (v := ?_) (by rfl) (fun u hu => ?_) ?_
    rotate_left
    · go_simp
      (with_reducible rfl)
    (try simp only [Act.put, List.setIfInBounds_toArray, List.set_cons_zero, List.set_cons_succ])
    refine mix_call (by rfl) (fun K hK => ?_)
    go_simp
    refine (HE _ hF4).mono ?_
    rintro e w5 ⟨A5, j5, c5', rfl, o5, hb5⟩
    have hl5 := o5.len okA
    have hB5 := hB4.trans (hb5.mono hB4.size)
    have X5 := X4.below hb5 X4.lt
    have ow5 := (o4.below hb5 (Nat.le_refl _)).from_ hB0.size
    refine hK _ _ (fun u => At u w.heap.size 93 #[.int .i64 p, .int .i64 n0, .int .i64 n1, .int .i64 n2, .int .i64 ((n3 : Int) - 1000)]) (fun _ h => h) X5 ?_
    clear hK K
    (try simp only [Act.put, List.setIfInBounds_toArray, List.set_cons_zero, List.set_cons_succ])
    refine mix_pure (v := ?_) (by rfl) (fun u hu => ?_) ?_
    rotate_left
    · go_simp
      (with_reducible rfl)
    (try simp only [Act.put, List.setIfInBounds_toArray, List.set_cons_zero, List.set_cons_succ])
    refine mix_call (by rfl) (fun K hK => ?_)
    refine wp_append_ow okB _ (.tmp 21) (.tmp 25) _ rfl w.heap.size info_u8 Tryz.underlying22 rfl A4 1 c4' [UInt8.ofNat p] rfl ow5 A5 j5 c5' _ (encL n0 n1 n2 n3) rfl ((o5.rd okA).ofA) hl5 (by rw [← hl5]; unfold maxLen; (try rw [encL_eq]); simp [packL]) (by rw [← hl5]; (try rw [encL_eq]); simp [packL]) hB5.size ?_
    intro A9 c9 w9 ow9 hg9 _
    have hB9 : Below w.heap.size w w9 := hB5.grown hg9 hB5.size (fun g hg => (ow5.lt g hg).1)
    have X9 := X5.grown hg9 (fun e => by have := (ow5.lt _ e).1; have hz : w.heap.size < v0.heap.size := X0.lt; have := (o4.lt _ e).1; omega)
    refine hK _ _ (fun u => At u w.heap.size 93 #[.int .i64 p, .int .i64 n0, .int .i64 n1, .int .i64 n2, .int .i64 ((n3 : Int) - 1000)]) (fun _ h => h) X9 ?_
    clear hK K
    (try simp only [Act.put, List.setIfInBounds_toArray, List.set_cons_zero, List.set_cons_succ])
    refine mix_pure (v := ?_) (by rfl) (fun u hu => ?_) ?_
    rotate_left
    · go_simp
      (with_reducible rfl)
    (try simp only [Act.put, List.setIfInBounds_toArray, List.set_cons_zero, List.set_cons_succ])
    refine mix_nil ?_
    go_wp2
    go_ret
    refine ⟨A9, _, c9, rfl, by rw [hT.out]; exact ow9.rd okB, by rw [hT.out]; exact ow9.len okB, ?_, hB9⟩
    rw [← hl5]
    (try rw [encL_eq]); simp [packL]
  · have hT := Lib.hid (show encT (3, (p : Int), ((n0 : Int), (n1 : Int), (n2 : Int), (n3 : Int) - 1000), (k : Int)) = UInt8.ofNat p :: packL k 2 by rw [encT_3, packL_is, Int.toNat_natCast])
    rw [entV_3 hf]
    clear hf
    have q1 := as3_1
    have q2 := as3_2
    have q3 := as3_3
    have hB0 : Below w.heap.size w (w.alloc (.cells #[.int .i64 p, .int .i64 k] 96)) := (Below.refl _ _).alloc (Nat.le_refl _) _
    have x0 := At.new w 96 #[.int .i64 p, .int .i64 k]
    have hF0 := hF.below hB0
    go_enter Tryz.func37, Tryz.ntmps37
    go_wp2
    refine wp_region_mix [(0, false), (1, false), (4, false), (5, false), (2, true), (3, false), (6, true), (7, false), (8, true), (9, false)] (fun u => At u w.heap.size 96 #[.int .i64 p, .int .i64 k]) (by kernel_rfl) (by kernel_rfl) (fun _ _ _ _ _ h => h) x0.drew ?_
    simp only [mixOps, List.map_cons, List.map_nil, List.getElem?_cons_succ, List.getElem?_cons_zero, Option.getD_some]
    repeat (first
        | (refine mix_skip (by rfl) ?_
           (try simp only [Act.put, List.setIfInBounds_toArray, List.set_cons_zero, List.set_cons_succ]))
        | (refine mix_pure (v := ?_) (by rfl) (fun u hu => ?_) ?_
           rotate_left
           · obtain ⟨_, _, _, _⟩ := hu.two
             go_simp
             (with_reducible rfl)
           (try simp only [Act.put, List.setIfInBounds_toArray, List.set_cons_zero, List.set_cons_succ])))
    have hB0 := hB0.drew
    have X0 : At (w.alloc (.cells #[.int .i64 p, .int .i64 k] 96)).drew w.heap.size 96 #[.int .i64 p, .int .i64 k] := x0.drew
    have hF0 : Flds (w.alloc (.cells #[.int .i64 p, .int .i64 k] 96)).drew := hF0
    generalize (w.alloc (.cells #[.int .i64 p, .int .i64 k] 96)).drew = v0 at *
    refine mix_call (by rfl) (fun K hK => ?_)
    go_simp
    refine (packs1 (n := p) (by omega) _).mono ?_
    rintro e w4 ⟨A4, j4, c4', rfl, o4, hb4⟩
    obtain rfl : 1 = j4 := o4.len okB
    have hB4 := hB0.trans (hb4.mono hB0.size)
    have X4 := X0.below hb4 X0.lt
    have hF4 := hF0.below hb4
    refine hK _ _ (fun u => At u w.heap.size 96 #[.int .i64 p, .int .i64 k]) (fun _ h => h) X4 ?_
    clear hK K
    (try simp only [Act.put, List.setIfInBounds_toArray, List.set_cons_zero, List.set_cons_succ])
    refine mix_pure (v := ?_) (by rfl) (fun u hu => ?_) ?_
    rotate_left
    · go_simp
      (with_reducible rfl)
    (try simp only [Act.put, List.setIfInBounds_toArray, List.set_cons_zero, List.set_cons_succ])
    refine mix_call (by rfl) (fun K hK => ?_)
    go_simp
    refine (packs2 kk _).mono ?_
    rintro e w5 ⟨A5, j5, c5', rfl, o5, hb5⟩
    have hl5 := o5.len okB
    have hB5 := hB4.trans (hb5.mono hB4.size)
    have X5 := X4.below hb5 X4.lt
    have ow5 := (o4.below hb5 (Nat.le_refl _)).from_ hB0.size
    refine hK _ _ (fun u => At u w.heap.size 96 #[.int .i64 p, .int .i64 k]) (fun _ h => h) X5 ?_
    clear hK K
    (try simp only [Act.put, List.setIfInBounds_toArray, List.set_cons_zero, List.set_cons_succ])
    refine mix_pure (v := ?_) (by rfl) (fun u hu => ?_) ?_
    rotate_left
    · go_simp
      (with_reducible rfl)
    (try simp only [Act.put, List.setIfInBounds_toArray, List.set_cons_zero, List.set_cons_succ])
    refine mix_call (by rfl) (fun K hK => ?_)
    refine wp_append_ow okB _ (.tmp 33) (.tmp 37) _ rfl w.heap.size info_u8 Tryz.underlying22 rfl A4 1 c4' [UInt8.ofNat p] rfl ow5 A5 j5 c5' _ (packL k 2) rfl (o5.rd okB) hl5 (by rw [← hl5]; unfold maxLen; (try rw [encL_eq]); simp [packL]) (by rw [← hl5]; (try rw [encL_eq]); simp [packL]) hB5.size ?_
    intro A9 c9 w9 ow9 hg9 _
    have hB9 : Below w.heap.size w w9 := hB5.grown hg9 hB5.size (fun g hg => (ow5.lt g hg).1)
    have X9 := X5.grown hg9 (fun e => by have := (ow5.lt _ e).1; have hz : w.heap.size < v0.heap.size := X0.lt; have := (o4.lt _ e).1; omega)
    refine hK _ _ (fun u => At u w.heap.size 96 #[.int .i64 p, .int .i64 k]) (fun _ h => h) X9 ?_
    clear hK K
    (try simp only [Act.put, List.setIfInBounds_toArray, List.set_cons_zero, List.set_cons_succ])
    refine mix_pure (v := ?_) (by rfl) (fun u hu => ?_) ?_
    rotate_left
    · go_simp
      (with_reducible rfl)
    (try simp only [Act.put, List.setIfInBounds_toArray, List.set_cons_zero, List.set_cons_succ])
    refine mix_nil ?_
    go_wp2
    go_ret
    refine ⟨A9, _, c9, rfl, by rw [hT.out]; exact ow9.rd okB, by rw [hT.out]; exact ow9.len okB, ?_, hB9⟩
    rw [← hl5]
    (try rw [encL_eq]); simp [packL]
  · have hT := Lib.hid (show encT (4, (p : Int), ((n0 : Int), (n1 : Int), (n2 : Int), (n3 : Int) - 1000), (k : Int)) = packL k 2 by rw [encT_4, packL_is])
    rw [entV_4 hf]
    clear hf
    have q1 := as4_1
    have q2 := as4_2
    have q3 := as4_3
    have q4 := as4_4
    have hB0 : Below w.heap.size w (w.alloc (.cells #[.int .i64 k] 101)) := (Below.refl _ _).alloc (Nat.le_refl _) _
    have x0 := At.new w 101 #[.int .i64 k]
    have hF0 := hF.below hB0
    go_enter Tryz.func37, Tryz.ntmps37
    go_wp2_with fail
    refine (packs2 kk _).mono ?_
    rintro e w1 ⟨A1, j1, c1', rfl, o1, hb1⟩
    have hB1 := hB0.trans (hb1.mono hB0.size)
    have hl := o1.len okB
    go_wp2
    go_ret
    refine ⟨A1, j1, c1', rfl, by rw [hT.out]; exact o1.rd okB, by rw [hT.out]; exact hl, ?_, hB1⟩
    rw [← hl]
    try rw [encL_eq]
    simp [packL]

set_option maxHeartbeats 2000000 in
theorem implEncodeRecord (a0 a1 a2 a3 a4 a5 a6 : Int) (w : World) (hF : Flds w) :
    Calls Tryz.prog 8 #[.agg #[.int .i64 a0, .int .i64 a1, .int .i64 a2, .int .i64 a3, .int .i64 a4, .int .i64 a5, .int .i64 a6]] w fun e w' => RetBR (encRecM (a0, a1, (a2, a3, a4, a5), a6)) w e w' := by
  have hB0 : Below w.heap.size w ((w.alloc (.cells #[.int .i64 a0, .int .i64 a1, .int .i64 a2, .int .i64 a3, .int .i64 a4, .int .i64 a5, .int .i64 a6] 27)).alloc (.cells #[.int .i64 0, .slice none 0 0] 30)) := ((Below.refl _ _).alloc (Nat.le_refl _) _).alloc (by simp) _
  have x0 := (At.new w 27 #[.int .i64 a0, .int .i64 a1, .int .i64 a2, .int .i64 a3, .int .i64 a4, .int .i64 a5, .int .i64 a6]).alloc (.cells #[.int .i64 0, .slice none 0 0] 30)
  have r0 := At.new (w.alloc (.cells #[.int .i64 a0, .int .i64 a1, .int .i64 a2, .int .i64 a3, .int .i64 a4, .int .i64 a5, .int .i64 a6] 27)) 30 #[.int .i64 0, .slice none 0 0]
  rw [show (w.alloc (.cells #[.int .i64 a0, .int .i64 a1, .int .i64 a2, .int .i64 a3, .int .i64 a4, .int .i64 a5, .int .i64 a6] 27)).heap.size = w.heap.size + 1 by simp] at r0
  obtain ⟨c0, c1, c2, c3, c4, c5, c6⟩ := x0.seven
  have hF0 := hF.below hB0
  have hq := implRecordFault a0 a1 a2 a3 a4 a5 a6 _ hF0
  by_cases h : recFaultM (a0, a1, (a2, a3, a4, a5), a6) = 0
  · rw [h] at hq
    have Hr := Lib.hid (show encRecM (a0, a1, (a2, a3, a4, a5), a6) = (0, encR (a0, a1, (a2, a3, a4, a5), a6)) from if_pos h)
    have hka : 0 ≤ a0 ∧ a0 ≤ 9 := by
      have := (rec_nat h).2.2.2.1
      omega
    have PEN := fun W hW => packEntry a0 a1 a2 a3 a4 a5 a6 W hW h
    have fB := fldB1'
    have HT := Lib.hid (show encR (a0, a1, (a2, a3, a4, a5), a6) = UInt8.ofNat a0.toNat :: encT (a0, a1, (a2, a3, a4, a5), a6) from rfl)
    clear h
    go_enter Tryz.func8, Tryz.ntmps8
    go_wp2_with fail
    refine hq.mono ?_
    rintro e w1 ⟨rfl, hb1⟩
    have hB1 := hB0.trans (hb1.mono hB0.size)
    have x1 := x0.below hb1 x0.lt
    have r1 := r0.below hb1 r0.lt
    have hF1 := hF0.below hb1
    clear c0 c1 c2 c3 c4 c5 c6
    obtain ⟨c0, c1, c2, c3, c4, c5, c6⟩ := x1.seven
    go_wp2_with fail
    refine (packsK hka _).mono ?_
    rintro e w2 ⟨A2, j2, d2, rfl, o2, hb2⟩
    obtain rfl : 1 = j2 := o2.len okB
    have hB2 := hB1.trans (hb2.mono hB1.size)
    have x2 := x1.below hb2 x1.lt
    have r2 := r1.below hb2 r1.lt
    have hF2 := hF1.below hb2
    clear c0 c1 c2 c3 c4 c5 c6
    obtain ⟨c0, c1, c2, c3, c4, c5, c6⟩ := x2.seven
    go_wp2_with fail
    refine (entryOf a0 a1 a2 a3 a4 a5 a6 _).mono ?_
    rintro e w3 ⟨rfl, hb3⟩
    have hB3 := hB2.trans (hb3.mono hB2.size)
    have r3 := r2.below hb3 r2.lt
    have o3 := o2.below hb3 (Nat.le_refl _)
    have hF3 := hF2.below hb3
    go_wp2_with fail
    refine (PEN _ hF3).mono ?_
    rintro e w4 ⟨A4, j4, d4, rfl, rd4, hl4, hs4, hb4⟩
    have hB4 := hB3.trans (hb4.mono hB3.size)
    have r4 := r3.below hb4 r3.lt
    have o4 := o3.below hb4 (Nat.le_refl _)
    have hw14 : w1.heap.size ≤ w4.heap.size := Nat.le_trans hb2.size (Nat.le_trans hb3.size hb4.size)
    have Hl4 := Lib.hid hl4
    clear hl4 c0 c1 c2 c3 c4 c5 c6
    have lr1 := r1.lt
    obtain ⟨e0, e1, f0, f1⟩ := r4.two
    go_wp2_with (at_builtin; refine wpList_append_ow okB _ rfl (.tmp 15) (.tmp 18) _ rfl w1.heap.size info_u8 Tryz.underlying22 rfl A2 1 d2 [UInt8.ofNat a0.toNat] rfl o4 A4 j4 d4 _ (encT (a0, a1, (a2, a3, a4, a5), a6)) rfl rd4 Hl4.out (by unfold maxLen; omega) (by omega) hw14 ?_; intro A9 c9 w9 ow9 hg9 _; have r9 := r4.grown hg9 (fun e => by have := (o4.lt _ e).1; omega); have hB9 : Below w.heap.size w w9 := hB4.grown hg9 hB4.size (fun g hg => Nat.le_trans hB1.size (o4.lt g hg).1); clear e0 e1 f0 f1; obtain ⟨e0, e1, f0, f1⟩ := r9.two)
    refine bodyPost_ret (v := .agg #[.int .i64 0, .slice A9 (1 + j4) c9]) (by simp [results, Tryz.results8, go_sem, e0, e1]) rfl ?_
    rw [Hr.out, HT.out]
    exact ⟨A9, _, c9, rfl, ((ow9.under (p := ⟨w.heap.size + 1, 0, none⟩) lr1 _).under (p := ⟨w.heap.size + 1, 1, none⟩) lr1 _).from_ hB1.size, (hB9.setCell (by simp) _).setCell (by simp) _⟩
  · have Hr := Lib.hid (show encRecM (a0, a1, (a2, a3, a4, a5), a6) = (recFaultM (a0, a1, (a2, a3, a4, a5), a6), []) from if_neg h)
    have hne : (recFaultM (a0, a1, (a2, a3, a4, a5), a6) != 0) = true := by rw [bne_iff_ne]; exact h
    rw [Hr.out]
    clear Hr h
    generalize recFaultM (a0, a1, (a2, a3, a4, a5), a6) = rf at *
    go_enter Tryz.func8, Tryz.ntmps8
    go_wp2_with fail
    refine hq.mono ?_
    rintro e w1 ⟨rfl, hb1⟩
    have hB1 := hB0.trans (hb1.mono hB0.size)
    have r1 := r0.below hb1 r0.lt
    obtain ⟨d0, d1, f0, f1⟩ := r1.two
    go_wp2_with fail
    refine bodyPost_ret (v := .agg #[.int .i64 rf, .slice none 0 0]) (by simp [results, Tryz.results8, go_sem, d0, d1]) rfl ?_
    exact ⟨none, 0, 0, rfl, Ow.nil, (hB1.setCell (by simp) _).setCell (by simp) _⟩
end Go.Proofs.YtmaillakhhdkfaaGreatDoor
/-
  A record out of its bytes: the program's.
-/
namespace Go.Proofs.YtmaillakhhdkfaaGreatDoor
set_option maxRecDepth 20000
open Go.RowKit
set_option linter.unusedSimpArgs false
set_option linter.unusedVariables false
attribute [local irreducible] mixW

theorem fldSR1 (z a b c d : Int) (u : World) : (Instr.field 179 (.agg #[.int .i64 z, .int .i64 a, .int .i64 b, .int .i64 c, .int .i64 d]) 1).run Tryz.prog u = .ok (.agg #[.int .i64 a, .int .i64 b, .int .i64 c, .int .i64 d]) u := by kernel_rfl
theorem Rd.cutAt {w : World} {hi : Nat} {A : Option Addr} {l : List UInt8} (h : Rd eB w hi A l) (p : Nat) (c : Nat) (hc : l.length ≤ c) : Rd eB w hi (if c = p then A else A.map (·.add p)) (l.drop p) := by
  rcases Nat.lt_or_ge p l.length with h1 | h1
  · obtain ⟨g, o, rfl, hr⟩ := h.add h1
    rw [if_neg (by omega)]
    simpa [eB, addr_add] using hr
  · rw [List.drop_of_length_le h1]
    exact Rd.nil
set_option maxHeartbeats 2000000 in
theorem sampleAt (p : Nat) (hp : p = 1 ∨ p = 2) (A : Option Addr) (n c : Nat) (l : List UInt8) (w : World) (ha : Rd eB w w.heap.size A l) (hn : l.length = n) (hc : n ≤ c) (hcm : c ≤ maxLen) (hF : Flds w) :
    Calls Tryz.prog 88 #[.slice A n c, .int .i64 (p : Int)] w (RetS (decodeM (l.drop p)).2 w) := by
  have hB0 : Below w.heap.size w (w.alloc (.cells #[.int .i64 0, .int .i64 0, .int .i64 0, .int .i64 0] 25)) := (Below.refl _ _).alloc (Nat.le_refl _) _
  have zb0 := At.new w 25 #[.int .i64 0, .int .i64 0, .int .i64 0, .int .i64 0]
  have fS := fldSR1
  have hcm' := hcm
  unfold maxLen at hcm'
  obtain ⟨q, hq, hqn, hql⟩ : ∃ q : Nat, q = min p n ∧ q ≤ n ∧ l.drop q = l.drop p := by
    refine ⟨min p n, rfl, by omega, ?_⟩
    rcases Nat.le_total p n with h | h
    · rw [Nat.min_eq_left h]
    · rw [Nat.min_eq_right h, List.drop_of_length_le (by omega), List.drop_of_length_le (by omega)]
  obtain ⟨z0, z1, z2, z3, f0, f1, f2, f3⟩ := zb0.four
  have HD := implDecodeSample (if c = q then A else A.map (·.add q)) (n - q) (c - q) (l.drop q) _ ((ha.lift hB0).cutAt q c (by omega)) (by rw [List.length_drop]; omega) (by omega) (hF.below hB0)
  rw [hql] at HD
  unfold RetSR at HD
  unfold RetS
  generalize decodeM (l.drop p) = D at *
  obtain ⟨dz, d0, d1, d2, d3⟩ := D
  clear hql ha hn
  by_cases hpn : p ≤ n
  · obtain rfl : q = p := by omega
    have hmin : ¬ (n : Int) < (q : Int) := by omega
    clear hq hqn
    by_cases hcq : c = q
    · have hnq : n = q := by omega
      subst hnq
      subst hcq
      rw [if_pos rfl, Nat.sub_self] at HD
      rcases hp with rfl | rfl
      all_goals
        go_enter Tryz.func88, Tryz.ntmps88
        go_wp2_with fail
        refine HD.mono ?_
        rintro e w1 ⟨rfl, hb1⟩
        have hB1 := hB0.trans (hb1.mono hB0.size)
        have zb1 := zb0.below hb1 zb0.lt
        clear z0 z1 z2 z3 f0 f1 f2 f3
        obtain ⟨z0, z1, z2, z3, f0, f1, f2, f3⟩ := zb1.four
        go_wp2_with fail
        refine bodyPost_ret (v := .agg #[.int .i64 d0, .int .i64 d1, .int .i64 d2, .int .i64 d3]) (by simp [results, Tryz.results88, go_sem, z0, z1, z2, z3]) rfl ?_
        exact ⟨rfl, (((hB1.setCell (by simp) _).setCell (by simp) _).setCell (by simp) _).setCell (by simp) _⟩
    · rw [if_neg hcq] at HD
      rcases hp with rfl | rfl
      all_goals
        go_enter Tryz.func88, Tryz.ntmps88
        go_wp2_with fail
        refine HD.mono ?_
        rintro e w1 ⟨rfl, hb1⟩
        have hB1 := hB0.trans (hb1.mono hB0.size)
        have zb1 := zb0.below hb1 zb0.lt
        clear z0 z1 z2 z3 f0 f1 f2 f3
        obtain ⟨z0, z1, z2, z3, f0, f1, f2, f3⟩ := zb1.four
        go_wp2_with fail
        refine bodyPost_ret (v := .agg #[.int .i64 d0, .int .i64 d1, .int .i64 d2, .int .i64 d3]) (by simp [results, Tryz.results88, go_sem, z0, z1, z2, z3]) rfl ?_
        exact ⟨rfl, (((hB1.setCell (by simp) _).setCell (by simp) _).setCell (by simp) _).setCell (by simp) _⟩
  · obtain rfl : q = n := by omega
    have hmin : (q : Int) < (p : Int) := by omega
    clear hq hqn hpn
    rw [Nat.sub_self] at HD
    by_cases hcq : c = q
    · subst hcq
      rw [if_pos rfl, Nat.sub_self] at HD
      rcases hp with rfl | rfl
      all_goals
        go_enter Tryz.func88, Tryz.ntmps88
        go_wp2_with fail
        refine HD.mono ?_
        rintro e w1 ⟨rfl, hb1⟩
        have hB1 := hB0.trans (hb1.mono hB0.size)
        have zb1 := zb0.below hb1 zb0.lt
        clear z0 z1 z2 z3 f0 f1 f2 f3
        obtain ⟨z0, z1, z2, z3, f0, f1, f2, f3⟩ := zb1.four
        go_wp2_with fail
        refine bodyPost_ret (v := .agg #[.int .i64 d0, .int .i64 d1, .int .i64 d2, .int .i64 d3]) (by simp [results, Tryz.results88, go_sem, z0, z1, z2, z3]) rfl ?_
        exact ⟨rfl, (((hB1.setCell (by simp) _).setCell (by simp) _).setCell (by simp) _).setCell (by simp) _⟩
    · rw [if_neg hcq] at HD
      rcases hp with rfl | rfl
      all_goals
        go_enter Tryz.func88, Tryz.ntmps88
        go_wp2_with fail
        refine HD.mono ?_
        rintro e w1 ⟨rfl, hb1⟩
        have hB1 := hB0.trans (hb1.mono hB0.size)
        have zb1 := zb0.below hb1 zb0.lt
        clear z0 z1 z2 z3 f0 f1 f2 f3
        obtain ⟨z0, z1, z2, z3, f0, f1, f2, f3⟩ := zb1.four
        go_wp2_with fail
        refine bodyPost_ret (v := .agg #[.int .i64 d0, .int .i64 d1, .int .i64 d2, .int .i64 d3]) (by simp [results, Tryz.results88, go_sem, z0, z1, z2, z3]) rfl ?_
        exact ⟨rfl, (((hB1.setCell (by simp) _).setCell (by simp) _).setCell (by simp) _).setCell (by simp) _⟩

set_option maxHeartbeats 8000000 in
theorem unpackRecord (A : Option Addr) (n c : Nat) (l : List UInt8) (w : World) (ha : Rd eB w w.heap.size A l) (hn : l.length = n) (hc : n ≤ c) (hcm : c ≤ maxLen) (hF : Flds w) :
    Calls Tryz.prog 43 #[.slice A n c] w (RetRc (unpR l) w) := by
  have hB0 : Below w.heap.size w (w.alloc (.cells #[.int .i64 0, .int .i64 0, .int .i64 0, .int .i64 0, .int .i64 0, .int .i64 0, .int .i64 0] 27)) := (Below.refl _ _).alloc (Nat.le_refl _) _
  have zb0 := At.new w 27 #[.int .i64 0, .int .i64 0, .int .i64 0, .int .i64 0, .int .i64 0, .int .i64 0, .int .i64 0]
  have hm : n ≤ maxLen := Nat.le_trans hc hcm
  have fI := fldI1
  have R0 := implReadWord A n c l 0 1 _ (ha.lift hB0) hn hm
  unfold RetIR at R0
  unfold RetRc
  obtain ⟨kz, kk, hk⟩ : ∃ e k, readM l 0 1 = (e, k) := ⟨_, _, rfl⟩
  have hk2 : (readM l 0 1).2 = kk := by rw [hk]
  rw [hk] at R0
  clear hk
  by_cases k1 : kk = 1
  · subst k1
    have Hq := unpR_1 hk2
    have SC := fun W hW => sampleAt 1 (.inl rfl) A n c l W (ha.lift hW) hn hc hcm (hF.below hW)
    obtain ⟨d0, d1, d2, d3, hd⟩ : ∃ d0 d1 d2 d3, (decodeM (l.drop 1)).2 = (d0, d1, d2, d3) := ⟨_, _, _, _, rfl⟩
    rw [hd] at SC Hq
    have Hd := Lib.hid Hq
    clear Hq hd hk2
    go_enter Tryz.func43, Tryz.ntmps43
    go_wp2_with fail
    refine R0.mono ?_
    rintro e w1 ⟨rfl, hb1⟩
    have hB1 := hB0.trans (hb1.mono hB0.size)
    have zb1 := zb0.below hb1 zb0.lt
    have hne : w.heap.size ≠ w1.heap.size := by have := hb1.size; simp at this; omega
    have hne2 : ¬ w.heap.size = w1.heap.size := hne
    have zb2 := zb1.alloc (.cells #[.int .i64 1, .int .i64 0, .int .i64 0, .int .i64 0, .int .i64 0, .int .i64 0, .int .i64 0] 27)
    have rb2 := At.new w1 27 #[.int .i64 1, .int .i64 0, .int .i64 0, .int .i64 0, .int .i64 0, .int .i64 0, .int .i64 0]
    have hB2 := hB1.alloc hB1.size (.cells #[.int .i64 1, .int .i64 0, .int .i64 0, .int .i64 0, .int .i64 0, .int .i64 0, .int .i64 0] 27)
    obtain ⟨zc0, zc1, zc2, zc3, zc4, zc5, zc6⟩ := zb2.seven
    obtain ⟨zf0, zf1, zf2, zf3, zf4, zf5, zf6⟩ := zb2.sevenF
    obtain ⟨rc0, rc1, rc2, rc3, rc4, rc5, rc6⟩ := rb2.seven
    obtain ⟨rf0, rf1, rf2, rf3, rf4, rf5, rf6⟩ := rb2.sevenF
    go_wp2_with fail
    refine (SC _ hB2).mono ?_
    rintro e w3 ⟨rfl, hb3⟩
    have hB3 := hB2.trans (hb3.mono hB2.size)
    have zb3 := zb2.below hb3 zb2.lt
    have rb3 := rb2.below hb3 rb2.lt
    clear zc0 zc1 zc2 zc3 zc4 zc5 zc6 zf0 zf1 zf2 zf3 zf4 zf5 zf6 rc0 rc1 rc2 rc3 rc4 rc5 rc6 rf0 rf1 rf2 rf3 rf4 rf5 rf6
    obtain ⟨zc0, zc1, zc2, zc3, zc4, zc5, zc6⟩ := zb3.seven
    obtain ⟨zf0, zf1, zf2, zf3, zf4, zf5, zf6⟩ := zb3.sevenF
    obtain ⟨rc0, rc1, rc2, rc3, rc4, rc5, rc6⟩ := rb3.seven
    obtain ⟨rf0, rf1, rf2, rf3, rf4, rf5, rf6⟩ := rb3.sevenF
    go_wp2_with fail
    refine bodyPost_ret (v := .agg #[.int .i64 1, .int .i64 0, .int .i64 d0, .int .i64 d1, .int .i64 d2, .int .i64 d3, .int .i64 0]) (by simp [results, Tryz.results43, go_sem, zc0, zc1, zc2, zc3, zc4, zc5, zc6]) rfl ?_
    rw [Hd.out]
    exact ⟨rfl, (((((((((((hB3.setCell hB1.size _).setCell hB1.size _).setCell hB1.size _).setCell hB1.size _).setCell (by simp) _).setCell (by simp) _).setCell (by simp) _).setCell (by simp) _).setCell (by simp) _).setCell (by simp) _).setCell (by simp) _)⟩
  by_cases k2 : kk = 2
  · subst k2
    have Hq := unpR_2 hk2
    have Wpv := fun W hW => implReadWord A n c l 1 1 W (ha.lift hW) hn hm
    unfold RetIR at Wpv
    generalize readM l 1 1 = qpv at *
    obtain ⟨pvz, pv⟩ := qpv
    have SC := fun W hW => sampleAt 2 (.inr rfl) A n c l W (ha.lift hW) hn hc hcm (hF.below hW)
    obtain ⟨d0, d1, d2, d3, hd⟩ : ∃ d0 d1 d2 d3, (decodeM (l.drop 2)).2 = (d0, d1, d2, d3) := ⟨_, _, _, _, rfl⟩
    rw [hd] at SC Hq
    have Hd := Lib.hid Hq
    clear Hq hd hk2
    go_enter Tryz.func43, Tryz.ntmps43
    go_wp2_with fail
    refine R0.mono ?_
    rintro e w1 ⟨rfl, hb1⟩
    have hB1 := hB0.trans (hb1.mono hB0.size)
    have zb1 := zb0.below hb1 zb0.lt
    have hne : w.heap.size ≠ w1.heap.size := by have := hb1.size; simp at this; omega
    have hne2 : ¬ w.heap.size = w1.heap.size := hne
    have zb2 := zb1.alloc (.cells #[.int .i64 2, .int .i64 0, .int .i64 0, .int .i64 0, .int .i64 0, .int .i64 0, .int .i64 0] 27)
    have rb2 := At.new w1 27 #[.int .i64 2, .int .i64 0, .int .i64 0, .int .i64 0, .int .i64 0, .int .i64 0, .int .i64 0]
    have hB2 := hB1.alloc hB1.size (.cells #[.int .i64 2, .int .i64 0, .int .i64 0, .int .i64 0, .int .i64 0, .int .i64 0, .int .i64 0] 27)
    obtain ⟨zc0, zc1, zc2, zc3, zc4, zc5, zc6⟩ := zb2.seven
    obtain ⟨zf0, zf1, zf2, zf3, zf4, zf5, zf6⟩ := zb2.sevenF
    obtain ⟨rc0, rc1, rc2, rc3, rc4, rc5, rc6⟩ := rb2.seven
    obtain ⟨rf0, rf1, rf2, rf3, rf4, rf5, rf6⟩ := rb2.sevenF
    go_wp2_with fail
    refine (Wpv _ hB2).mono ?_
    rintro e w3 ⟨rfl, hb3⟩
    have hB3 := hB2.trans (hb3.mono hB2.size)
    have zb3 := zb2.below hb3 zb2.lt
    have rb3 := rb2.below hb3 rb2.lt
    clear zc0 zc1 zc2 zc3 zc4 zc5 zc6 zf0 zf1 zf2 zf3 zf4 zf5 zf6 rc0 rc1 rc2 rc3 rc4 rc5 rc6 rf0 rf1 rf2 rf3 rf4 rf5 rf6
    obtain ⟨zc0, zc1, zc2, zc3, zc4, zc5, zc6⟩ := zb3.seven
    obtain ⟨zf0, zf1, zf2, zf3, zf4, zf5, zf6⟩ := zb3.sevenF
    obtain ⟨rc0, rc1, rc2, rc3, rc4, rc5, rc6⟩ := rb3.seven
    obtain ⟨rf0, rf1, rf2, rf3, rf4, rf5, rf6⟩ := rb3.sevenF
    have rb4 : At (w3.setCell ⟨w1.heap.size, 1, none⟩ (.int .i64 pv)) w1.heap.size 27 #[.int .i64 2, .int .i64 pv, .int .i64 0, .int .i64 0, .int .i64 0, .int .i64 0, .int .i64 0] := (rb3.set 1 (.int .i64 pv))
    have zb4 : At (w3.setCell ⟨w1.heap.size, 1, none⟩ (.int .i64 pv)) w.heap.size 27 #[.int .i64 0, .int .i64 0, .int .i64 0, .int .i64 0, .int .i64 0, .int .i64 0, .int .i64 0] := (zb3.far (p := ⟨w1.heap.size, 1, none⟩) hne (.int .i64 pv))
    have hB4 : Below w.heap.size w (w3.setCell ⟨w1.heap.size, 1, none⟩ (.int .i64 pv)) := (hB3.setCell (p := ⟨w1.heap.size, 1, none⟩) hB1.size (.int .i64 pv))
    go_wp2_with fail
    refine (SC _ hB4).mono ?_
    rintro e w5 ⟨rfl, hb5⟩
    have hB5 := hB4.trans (hb5.mono hB4.size)
    have zb5 := zb4.below hb5 zb4.lt
    have rb5 := rb4.below hb5 rb4.lt
    clear zc0 zc1 zc2 zc3 zc4 zc5 zc6 zf0 zf1 zf2 zf3 zf4 zf5 zf6 rc0 rc1 rc2 rc3 rc4 rc5 rc6 rf0 rf1 rf2 rf3 rf4 rf5 rf6
    obtain ⟨zc0, zc1, zc2, zc3, zc4, zc5, zc6⟩ := zb5.seven
    obtain ⟨zf0, zf1, zf2, zf3, zf4, zf5, zf6⟩ := zb5.sevenF
    obtain ⟨rc0, rc1, rc2, rc3, rc4, rc5, rc6⟩ := rb5.seven
    obtain ⟨rf0, rf1, rf2, rf3, rf4, rf5, rf6⟩ := rb5.sevenF
    go_wp2_with fail
    refine bodyPost_ret (v := .agg #[.int .i64 2, .int .i64 pv, .int .i64 d0, .int .i64 d1, .int .i64 d2, .int .i64 d3, .int .i64 0]) (by simp [results, Tryz.results43, go_sem, zc0, zc1, zc2, zc3, zc4, zc5, zc6]) rfl ?_
    rw [Hd.out]
    exact ⟨rfl, (((((((((((hB5.setCell hB1.size _).setCell hB1.size _).setCell hB1.size _).setCell hB1.size _).setCell (by simp) _).setCell (by simp) _).setCell (by simp) _).setCell (by simp) _).setCell (by simp) _).setCell (by simp) _).setCell (by simp) _)⟩
  by_cases k3 : kk = 3
  · subst k3
    have Hq := unpR_3 hk2
    have Wpv := fun W hW => implReadWord A n c l 1 1 W (ha.lift hW) hn hm
    unfold RetIR at Wpv
    generalize readM l 1 1 = qpv at *
    obtain ⟨pvz, pv⟩ := qpv
    have Wkv := fun W hW => implReadWord A n c l 2 2 W (ha.lift hW) hn hm
    unfold RetIR at Wkv
    generalize readM l 2 2 = qkv at *
    obtain ⟨kvz, kv⟩ := qkv
    have Hd := Lib.hid Hq
    clear Hq hk2
    go_enter Tryz.func43, Tryz.ntmps43
    go_wp2_with fail
    refine R0.mono ?_
    rintro e w1 ⟨rfl, hb1⟩
    have hB1 := hB0.trans (hb1.mono hB0.size)
    have zb1 := zb0.below hb1 zb0.lt
    have hne : w.heap.size ≠ w1.heap.size := by have := hb1.size; simp at this; omega
    have hne2 : ¬ w.heap.size = w1.heap.size := hne
    have zb2 := zb1.alloc (.cells #[.int .i64 3, .int .i64 0, .int .i64 0, .int .i64 0, .int .i64 0, .int .i64 0, .int .i64 0] 27)
    have rb2 := At.new w1 27 #[.int .i64 3, .int .i64 0, .int .i64 0, .int .i64 0, .int .i64 0, .int .i64 0, .int .i64 0]
    have hB2 := hB1.alloc hB1.size (.cells #[.int .i64 3, .int .i64 0, .int .i64 0, .int .i64 0, .int .i64 0, .int .i64 0, .int .i64 0] 27)
    obtain ⟨zc0, zc1, zc2, zc3, zc4, zc5, zc6⟩ := zb2.seven
    obtain ⟨zf0, zf1, zf2, zf3, zf4, zf5, zf6⟩ := zb2.sevenF
    obtain ⟨rc0, rc1, rc2, rc3, rc4, rc5, rc6⟩ := rb2.seven
    obtain ⟨rf0, rf1, rf2, rf3, rf4, rf5, rf6⟩ := rb2.sevenF
    go_wp2_with fail
    refine (Wpv _ hB2).mono ?_
    rintro e w3 ⟨rfl, hb3⟩
    have hB3 := hB2.trans (hb3.mono hB2.size)
    have zb3 := zb2.below hb3 zb2.lt
    have rb3 := rb2.below hb3 rb2.lt
    clear zc0 zc1 zc2 zc3 zc4 zc5 zc6 zf0 zf1 zf2 zf3 zf4 zf5 zf6 rc0 rc1 rc2 rc3 rc4 rc5 rc6 rf0 rf1 rf2 rf3 rf4 rf5 rf6
    obtain ⟨zc0, zc1, zc2, zc3, zc4, zc5, zc6⟩ := zb3.seven
    obtain ⟨zf0, zf1, zf2, zf3, zf4, zf5, zf6⟩ := zb3.sevenF
    obtain ⟨rc0, rc1, rc2, rc3, rc4, rc5, rc6⟩ := rb3.seven
    obtain ⟨rf0, rf1, rf2, rf3, rf4, rf5, rf6⟩ := rb3.sevenF
    have rb4 : At (w3.setCell ⟨w1.heap.size, 1, none⟩ (.int .i64 pv)) w1.heap.size 27 #[.int .i64 3, .int .i64 pv, .int .i64 0, .int .i64 0, .int .i64 0, .int .i64 0, .int .i64 0] := (rb3.set 1 (.int .i64 pv))
    have zb4 : At (w3.setCell ⟨w1.heap.size, 1, none⟩ (.int .i64 pv)) w.heap.size 27 #[.int .i64 0, .int .i64 0, .int .i64 0, .int .i64 0, .int .i64 0, .int .i64 0, .int .i64 0] := (zb3.far (p := ⟨w1.heap.size, 1, none⟩) hne (.int .i64 pv))
    have hB4 : Below w.heap.size w (w3.setCell ⟨w1.heap.size, 1, none⟩ (.int .i64 pv)) := (hB3.setCell (p := ⟨w1.heap.size, 1, none⟩) hB1.size (.int .i64 pv))
    go_wp2_with fail
    refine (Wkv _ hB4).mono ?_
    rintro e w5 ⟨rfl, hb5⟩
    have hB5 := hB4.trans (hb5.mono hB4.size)
    have zb5 := zb4.below hb5 zb4.lt
    have rb5 := rb4.below hb5 rb4.lt
    clear zc0 zc1 zc2 zc3 zc4 zc5 zc6 zf0 zf1 zf2 zf3 zf4 zf5 zf6 rc0 rc1 rc2 rc3 rc4 rc5 rc6 rf0 rf1 rf2 rf3 rf4 rf5 rf6
    obtain ⟨zc0, zc1, zc2, zc3, zc4, zc5, zc6⟩ := zb5.seven
    obtain ⟨zf0, zf1, zf2, zf3, zf4, zf5, zf6⟩ := zb5.sevenF
    obtain ⟨rc0, rc1, rc2, rc3, rc4, rc5, rc6⟩ := rb5.seven
    obtain ⟨rf0, rf1, rf2, rf3, rf4, rf5, rf6⟩ := rb5.sevenF
    go_wp2_with fail
    refine bodyPost_ret (v := .agg #[.int .i64 3, .int .i64 pv, .int .i64 0, .int .i64 0, .int .i64 0, .int .i64 0, .int .i64 kv]) (by simp [results, Tryz.results43, go_sem, zc0, zc1, zc2, zc3, zc4, zc5, zc6]) rfl ?_
    rw [Hd.out]
    exact ⟨rfl, ((((((((hB5.setCell hB1.size _).setCell (by simp) _).setCell (by simp) _).setCell (by simp) _).setCell (by simp) _).setCell (by simp) _).setCell (by simp) _).setCell (by simp) _)⟩
  by_cases k4 : kk = 4
  · subst k4
    have Hq := unpR_4 hk2
    have Wkv := fun W hW => implReadWord A n c l 1 2 W (ha.lift hW) hn hm
    unfold RetIR at Wkv
    generalize readM l 1 2 = qkv at *
    obtain ⟨kvz, kv⟩ := qkv
    have Hd := Lib.hid Hq
    clear Hq hk2
    go_enter Tryz.func43, Tryz.ntmps43
    go_wp2_with fail
    refine R0.mono ?_
    rintro e w1 ⟨rfl, hb1⟩
    have hB1 := hB0.trans (hb1.mono hB0.size)
    have zb1 := zb0.below hb1 zb0.lt
    have hne : w.heap.size ≠ w1.heap.size := by have := hb1.size; simp at this; omega
    have hne2 : ¬ w.heap.size = w1.heap.size := hne
    have zb2 := zb1.alloc (.cells #[.int .i64 4, .int .i64 0, .int .i64 0, .int .i64 0, .int .i64 0, .int .i64 0, .int .i64 0] 27)
    have rb2 := At.new w1 27 #[.int .i64 4, .int .i64 0, .int .i64 0, .int .i64 0, .int .i64 0, .int .i64 0, .int .i64 0]
    have hB2 := hB1.alloc hB1.size (.cells #[.int .i64 4, .int .i64 0, .int .i64 0, .int .i64 0, .int .i64 0, .int .i64 0, .int .i64 0] 27)
    obtain ⟨zc0, zc1, zc2, zc3, zc4, zc5, zc6⟩ := zb2.seven
    obtain ⟨zf0, zf1, zf2, zf3, zf4, zf5, zf6⟩ := zb2.sevenF
    obtain ⟨rc0, rc1, rc2, rc3, rc4, rc5, rc6⟩ := rb2.seven
    obtain ⟨rf0, rf1, rf2, rf3, rf4, rf5, rf6⟩ := rb2.sevenF
    go_wp2_with fail
    refine (Wkv _ hB2).mono ?_
    rintro e w3 ⟨rfl, hb3⟩
    have hB3 := hB2.trans (hb3.mono hB2.size)
    have zb3 := zb2.below hb3 zb2.lt
    have rb3 := rb2.below hb3 rb2.lt
    clear zc0 zc1 zc2 zc3 zc4 zc5 zc6 zf0 zf1 zf2 zf3 zf4 zf5 zf6 rc0 rc1 rc2 rc3 rc4 rc5 rc6 rf0 rf1 rf2 rf3 rf4 rf5 rf6
    obtain ⟨zc0, zc1, zc2, zc3, zc4, zc5, zc6⟩ := zb3.seven
    obtain ⟨zf0, zf1, zf2, zf3, zf4, zf5, zf6⟩ := zb3.sevenF
    obtain ⟨rc0, rc1, rc2, rc3, rc4, rc5, rc6⟩ := rb3.seven
    obtain ⟨rf0, rf1, rf2, rf3, rf4, rf5, rf6⟩ := rb3.sevenF
    go_wp2_with fail
    refine bodyPost_ret (v := .agg #[.int .i64 4, .int .i64 0, .int .i64 0, .int .i64 0, .int .i64 0, .int .i64 0, .int .i64 kv]) (by simp [results, Tryz.results43, go_sem, zc0, zc1, zc2, zc3, zc4, zc5, zc6]) rfl ?_
    rw [Hd.out]
    exact ⟨rfl, ((((((((hB3.setCell hB1.size _).setCell (by simp) _).setCell (by simp) _).setCell (by simp) _).setCell (by simp) _).setCell (by simp) _).setCell (by simp) _).setCell (by simp) _)⟩
  · have Hd := Lib.hid (unpR_o (l := l) (by rw [hk2]; exact k1) (by rw [hk2]; exact k2) (by rw [hk2]; exact k3) (by rw [hk2]; exact k4))
    rw [hk2] at Hd
    have b1 : (kk == 1) = false := by simpa using k1
    have b2 : (kk == 2) = false := by simpa using k2
    have b3 : (kk == 3) = false := by simpa using k3
    have b4 : (kk == 4) = false := by simpa using k4
    clear hk2 k1 k2 k3 k4
    go_enter Tryz.func43, Tryz.ntmps43
    go_wp2_with fail
    refine R0.mono ?_
    rintro e w1 ⟨rfl, hb1⟩
    have hB1 := hB0.trans (hb1.mono hB0.size)
    have zb1 := zb0.below hb1 zb0.lt
    have hne : w.heap.size ≠ w1.heap.size := by have := hb1.size; simp at this; omega
    have hne2 : ¬ w.heap.size = w1.heap.size := hne
    have zb2 := zb1.alloc (.cells #[.int .i64 kk, .int .i64 0, .int .i64 0, .int .i64 0, .int .i64 0, .int .i64 0, .int .i64 0] 27)
    have rb2 := At.new w1 27 #[.int .i64 kk, .int .i64 0, .int .i64 0, .int .i64 0, .int .i64 0, .int .i64 0, .int .i64 0]
    have hB2 := hB1.alloc hB1.size (.cells #[.int .i64 kk, .int .i64 0, .int .i64 0, .int .i64 0, .int .i64 0, .int .i64 0, .int .i64 0] 27)
    obtain ⟨zc0, zc1, zc2, zc3, zc4, zc5, zc6⟩ := zb2.seven
    obtain ⟨zf0, zf1, zf2, zf3, zf4, zf5, zf6⟩ := zb2.sevenF
    obtain ⟨rc0, rc1, rc2, rc3, rc4, rc5, rc6⟩ := rb2.seven
    obtain ⟨rf0, rf1, rf2, rf3, rf4, rf5, rf6⟩ := rb2.sevenF
    go_wp2_with fail
    refine bodyPost_ret (v := .agg #[.int .i64 kk, .int .i64 0, .int .i64 0, .int .i64 0, .int .i64 0, .int .i64 0, .int .i64 0]) (by simp [results, Tryz.results43, go_sem, zc0, zc1, zc2, zc3, zc4, zc5, zc6]) rfl ?_
    rw [Hd.out]
    exact ⟨rfl, (((((((hB2.setCell (by simp) _).setCell (by simp) _).setCell (by simp) _).setCell (by simp) _).setCell (by simp) _).setCell (by simp) _).setCell (by simp) _)⟩

end Go.Proofs.YtmaillakhhdkfaaGreatDoor
/-
  A record out of its bytes: the program's DecodeRecord.
-/
namespace Go.Proofs.YtmaillakhhdkfaaGreatDoor
set_option maxRecDepth 20000
open Go.RowKit
set_option linter.unusedSimpArgs false
set_option linter.unusedVariables false
attribute [local irreducible] mixW

set_option maxHeartbeats 4000000 in
theorem implDecodeRecord (A : Option Addr) (n c : Nat) (l : List UInt8) (w : World) (ha : Rd eB w w.heap.size A l) (hn : l.length = n) (hc : n ≤ c) (hcm : c ≤ maxLen) (hF : Flds w) :
    Calls Tryz.prog 10 #[.slice A n c] w fun e w' => RetRR (decodeRecM l) w e w' := by
  have hB0 : Below w.heap.size w (w.alloc (.cells #[.int .i64 0, .int .i64 0, .int .i64 0, .int .i64 0, .int .i64 0, .int .i64 0, .int .i64 0, .int .i64 0] 34)) := (Below.refl _ _).alloc (Nat.le_refl _) _
  have zb0 := At.new w 34 #[.int .i64 0, .int .i64 0, .int .i64 0, .int .i64 0, .int .i64 0, .int .i64 0, .int .i64 0, .int .i64 0]
  have U := unpackRecord A n c l _ (ha.lift hB0) hn hc hcm (hF.below hB0)
  unfold RetRc at U
  have hor := dec_or l
  unfold RetRR
  rcases hu : unpR l with ⟨a0, a1, ⟨a2, a3, a4, a5⟩, a6⟩
  rw [hu] at U hor
  have EN := fun W hW => implEncodeRecord a0 a1 a2 a3 a4 a5 a6 W hW
  have hcode := encRecM_code (a0, a1, (a2, a3, a4, a5), a6)
  have hbytes : recFaultM (a0, a1, (a2, a3, a4, a5), a6) = 0 → encRecM (a0, a1, (a2, a3, a4, a5), a6) = (0, encR (a0, a1, (a2, a3, a4, a5), a6)) := fun h => if_pos h
  by_cases hf : recFaultM (a0, a1, (a2, a3, a4, a5), a6) = 0
  rotate_left
  · have Hd := Lib.hid (show decodeRecM l = (5, zeroR) by
      rcases hor with ⟨-, h, -⟩ | ⟨h, -⟩
      · exact absurd h hf
      · exact h)
    obtain ⟨ec, eb, he⟩ : ∃ ec eb, encRecM (a0, a1, (a2, a3, a4, a5), a6) = (ec, eb) := ⟨_, _, rfl⟩
    rw [he] at hcode EN
    have hne5 : (ec != 0) = true := by rw [bne_iff_ne]; show ec ≠ 0; rw [show ec = recFaultM (a0, a1, (a2, a3, a4, a5), a6) from hcode]; exact hf
    clear hor hcode hbytes hf hu he
    go_enter Tryz.func10, Tryz.ntmps10
    go_wp2_with fail
    refine U.mono ?_
    rintro e w1 ⟨rfl, hb1⟩
    have hB1 := hB0.trans (hb1.mono hB0.size)
    have zb1 := (zb0.below hb1 zb0.lt).alloc (.cells #[.int .i64 a0, .int .i64 a1, .int .i64 a2, .int .i64 a3, .int .i64 a4, .int .i64 a5, .int .i64 a6] 27)
    have hne : ¬ w.heap.size = w1.heap.size := by have := hb1.size; simp at this; omega
    have xb1 := At.new w1 27 #[.int .i64 a0, .int .i64 a1, .int .i64 a2, .int .i64 a3, .int .i64 a4, .int .i64 a5, .int .i64 a6]
    have hB2 := hB1.alloc hB1.size (.cells #[.int .i64 a0, .int .i64 a1, .int .i64 a2, .int .i64 a3, .int .i64 a4, .int .i64 a5, .int .i64 a6] 27)
    obtain ⟨xc0, xc1, xc2, xc3, xc4, xc5, xc6⟩ := xb1.seven
    go_wp2_with fail
    refine (EN _ (hF.below hB2)).mono ?_
    rintro e w2 ⟨A2, n2, c2, rfl, o2, hb2⟩
    have hB3 := hB2.trans (hb2.mono hB2.size)
    have hne3 : ¬ w.heap.size = w2.heap.size := by have := hb1.size; have := hb2.size; simp at *; omega
    have hne4 : ¬ w1.heap.size = w2.heap.size := by have := hb2.size; simp at this; omega
    have zb3 := (zb1.below hb2 zb1.lt).alloc (.cells #[.int .i64 ec, .slice A2 n2 c2] 30)
    have xb3 := (xb1.below hb2 xb1.lt).alloc (.cells #[.int .i64 ec, .slice A2 n2 c2] 30)
    have eb3 := At.new w2 30 #[.int .i64 ec, .slice A2 n2 c2]
    have hB4 := hB3.alloc hB3.size (.cells #[.int .i64 ec, .slice A2 n2 c2] 30)
    have o3 := o2.alloc (.cells #[.int .i64 ec, .slice A2 n2 c2] 30)
    clear xc0 xc1 xc2 xc3 xc4 xc5 xc6
    obtain ⟨xc0, xc1, xc2, xc3, xc4, xc5, xc6⟩ := xb3.seven
    obtain ⟨zc0, zc1, zc2, zc3, zc4, zc5, zc6, zc7⟩ := zb3.eightR
    have zf0 := zb3.frozen 0
    have zf1 := zb3.frozen 1
    have zf2 := zb3.frozen 2
    have zf3 := zb3.frozen 3
    have zf4 := zb3.frozen 4
    have zf5 := zb3.frozen 5
    have zf6 := zb3.frozen 6
    have zf7 := zb3.frozen 7
    obtain ⟨ec0, ec1, _, _⟩ := eb3.two
    go_wp2_with fail
    refine bodyPost_ret (v := .agg #[.int .i64 5, .int .i64 0, .int .i64 0, .int .i64 0, .int .i64 0, .int .i64 0, .int .i64 0, .int .i64 0]) (by simp [results, Tryz.results10, go_sem, zc0, zc1, zc2, zc3, zc4, zc5, zc6, zc7]) rfl ?_
    rw [Hd.out]
    exact ⟨rfl, ((((((((hB4.setCell (by simp) _).setCell (by simp) _).setCell (by simp) _).setCell (by simp) _).setCell (by simp) _).setCell (by simp) _).setCell (by simp) _).setCell (by simp) _)⟩
  rw [hbytes hf] at EN
  clear hbytes hcode
  have hne0 : ((0 : Int) != 0) = false := by decide
  by_cases hs : encR (a0, a1, (a2, a3, a4, a5), a6) = l
  · have Hd := Lib.hid (show decodeRecM l = (0, (a0, a1, (a2, a3, a4, a5), a6)) by
      rcases hor with ⟨h, -, -⟩ | ⟨-, h⟩
      · exact h
      · exact absurd ⟨hf, hs⟩ h)
    have Hs := Lib.hid (decide_eq_true hs)
    clear hor hs hf hu
    go_enter Tryz.func10, Tryz.ntmps10
    go_wp2_with fail
    refine U.mono ?_
    rintro e w1 ⟨rfl, hb1⟩
    have hB1 := hB0.trans (hb1.mono hB0.size)
    have zb1 := (zb0.below hb1 zb0.lt).alloc (.cells #[.int .i64 a0, .int .i64 a1, .int .i64 a2, .int .i64 a3, .int .i64 a4, .int .i64 a5, .int .i64 a6] 27)
    have hne : ¬ w.heap.size = w1.heap.size := by have := hb1.size; simp at this; omega
    have xb1 := At.new w1 27 #[.int .i64 a0, .int .i64 a1, .int .i64 a2, .int .i64 a3, .int .i64 a4, .int .i64 a5, .int .i64 a6]
    have hB2 := hB1.alloc hB1.size (.cells #[.int .i64 a0, .int .i64 a1, .int .i64 a2, .int .i64 a3, .int .i64 a4, .int .i64 a5, .int .i64 a6] 27)
    obtain ⟨xc0, xc1, xc2, xc3, xc4, xc5, xc6⟩ := xb1.seven
    go_wp2_with fail
    refine (EN _ (hF.below hB2)).mono ?_
    rintro e w2 ⟨A2, n2, c2, rfl, o2, hb2⟩
    have hB3 := hB2.trans (hb2.mono hB2.size)
    have hne3 : ¬ w.heap.size = w2.heap.size := by have := hb1.size; have := hb2.size; simp at *; omega
    have hne4 : ¬ w1.heap.size = w2.heap.size := by have := hb2.size; simp at this; omega
    have zb3 := (zb1.below hb2 zb1.lt).alloc (.cells #[.int .i64 0, .slice A2 n2 c2] 30)
    have xb3 := (xb1.below hb2 xb1.lt).alloc (.cells #[.int .i64 0, .slice A2 n2 c2] 30)
    have eb3 := At.new w2 30 #[.int .i64 0, .slice A2 n2 c2]
    have hB4 := hB3.alloc hB3.size (.cells #[.int .i64 0, .slice A2 n2 c2] 30)
    have o3 := o2.alloc (.cells #[.int .i64 0, .slice A2 n2 c2] 30)
    clear xc0 xc1 xc2 xc3 xc4 xc5 xc6
    obtain ⟨xc0, xc1, xc2, xc3, xc4, xc5, xc6⟩ := xb3.seven
    obtain ⟨zc0, zc1, zc2, zc3, zc4, zc5, zc6, zc7⟩ := zb3.eightR
    have zf0 := zb3.frozen 0
    have zf1 := zb3.frozen 1
    have zf2 := zb3.frozen 2
    have zf3 := zb3.frozen 3
    have zf4 := zb3.frozen 4
    have zf5 := zb3.frozen 5
    have zf6 := zb3.frozen 6
    have zf7 := zb3.frozen 7
    obtain ⟨ec0, ec1, _, _⟩ := eb3.two
    go_wp2_with fail
    refine (implSameBytes A2 A n2 n c2 c _ l _ (o3.rd okB) (ha.lift hB4) (o3.len okB) hn).mono ?_
    rintro e w9 ⟨he9, rfl⟩
    obtain rfl : e = .returned (.bool true) := by rw [he9, Hs.out]
    clear he9
    go_wp2_with fail
    refine bodyPost_ret (v := .agg #[.int .i64 0, .int .i64 a0, .int .i64 a1, .int .i64 a2, .int .i64 a3, .int .i64 a4, .int .i64 a5, .int .i64 a6]) (by simp [results, Tryz.results10, go_sem, zc0, zc1, zc2, zc3, zc4, zc5, zc6, zc7]) rfl ?_
    rw [Hd.out]
    exact ⟨rfl, ((((((((hB4.setCell (by simp) _).setCell (by simp) _).setCell (by simp) _).setCell (by simp) _).setCell (by simp) _).setCell (by simp) _).setCell (by simp) _).setCell (by simp) _)⟩
  · have Hd := Lib.hid (show decodeRecM l = (5, zeroR) by
      rcases hor with ⟨-, -, h⟩ | ⟨h, -⟩
      · exact absurd h hs
      · exact h)
    have Hs := Lib.hid (decide_eq_false hs)
    clear hor hs hf hu
    go_enter Tryz.func10, Tryz.ntmps10
    go_wp2_with fail
    refine U.mono ?_
    rintro e w1 ⟨rfl, hb1⟩
    have hB1 := hB0.trans (hb1.mono hB0.size)
    have zb1 := (zb0.below hb1 zb0.lt).alloc (.cells #[.int .i64 a0, .int .i64 a1, .int .i64 a2, .int .i64 a3, .int .i64 a4, .int .i64 a5, .int .i64 a6] 27)
    have hne : ¬ w.heap.size = w1.heap.size := by have := hb1.size; simp at this; omega
    have xb1 := At.new w1 27 #[.int .i64 a0, .int .i64 a1, .int .i64 a2, .int .i64 a3, .int .i64 a4, .int .i64 a5, .int .i64 a6]
    have hB2 := hB1.alloc hB1.size (.cells #[.int .i64 a0, .int .i64 a1, .int .i64 a2, .int .i64 a3, .int .i64 a4, .int .i64 a5, .int .i64 a6] 27)
    obtain ⟨xc0, xc1, xc2, xc3, xc4, xc5, xc6⟩ := xb1.seven
    go_wp2_with fail
    refine (EN _ (hF.below hB2)).mono ?_
    rintro e w2 ⟨A2, n2, c2, rfl, o2, hb2⟩
    have hB3 := hB2.trans (hb2.mono hB2.size)
    have hne3 : ¬ w.heap.size = w2.heap.size := by have := hb1.size; have := hb2.size; simp at *; omega
    have hne4 : ¬ w1.heap.size = w2.heap.size := by have := hb2.size; simp at this; omega
    have zb3 := (zb1.below hb2 zb1.lt).alloc (.cells #[.int .i64 0, .slice A2 n2 c2] 30)
    have xb3 := (xb1.below hb2 xb1.lt).alloc (.cells #[.int .i64 0, .slice A2 n2 c2] 30)
    have eb3 := At.new w2 30 #[.int .i64 0, .slice A2 n2 c2]
    have hB4 := hB3.alloc hB3.size (.cells #[.int .i64 0, .slice A2 n2 c2] 30)
    have o3 := o2.alloc (.cells #[.int .i64 0, .slice A2 n2 c2] 30)
    clear xc0 xc1 xc2 xc3 xc4 xc5 xc6
    obtain ⟨xc0, xc1, xc2, xc3, xc4, xc5, xc6⟩ := xb3.seven
    obtain ⟨zc0, zc1, zc2, zc3, zc4, zc5, zc6, zc7⟩ := zb3.eightR
    have zf0 := zb3.frozen 0
    have zf1 := zb3.frozen 1
    have zf2 := zb3.frozen 2
    have zf3 := zb3.frozen 3
    have zf4 := zb3.frozen 4
    have zf5 := zb3.frozen 5
    have zf6 := zb3.frozen 6
    have zf7 := zb3.frozen 7
    obtain ⟨ec0, ec1, _, _⟩ := eb3.two
    go_wp2_with fail
    refine (implSameBytes A2 A n2 n c2 c _ l _ (o3.rd okB) (ha.lift hB4) (o3.len okB) hn).mono ?_
    rintro e w9 ⟨he9, rfl⟩
    obtain rfl : e = .returned (.bool false) := by rw [he9, Hs.out]
    clear he9
    go_wp2_with fail
    refine bodyPost_ret (v := .agg #[.int .i64 5, .int .i64 0, .int .i64 0, .int .i64 0, .int .i64 0, .int .i64 0, .int .i64 0, .int .i64 0]) (by simp [results, Tryz.results10, go_sem, zc0, zc1, zc2, zc3, zc4, zc5, zc6, zc7]) rfl ?_
    rw [Hd.out]
    exact ⟨rfl, ((((((((hB4.setCell (by simp) _).setCell (by simp) _).setCell (by simp) _).setCell (by simp) _).setCell (by simp) _).setCell (by simp) _).setCell (by simp) _).setCell (by simp) _)⟩
end Go.Proofs.YtmaillakhhdkfaaGreatDoor
