/-
  A record out of its bytes: the model's.
-/
import Derived.Test.YteiclanlhnccnaaDoorRcdRes
import Derived.Test.YteiclanlhnccnaaDoorRecS
import Derived.Test.YteiclanlhnccnaaDoorRDec
import Derived.Test.YteiclanlhnccnaaDoorAny
import Derived.Test.YteiclanlhnccnaaDoorMix
namespace Go.Proofs.YteiclanlhnccnaaDoor
set_option maxRecDepth 20000
open Go.RowKit
set_option linter.unusedSimpArgs false
set_option linter.unusedVariables false
attribute [local irreducible] mixW

/-- A code and a record. -/
def RetRR (r : Int × Rcd) (w : World) (e : Ending) (w' : World) : Prop := e = .returned (.agg #[.int .i64 r.1, .int .i64 r.2.1, .int .i64 r.2.2.1, .int .i64 r.2.2.2.1.1, .int .i64 r.2.2.2.1.2.1, .int .i64 r.2.2.2.1.2.2.1, .int .i64 r.2.2.2.1.2.2.2, .int .i64 r.2.2.2.2]) ∧ Below w.heap.size w w'
/-- A record. -/
def RetRc (r : Rcd) (w : World) (e : Ending) (w' : World) : Prop := e = .returned (.agg #[.int .i64 r.1, .int .i64 r.2.1, .int .i64 r.2.2.1.1, .int .i64 r.2.2.1.2.1, .int .i64 r.2.2.1.2.2.1, .int .i64 r.2.2.1.2.2.2, .int .i64 r.2.2.2]) ∧ Below w.heap.size w w'
/-- A record, and whether it is right. -/
def RetDR (r : Rcd × Bool) (w : World) (e : Ending) (w' : World) : Prop := e = .returned (.tuple #[.agg #[.int .i64 r.1.1, .int .i64 r.1.2.1, .int .i64 r.1.2.2.1.1, .int .i64 r.1.2.2.1.2.1, .int .i64 r.1.2.2.1.2.2.1, .int .i64 r.1.2.2.1.2.2.2, .int .i64 r.1.2.2.2], .bool r.2]) ∧ Below w.heap.size w w'
theorem eqRecordResult_same (z a0 a1 a2 a3 a4 a5 a6 : Int) (w : World) :
    Calls Tryd.prog 18 #[.agg #[.int .i64 z, .int .i64 a0, .int .i64 a1, .int .i64 a2, .int .i64 a3, .int .i64 a4, .int .i64 a5, .int .i64 a6], .agg #[.int .i64 z, .int .i64 a0, .int .i64 a1, .int .i64 a2, .int .i64 a3, .int .i64 a4, .int .i64 a5, .int .i64 a6]] w fun e w' => e = .returned (.bool true) ∧ Below w.heap.size w w' := by
  refine (eqRecordResult z z a0 a1 a2 a3 a4 a5 a6 a0 a1 a2 a3 a4 a5 a6 w).mono ?_
  rintro e w' ⟨rfl, hb⟩
  exact ⟨by simp, hb⟩
/-- The last step: a record that was read, and whether it is right. -/
def decEnd (r : Rcd) : Rcd × Bool := (r, decide (recFaultM r = 0))
theorem undrewD {w w' : World} {k : Nat} (h : Below (w.drewN k).heap.size (w.drewN k) w') : Below w.heap.size w w' := ⟨h.os, h.tape, h.output, h.size, h.block⟩

set_option maxHeartbeats 8000000 in
theorem l5Decode (A : Option Addr) (n c : Nat) (l : List UInt8) (w : World) (ha : Rd eB w w.heap.size A l) (hn : l.length = n) (hc : n ≤ c) (hcm : c ≤ maxLen) :
    Calls Tryd.prog 37 #[.slice A n c] w (RetDR (decR l) w) := by
  unfold maxLen at hcm
  by_cases h0 : n = 0
  · subst h0
    obtain rfl : l = [] := List.eq_nil_of_length_eq_zero hn
    have Hd := Lib.hid (show decR [] = (zeroR, false) from decR_o (by rw [read0_nil]; decide) (by rw [read0_nil]; decide) (by rw [read0_nil]; decide) (by rw [read0_nil]; decide))
    have hB2 : Below w.heap.size w (w.alloc (.cells #[.int .i64 0, .int .i64 0, .int .i64 0, .int .i64 0, .int .i64 0, .int .i64 0, .int .i64 0] 29)) := (Below.refl _ _).alloc (Nat.le_refl _) _
    clear ha hn
    go_enter Tryd.func37, Tryd.ntmps37
    go_wp2
    refine bodyPost_ret (v := .tuple #[.agg #[.int .i64 0, .int .i64 0, .int .i64 0, .int .i64 0, .int .i64 0, .int .i64 0, .int .i64 0], .bool false]) (by simp [results, Tryd.results37, go_sem]) rfl ?_
    rw [Hd.out]
    exact ⟨rfl, by repeat (first | exact hB2 | refine Below.setCell ?_ (by simp) _)⟩
  obtain ⟨g, o, x, rfl, hg, hx, cx⟩ := ha.byte (k := 0) (by omega)
  have cx0 : w.cell? ⟨g, o, none⟩ = some (.int .u8 (x.toNat : Int)) := by simpa using cx
  have hk0 : (readM l 0 1).2 = (x.toNat : Int) := read1 (p := 0) hx
  have hxb : x.toNat < 256 := x.toNat_lt
  have hw0 : IntKind.i64.wrap (x.toNat : Int) = (x.toNat : Int) := IntWalk.i64_in _ (by omega)
  have hnn : ¬ (n : Int) = 0 := by omega
  have hnb : ((n : Int) == 0) = false := by simpa using hnn
  have hn0 : 0 < n := by omega
  clear cx
  generalize hkk : (x.toNat : Int) = kk at *
  have hB2 : Below w.heap.size w ((w.alloc (.cells #[.int .i64 0, .int .i64 0, .int .i64 0, .int .i64 0, .int .i64 0, .int .i64 0, .int .i64 0] 29)).alloc (.cells #[.int .i64 kk, .int .i64 0, .int .i64 0, .int .i64 0, .int .i64 0, .int .i64 0, .int .i64 0] 29)) := ((Below.refl _ _).alloc (Nat.le_refl _) _).alloc (by simp) _
  have zb2 := (At.new w 29 #[.int .i64 0, .int .i64 0, .int .i64 0, .int .i64 0, .int .i64 0, .int .i64 0, .int .i64 0]).alloc (.cells #[.int .i64 kk, .int .i64 0, .int .i64 0, .int .i64 0, .int .i64 0, .int .i64 0, .int .i64 0] 29)
  have rb2 : At ((w.alloc (.cells #[.int .i64 0, .int .i64 0, .int .i64 0, .int .i64 0, .int .i64 0, .int .i64 0, .int .i64 0] 29)).alloc (.cells #[.int .i64 kk, .int .i64 0, .int .i64 0, .int .i64 0, .int .i64 0, .int .i64 0, .int .i64 0] 29)) (w.heap.size + 1) 29 #[.int .i64 kk, .int .i64 0, .int .i64 0, .int .i64 0, .int .i64 0, .int .i64 0, .int .i64 0] := by
    have := At.new (w.alloc (.cells #[.int .i64 0, .int .i64 0, .int .i64 0, .int .i64 0, .int .i64 0, .int .i64 0, .int .i64 0] 29)) 29 #[.int .i64 kk, .int .i64 0, .int .i64 0, .int .i64 0, .int .i64 0, .int .i64 0, .int .i64 0]
    simpa using this
  have hsz : ((w.alloc (.cells #[.int .i64 0, .int .i64 0, .int .i64 0, .int .i64 0, .int .i64 0, .int .i64 0, .int .i64 0] 29)).alloc (.cells #[.int .i64 kk, .int .i64 0, .int .i64 0, .int .i64 0, .int .i64 0, .int .i64 0, .int .i64 0] 29)).heap.size = w.heap.size + 2 := by simp
  have hR := fun (k : Nat) (hk : k < l.length) W (hW : Below w.heap.size w W) => (show Rd eB W W.heap.size (some ⟨g, o + k, none⟩) (l.drop k) from by
    obtain ⟨g', o', e, hr⟩ := (ha.lift hW).add hk
    obtain ⟨rfl, rfl⟩ : g = g' ∧ o = o' := by simpa using Option.some.inj e
    simpa [eB] using hr)
  by_cases k1 : kk = 1
  · subst k1
    by_cases hl : n = 8
    · subst hl
      have Hd0 := decR_1 hk0 hn
      obtain ⟨u0, u1, u2, u3, hu⟩ : ∃ u0 u1 u2 u3, unpM (l.drop 1) = (u0, u1, u2, u3) := ⟨_, _, _, _, rfl⟩
      rw [hu] at Hd0
      have LD := fun W hW => l2Decode _ (c - 1) (l.drop 1) W (hR 1 (by omega) W hW) (by rw [List.length_drop]; omega)
      rw [hu] at LD
      have hc1 : ¬ c = 1 := by omega
      generalize hfq : recFaultM (1, 0, (u0, u1, u2, u3), 0) = fq at Hd0
      have Hd := Lib.hid Hd0
      clear Hd0 ha hx hR hn hk0 hu
      obtain ⟨zc0, zc1, zc2, zc3, zc4, zc5, zc6⟩ := zb2.seven
      obtain ⟨zf0, zf1, zf2, zf3, zf4, zf5, zf6⟩ := zb2.sevenF
      obtain ⟨rc0, rc1, rc2, rc3, rc4, rc5, rc6⟩ := rb2.seven
      obtain ⟨rf0, rf1, rf2, rf3, rf4, rf5, rf6⟩ := rb2.sevenF
      go_enter Tryd.func37, Tryd.ntmps37
      go_wp2_with fail
      refine (LD _ hB2).mono ?_
      rintro e w3 ⟨rfl, hb3⟩
      have hB3 := hB2.trans (hb3.mono hB2.size)
      have zb3 := zb2.below hb3 zb2.lt
      have rb3 := rb2.below hb3 rb2.lt
      clear zc0 zc1 zc2 zc3 zc4 zc5 zc6 zf0 zf1 zf2 zf3 zf4 zf5 zf6 rc0 rc1 rc2 rc3 rc4 rc5 rc6 rf0 rf1 rf2 rf3 rf4 rf5 rf6
      obtain ⟨zc0, zc1, zc2, zc3, zc4, zc5, zc6⟩ := zb3.seven
      obtain ⟨zf0, zf1, zf2, zf3, zf4, zf5, zf6⟩ := zb3.sevenF
      obtain ⟨rc0, rc1, rc2, rc3, rc4, rc5, rc6⟩ := rb3.seven
      obtain ⟨rf0, rf1, rf2, rf3, rf4, rf5, rf6⟩ := rb3.sevenF
      go_wp2_with fail
      clear zc0 zc1 zc2 zc3 zc4 zc5 zc6 zf0 zf1 zf2 zf3 zf4 zf5 zf6 rc0 rc1 rc2 rc3 rc4 rc5 rc6 rf0 rf1 rf2 rf3 rf4 rf5 rf6
      have rb4 : At ((((w3.setCell ⟨w.heap.size + 1, 2, none⟩ (.int .i64 u0)).setCell ⟨w.heap.size + 1, 3, none⟩ (.int .i64 u1)).setCell ⟨w.heap.size + 1, 4, none⟩ (.int .i64 u2)).setCell ⟨w.heap.size + 1, 5, none⟩ (.int .i64 u3)) (w.heap.size + 1) 29 #[.int .i64 1, .int .i64 0, .int .i64 u0, .int .i64 u1, .int .i64 u2, .int .i64 u3, .int .i64 0] := ((((rb3.set 2 (.int .i64 u0)).set 3 (.int .i64 u1)).set 4 (.int .i64 u2)).set 5 (.int .i64 u3))
      have zb4 : At ((((w3.setCell ⟨w.heap.size + 1, 2, none⟩ (.int .i64 u0)).setCell ⟨w.heap.size + 1, 3, none⟩ (.int .i64 u1)).setCell ⟨w.heap.size + 1, 4, none⟩ (.int .i64 u2)).setCell ⟨w.heap.size + 1, 5, none⟩ (.int .i64 u3)) w.heap.size 29 #[.int .i64 0, .int .i64 0, .int .i64 0, .int .i64 0, .int .i64 0, .int .i64 0, .int .i64 0] := ((((zb3.far (p := ⟨w.heap.size + 1, 2, none⟩) (by simp) (.int .i64 u0)).far (p := ⟨w.heap.size + 1, 3, none⟩) (by simp) (.int .i64 u1)).far (p := ⟨w.heap.size + 1, 4, none⟩) (by simp) (.int .i64 u2)).far (p := ⟨w.heap.size + 1, 5, none⟩) (by simp) (.int .i64 u3))
      have hB4 : Below w.heap.size w ((((w3.setCell ⟨w.heap.size + 1, 2, none⟩ (.int .i64 u0)).setCell ⟨w.heap.size + 1, 3, none⟩ (.int .i64 u1)).setCell ⟨w.heap.size + 1, 4, none⟩ (.int .i64 u2)).setCell ⟨w.heap.size + 1, 5, none⟩ (.int .i64 u3)) := ((((hB3.setCell (p := ⟨w.heap.size + 1, 2, none⟩) (by simp) (.int .i64 u0)).setCell (p := ⟨w.heap.size + 1, 3, none⟩) (by simp) (.int .i64 u1)).setCell (p := ⟨w.heap.size + 1, 4, none⟩) (by simp) (.int .i64 u2)).setCell (p := ⟨w.heap.size + 1, 5, none⟩) (by simp) (.int .i64 u3))
      refine wp_region_mix [(0, false), (1, false), (2, true), (3, false), (4, true), (5, false)] (fun u => At u (w.heap.size + 1) 29 #[.int .i64 1, .int .i64 0, .int .i64 u0, .int .i64 u1, .int .i64 u2, .int .i64 u3, .int .i64 0]) (by kernel_rfl) (by kernel_rfl) (fun _ _ _ _ _ h => h) rb4.drew ?_
      simp only [mixOps, List.map_cons, List.map_nil, List.getElem?_cons_succ, List.getElem?_cons_zero, Option.getD_some]
      repeat (first
        | (refine mix_skip (by rfl) ?_
           (try simp only [Act.put, List.setIfInBounds_toArray, List.set_cons_zero, List.set_cons_succ]))
        | (refine mix_pure (v := ?_) (by rfl) (fun u hu => ?_) ?_
           rotate_left
           · obtain ⟨_, _, _, _, _, _, _⟩ := hu.seven
             go_simp
             (with_reducible rfl)
           (try simp only [Act.put, List.setIfInBounds_toArray, List.set_cons_zero, List.set_cons_succ])))
      refine mix_call (by rfl) (fun K hK => ?_)
      go_simp
      refine (specRecordFault 1 0 u0 u1 u2 u3 0 _).mono ?_
      rintro e w5 ⟨rfl, hb5⟩
      have hb5 := undrewD hb5
      rw [hfq]
      have r5 := rb4.below hb5 rb4.lt
      have z5 := zb4.below hb5 zb4.lt
      have hB5 := hB4.trans (hb5.mono hB4.size)
      refine hK _ _ (fun u => At u (w.heap.size + 1) 29 #[.int .i64 1, .int .i64 0, .int .i64 u0, .int .i64 u1, .int .i64 u2, .int .i64 u3, .int .i64 0]) (fun _ h => h) r5 ?_
      clear hK K
      (try simp only [Act.put, List.setIfInBounds_toArray, List.set_cons_zero, List.set_cons_succ])
      refine mix_pure (v := ?_) (by rfl) (fun u hu => ?_) ?_
      rotate_left
      · go_simp
        (with_reducible rfl)
      (try simp only [Act.put, List.setIfInBounds_toArray, List.set_cons_zero, List.set_cons_succ])
      obtain ⟨p0, p1, p2, p3, p4, p5, p6⟩ := z5.seven
      obtain ⟨s0, s1, s2, s3, s4, s5, s6⟩ := z5.sevenF
      refine mix_call (by rfl) (fun K hK => ?_)
      go_simp
      refine hK _ _ (fun u => At u (w.heap.size + 1) 29 #[.int .i64 1, .int .i64 0, .int .i64 u0, .int .i64 u1, .int .i64 u2, .int .i64 u3, .int .i64 0]) (fun _ h => h) (((((((r5.far (p := ⟨w.heap.size, 0, none⟩) (by simp) _).far (p := ⟨w.heap.size, 1, none⟩) (by simp) _).far (p := ⟨w.heap.size, 2, none⟩) (by simp) _).far (p := ⟨w.heap.size, 3, none⟩) (by simp) _).far (p := ⟨w.heap.size, 4, none⟩) (by simp) _).far (p := ⟨w.heap.size, 5, none⟩) (by simp) _).far (p := ⟨w.heap.size, 6, none⟩) (by simp) _) ?_
      clear hK K
      (try simp only [Act.put, List.setIfInBounds_toArray, List.set_cons_zero, List.set_cons_succ])
      refine mix_pure (v := ?_) (by rfl) (fun u hu => ?_) ?_
      rotate_left
      · go_simp
        (with_reducible rfl)
      (try simp only [Act.put, List.setIfInBounds_toArray, List.set_cons_zero, List.set_cons_succ])
      refine mix_nil ?_
      go_wp2
      refine bodyPost_ret (v := .tuple #[.agg #[.int .i64 1, .int .i64 0, .int .i64 u0, .int .i64 u1, .int .i64 u2, .int .i64 u3, .int .i64 0], .bool (fq == 0)]) (by simp [results, Tryd.results37, go_sem, p0, p1, p2, p3, p4, p5, p6]) rfl ?_
      rw [Hd.out]
      exact ⟨rfl, (((((((hB5.setCell (by simp) _).setCell (by simp) _).setCell (by simp) _).setCell (by simp) _).setCell (by simp) _).setCell (by simp) _).setCell (by simp) _)⟩
    · have Hd := Lib.hid (decR_1n hk0 (by rw [hn]; exact hl))
      have hbl : ((n : Int) == 8) = false := by simp; omega
      clear hk0 hn ha hx hR hl
      obtain ⟨zc0, zc1, zc2, zc3, zc4, zc5, zc6⟩ := zb2.seven
      obtain ⟨zf0, zf1, zf2, zf3, zf4, zf5, zf6⟩ := zb2.sevenF
      obtain ⟨rc0, rc1, rc2, rc3, rc4, rc5, rc6⟩ := rb2.seven
      obtain ⟨rf0, rf1, rf2, rf3, rf4, rf5, rf6⟩ := rb2.sevenF
      go_enter Tryd.func37, Tryd.ntmps37
      go_wp2
      refine bodyPost_ret (v := .tuple #[.agg #[.int .i64 0, .int .i64 0, .int .i64 0, .int .i64 0, .int .i64 0, .int .i64 0, .int .i64 0], .bool false]) (by simp [results, Tryd.results37, go_sem]) rfl ?_
      rw [Hd.out]
      exact ⟨rfl, by repeat (first | exact hB2 | refine Below.setCell ?_ (by simp) _)⟩
  by_cases k2 : kk = 2
  · subst k2
    by_cases hl : n = 9
    · subst hl
      have Hd0 := decR_2 hk0 hn
      obtain ⟨g', o', y, e', _, hy, cy⟩ := ha.byte (k := 1) (by omega)
      obtain ⟨rfl, rfl⟩ : g = g' ∧ o = o' := by simpa using Option.some.inj e'
      clear e'
      have hk1 : (readM l 1 1).2 = (y.toNat : Int) := read1 (p := 1) hy
      rw [hk1] at Hd0
      have hyb : y.toNat < 256 := y.toNat_lt
      have hwy : IntKind.i64.wrap (y.toNat : Int) = (y.toNat : Int) := IntWalk.i64_in _ (by omega)
      obtain ⟨u0, u1, u2, u3, hu⟩ : ∃ u0 u1 u2 u3, unpM (l.drop 2) = (u0, u1, u2, u3) := ⟨_, _, _, _, rfl⟩
      rw [hu] at Hd0
      have LD := fun W hW => l2Decode _ (c - 2) (l.drop 2) W (hR 2 (by omega) W hW) (by rw [List.length_drop]; omega)
      rw [hu] at LD
      have hc1 : ¬ c = 2 := by omega
      generalize (y.toNat : Int) = yy at *
      generalize hfq : recFaultM (2, yy, (u0, u1, u2, u3), 0) = fq at Hd0
      have Hd := Lib.hid Hd0
      clear Hd0 ha hx hR hn hk0 hy hk1 hu
      obtain ⟨zc0, zc1, zc2, zc3, zc4, zc5, zc6⟩ := zb2.seven
      obtain ⟨zf0, zf1, zf2, zf3, zf4, zf5, zf6⟩ := zb2.sevenF
      obtain ⟨rc0, rc1, rc2, rc3, rc4, rc5, rc6⟩ := rb2.seven
      obtain ⟨rf0, rf1, rf2, rf3, rf4, rf5, rf6⟩ := rb2.sevenF
      have hB1 : Below w.heap.size w ((w.alloc (.cells #[.int .i64 0, .int .i64 0, .int .i64 0, .int .i64 0, .int .i64 0, .int .i64 0, .int .i64 0] 29)).alloc (.cells #[.int .i64 2, .int .i64 yy, .int .i64 0, .int .i64 0, .int .i64 0, .int .i64 0, .int .i64 0] 29)) := ((Below.refl _ _).alloc (Nat.le_refl _) _).alloc (by simp) _
      have zb1 := (At.new w 29 #[.int .i64 0, .int .i64 0, .int .i64 0, .int .i64 0, .int .i64 0, .int .i64 0, .int .i64 0]).alloc (.cells #[.int .i64 2, .int .i64 yy, .int .i64 0, .int .i64 0, .int .i64 0, .int .i64 0, .int .i64 0] 29)
      have rb1 : At ((w.alloc (.cells #[.int .i64 0, .int .i64 0, .int .i64 0, .int .i64 0, .int .i64 0, .int .i64 0, .int .i64 0] 29)).alloc (.cells #[.int .i64 2, .int .i64 yy, .int .i64 0, .int .i64 0, .int .i64 0, .int .i64 0, .int .i64 0] 29)) (w.heap.size + 1) 29 #[.int .i64 2, .int .i64 yy, .int .i64 0, .int .i64 0, .int .i64 0, .int .i64 0, .int .i64 0] := by
        have := At.new (w.alloc (.cells #[.int .i64 0, .int .i64 0, .int .i64 0, .int .i64 0, .int .i64 0, .int .i64 0, .int .i64 0] 29)) 29 #[.int .i64 2, .int .i64 yy, .int .i64 0, .int .i64 0, .int .i64 0, .int .i64 0, .int .i64 0]
        simpa using this
      go_enter Tryd.func37, Tryd.ntmps37
      go_wp2_with fail
      refine (LD _ hB1).mono ?_
      rintro e w3 ⟨rfl, hb3⟩
      have hB3 := hB1.trans (hb3.mono hB1.size)
      have zb3 := zb1.below hb3 zb1.lt
      have rb3 := rb1.below hb3 rb1.lt
      clear zc0 zc1 zc2 zc3 zc4 zc5 zc6 zf0 zf1 zf2 zf3 zf4 zf5 zf6 rc0 rc1 rc2 rc3 rc4 rc5 rc6 rf0 rf1 rf2 rf3 rf4 rf5 rf6
      obtain ⟨zc0, zc1, zc2, zc3, zc4, zc5, zc6⟩ := zb3.seven
      obtain ⟨zf0, zf1, zf2, zf3, zf4, zf5, zf6⟩ := zb3.sevenF
      obtain ⟨rc0, rc1, rc2, rc3, rc4, rc5, rc6⟩ := rb3.seven
      obtain ⟨rf0, rf1, rf2, rf3, rf4, rf5, rf6⟩ := rb3.sevenF
      go_wp2_with fail
      clear zc0 zc1 zc2 zc3 zc4 zc5 zc6 zf0 zf1 zf2 zf3 zf4 zf5 zf6 rc0 rc1 rc2 rc3 rc4 rc5 rc6 rf0 rf1 rf2 rf3 rf4 rf5 rf6
      have rb4 : At ((((w3.setCell ⟨w.heap.size + 1, 2, none⟩ (.int .i64 u0)).setCell ⟨w.heap.size + 1, 3, none⟩ (.int .i64 u1)).setCell ⟨w.heap.size + 1, 4, none⟩ (.int .i64 u2)).setCell ⟨w.heap.size + 1, 5, none⟩ (.int .i64 u3)) (w.heap.size + 1) 29 #[.int .i64 2, .int .i64 yy, .int .i64 u0, .int .i64 u1, .int .i64 u2, .int .i64 u3, .int .i64 0] := ((((rb3.set 2 (.int .i64 u0)).set 3 (.int .i64 u1)).set 4 (.int .i64 u2)).set 5 (.int .i64 u3))
      have zb4 : At ((((w3.setCell ⟨w.heap.size + 1, 2, none⟩ (.int .i64 u0)).setCell ⟨w.heap.size + 1, 3, none⟩ (.int .i64 u1)).setCell ⟨w.heap.size + 1, 4, none⟩ (.int .i64 u2)).setCell ⟨w.heap.size + 1, 5, none⟩ (.int .i64 u3)) w.heap.size 29 #[.int .i64 0, .int .i64 0, .int .i64 0, .int .i64 0, .int .i64 0, .int .i64 0, .int .i64 0] := ((((zb3.far (p := ⟨w.heap.size + 1, 2, none⟩) (by simp) (.int .i64 u0)).far (p := ⟨w.heap.size + 1, 3, none⟩) (by simp) (.int .i64 u1)).far (p := ⟨w.heap.size + 1, 4, none⟩) (by simp) (.int .i64 u2)).far (p := ⟨w.heap.size + 1, 5, none⟩) (by simp) (.int .i64 u3))
      have hB4 : Below w.heap.size w ((((w3.setCell ⟨w.heap.size + 1, 2, none⟩ (.int .i64 u0)).setCell ⟨w.heap.size + 1, 3, none⟩ (.int .i64 u1)).setCell ⟨w.heap.size + 1, 4, none⟩ (.int .i64 u2)).setCell ⟨w.heap.size + 1, 5, none⟩ (.int .i64 u3)) := ((((hB3.setCell (p := ⟨w.heap.size + 1, 2, none⟩) (by simp) (.int .i64 u0)).setCell (p := ⟨w.heap.size + 1, 3, none⟩) (by simp) (.int .i64 u1)).setCell (p := ⟨w.heap.size + 1, 4, none⟩) (by simp) (.int .i64 u2)).setCell (p := ⟨w.heap.size + 1, 5, none⟩) (by simp) (.int .i64 u3))
      refine wp_region_mix [(0, false), (1, false), (2, true), (3, false), (4, true), (5, false)] (fun u => At u (w.heap.size + 1) 29 #[.int .i64 2, .int .i64 yy, .int .i64 u0, .int .i64 u1, .int .i64 u2, .int .i64 u3, .int .i64 0]) (by kernel_rfl) (by kernel_rfl) (fun _ _ _ _ _ h => h) rb4.drew ?_
      simp only [mixOps, List.map_cons, List.map_nil, List.getElem?_cons_succ, List.getElem?_cons_zero, Option.getD_some]
      repeat (first
        | (refine mix_skip (by rfl) ?_
           (try simp only [Act.put, List.setIfInBounds_toArray, List.set_cons_zero, List.set_cons_succ]))
        | (refine mix_pure (v := ?_) (by rfl) (fun u hu => ?_) ?_
           rotate_left
           · obtain ⟨_, _, _, _, _, _, _⟩ := hu.seven
             go_simp
             (with_reducible rfl)
           (try simp only [Act.put, List.setIfInBounds_toArray, List.set_cons_zero, List.set_cons_succ])))
      refine mix_call (by rfl) (fun K hK => ?_)
      go_simp
      refine (specRecordFault 2 yy u0 u1 u2 u3 0 _).mono ?_
      rintro e w5 ⟨rfl, hb5⟩
      have hb5 := undrewD hb5
      rw [hfq]
      have r5 := rb4.below hb5 rb4.lt
      have z5 := zb4.below hb5 zb4.lt
      have hB5 := hB4.trans (hb5.mono hB4.size)
      refine hK _ _ (fun u => At u (w.heap.size + 1) 29 #[.int .i64 2, .int .i64 yy, .int .i64 u0, .int .i64 u1, .int .i64 u2, .int .i64 u3, .int .i64 0]) (fun _ h => h) r5 ?_
      clear hK K
      (try simp only [Act.put, List.setIfInBounds_toArray, List.set_cons_zero, List.set_cons_succ])
      refine mix_pure (v := ?_) (by rfl) (fun u hu => ?_) ?_
      rotate_left
      · go_simp
        (with_reducible rfl)
      (try simp only [Act.put, List.setIfInBounds_toArray, List.set_cons_zero, List.set_cons_succ])
      obtain ⟨p0, p1, p2, p3, p4, p5, p6⟩ := z5.seven
      obtain ⟨s0, s1, s2, s3, s4, s5, s6⟩ := z5.sevenF
      refine mix_call (by rfl) (fun K hK => ?_)
      go_simp
      refine hK _ _ (fun u => At u (w.heap.size + 1) 29 #[.int .i64 2, .int .i64 yy, .int .i64 u0, .int .i64 u1, .int .i64 u2, .int .i64 u3, .int .i64 0]) (fun _ h => h) (((((((r5.far (p := ⟨w.heap.size, 0, none⟩) (by simp) _).far (p := ⟨w.heap.size, 1, none⟩) (by simp) _).far (p := ⟨w.heap.size, 2, none⟩) (by simp) _).far (p := ⟨w.heap.size, 3, none⟩) (by simp) _).far (p := ⟨w.heap.size, 4, none⟩) (by simp) _).far (p := ⟨w.heap.size, 5, none⟩) (by simp) _).far (p := ⟨w.heap.size, 6, none⟩) (by simp) _) ?_
      clear hK K
      (try simp only [Act.put, List.setIfInBounds_toArray, List.set_cons_zero, List.set_cons_succ])
      refine mix_pure (v := ?_) (by rfl) (fun u hu => ?_) ?_
      rotate_left
      · go_simp
        (with_reducible rfl)
      (try simp only [Act.put, List.setIfInBounds_toArray, List.set_cons_zero, List.set_cons_succ])
      refine mix_nil ?_
      go_wp2
      refine bodyPost_ret (v := .tuple #[.agg #[.int .i64 2, .int .i64 yy, .int .i64 u0, .int .i64 u1, .int .i64 u2, .int .i64 u3, .int .i64 0], .bool (fq == 0)]) (by simp [results, Tryd.results37, go_sem, p0, p1, p2, p3, p4, p5, p6]) rfl ?_
      rw [Hd.out]
      exact ⟨rfl, (((((((hB5.setCell (by simp) _).setCell (by simp) _).setCell (by simp) _).setCell (by simp) _).setCell (by simp) _).setCell (by simp) _).setCell (by simp) _)⟩
    · have Hd := Lib.hid (decR_2n hk0 (by rw [hn]; exact hl))
      have hbl : ((n : Int) == 9) = false := by simp; omega
      clear hk0 hn ha hx hR hl
      obtain ⟨zc0, zc1, zc2, zc3, zc4, zc5, zc6⟩ := zb2.seven
      obtain ⟨zf0, zf1, zf2, zf3, zf4, zf5, zf6⟩ := zb2.sevenF
      obtain ⟨rc0, rc1, rc2, rc3, rc4, rc5, rc6⟩ := rb2.seven
      obtain ⟨rf0, rf1, rf2, rf3, rf4, rf5, rf6⟩ := rb2.sevenF
      go_enter Tryd.func37, Tryd.ntmps37
      go_wp2
      refine bodyPost_ret (v := .tuple #[.agg #[.int .i64 0, .int .i64 0, .int .i64 0, .int .i64 0, .int .i64 0, .int .i64 0, .int .i64 0], .bool false]) (by simp [results, Tryd.results37, go_sem]) rfl ?_
      rw [Hd.out]
      exact ⟨rfl, by repeat (first | exact hB2 | refine Below.setCell ?_ (by simp) _)⟩
  by_cases k3 : kk = 3
  · subst k3
    by_cases hl : n = 4
    · subst hl
      have Hd0 := decR_3 hk0 hn
      obtain ⟨g', o', y, e', _, hy, cy⟩ := ha.byte (k := 1) (by omega)
      obtain ⟨rfl, rfl⟩ : g = g' ∧ o = o' := by simpa using Option.some.inj e'
      clear e'
      have hk1 : (readM l 1 1).2 = (y.toNat : Int) := read1 (p := 1) hy
      rw [hk1] at Hd0
      have hyb : y.toNat < 256 := y.toNat_lt
      have hwy : IntKind.i64.wrap (y.toNat : Int) = (y.toNat : Int) := IntWalk.i64_in _ (by omega)
      have hq : (readM l 2 2).2 = ((readAt l 2 2 0 : Nat) : Int) := congrArg Prod.snd (readM_nat (l := l) (p := 2) (s := 2) ⟨by omega, by omega, by omega⟩)
      rw [hq] at Hd0
      have LR := fun W hW => l1Read (some ⟨g, o, none⟩) 4 c 2 2 l W (ha.lift hW) hn (by omega) (by omega) (by unfold maxLen; omega)
      have hqb : readAt l 2 2 0 < 4294967296 := readAt_lt l 2 2 0 (by omega)
      generalize readAt l 2 2 0 = qq at *
      clear hq
      generalize (y.toNat : Int) = yy at *
      generalize hfq : recFaultM (3, yy, (0, 0, 0, 0), (qq : Int)) = fq at Hd0
      have Hd := Lib.hid Hd0
      clear Hd0 ha hx hR hn hk0 hy hk1
      obtain ⟨zc0, zc1, zc2, zc3, zc4, zc5, zc6⟩ := zb2.seven
      obtain ⟨zf0, zf1, zf2, zf3, zf4, zf5, zf6⟩ := zb2.sevenF
      obtain ⟨rc0, rc1, rc2, rc3, rc4, rc5, rc6⟩ := rb2.seven
      obtain ⟨rf0, rf1, rf2, rf3, rf4, rf5, rf6⟩ := rb2.sevenF
      have hB1 : Below w.heap.size w ((w.alloc (.cells #[.int .i64 0, .int .i64 0, .int .i64 0, .int .i64 0, .int .i64 0, .int .i64 0, .int .i64 0] 29)).alloc (.cells #[.int .i64 3, .int .i64 yy, .int .i64 0, .int .i64 0, .int .i64 0, .int .i64 0, .int .i64 0] 29)) := ((Below.refl _ _).alloc (Nat.le_refl _) _).alloc (by simp) _
      have zb1 := (At.new w 29 #[.int .i64 0, .int .i64 0, .int .i64 0, .int .i64 0, .int .i64 0, .int .i64 0, .int .i64 0]).alloc (.cells #[.int .i64 3, .int .i64 yy, .int .i64 0, .int .i64 0, .int .i64 0, .int .i64 0, .int .i64 0] 29)
      have rb1 : At ((w.alloc (.cells #[.int .i64 0, .int .i64 0, .int .i64 0, .int .i64 0, .int .i64 0, .int .i64 0, .int .i64 0] 29)).alloc (.cells #[.int .i64 3, .int .i64 yy, .int .i64 0, .int .i64 0, .int .i64 0, .int .i64 0, .int .i64 0] 29)) (w.heap.size + 1) 29 #[.int .i64 3, .int .i64 yy, .int .i64 0, .int .i64 0, .int .i64 0, .int .i64 0, .int .i64 0] := by
        have := At.new (w.alloc (.cells #[.int .i64 0, .int .i64 0, .int .i64 0, .int .i64 0, .int .i64 0, .int .i64 0, .int .i64 0] 29)) 29 #[.int .i64 3, .int .i64 yy, .int .i64 0, .int .i64 0, .int .i64 0, .int .i64 0, .int .i64 0]
        simpa using this
      go_enter Tryd.func37, Tryd.ntmps37
      go_wp2_with fail
      refine (LR _ hB1).mono ?_
      rintro e w3 ⟨rfl, rfl⟩
      clear zc0 zc1 zc2 zc3 zc4 zc5 zc6 zf0 zf1 zf2 zf3 zf4 zf5 zf6 rc0 rc1 rc2 rc3 rc4 rc5 rc6 rf0 rf1 rf2 rf3 rf4 rf5 rf6
      obtain ⟨zc0, zc1, zc2, zc3, zc4, zc5, zc6⟩ := zb1.seven
      obtain ⟨zf0, zf1, zf2, zf3, zf4, zf5, zf6⟩ := zb1.sevenF
      obtain ⟨rc0, rc1, rc2, rc3, rc4, rc5, rc6⟩ := rb1.seven
      obtain ⟨rf0, rf1, rf2, rf3, rf4, rf5, rf6⟩ := rb1.sevenF
      go_wp2_with fail
      clear zc0 zc1 zc2 zc3 zc4 zc5 zc6 zf0 zf1 zf2 zf3 zf4 zf5 zf6 rc0 rc1 rc2 rc3 rc4 rc5 rc6 rf0 rf1 rf2 rf3 rf4 rf5 rf6
      have hB4 : Below w.heap.size w ((w.alloc (.cells #[.int .i64 0, .int .i64 0, .int .i64 0, .int .i64 0, .int .i64 0, .int .i64 0, .int .i64 0] 29)).alloc (.cells #[.int .i64 3, .int .i64 yy, .int .i64 0, .int .i64 0, .int .i64 0, .int .i64 0, .int .i64 (qq : Int)] 29)) := ((Below.refl _ _).alloc (Nat.le_refl _) _).alloc (by simp) _
      have zb4 := (At.new w 29 #[.int .i64 0, .int .i64 0, .int .i64 0, .int .i64 0, .int .i64 0, .int .i64 0, .int .i64 0]).alloc (.cells #[.int .i64 3, .int .i64 yy, .int .i64 0, .int .i64 0, .int .i64 0, .int .i64 0, .int .i64 (qq : Int)] 29)
      have rb4 : At ((w.alloc (.cells #[.int .i64 0, .int .i64 0, .int .i64 0, .int .i64 0, .int .i64 0, .int .i64 0, .int .i64 0] 29)).alloc (.cells #[.int .i64 3, .int .i64 yy, .int .i64 0, .int .i64 0, .int .i64 0, .int .i64 0, .int .i64 (qq : Int)] 29)) (w.heap.size + 1) 29 #[.int .i64 3, .int .i64 yy, .int .i64 0, .int .i64 0, .int .i64 0, .int .i64 0, .int .i64 (qq : Int)] := by
        have := At.new (w.alloc (.cells #[.int .i64 0, .int .i64 0, .int .i64 0, .int .i64 0, .int .i64 0, .int .i64 0, .int .i64 0] 29)) 29 #[.int .i64 3, .int .i64 yy, .int .i64 0, .int .i64 0, .int .i64 0, .int .i64 0, .int .i64 (qq : Int)]
        simpa using this
      refine wp_region_mix [(0, false), (1, false), (2, true), (3, false), (4, true), (5, false)] (fun u => At u (w.heap.size + 1) 29 #[.int .i64 3, .int .i64 yy, .int .i64 0, .int .i64 0, .int .i64 0, .int .i64 0, .int .i64 (qq : Int)]) (by kernel_rfl) (by kernel_rfl) (fun _ _ _ _ _ h => h) rb4.drew ?_
      simp only [mixOps, List.map_cons, List.map_nil, List.getElem?_cons_succ, List.getElem?_cons_zero, Option.getD_some]
      repeat (first
        | (refine mix_skip (by rfl) ?_
           (try simp only [Act.put, List.setIfInBounds_toArray, List.set_cons_zero, List.set_cons_succ]))
        | (refine mix_pure (v := ?_) (by rfl) (fun u hu => ?_) ?_
           rotate_left
           · obtain ⟨_, _, _, _, _, _, _⟩ := hu.seven
             go_simp
             (with_reducible rfl)
           (try simp only [Act.put, List.setIfInBounds_toArray, List.set_cons_zero, List.set_cons_succ])))
      refine mix_call (by rfl) (fun K hK => ?_)
      go_simp
      refine (specRecordFault 3 yy 0 0 0 0 (qq : Int) _).mono ?_
      rintro e w5 ⟨rfl, hb5⟩
      have hb5 := undrewD hb5
      rw [hfq]
      have r5 := rb4.below hb5 rb4.lt
      have z5 := zb4.below hb5 zb4.lt
      have hB5 := hB4.trans (hb5.mono hB4.size)
      refine hK _ _ (fun u => At u (w.heap.size + 1) 29 #[.int .i64 3, .int .i64 yy, .int .i64 0, .int .i64 0, .int .i64 0, .int .i64 0, .int .i64 (qq : Int)]) (fun _ h => h) r5 ?_
      clear hK K
      (try simp only [Act.put, List.setIfInBounds_toArray, List.set_cons_zero, List.set_cons_succ])
      refine mix_pure (v := ?_) (by rfl) (fun u hu => ?_) ?_
      rotate_left
      · go_simp
        (with_reducible rfl)
      (try simp only [Act.put, List.setIfInBounds_toArray, List.set_cons_zero, List.set_cons_succ])
      obtain ⟨p0, p1, p2, p3, p4, p5, p6⟩ := z5.seven
      obtain ⟨s0, s1, s2, s3, s4, s5, s6⟩ := z5.sevenF
      refine mix_call (by rfl) (fun K hK => ?_)
      go_simp
      refine hK _ _ (fun u => At u (w.heap.size + 1) 29 #[.int .i64 3, .int .i64 yy, .int .i64 0, .int .i64 0, .int .i64 0, .int .i64 0, .int .i64 (qq : Int)]) (fun _ h => h) (((((((r5.far (p := ⟨w.heap.size, 0, none⟩) (by simp) _).far (p := ⟨w.heap.size, 1, none⟩) (by simp) _).far (p := ⟨w.heap.size, 2, none⟩) (by simp) _).far (p := ⟨w.heap.size, 3, none⟩) (by simp) _).far (p := ⟨w.heap.size, 4, none⟩) (by simp) _).far (p := ⟨w.heap.size, 5, none⟩) (by simp) _).far (p := ⟨w.heap.size, 6, none⟩) (by simp) _) ?_
      clear hK K
      (try simp only [Act.put, List.setIfInBounds_toArray, List.set_cons_zero, List.set_cons_succ])
      refine mix_pure (v := ?_) (by rfl) (fun u hu => ?_) ?_
      rotate_left
      · go_simp
        (with_reducible rfl)
      (try simp only [Act.put, List.setIfInBounds_toArray, List.set_cons_zero, List.set_cons_succ])
      refine mix_nil ?_
      go_wp2
      refine bodyPost_ret (v := .tuple #[.agg #[.int .i64 3, .int .i64 yy, .int .i64 0, .int .i64 0, .int .i64 0, .int .i64 0, .int .i64 (qq : Int)], .bool (fq == 0)]) (by simp [results, Tryd.results37, go_sem, p0, p1, p2, p3, p4, p5, p6]) rfl ?_
      rw [Hd.out]
      exact ⟨rfl, (((((((hB5.setCell (by simp) _).setCell (by simp) _).setCell (by simp) _).setCell (by simp) _).setCell (by simp) _).setCell (by simp) _).setCell (by simp) _)⟩
    · have Hd := Lib.hid (decR_3n hk0 (by rw [hn]; exact hl))
      have hbl : ((n : Int) == 4) = false := by simp; omega
      clear hk0 hn ha hx hR hl
      obtain ⟨zc0, zc1, zc2, zc3, zc4, zc5, zc6⟩ := zb2.seven
      obtain ⟨zf0, zf1, zf2, zf3, zf4, zf5, zf6⟩ := zb2.sevenF
      obtain ⟨rc0, rc1, rc2, rc3, rc4, rc5, rc6⟩ := rb2.seven
      obtain ⟨rf0, rf1, rf2, rf3, rf4, rf5, rf6⟩ := rb2.sevenF
      go_enter Tryd.func37, Tryd.ntmps37
      go_wp2
      refine bodyPost_ret (v := .tuple #[.agg #[.int .i64 0, .int .i64 0, .int .i64 0, .int .i64 0, .int .i64 0, .int .i64 0, .int .i64 0], .bool false]) (by simp [results, Tryd.results37, go_sem]) rfl ?_
      rw [Hd.out]
      exact ⟨rfl, by repeat (first | exact hB2 | refine Below.setCell ?_ (by simp) _)⟩
  by_cases k4 : kk = 4
  · subst k4
    by_cases hl : n = 3
    · subst hl
      have Hd0 := decR_4 hk0 hn
      have hq : (readM l 1 2).2 = ((readAt l 1 2 0 : Nat) : Int) := congrArg Prod.snd (readM_nat (l := l) (p := 1) (s := 2) ⟨by omega, by omega, by omega⟩)
      rw [hq] at Hd0
      have LR := fun W hW => l1Read (some ⟨g, o, none⟩) 3 c 1 2 l W (ha.lift hW) hn (by omega) (by omega) (by unfold maxLen; omega)
      have hqb : readAt l 1 2 0 < 4294967296 := readAt_lt l 1 2 0 (by omega)
      generalize readAt l 1 2 0 = qq at *
      clear hq
      generalize hfq : recFaultM (4, 0, (0, 0, 0, 0), (qq : Int)) = fq at Hd0
      have Hd := Lib.hid Hd0
      clear Hd0 ha hx hR hn hk0
      obtain ⟨zc0, zc1, zc2, zc3, zc4, zc5, zc6⟩ := zb2.seven
      obtain ⟨zf0, zf1, zf2, zf3, zf4, zf5, zf6⟩ := zb2.sevenF
      obtain ⟨rc0, rc1, rc2, rc3, rc4, rc5, rc6⟩ := rb2.seven
      obtain ⟨rf0, rf1, rf2, rf3, rf4, rf5, rf6⟩ := rb2.sevenF
      go_enter Tryd.func37, Tryd.ntmps37
      go_wp2_with fail
      refine (LR _ hB2).mono ?_
      rintro e w3 ⟨rfl, rfl⟩
      go_wp2_with fail
      clear zc0 zc1 zc2 zc3 zc4 zc5 zc6 zf0 zf1 zf2 zf3 zf4 zf5 zf6 rc0 rc1 rc2 rc3 rc4 rc5 rc6 rf0 rf1 rf2 rf3 rf4 rf5 rf6
      have hB4 : Below w.heap.size w ((w.alloc (.cells #[.int .i64 0, .int .i64 0, .int .i64 0, .int .i64 0, .int .i64 0, .int .i64 0, .int .i64 0] 29)).alloc (.cells #[.int .i64 4, .int .i64 0, .int .i64 0, .int .i64 0, .int .i64 0, .int .i64 0, .int .i64 (qq : Int)] 29)) := ((Below.refl _ _).alloc (Nat.le_refl _) _).alloc (by simp) _
      have zb4 := (At.new w 29 #[.int .i64 0, .int .i64 0, .int .i64 0, .int .i64 0, .int .i64 0, .int .i64 0, .int .i64 0]).alloc (.cells #[.int .i64 4, .int .i64 0, .int .i64 0, .int .i64 0, .int .i64 0, .int .i64 0, .int .i64 (qq : Int)] 29)
      have rb4 : At ((w.alloc (.cells #[.int .i64 0, .int .i64 0, .int .i64 0, .int .i64 0, .int .i64 0, .int .i64 0, .int .i64 0] 29)).alloc (.cells #[.int .i64 4, .int .i64 0, .int .i64 0, .int .i64 0, .int .i64 0, .int .i64 0, .int .i64 (qq : Int)] 29)) (w.heap.size + 1) 29 #[.int .i64 4, .int .i64 0, .int .i64 0, .int .i64 0, .int .i64 0, .int .i64 0, .int .i64 (qq : Int)] := by
        have := At.new (w.alloc (.cells #[.int .i64 0, .int .i64 0, .int .i64 0, .int .i64 0, .int .i64 0, .int .i64 0, .int .i64 0] 29)) 29 #[.int .i64 4, .int .i64 0, .int .i64 0, .int .i64 0, .int .i64 0, .int .i64 0, .int .i64 (qq : Int)]
        simpa using this
      refine wp_region_mix [(0, false), (1, false), (2, true), (3, false), (4, true), (5, false)] (fun u => At u (w.heap.size + 1) 29 #[.int .i64 4, .int .i64 0, .int .i64 0, .int .i64 0, .int .i64 0, .int .i64 0, .int .i64 (qq : Int)]) (by kernel_rfl) (by kernel_rfl) (fun _ _ _ _ _ h => h) rb4.drew ?_
      simp only [mixOps, List.map_cons, List.map_nil, List.getElem?_cons_succ, List.getElem?_cons_zero, Option.getD_some]
      repeat (first
        | (refine mix_skip (by rfl) ?_
           (try simp only [Act.put, List.setIfInBounds_toArray, List.set_cons_zero, List.set_cons_succ]))
        | (refine mix_pure (v := ?_) (by rfl) (fun u hu => ?_) ?_
           rotate_left
           · obtain ⟨_, _, _, _, _, _, _⟩ := hu.seven
             go_simp
             (with_reducible rfl)
           (try simp only [Act.put, List.setIfInBounds_toArray, List.set_cons_zero, List.set_cons_succ])))
      refine mix_call (by rfl) (fun K hK => ?_)
      go_simp
      refine (specRecordFault 4 0 0 0 0 0 (qq : Int) _).mono ?_
      rintro e w5 ⟨rfl, hb5⟩
      have hb5 := undrewD hb5
      rw [hfq]
      have r5 := rb4.below hb5 rb4.lt
      have z5 := zb4.below hb5 zb4.lt
      have hB5 := hB4.trans (hb5.mono hB4.size)
      refine hK _ _ (fun u => At u (w.heap.size + 1) 29 #[.int .i64 4, .int .i64 0, .int .i64 0, .int .i64 0, .int .i64 0, .int .i64 0, .int .i64 (qq : Int)]) (fun _ h => h) r5 ?_
      clear hK K
      (try simp only [Act.put, List.setIfInBounds_toArray, List.set_cons_zero, List.set_cons_succ])
      refine mix_pure (v := ?_) (by rfl) (fun u hu => ?_) ?_
      rotate_left
      · go_simp
        (with_reducible rfl)
      (try simp only [Act.put, List.setIfInBounds_toArray, List.set_cons_zero, List.set_cons_succ])
      obtain ⟨p0, p1, p2, p3, p4, p5, p6⟩ := z5.seven
      obtain ⟨s0, s1, s2, s3, s4, s5, s6⟩ := z5.sevenF
      refine mix_call (by rfl) (fun K hK => ?_)
      go_simp
      refine hK _ _ (fun u => At u (w.heap.size + 1) 29 #[.int .i64 4, .int .i64 0, .int .i64 0, .int .i64 0, .int .i64 0, .int .i64 0, .int .i64 (qq : Int)]) (fun _ h => h) (((((((r5.far (p := ⟨w.heap.size, 0, none⟩) (by simp) _).far (p := ⟨w.heap.size, 1, none⟩) (by simp) _).far (p := ⟨w.heap.size, 2, none⟩) (by simp) _).far (p := ⟨w.heap.size, 3, none⟩) (by simp) _).far (p := ⟨w.heap.size, 4, none⟩) (by simp) _).far (p := ⟨w.heap.size, 5, none⟩) (by simp) _).far (p := ⟨w.heap.size, 6, none⟩) (by simp) _) ?_
      clear hK K
      (try simp only [Act.put, List.setIfInBounds_toArray, List.set_cons_zero, List.set_cons_succ])
      refine mix_pure (v := ?_) (by rfl) (fun u hu => ?_) ?_
      rotate_left
      · go_simp
        (with_reducible rfl)
      (try simp only [Act.put, List.setIfInBounds_toArray, List.set_cons_zero, List.set_cons_succ])
      refine mix_nil ?_
      go_wp2
      refine bodyPost_ret (v := .tuple #[.agg #[.int .i64 4, .int .i64 0, .int .i64 0, .int .i64 0, .int .i64 0, .int .i64 0, .int .i64 (qq : Int)], .bool (fq == 0)]) (by simp [results, Tryd.results37, go_sem, p0, p1, p2, p3, p4, p5, p6]) rfl ?_
      rw [Hd.out]
      exact ⟨rfl, (((((((hB5.setCell (by simp) _).setCell (by simp) _).setCell (by simp) _).setCell (by simp) _).setCell (by simp) _).setCell (by simp) _).setCell (by simp) _)⟩
    · have Hd := Lib.hid (decR_4n hk0 (by rw [hn]; exact hl))
      have hbl : ((n : Int) == 3) = false := by simp; omega
      clear hk0 hn ha hx hR hl
      obtain ⟨zc0, zc1, zc2, zc3, zc4, zc5, zc6⟩ := zb2.seven
      obtain ⟨zf0, zf1, zf2, zf3, zf4, zf5, zf6⟩ := zb2.sevenF
      obtain ⟨rc0, rc1, rc2, rc3, rc4, rc5, rc6⟩ := rb2.seven
      obtain ⟨rf0, rf1, rf2, rf3, rf4, rf5, rf6⟩ := rb2.sevenF
      go_enter Tryd.func37, Tryd.ntmps37
      go_wp2
      refine bodyPost_ret (v := .tuple #[.agg #[.int .i64 0, .int .i64 0, .int .i64 0, .int .i64 0, .int .i64 0, .int .i64 0, .int .i64 0], .bool false]) (by simp [results, Tryd.results37, go_sem]) rfl ?_
      rw [Hd.out]
      exact ⟨rfl, by repeat (first | exact hB2 | refine Below.setCell ?_ (by simp) _)⟩
  · have Hd := Lib.hid (decR_o (l := l) (by rw [hk0]; exact k1) (by rw [hk0]; exact k2) (by rw [hk0]; exact k3) (by rw [hk0]; exact k4))
    have b1 : (kk == 1) = false := by simpa using k1
    have b2 : (kk == 2) = false := by simpa using k2
    have b3 : (kk == 3) = false := by simpa using k3
    have b4 : (kk == 4) = false := by simpa using k4
    clear hk0 hn ha hx hR k1 k2 k3 k4
    obtain ⟨zc0, zc1, zc2, zc3, zc4, zc5, zc6⟩ := zb2.seven
    obtain ⟨zf0, zf1, zf2, zf3, zf4, zf5, zf6⟩ := zb2.sevenF
    obtain ⟨rc0, rc1, rc2, rc3, rc4, rc5, rc6⟩ := rb2.seven
    obtain ⟨rf0, rf1, rf2, rf3, rf4, rf5, rf6⟩ := rb2.sevenF
    go_enter Tryd.func37, Tryd.ntmps37
    go_wp2
    refine bodyPost_ret (v := .tuple #[.agg #[.int .i64 0, .int .i64 0, .int .i64 0, .int .i64 0, .int .i64 0, .int .i64 0, .int .i64 0], .bool false]) (by simp [results, Tryd.results37, go_sem]) rfl ?_
    rw [Hd.out]
    exact ⟨rfl, by repeat (first | exact hB2 | refine Below.setCell ?_ (by simp) _)⟩
end Go.Proofs.YteiclanlhnccnaaDoor
