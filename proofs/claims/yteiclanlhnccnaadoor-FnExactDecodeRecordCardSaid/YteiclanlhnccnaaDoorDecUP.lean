/-
  A record out of its bytes: the program's.
-/
import Derived.Test.YteiclanlhnccnaaDoorDecR
import Derived.Test.YteiclanlhnccnaaDoorEncRP
import Derived.Test.YteiclanlhnccnaaDoorDecI
import Derived.Test.YteiclanlhnccnaaDoorSame
namespace Go.Proofs.YteiclanlhnccnaaDoor
set_option maxRecDepth 20000
open Go.RowKit
set_option linter.unusedSimpArgs false
set_option linter.unusedVariables false
attribute [local irreducible] mixW

theorem fldSR1 (z a b c d : Int) (u : World) : (Instr.field 133 (.agg #[.int .i64 z, .int .i64 a, .int .i64 b, .int .i64 c, .int .i64 d]) 1).run Tryd.prog u = .ok (.agg #[.int .i64 a, .int .i64 b, .int .i64 c, .int .i64 d]) u := by kernel_rfl
theorem Rd.cutAt {w : World} {hi : Nat} {A : Option Addr} {l : List UInt8} (h : Rd eB w hi A l) (p : Nat) (c : Nat) (hc : l.length ≤ c) : Rd eB w hi (if c = p then A else A.map (·.add p)) (l.drop p) := by
  rcases Nat.lt_or_ge p l.length with h1 | h1
  · obtain ⟨g, o, rfl, hr⟩ := h.add h1
    rw [if_neg (by omega)]
    simpa [eB, addr_add] using hr
  · rw [List.drop_of_length_le h1]
    exact Rd.nil
theorem specDecodeRecord (A : Option Addr) (n c : Nat) (l : List UInt8) (w : World) (ha : Rd eB w w.heap.size A l) (hn : l.length = n) (hc : n ≤ c) (hcm : c ≤ maxLen) :
    Calls Tryd.prog 15 #[.slice A n c] w fun e w' => RetRR (decodeRecM l) w e w' := by
  have hB0 : Below w.heap.size w (w.alloc (.cells #[.int .i64 0, .int .i64 0, .int .i64 0, .int .i64 0, .int .i64 0, .int .i64 0, .int .i64 0, .int .i64 0] 39)) := (Below.refl _ _).alloc (Nat.le_refl _) _
  have zb0 := At.new w 39 #[.int .i64 0, .int .i64 0, .int .i64 0, .int .i64 0, .int .i64 0, .int .i64 0, .int .i64 0, .int .i64 0]
  have LD := l5Decode A n c l _ (ha.lift hB0) hn hc hcm
  have Hd := Lib.hid (show decodeRecM l = if (decR l).2 = true then (0, (decR l).1) else (5, zeroR) from rfl)
  unfold RetDR at LD
  rcases hq : decR l with ⟨⟨a0, a1, ⟨a2, a3, a4, a5⟩, a6⟩, b⟩
  rw [hq] at Hd LD
  clear hq ha hn
  cases b
  all_goals
    go_enter Tryd.func15, Tryd.ntmps15
    go_wp2_with fail
    refine LD.mono ?_
    rintro e w1 ⟨rfl, hb1⟩
    have hB1 := hB0.trans (hb1.mono hB0.size)
    have zb1 := zb0.below hb1 zb0.lt
    have hne : ¬ w.heap.size = w1.heap.size := by have := hb1.size; simp at this; omega
    have zb2 := zb1.alloc (.cells #[.int .i64 a0, .int .i64 a1, .int .i64 a2, .int .i64 a3, .int .i64 a4, .int .i64 a5, .int .i64 a6] 29)
    have xb2 := At.new w1 29 #[.int .i64 a0, .int .i64 a1, .int .i64 a2, .int .i64 a3, .int .i64 a4, .int .i64 a5, .int .i64 a6]
    have hB2 := hB1.alloc hB1.size (.cells #[.int .i64 a0, .int .i64 a1, .int .i64 a2, .int .i64 a3, .int .i64 a4, .int .i64 a5, .int .i64 a6] 29)
    have p := zb2.eightR
    obtain ⟨p0, p1, p2, p3, p4, p5, p6, p7⟩ := p
    have s0 := zb2.frozen 0
    have s1 := zb2.frozen 1
    have s2 := zb2.frozen 2
    have s3 := zb2.frozen 3
    have s4 := zb2.frozen 4
    have s5 := zb2.frozen 5
    have s6 := zb2.frozen 6
    have s7 := zb2.frozen 7
    obtain ⟨x0, x1, x2, x3, x4, x5, x6⟩ := xb2.seven
    go_wp2
  · refine bodyPost_ret (v := .agg #[.int .i64 5, .int .i64 0, .int .i64 0, .int .i64 0, .int .i64 0, .int .i64 0, .int .i64 0, .int .i64 0]) (by simp [results, Tryd.results15, go_sem, p0, p1, p2, p3, p4, p5, p6, p7]) rfl ?_
    rw [Hd.out]
    exact ⟨rfl, ((((((((hB2.setCell (by simp) _).setCell (by simp) _).setCell (by simp) _).setCell (by simp) _).setCell (by simp) _).setCell (by simp) _).setCell (by simp) _).setCell (by simp) _)⟩
  · refine bodyPost_ret (v := .agg #[.int .i64 0, .int .i64 a0, .int .i64 a1, .int .i64 a2, .int .i64 a3, .int .i64 a4, .int .i64 a5, .int .i64 a6]) (by simp [results, Tryd.results15, go_sem, p0, p1, p2, p3, p4, p5, p6, p7]) rfl ?_
    rw [Hd.out]
    exact ⟨rfl, ((((((((hB2.setCell (by simp) _).setCell (by simp) _).setCell (by simp) _).setCell (by simp) _).setCell (by simp) _).setCell (by simp) _).setCell (by simp) _).setCell (by simp) _)⟩
set_option maxHeartbeats 2000000 in
theorem sampleAt (p : Nat) (hp : p = 1 ∨ p = 2) (A : Option Addr) (n c : Nat) (l : List UInt8) (w : World) (ha : Rd eB w w.heap.size A l) (hn : l.length = n) (hc : n ≤ c) (hcm : c ≤ maxLen) (hF : Flds w) :
    Calls Tryd.prog 64 #[.slice A n c, .int .i64 (p : Int)] w (RetS (decodeM (l.drop p)).2 w) := by
  have hB0 : Below w.heap.size w (w.alloc (.cells #[.int .i64 0, .int .i64 0, .int .i64 0, .int .i64 0] 27)) := (Below.refl _ _).alloc (Nat.le_refl _) _
  have zb0 := At.new w 27 #[.int .i64 0, .int .i64 0, .int .i64 0, .int .i64 0]
  have fS := fldSR1
  have hcm' := hcm
  unfold maxLen at hcm'
  obtain ⟨q, hq, hqn, hql⟩ : ∃ q : Nat, q = min p n ∧ q ≤ n ∧ l.drop q = l.drop p := by
    refine ⟨min p n, rfl, by omega, ?_⟩
    rcases Nat.le_total p n with h | h
    · rw [Nat.min_eq_left h]
    · rw [Nat.min_eq_right h, List.drop_of_length_le (by omega), List.drop_of_length_le (by omega)]
  obtain ⟨z0, z1, z2, z3, f0, f1, f2, f3⟩ := zb0.four
  have HD := implDecodeSample (if c = q then A else A.map (·.add q)) (n - q) (c - q) (l.drop q) _ ((ha.lift hB0).cutAt q c (by omega)) (by rw [List.length_drop]; omega) (by omega) (hF.below hB0)
  rw [hql] at HD
  unfold RetSR at HD
  unfold RetS
  generalize decodeM (l.drop p) = D at *
  obtain ⟨dz, d0, d1, d2, d3⟩ := D
  clear hql ha hn
  by_cases hpn : p ≤ n
  · obtain rfl : q = p := by omega
    have hmin : ¬ (n : Int) < (q : Int) := by omega
    clear hq hqn
    by_cases hcq : c = q
    · have hnq : n = q := by omega
      subst hnq
      subst hcq
      rw [if_pos rfl, Nat.sub_self] at HD
      rcases hp with rfl | rfl
      all_goals
        go_enter Tryd.func64, Tryd.ntmps64
        go_wp2_with fail
        refine HD.mono ?_
        rintro e w1 ⟨rfl, hb1⟩
        have hB1 := hB0.trans (hb1.mono hB0.size)
        have zb1 := zb0.below hb1 zb0.lt
        clear z0 z1 z2 z3 f0 f1 f2 f3
        obtain ⟨z0, z1, z2, z3, f0, f1, f2, f3⟩ := zb1.four
        go_wp2_with fail
        refine bodyPost_ret (v := .agg #[.int .i64 d0, .int .i64 d1, .int .i64 d2, .int .i64 d3]) (by simp [results, Tryd.results64, go_sem, z0, z1, z2, z3]) rfl ?_
        exact ⟨rfl, (((hB1.setCell (by simp) _).setCell (by simp) _).setCell (by simp) _).setCell (by simp) _⟩
    · rw [if_neg hcq] at HD
      rcases hp with rfl | rfl
      all_goals
        go_enter Tryd.func64, Tryd.ntmps64
        go_wp2_with fail
        refine HD.mono ?_
        rintro e w1 ⟨rfl, hb1⟩
        have hB1 := hB0.trans (hb1.mono hB0.size)
        have zb1 := zb0.below hb1 zb0.lt
        clear z0 z1 z2 z3 f0 f1 f2 f3
        obtain ⟨z0, z1, z2, z3, f0, f1, f2, f3⟩ := zb1.four
        go_wp2_with fail
        refine bodyPost_ret (v := .agg #[.int .i64 d0, .int .i64 d1, .int .i64 d2, .int .i64 d3]) (by simp [results, Tryd.results64, go_sem, z0, z1, z2, z3]) rfl ?_
        exact ⟨rfl, (((hB1.setCell (by simp) _).setCell (by simp) _).setCell (by simp) _).setCell (by simp) _⟩
  · obtain rfl : q = n := by omega
    have hmin : (q : Int) < (p : Int) := by omega
    clear hq hqn hpn
    rw [Nat.sub_self] at HD
    by_cases hcq : c = q
    · subst hcq
      rw [if_pos rfl, Nat.sub_self] at HD
      rcases hp with rfl | rfl
      all_goals
        go_enter Tryd.func64, Tryd.ntmps64
        go_wp2_with fail
        refine HD.mono ?_
        rintro e w1 ⟨rfl, hb1⟩
        have hB1 := hB0.trans (hb1.mono hB0.size)
        have zb1 := zb0.below hb1 zb0.lt
        clear z0 z1 z2 z3 f0 f1 f2 f3
        obtain ⟨z0, z1, z2, z3, f0, f1, f2, f3⟩ := zb1.four
        go_wp2_with fail
        refine bodyPost_ret (v := .agg #[.int .i64 d0, .int .i64 d1, .int .i64 d2, .int .i64 d3]) (by simp [results, Tryd.results64, go_sem, z0, z1, z2, z3]) rfl ?_
        exact ⟨rfl, (((hB1.setCell (by simp) _).setCell (by simp) _).setCell (by simp) _).setCell (by simp) _⟩
    · rw [if_neg hcq] at HD
      rcases hp with rfl | rfl
      all_goals
        go_enter Tryd.func64, Tryd.ntmps64
        go_wp2_with fail
        refine HD.mono ?_
        rintro e w1 ⟨rfl, hb1⟩
        have hB1 := hB0.trans (hb1.mono hB0.size)
        have zb1 := zb0.below hb1 zb0.lt
        clear z0 z1 z2 z3 f0 f1 f2 f3
        obtain ⟨z0, z1, z2, z3, f0, f1, f2, f3⟩ := zb1.four
        go_wp2_with fail
        refine bodyPost_ret (v := .agg #[.int .i64 d0, .int .i64 d1, .int .i64 d2, .int .i64 d3]) (by simp [results, Tryd.results64, go_sem, z0, z1, z2, z3]) rfl ?_
        exact ⟨rfl, (((hB1.setCell (by simp) _).setCell (by simp) _).setCell (by simp) _).setCell (by simp) _⟩

set_option maxHeartbeats 8000000 in
theorem unpackRecord (A : Option Addr) (n c : Nat) (l : List UInt8) (w : World) (ha : Rd eB w w.heap.size A l) (hn : l.length = n) (hc : n ≤ c) (hcm : c ≤ maxLen) (hF : Flds w) :
    Calls Tryd.prog 38 #[.slice A n c] w (RetRc (unpR l) w) := by
  have hB0 : Below w.heap.size w (w.alloc (.cells #[.int .i64 0, .int .i64 0, .int .i64 0, .int .i64 0, .int .i64 0, .int .i64 0, .int .i64 0] 29)) := (Below.refl _ _).alloc (Nat.le_refl _) _
  have zb0 := At.new w 29 #[.int .i64 0, .int .i64 0, .int .i64 0, .int .i64 0, .int .i64 0, .int .i64 0, .int .i64 0]
  have hm : n ≤ maxLen := Nat.le_trans hc hcm
  have fI := fldI1
  have R0 := implReadWord A n c l 0 1 _ (ha.lift hB0) hn hm
  unfold RetIR at R0
  unfold RetRc
  obtain ⟨kz, kk, hk⟩ : ∃ e k, readM l 0 1 = (e, k) := ⟨_, _, rfl⟩
  have hk2 : (readM l 0 1).2 = kk := by rw [hk]
  rw [hk] at R0
  clear hk
  by_cases k1 : kk = 1
  · subst k1
    have Hq := unpR_1 hk2
    have SC := fun W hW => sampleAt 1 (.inl rfl) A n c l W (ha.lift hW) hn hc hcm (hF.below hW)
    obtain ⟨d0, d1, d2, d3, hd⟩ : ∃ d0 d1 d2 d3, (decodeM (l.drop 1)).2 = (d0, d1, d2, d3) := ⟨_, _, _, _, rfl⟩
    rw [hd] at SC Hq
    have Hd := Lib.hid Hq
    clear Hq hd hk2
    go_enter Tryd.func38, Tryd.ntmps38
    go_wp2_with fail
    refine R0.mono ?_
    rintro e w1 ⟨rfl, hb1⟩
    have hB1 := hB0.trans (hb1.mono hB0.size)
    have zb1 := zb0.below hb1 zb0.lt
    have hne : w.heap.size ≠ w1.heap.size := by have := hb1.size; simp at this; omega
    have hne2 : ¬ w.heap.size = w1.heap.size := hne
    have zb2 := zb1.alloc (.cells #[.int .i64 1, .int .i64 0, .int .i64 0, .int .i64 0, .int .i64 0, .int .i64 0, .int .i64 0] 29)
    have rb2 := At.new w1 29 #[.int .i64 1, .int .i64 0, .int .i64 0, .int .i64 0, .int .i64 0, .int .i64 0, .int .i64 0]
    have hB2 := hB1.alloc hB1.size (.cells #[.int .i64 1, .int .i64 0, .int .i64 0, .int .i64 0, .int .i64 0, .int .i64 0, .int .i64 0] 29)
    obtain ⟨zc0, zc1, zc2, zc3, zc4, zc5, zc6⟩ := zb2.seven
    obtain ⟨zf0, zf1, zf2, zf3, zf4, zf5, zf6⟩ := zb2.sevenF
    obtain ⟨rc0, rc1, rc2, rc3, rc4, rc5, rc6⟩ := rb2.seven
    obtain ⟨rf0, rf1, rf2, rf3, rf4, rf5, rf6⟩ := rb2.sevenF
    go_wp2_with fail
    refine (SC _ hB2).mono ?_
    rintro e w3 ⟨rfl, hb3⟩
    have hB3 := hB2.trans (hb3.mono hB2.size)
    have zb3 := zb2.below hb3 zb2.lt
    have rb3 := rb2.below hb3 rb2.lt
    clear zc0 zc1 zc2 zc3 zc4 zc5 zc6 zf0 zf1 zf2 zf3 zf4 zf5 zf6 rc0 rc1 rc2 rc3 rc4 rc5 rc6 rf0 rf1 rf2 rf3 rf4 rf5 rf6
    obtain ⟨zc0, zc1, zc2, zc3, zc4, zc5, zc6⟩ := zb3.seven
    obtain ⟨zf0, zf1, zf2, zf3, zf4, zf5, zf6⟩ := zb3.sevenF
    obtain ⟨rc0, rc1, rc2, rc3, rc4, rc5, rc6⟩ := rb3.seven
    obtain ⟨rf0, rf1, rf2, rf3, rf4, rf5, rf6⟩ := rb3.sevenF
    go_wp2_with fail
    refine bodyPost_ret (v := .agg #[.int .i64 1, .int .i64 0, .int .i64 d0, .int .i64 d1, .int .i64 d2, .int .i64 d3, .int .i64 0]) (by simp [results, Tryd.results38, go_sem, zc0, zc1, zc2, zc3, zc4, zc5, zc6]) rfl ?_
    rw [Hd.out]
    exact ⟨rfl, (((((((((((hB3.setCell hB1.size _).setCell hB1.size _).setCell hB1.size _).setCell hB1.size _).setCell (by simp) _).setCell (by simp) _).setCell (by simp) _).setCell (by simp) _).setCell (by simp) _).setCell (by simp) _).setCell (by simp) _)⟩
  by_cases k2 : kk = 2
  · subst k2
    have Hq := unpR_2 hk2
    have Wpv := fun W hW => implReadWord A n c l 1 1 W (ha.lift hW) hn hm
    unfold RetIR at Wpv
    generalize readM l 1 1 = qpv at *
    obtain ⟨pvz, pv⟩ := qpv
    have SC := fun W hW => sampleAt 2 (.inr rfl) A n c l W (ha.lift hW) hn hc hcm (hF.below hW)
    obtain ⟨d0, d1, d2, d3, hd⟩ : ∃ d0 d1 d2 d3, (decodeM (l.drop 2)).2 = (d0, d1, d2, d3) := ⟨_, _, _, _, rfl⟩
    rw [hd] at SC Hq
    have Hd := Lib.hid Hq
    clear Hq hd hk2
    go_enter Tryd.func38, Tryd.ntmps38
    go_wp2_with fail
    refine R0.mono ?_
    rintro e w1 ⟨rfl, hb1⟩
    have hB1 := hB0.trans (hb1.mono hB0.size)
    have zb1 := zb0.below hb1 zb0.lt
    have hne : w.heap.size ≠ w1.heap.size := by have := hb1.size; simp at this; omega
    have hne2 : ¬ w.heap.size = w1.heap.size := hne
    have zb2 := zb1.alloc (.cells #[.int .i64 2, .int .i64 0, .int .i64 0, .int .i64 0, .int .i64 0, .int .i64 0, .int .i64 0] 29)
    have rb2 := At.new w1 29 #[.int .i64 2, .int .i64 0, .int .i64 0, .int .i64 0, .int .i64 0, .int .i64 0, .int .i64 0]
    have hB2 := hB1.alloc hB1.size (.cells #[.int .i64 2, .int .i64 0, .int .i64 0, .int .i64 0, .int .i64 0, .int .i64 0, .int .i64 0] 29)
    obtain ⟨zc0, zc1, zc2, zc3, zc4, zc5, zc6⟩ := zb2.seven
    obtain ⟨zf0, zf1, zf2, zf3, zf4, zf5, zf6⟩ := zb2.sevenF
    obtain ⟨rc0, rc1, rc2, rc3, rc4, rc5, rc6⟩ := rb2.seven
    obtain ⟨rf0, rf1, rf2, rf3, rf4, rf5, rf6⟩ := rb2.sevenF
    go_wp2_with fail
    refine (Wpv _ hB2).mono ?_
    rintro e w3 ⟨rfl, hb3⟩
    have hB3 := hB2.trans (hb3.mono hB2.size)
    have zb3 := zb2.below hb3 zb2.lt
    have rb3 := rb2.below hb3 rb2.lt
    clear zc0 zc1 zc2 zc3 zc4 zc5 zc6 zf0 zf1 zf2 zf3 zf4 zf5 zf6 rc0 rc1 rc2 rc3 rc4 rc5 rc6 rf0 rf1 rf2 rf3 rf4 rf5 rf6
    obtain ⟨zc0, zc1, zc2, zc3, zc4, zc5, zc6⟩ := zb3.seven
    obtain ⟨zf0, zf1, zf2, zf3, zf4, zf5, zf6⟩ := zb3.sevenF
    obtain ⟨rc0, rc1, rc2, rc3, rc4, rc5, rc6⟩ := rb3.seven
    obtain ⟨rf0, rf1, rf2, rf3, rf4, rf5, rf6⟩ := rb3.sevenF
    have rb4 : At (w3.setCell ⟨w1.heap.size, 1, none⟩ (.int .i64 pv)) w1.heap.size 29 #[.int .i64 2, .int .i64 pv, .int .i64 0, .int .i64 0, .int .i64 0, .int .i64 0, .int .i64 0] := (rb3.set 1 (.int .i64 pv))
    have zb4 : At (w3.setCell ⟨w1.heap.size, 1, none⟩ (.int .i64 pv)) w.heap.size 29 #[.int .i64 0, .int .i64 0, .int .i64 0, .int .i64 0, .int .i64 0, .int .i64 0, .int .i64 0] := (zb3.far (p := ⟨w1.heap.size, 1, none⟩) hne (.int .i64 pv))
    have hB4 : Below w.heap.size w (w3.setCell ⟨w1.heap.size, 1, none⟩ (.int .i64 pv)) := (hB3.setCell (p := ⟨w1.heap.size, 1, none⟩) hB1.size (.int .i64 pv))
    go_wp2_with fail
    refine (SC _ hB4).mono ?_
    rintro e w5 ⟨rfl, hb5⟩
    have hB5 := hB4.trans (hb5.mono hB4.size)
    have zb5 := zb4.below hb5 zb4.lt
    have rb5 := rb4.below hb5 rb4.lt
    clear zc0 zc1 zc2 zc3 zc4 zc5 zc6 zf0 zf1 zf2 zf3 zf4 zf5 zf6 rc0 rc1 rc2 rc3 rc4 rc5 rc6 rf0 rf1 rf2 rf3 rf4 rf5 rf6
    obtain ⟨zc0, zc1, zc2, zc3, zc4, zc5, zc6⟩ := zb5.seven
    obtain ⟨zf0, zf1, zf2, zf3, zf4, zf5, zf6⟩ := zb5.sevenF
    obtain ⟨rc0, rc1, rc2, rc3, rc4, rc5, rc6⟩ := rb5.seven
    obtain ⟨rf0, rf1, rf2, rf3, rf4, rf5, rf6⟩ := rb5.sevenF
    go_wp2_with fail
    refine bodyPost_ret (v := .agg #[.int .i64 2, .int .i64 pv, .int .i64 d0, .int .i64 d1, .int .i64 d2, .int .i64 d3, .int .i64 0]) (by simp [results, Tryd.results38, go_sem, zc0, zc1, zc2, zc3, zc4, zc5, zc6]) rfl ?_
    rw [Hd.out]
    exact ⟨rfl, (((((((((((hB5.setCell hB1.size _).setCell hB1.size _).setCell hB1.size _).setCell hB1.size _).setCell (by simp) _).setCell (by simp) _).setCell (by simp) _).setCell (by simp) _).setCell (by simp) _).setCell (by simp) _).setCell (by simp) _)⟩
  by_cases k3 : kk = 3
  · subst k3
    have Hq := unpR_3 hk2
    have Wpv := fun W hW => implReadWord A n c l 1 1 W (ha.lift hW) hn hm
    unfold RetIR at Wpv
    generalize readM l 1 1 = qpv at *
    obtain ⟨pvz, pv⟩ := qpv
    have Wkv := fun W hW => implReadWord A n c l 2 2 W (ha.lift hW) hn hm
    unfold RetIR at Wkv
    generalize readM l 2 2 = qkv at *
    obtain ⟨kvz, kv⟩ := qkv
    have Hd := Lib.hid Hq
    clear Hq hk2
    go_enter Tryd.func38, Tryd.ntmps38
    go_wp2_with fail
    refine R0.mono ?_
    rintro e w1 ⟨rfl, hb1⟩
    have hB1 := hB0.trans (hb1.mono hB0.size)
    have zb1 := zb0.below hb1 zb0.lt
    have hne : w.heap.size ≠ w1.heap.size := by have := hb1.size; simp at this; omega
    have hne2 : ¬ w.heap.size = w1.heap.size := hne
    have zb2 := zb1.alloc (.cells #[.int .i64 3, .int .i64 0, .int .i64 0, .int .i64 0, .int .i64 0, .int .i64 0, .int .i64 0] 29)
    have rb2 := At.new w1 29 #[.int .i64 3, .int .i64 0, .int .i64 0, .int .i64 0, .int .i64 0, .int .i64 0, .int .i64 0]
    have hB2 := hB1.alloc hB1.size (.cells #[.int .i64 3, .int .i64 0, .int .i64 0, .int .i64 0, .int .i64 0, .int .i64 0, .int .i64 0] 29)
    obtain ⟨zc0, zc1, zc2, zc3, zc4, zc5, zc6⟩ := zb2.seven
    obtain ⟨zf0, zf1, zf2, zf3, zf4, zf5, zf6⟩ := zb2.sevenF
    obtain ⟨rc0, rc1, rc2, rc3, rc4, rc5, rc6⟩ := rb2.seven
    obtain ⟨rf0, rf1, rf2, rf3, rf4, rf5, rf6⟩ := rb2.sevenF
    go_wp2_with fail
    refine (Wpv _ hB2).mono ?_
    rintro e w3 ⟨rfl, hb3⟩
    have hB3 := hB2.trans (hb3.mono hB2.size)
    have zb3 := zb2.below hb3 zb2.lt
    have rb3 := rb2.below hb3 rb2.lt
    clear zc0 zc1 zc2 zc3 zc4 zc5 zc6 zf0 zf1 zf2 zf3 zf4 zf5 zf6 rc0 rc1 rc2 rc3 rc4 rc5 rc6 rf0 rf1 rf2 rf3 rf4 rf5 rf6
    obtain ⟨zc0, zc1, zc2, zc3, zc4, zc5, zc6⟩ := zb3.seven
    obtain ⟨zf0, zf1, zf2, zf3, zf4, zf5, zf6⟩ := zb3.sevenF
    obtain ⟨rc0, rc1, rc2, rc3, rc4, rc5, rc6⟩ := rb3.seven
    obtain ⟨rf0, rf1, rf2, rf3, rf4, rf5, rf6⟩ := rb3.sevenF
    have rb4 : At (w3.setCell ⟨w1.heap.size, 1, none⟩ (.int .i64 pv)) w1.heap.size 29 #[.int .i64 3, .int .i64 pv, .int .i64 0, .int .i64 0, .int .i64 0, .int .i64 0, .int .i64 0] := (rb3.set 1 (.int .i64 pv))
    have zb4 : At (w3.setCell ⟨w1.heap.size, 1, none⟩ (.int .i64 pv)) w.heap.size 29 #[.int .i64 0, .int .i64 0, .int .i64 0, .int .i64 0, .int .i64 0, .int .i64 0, .int .i64 0] := (zb3.far (p := ⟨w1.heap.size, 1, none⟩) hne (.int .i64 pv))
    have hB4 : Below w.heap.size w (w3.setCell ⟨w1.heap.size, 1, none⟩ (.int .i64 pv)) := (hB3.setCell (p := ⟨w1.heap.size, 1, none⟩) hB1.size (.int .i64 pv))
    go_wp2_with fail
    refine (Wkv _ hB4).mono ?_
    rintro e w5 ⟨rfl, hb5⟩
    have hB5 := hB4.trans (hb5.mono hB4.size)
    have zb5 := zb4.below hb5 zb4.lt
    have rb5 := rb4.below hb5 rb4.lt
    clear zc0 zc1 zc2 zc3 zc4 zc5 zc6 zf0 zf1 zf2 zf3 zf4 zf5 zf6 rc0 rc1 rc2 rc3 rc4 rc5 rc6 rf0 rf1 rf2 rf3 rf4 rf5 rf6
    obtain ⟨zc0, zc1, zc2, zc3, zc4, zc5, zc6⟩ := zb5.seven
    obtain ⟨zf0, zf1, zf2, zf3, zf4, zf5, zf6⟩ := zb5.sevenF
    obtain ⟨rc0, rc1, rc2, rc3, rc4, rc5, rc6⟩ := rb5.seven
    obtain ⟨rf0, rf1, rf2, rf3, rf4, rf5, rf6⟩ := rb5.sevenF
    go_wp2_with fail
    refine bodyPost_ret (v := .agg #[.int .i64 3, .int .i64 pv, .int .i64 0, .int .i64 0, .int .i64 0, .int .i64 0, .int .i64 kv]) (by simp [results, Tryd.results38, go_sem, zc0, zc1, zc2, zc3, zc4, zc5, zc6]) rfl ?_
    rw [Hd.out]
    exact ⟨rfl, ((((((((hB5.setCell hB1.size _).setCell (by simp) _).setCell (by simp) _).setCell (by simp) _).setCell (by simp) _).setCell (by simp) _).setCell (by simp) _).setCell (by simp) _)⟩
  by_cases k4 : kk = 4
  · subst k4
    have Hq := unpR_4 hk2
    have Wkv := fun W hW => implReadWord A n c l 1 2 W (ha.lift hW) hn hm
    unfold RetIR at Wkv
    generalize readM l 1 2 = qkv at *
    obtain ⟨kvz, kv⟩ := qkv
    have Hd := Lib.hid Hq
    clear Hq hk2
    go_enter Tryd.func38, Tryd.ntmps38
    go_wp2_with fail
    refine R0.mono ?_
    rintro e w1 ⟨rfl, hb1⟩
    have hB1 := hB0.trans (hb1.mono hB0.size)
    have zb1 := zb0.below hb1 zb0.lt
    have hne : w.heap.size ≠ w1.heap.size := by have := hb1.size; simp at this; omega
    have hne2 : ¬ w.heap.size = w1.heap.size := hne
    have zb2 := zb1.alloc (.cells #[.int .i64 4, .int .i64 0, .int .i64 0, .int .i64 0, .int .i64 0, .int .i64 0, .int .i64 0] 29)
    have rb2 := At.new w1 29 #[.int .i64 4, .int .i64 0, .int .i64 0, .int .i64 0, .int .i64 0, .int .i64 0, .int .i64 0]
    have hB2 := hB1.alloc hB1.size (.cells #[.int .i64 4, .int .i64 0, .int .i64 0, .int .i64 0, .int .i64 0, .int .i64 0, .int .i64 0] 29)
    obtain ⟨zc0, zc1, zc2, zc3, zc4, zc5, zc6⟩ := zb2.seven
    obtain ⟨zf0, zf1, zf2, zf3, zf4, zf5, zf6⟩ := zb2.sevenF
    obtain ⟨rc0, rc1, rc2, rc3, rc4, rc5, rc6⟩ := rb2.seven
    obtain ⟨rf0, rf1, rf2, rf3, rf4, rf5, rf6⟩ := rb2.sevenF
    go_wp2_with fail
    refine (Wkv _ hB2).mono ?_
    rintro e w3 ⟨rfl, hb3⟩
    have hB3 := hB2.trans (hb3.mono hB2.size)
    have zb3 := zb2.below hb3 zb2.lt
    have rb3 := rb2.below hb3 rb2.lt
    clear zc0 zc1 zc2 zc3 zc4 zc5 zc6 zf0 zf1 zf2 zf3 zf4 zf5 zf6 rc0 rc1 rc2 rc3 rc4 rc5 rc6 rf0 rf1 rf2 rf3 rf4 rf5 rf6
    obtain ⟨zc0, zc1, zc2, zc3, zc4, zc5, zc6⟩ := zb3.seven
    obtain ⟨zf0, zf1, zf2, zf3, zf4, zf5, zf6⟩ := zb3.sevenF
    obtain ⟨rc0, rc1, rc2, rc3, rc4, rc5, rc6⟩ := rb3.seven
    obtain ⟨rf0, rf1, rf2, rf3, rf4, rf5, rf6⟩ := rb3.sevenF
    go_wp2_with fail
    refine bodyPost_ret (v := .agg #[.int .i64 4, .int .i64 0, .int .i64 0, .int .i64 0, .int .i64 0, .int .i64 0, .int .i64 kv]) (by simp [results, Tryd.results38, go_sem, zc0, zc1, zc2, zc3, zc4, zc5, zc6]) rfl ?_
    rw [Hd.out]
    exact ⟨rfl, ((((((((hB3.setCell hB1.size _).setCell (by simp) _).setCell (by simp) _).setCell (by simp) _).setCell (by simp) _).setCell (by simp) _).setCell (by simp) _).setCell (by simp) _)⟩
  · have Hd := Lib.hid (unpR_o (l := l) (by rw [hk2]; exact k1) (by rw [hk2]; exact k2) (by rw [hk2]; exact k3) (by rw [hk2]; exact k4))
    rw [hk2] at Hd
    have b1 : (kk == 1) = false := by simpa using k1
    have b2 : (kk == 2) = false := by simpa using k2
    have b3 : (kk == 3) = false := by simpa using k3
    have b4 : (kk == 4) = false := by simpa using k4
    clear hk2 k1 k2 k3 k4
    go_enter Tryd.func38, Tryd.ntmps38
    go_wp2_with fail
    refine R0.mono ?_
    rintro e w1 ⟨rfl, hb1⟩
    have hB1 := hB0.trans (hb1.mono hB0.size)
    have zb1 := zb0.below hb1 zb0.lt
    have hne : w.heap.size ≠ w1.heap.size := by have := hb1.size; simp at this; omega
    have hne2 : ¬ w.heap.size = w1.heap.size := hne
    have zb2 := zb1.alloc (.cells #[.int .i64 kk, .int .i64 0, .int .i64 0, .int .i64 0, .int .i64 0, .int .i64 0, .int .i64 0] 29)
    have rb2 := At.new w1 29 #[.int .i64 kk, .int .i64 0, .int .i64 0, .int .i64 0, .int .i64 0, .int .i64 0, .int .i64 0]
    have hB2 := hB1.alloc hB1.size (.cells #[.int .i64 kk, .int .i64 0, .int .i64 0, .int .i64 0, .int .i64 0, .int .i64 0, .int .i64 0] 29)
    obtain ⟨zc0, zc1, zc2, zc3, zc4, zc5, zc6⟩ := zb2.seven
    obtain ⟨zf0, zf1, zf2, zf3, zf4, zf5, zf6⟩ := zb2.sevenF
    obtain ⟨rc0, rc1, rc2, rc3, rc4, rc5, rc6⟩ := rb2.seven
    obtain ⟨rf0, rf1, rf2, rf3, rf4, rf5, rf6⟩ := rb2.sevenF
    go_wp2_with fail
    refine bodyPost_ret (v := .agg #[.int .i64 kk, .int .i64 0, .int .i64 0, .int .i64 0, .int .i64 0, .int .i64 0, .int .i64 0]) (by simp [results, Tryd.results38, go_sem, zc0, zc1, zc2, zc3, zc4, zc5, zc6]) rfl ?_
    rw [Hd.out]
    exact ⟨rfl, (((((((hB2.setCell (by simp) _).setCell (by simp) _).setCell (by simp) _).setCell (by simp) _).setCell (by simp) _).setCell (by simp) _).setCell (by simp) _)⟩

end Go.Proofs.YteiclanlhnccnaaDoor
