/-
  The law of members: the walk.
-/
import Derived.Test.YtbfjfjocangjeaaDrawMk
import Derived.Test.YtbfjfjocangjeaaMbT
import Derived.Deep.DeepCutAuto
namespace Go.Proofs.Ytbfjfjocangjeaa
set_option maxRecDepth 20000
open Go.RowKit
set_option linter.unusedSimpArgs false
set_option linter.unusedVariables false
attribute [local irreducible] mixW

theorem lwBig_noMb (A : Option Addr) (n c : Nat) (w : World) (h : ¬ 1048576 < n) :
    Calls Try.prog 16 #[.slice A n c] w fun e w' => e = .returned (.bool false) ∧ w = w' := by
  have hd : decide ((1048576 : Int) < (n : Int)) = false := decide_eq_false (by omega)
  go_enter Try.func16, Try.ntmps16
  go_wp2
  go_ret
  exact ⟨rfl, rfl⟩
theorem neqMb (a b c d : Int) (u : World) : (binOp .neq 31 (.agg #[.int .i64 a, .int .i64 b, .int .i64 c, .int .i64 d]) (.agg #[.int .i64 a, .int .i64 b, .int .i64 c, .int .i64 d])).run Try.prog u = .ok (.bool false) u := by
  go_simp
theorem neqIr (a b : Int) (u : World) : (binOp .neq 39 (.agg #[.int .i64 a, .int .i64 b]) (.agg #[.int .i64 a, .int .i64 b])).run Try.prog u = .ok (.bool false) u := by
  go_simp
theorem neqMkS (a b : Int) (u : World) : (binOp .neq 25 (.agg #[.int .i64 a, .int .i64 b]) (.agg #[.int .i64 a, .int .i64 b])).run Try.prog u = .ok (.bool false) u := by
  go_simp

set_option maxRecDepth 100000 in
set_option maxHeartbeats 16000000 in
theorem fnMembers_walk (X : Option Addr) (n c : Nat) (l : List UInt8) (w : World) (ha : Rd eB w w.heap.size X l) (hn : l.length = n) :
    Calls Try.prog 3 #[.slice X n c] w fun e w' => e = .returned (.bool true) ∧ Below w.heap.size w w' := by
  have Hn := Lib.hid hn
  clear hn
  by_cases hbig : 1048576 < n
  · go_enter Try.func3, Try.ntmps3
    go_wp2
    go_ret
    exact ⟨rfl, Below.refl _ _⟩
  have hm : n ≤ 1048576 := by omega
  go_enter Try.func3, Try.ntmps3
  go_wp2_with fail
  refine (lwBig_noMb X n c w hbig).mono ?_
  rintro e w0 ⟨rfl, rfl⟩
  clear hbig
  go_wp2_with fail
  refine (drawHearMark X n c l _ ha Hn.out hm).mono ?_
  rintro e w1 ⟨a0, a1, a2, b0, b1, t0, rfl, hb1⟩
  have ha_1 := ha.lift hb1
  have hB1 := hb1
  clear hb1 ha
  have hb2 : Below w1.heap.size w1 (w1.alloc (.cells #[.int .i64 a0, .int .i64 a1, .int .i64 a2] 27)) := (Below.refl _ _).alloc (Nat.le_refl _) _
  have am := At.new w1 27 #[.int .i64 a0, .int .i64 a1, .int .i64 a2]
  have ha_2 := ha_1.lift hb2
  have hB2 := hB1.trans (hb2.mono hB1.size)
  clear hb2 hB1 ha_1
  have hb3 : Below (w1.alloc (.cells #[.int .i64 a0, .int .i64 a1, .int .i64 a2] 27)).heap.size (w1.alloc (.cells #[.int .i64 a0, .int .i64 a1, .int .i64 a2] 27)) ((w1.alloc (.cells #[.int .i64 a0, .int .i64 a1, .int .i64 a2] 27)).alloc (.cells #[.int .i64 b0, .int .i64 b1] 25)) := (Below.refl _ _).alloc (Nat.le_refl _) _
  have ah := At.newAt (cs := #[.int .i64 b0, .int .i64 b1]) (t := 25) (show (w1.alloc (.cells #[.int .i64 a0, .int .i64 a1, .int .i64 a2] 27)).heap.size = w1.heap.size + 1 by simp)
  have am_3 := am.below hb3 am.lt
  have ha_3 := ha_2.lift hb3
  have hB3 := hB2.trans (hb3.mono hB2.size)
  clear hb3 hB2 ha_2 am
  rcases hH : hearM ((a0, a1), a2) (b0, b1) t0 with ⟨hc, ⟨h0, h1⟩, h2⟩
  have HI := fun W => implHearMark a0 a1 a2 b0 b1 t0 W
  rw [hH] at HI
  (try simp only [RetMb] at HI)
  have HI := Lib.hid HI
  have SH := fun W => specHearMark a0 a1 a2 b0 b1 t0 W
  rw [hH] at SH
  (try simp only [RetMb] at SH)
  have SH := Lib.hid SH
  have HH := Lib.hid hH
  clear hH
  go_wp2_with fail
  refine (HI.out _).mono ?_
  rintro e w4 ⟨rfl, hb4⟩
  have am_4 := am_3.below hb4 am_3.lt
  have ah_4 := ah.below hb4 ah.lt
  have ha_4 := ha_3.lift hb4
  have hB4 := hB3.trans (hb4.mono hB3.size)
  clear hb4 hB3 ha_3 ah am_3
  have hb5 : Below w4.heap.size w4 (w4.alloc (.cells #[.int .i64 hc, .int .i64 h0, .int .i64 h1, .int .i64 h2] 31)) := (Below.refl _ _).alloc (Nat.le_refl _) _
  have hr := At.new w4 31 #[.int .i64 hc, .int .i64 h0, .int .i64 h1, .int .i64 h2]
  have am_5 := am_4.below hb5 am_4.lt
  have ah_5 := ah_4.below hb5 ah_4.lt
  have ha_5 := ha_4.lift hb5
  have hB5 := hB4.trans (hb5.mono hB4.size)
  clear hb5 hB4 ha_4 ah_4 am_4
  go_wp2_with fail
  refine (drawAgeMember X n c l _ ha_5 Hn.out hm).mono ?_
  rintro e w6 ⟨m0, m1, m2, u0, rfl, hb6⟩
  have am_6 := am_5.below hb6 am_5.lt
  have ah_6 := ah_5.below hb6 ah_5.lt
  have hr_6 := hr.below hb6 hr.lt
  have ha_6 := ha_5.lift hb6
  have hB6 := hB5.trans (hb6.mono hB5.size)
  clear hb6 hB5 ha_5 hr ah_5 am_5
  have hb7 : Below w6.heap.size w6 (w6.alloc (.cells #[.int .i64 m0, .int .i64 m1, .int .i64 m2] 27)) := (Below.refl _ _).alloc (Nat.le_refl _) _
  have ma := At.new w6 27 #[.int .i64 m0, .int .i64 m1, .int .i64 m2]
  have am_7 := am_6.below hb7 am_6.lt
  have ah_7 := ah_6.below hb7 ah_6.lt
  have hr_7 := hr_6.below hb7 hr_6.lt
  have ha_7 := ha_6.lift hb7
  have hB7 := hB6.trans (hb7.mono hB6.size)
  clear hb7 hB6 ha_6 hr_6 ah_6 am_6
  rcases hA : ageM ((m0, m1), m2) u0 with ⟨ac, ⟨g0, g1⟩, g2⟩
  have AI := fun W => implAgeMember m0 m1 m2 u0 W
  rw [hA] at AI
  (try simp only [RetMb] at AI)
  have AI := Lib.hid AI
  have SA := fun W => specAgeMember m0 m1 m2 u0 W
  rw [hA] at SA
  (try simp only [RetMb] at SA)
  have SA := Lib.hid SA
  have HA := Lib.hid hA
  clear hA
  go_wp2_with fail
  refine (AI.out _).mono ?_
  rintro e w8 ⟨rfl, hb8⟩
  have am_8 := am_7.below hb8 am_7.lt
  have ah_8 := ah_7.below hb8 ah_7.lt
  have hr_8 := hr_7.below hb8 hr_7.lt
  have ma_8 := ma.below hb8 ma.lt
  have ha_8 := ha_7.lift hb8
  have hB8 := hB7.trans (hb8.mono hB7.size)
  clear hb8 hB7 ha_7 ma hr_7 ah_7 am_7
  have hb9 : Below w8.heap.size w8 (w8.alloc (.cells #[.int .i64 ac, .int .i64 g0, .int .i64 g1, .int .i64 g2] 31)) := (Below.refl _ _).alloc (Nat.le_refl _) _
  have ar := At.new w8 31 #[.int .i64 ac, .int .i64 g0, .int .i64 g1, .int .i64 g2]
  have am_9 := am_8.below hb9 am_8.lt
  have ah_9 := ah_8.below hb9 ah_8.lt
  have hr_9 := hr_8.below hb9 hr_8.lt
  have ma_9 := ma_8.below hb9 ma_8.lt
  have ha_9 := ha_8.lift hb9
  have hB9 := hB8.trans (hb9.mono hB8.size)
  clear hb9 hB8 ha_8 ma_8 hr_8 ah_8 am_8
  rcases hS : suspM ((m0, m1), m2) u0 with ⟨sc, ⟨s0, s1⟩, s2⟩
  have SI := fun W => implSuspectMember m0 m1 m2 u0 W
  rw [hS] at SI
  (try simp only [RetMb] at SI)
  have SI := Lib.hid SI
  have SS := fun W => specSuspectMember m0 m1 m2 u0 W
  rw [hS] at SS
  (try simp only [RetMb] at SS)
  have SS := Lib.hid SS
  have HS := Lib.hid hS
  clear hS
  obtain ⟨ma0, ma1, ma2, _, _, _⟩ := ma_9.three
  go_wp2_with fail
  refine (SI.out _).mono ?_
  rintro e w10 ⟨rfl, hb10⟩
  have am_10 := am_9.below hb10 am_9.lt
  have ah_10 := ah_9.below hb10 ah_9.lt
  have hr_10 := hr_9.below hb10 hr_9.lt
  have ma_10 := ma_9.below hb10 ma_9.lt
  have ar_10 := ar.below hb10 ar.lt
  have ha_10 := ha_9.lift hb10
  have hB10 := hB9.trans (hb10.mono hB9.size)
  clear hb10 ma0 ma1 ma2 hB9 ha_9 ar ma_9 hr_9 ah_9 am_9
  have hb11 : Below w10.heap.size w10 (w10.alloc (.cells #[.int .i64 sc, .int .i64 s0, .int .i64 s1, .int .i64 s2] 31)) := (Below.refl _ _).alloc (Nat.le_refl _) _
  have sr := At.new w10 31 #[.int .i64 sc, .int .i64 s0, .int .i64 s1, .int .i64 s2]
  have am_11 := am_10.below hb11 am_10.lt
  have ah_11 := ah_10.below hb11 ah_10.lt
  have hr_11 := hr_10.below hb11 hr_10.lt
  have ma_11 := ma_10.below hb11 ma_10.lt
  have ar_11 := ar_10.below hb11 ar_10.lt
  have ha_11 := ha_10.lift hb11
  have hB11 := hB10.trans (hb11.mono hB10.size)
  clear hb11 hB10 ha_10 ar_10 ma_10 hr_10 ah_10 am_10
  go_wp2_with fail
  refine (drawRefuteLife X n c l _ ha_11 Hn.out hm).mono ?_
  rintro e w12 ⟨li, k0, k1, rfl, hb12⟩
  have am_12 := am_11.below hb12 am_11.lt
  have ah_12 := ah_11.below hb12 ah_11.lt
  have hr_12 := hr_11.below hb12 hr_11.lt
  have ma_12 := ma_11.below hb12 ma_11.lt
  have ar_12 := ar_11.below hb12 ar_11.lt
  have sr_12 := sr.below hb12 sr.lt
  have ha_12 := ha_11.lift hb12
  have hB12 := hB11.trans (hb12.mono hB11.size)
  clear hb12 hB11 ha_11 sr ar_11 ma_11 hr_11 ah_11 am_11
  have hb13 : Below w12.heap.size w12 (w12.alloc (.cells #[.int .i64 k0, .int .i64 k1] 25)) := (Below.refl _ _).alloc (Nat.le_refl _) _
  have mk := At.new w12 25 #[.int .i64 k0, .int .i64 k1]
  have am_13 := am_12.below hb13 am_12.lt
  have ah_13 := ah_12.below hb13 ah_12.lt
  have hr_13 := hr_12.below hb13 hr_12.lt
  have ma_13 := ma_12.below hb13 ma_12.lt
  have ar_13 := ar_12.below hb13 ar_12.lt
  have sr_13 := sr_12.below hb13 sr_12.lt
  have ha_13 := ha_12.lift hb13
  have hB13 := hB12.trans (hb13.mono hB12.size)
  clear hb13 hB12 ha_12 sr_12 ar_12 ma_12 hr_12 ah_12 am_12
  rcases hR : refuteM li (k0, k1) with ⟨rc, rv⟩
  have RI := fun W => implRefuteLife li k0 k1 W
  rw [hR] at RI
  (try simp only [RetMb] at RI)
  have RI := Lib.hid RI
  have SR := fun W => specRefuteLife li k0 k1 W
  rw [hR] at SR
  (try simp only [RetMb] at SR)
  have SR := Lib.hid SR
  have HR := Lib.hid hR
  clear hR
  go_wp2_with fail
  refine (RI.out _).mono ?_
  rintro e w14 ⟨rfl, hb14⟩
  have am_14 := am_13.below hb14 am_13.lt
  have ah_14 := ah_13.below hb14 ah_13.lt
  have hr_14 := hr_13.below hb14 hr_13.lt
  have ma_14 := ma_13.below hb14 ma_13.lt
  have ar_14 := ar_13.below hb14 ar_13.lt
  have sr_14 := sr_13.below hb14 sr_13.lt
  have mk_14 := mk.below hb14 mk.lt
  have ha_14 := ha_13.lift hb14
  have hB14 := hB13.trans (hb14.mono hB13.size)
  clear hb14 hB13 ha_13 mk sr_13 ar_13 ma_13 hr_13 ah_13 am_13
  have hb15 : Below w14.heap.size w14 (w14.alloc (.cells #[.int .i64 rc, .int .i64 rv] 39)) := (Below.refl _ _).alloc (Nat.le_refl _) _
  have rr := At.new w14 39 #[.int .i64 rc, .int .i64 rv]
  have am_15 := am_14.below hb15 am_14.lt
  have ah_15 := ah_14.below hb15 ah_14.lt
  have hr_15 := hr_14.below hb15 hr_14.lt
  have ma_15 := ma_14.below hb15 ma_14.lt
  have ar_15 := ar_14.below hb15 ar_14.lt
  have sr_15 := sr_14.below hb15 sr_14.lt
  have mk_15 := mk_14.below hb15 mk_14.lt
  have ha_15 := ha_14.lift hb15
  have hB15 := hB14.trans (hb15.mono hB14.size)
  clear hb15 hB14 ha_14 mk_14 sr_14 ar_14 ma_14 hr_14 ah_14 am_14
  go_wp2_with fail
  refine (drawIsStronger X n c l _ ha_15 Hn.out hm).mono ?_
  rintro e w16 ⟨p0, p1, q0, q1, rfl, hb16⟩
  have am_16 := am_15.below hb16 am_15.lt
  have ah_16 := ah_15.below hb16 ah_15.lt
  have hr_16 := hr_15.below hb16 hr_15.lt
  have ma_16 := ma_15.below hb16 ma_15.lt
  have ar_16 := ar_15.below hb16 ar_15.lt
  have sr_16 := sr_15.below hb16 sr_15.lt
  have mk_16 := mk_15.below hb16 mk_15.lt
  have rr_16 := rr.below hb16 rr.lt
  have ha_16 := ha_15.lift hb16
  have hB16 := hB15.trans (hb16.mono hB15.size)
  clear hb16 hB15 ha_15 rr mk_15 sr_15 ar_15 ma_15 hr_15 ah_15 am_15
  have hb17 : Below w16.heap.size w16 (w16.alloc (.cells #[.int .i64 p0, .int .i64 p1] 25)) := (Below.refl _ _).alloc (Nat.le_refl _) _
  have pp := At.new w16 25 #[.int .i64 p0, .int .i64 p1]
  have am_17 := am_16.below hb17 am_16.lt
  have ah_17 := ah_16.below hb17 ah_16.lt
  have hr_17 := hr_16.below hb17 hr_16.lt
  have ma_17 := ma_16.below hb17 ma_16.lt
  have ar_17 := ar_16.below hb17 ar_16.lt
  have sr_17 := sr_16.below hb17 sr_16.lt
  have mk_17 := mk_16.below hb17 mk_16.lt
  have rr_17 := rr_16.below hb17 rr_16.lt
  have ha_17 := ha_16.lift hb17
  have hB17 := hB16.trans (hb17.mono hB16.size)
  clear hb17 hB16 ha_16 rr_16 mk_16 sr_16 ar_16 ma_16 hr_16 ah_16 am_16
  have hb18 : Below (w16.alloc (.cells #[.int .i64 p0, .int .i64 p1] 25)).heap.size (w16.alloc (.cells #[.int .i64 p0, .int .i64 p1] 25)) ((w16.alloc (.cells #[.int .i64 p0, .int .i64 p1] 25)).alloc (.cells #[.int .i64 q0, .int .i64 q1] 25)) := (Below.refl _ _).alloc (Nat.le_refl _) _
  have qq := At.newAt (cs := #[.int .i64 q0, .int .i64 q1]) (t := 25) (show (w16.alloc (.cells #[.int .i64 p0, .int .i64 p1] 25)).heap.size = w16.heap.size + 1 by simp)
  have am_18 := am_17.below hb18 am_17.lt
  have ah_18 := ah_17.below hb18 ah_17.lt
  have hr_18 := hr_17.below hb18 hr_17.lt
  have ma_18 := ma_17.below hb18 ma_17.lt
  have ar_18 := ar_17.below hb18 ar_17.lt
  have sr_18 := sr_17.below hb18 sr_17.lt
  have mk_18 := mk_17.below hb18 mk_17.lt
  have rr_18 := rr_17.below hb18 rr_17.lt
  have pp_18 := pp.below hb18 pp.lt
  have ha_18 := ha_17.lift hb18
  have hB18 := hB17.trans (hb18.mono hB17.size)
  clear hb18 hB17 ha_17 pp rr_17 mk_17 sr_17 ar_17 ma_17 hr_17 ah_17 am_17
  clear HI AI SI RI
  as_aux_lemma =>
    go_wp2_with fail
    have hb19 : Below ((w16.alloc (.cells #[.int .i64 p0, .int .i64 p1] 25)).alloc (.cells #[.int .i64 q0, .int .i64 q1] 25)).heap.size ((w16.alloc (.cells #[.int .i64 p0, .int .i64 p1] 25)).alloc (.cells #[.int .i64 q0, .int .i64 q1] 25)) ((w16.alloc (.cells #[.int .i64 p0, .int .i64 p1] 25)).alloc (.cells #[.int .i64 q0, .int .i64 q1] 25)).drew := (Below.refl _ _).drew
    have am_19 := am_18.below hb19 am_18.lt
    have ah_19 := ah_18.below hb19 ah_18.lt
    have hr_19 := hr_18.below hb19 hr_18.lt
    have ma_19 := ma_18.below hb19 ma_18.lt
    have ar_19 := ar_18.below hb19 ar_18.lt
    have sr_19 := sr_18.below hb19 sr_18.lt
    have mk_19 := mk_18.below hb19 mk_18.lt
    have rr_19 := rr_18.below hb19 rr_18.lt
    have pp_19 := pp_18.below hb19 pp_18.lt
    have qq_19 := qq.below hb19 qq.lt
    have hB19 := hB18.trans (hb19.mono hB18.size)
    clear hb19 hB18 qq pp_18 rr_18 mk_18 sr_18 ar_18 ma_18 hr_18 ah_18 am_18
    have F1 := neqMb
    have F2 := neqIr
    refine wp_region_mix [(0, false), (1, false), (2, false), (3, false), (4, true), (5, false), (6, false), (7, false), (8, false), (9, false), (10, true), (11, false), (12, false), (13, false), (14, false), (15, false), (16, false), (17, true), (18, false), (19, false), (20, false), (21, false), (22, false), (23, false), (24, true), (25, false), (26, false), (27, false), (28, false), (29, false), (31, false), (32, false), (30, true), (33, true), (34, false), (35, false), (36, false), (37, false), (39, false), (38, true), (40, true), (41, false), (42, false), (43, false), (44, false), (46, false), (45, true), (47, true), (48, false), (49, false)] (fun u => At u (w1.heap.size) 27 #[.int .i64 a0, .int .i64 a1, .int .i64 a2] ∧ At u (w1.heap.size + 1) 25 #[.int .i64 b0, .int .i64 b1] ∧ At u (w4.heap.size) 31 #[.int .i64 hc, .int .i64 h0, .int .i64 h1, .int .i64 h2] ∧ At u (w6.heap.size) 27 #[.int .i64 m0, .int .i64 m1, .int .i64 m2] ∧ At u (w8.heap.size) 31 #[.int .i64 ac, .int .i64 g0, .int .i64 g1, .int .i64 g2] ∧ At u (w10.heap.size) 31 #[.int .i64 sc, .int .i64 s0, .int .i64 s1, .int .i64 s2] ∧ At u (w12.heap.size) 25 #[.int .i64 k0, .int .i64 k1] ∧ At u (w14.heap.size) 39 #[.int .i64 rc, .int .i64 rv] ∧ At u (w16.heap.size) 25 #[.int .i64 p0, .int .i64 p1] ∧ At u (w16.heap.size + 1) 25 #[.int .i64 q0, .int .i64 q1]) (by kernel_rfl) (by kernel_rfl) (fun _ _ _ _ _ h => h) ⟨am_19, ah_19, hr_19, ma_19, ar_19, sr_19, mk_19, rr_19, pp_19, qq_19⟩ ?_
    simp only [mixOps, List.map_cons, List.map_nil, List.getElem?_cons_succ, List.getElem?_cons_zero, Option.getD_some]
    repeat (first
      | (refine mix_skip (by rfl) ?_
         (try simp only [Act.put, List.setIfInBounds_toArray, List.set_cons_zero, List.set_cons_succ]))
      | (refine mix_pure (v := ?_) (by rfl) (fun u hu => ?_) ?_
         rotate_left
         · obtain ⟨y0, y1, y2, y3, y4, y5, y6, y7, y8, y9⟩ := hu
           obtain ⟨_, _, _, _, _, _⟩ := y0.three
           obtain ⟨_, _, _, _⟩ := y1.two
           obtain ⟨_, _, _, _, _, _, _, _⟩ := y2.four
           obtain ⟨_, _, _, _, _, _⟩ := y3.three
           obtain ⟨_, _, _, _, _, _, _, _⟩ := y4.four
           obtain ⟨_, _, _, _, _, _, _, _⟩ := y5.four
           obtain ⟨_, _, _, _⟩ := y6.two
           obtain ⟨_, _, _, _⟩ := y7.two
           obtain ⟨_, _, _, _⟩ := y8.two
           obtain ⟨_, _, _, _⟩ := y9.two
           go_simp
           (with_reducible rfl)
         (try simp only [Act.put, List.setIfInBounds_toArray, List.set_cons_zero, List.set_cons_succ])))
    refine mix_call (by rfl) (fun K hK => ?_)
    go_simp
    refine (SH.out _).mono ?_
    rintro e w20 ⟨rfl, hb20⟩
    have am_20 := am_19.below hb20 am_19.lt
    have ah_20 := ah_19.below hb20 ah_19.lt
    have hr_20 := hr_19.below hb20 hr_19.lt
    have ma_20 := ma_19.below hb20 ma_19.lt
    have ar_20 := ar_19.below hb20 ar_19.lt
    have sr_20 := sr_19.below hb20 sr_19.lt
    have mk_20 := mk_19.below hb20 mk_19.lt
    have rr_20 := rr_19.below hb20 rr_19.lt
    have pp_20 := pp_19.below hb20 pp_19.lt
    have qq_20 := qq_19.below hb20 qq_19.lt
    have hB20 := hB19.trans (hb20.mono hB19.size)
    clear hb20 hB19 qq_19 pp_19 rr_19 mk_19 sr_19 ar_19 ma_19 hr_19 ah_19 am_19
    refine hK _ _ (fun u => At u (w1.heap.size) 27 #[.int .i64 a0, .int .i64 a1, .int .i64 a2] ∧ At u (w1.heap.size + 1) 25 #[.int .i64 b0, .int .i64 b1] ∧ At u (w4.heap.size) 31 #[.int .i64 hc, .int .i64 h0, .int .i64 h1, .int .i64 h2] ∧ At u (w6.heap.size) 27 #[.int .i64 m0, .int .i64 m1, .int .i64 m2] ∧ At u (w8.heap.size) 31 #[.int .i64 ac, .int .i64 g0, .int .i64 g1, .int .i64 g2] ∧ At u (w10.heap.size) 31 #[.int .i64 sc, .int .i64 s0, .int .i64 s1, .int .i64 s2] ∧ At u (w12.heap.size) 25 #[.int .i64 k0, .int .i64 k1] ∧ At u (w14.heap.size) 39 #[.int .i64 rc, .int .i64 rv] ∧ At u (w16.heap.size) 25 #[.int .i64 p0, .int .i64 p1] ∧ At u (w16.heap.size + 1) 25 #[.int .i64 q0, .int .i64 q1]) (fun _ h => h) ⟨am_20, ah_20, hr_20, ma_20, ar_20, sr_20, mk_20, rr_20, pp_20, qq_20⟩ ?_
    clear hK K
    (try simp only [Act.put, List.setIfInBounds_toArray, List.set_cons_zero, List.set_cons_succ])
    repeat (first
      | (refine mix_skip (by rfl) ?_
         (try simp only [Act.put, List.setIfInBounds_toArray, List.set_cons_zero, List.set_cons_succ]))
      | (refine mix_pure (v := ?_) (by rfl) (fun u hu => ?_) ?_
         rotate_left
         · obtain ⟨y0, y1, y2, y3, y4, y5, y6, y7, y8, y9⟩ := hu
           obtain ⟨_, _, _, _, _, _⟩ := y0.three
           obtain ⟨_, _, _, _⟩ := y1.two
           obtain ⟨_, _, _, _, _, _, _, _⟩ := y2.four
           obtain ⟨_, _, _, _, _, _⟩ := y3.three
           obtain ⟨_, _, _, _, _, _, _, _⟩ := y4.four
           obtain ⟨_, _, _, _, _, _, _, _⟩ := y5.four
           obtain ⟨_, _, _, _⟩ := y6.two
           obtain ⟨_, _, _, _⟩ := y7.two
           obtain ⟨_, _, _, _⟩ := y8.two
           obtain ⟨_, _, _, _⟩ := y9.two
           go_simp
           (with_reducible rfl)
         (try simp only [Act.put, List.setIfInBounds_toArray, List.set_cons_zero, List.set_cons_succ])))
    refine mix_call (by rfl) (fun K hK => ?_)
    go_simp
    refine (SA.out _).mono ?_
    rintro e w21 ⟨rfl, hb21⟩
    have am_21 := am_20.below hb21 am_20.lt
    have ah_21 := ah_20.below hb21 ah_20.lt
    have hr_21 := hr_20.below hb21 hr_20.lt
    have ma_21 := ma_20.below hb21 ma_20.lt
    have ar_21 := ar_20.below hb21 ar_20.lt
    have sr_21 := sr_20.below hb21 sr_20.lt
    have mk_21 := mk_20.below hb21 mk_20.lt
    have rr_21 := rr_20.below hb21 rr_20.lt
    have pp_21 := pp_20.below hb21 pp_20.lt
    have qq_21 := qq_20.below hb21 qq_20.lt
    have hB21 := hB20.trans (hb21.mono hB20.size)
    clear hb21 hB20 qq_20 pp_20 rr_20 mk_20 sr_20 ar_20 ma_20 hr_20 ah_20 am_20
    refine hK _ _ (fun u => At u (w1.heap.size) 27 #[.int .i64 a0, .int .i64 a1, .int .i64 a2] ∧ At u (w1.heap.size + 1) 25 #[.int .i64 b0, .int .i64 b1] ∧ At u (w4.heap.size) 31 #[.int .i64 hc, .int .i64 h0, .int .i64 h1, .int .i64 h2] ∧ At u (w6.heap.size) 27 #[.int .i64 m0, .int .i64 m1, .int .i64 m2] ∧ At u (w8.heap.size) 31 #[.int .i64 ac, .int .i64 g0, .int .i64 g1, .int .i64 g2] ∧ At u (w10.heap.size) 31 #[.int .i64 sc, .int .i64 s0, .int .i64 s1, .int .i64 s2] ∧ At u (w12.heap.size) 25 #[.int .i64 k0, .int .i64 k1] ∧ At u (w14.heap.size) 39 #[.int .i64 rc, .int .i64 rv] ∧ At u (w16.heap.size) 25 #[.int .i64 p0, .int .i64 p1] ∧ At u (w16.heap.size + 1) 25 #[.int .i64 q0, .int .i64 q1]) (fun _ h => h) ⟨am_21, ah_21, hr_21, ma_21, ar_21, sr_21, mk_21, rr_21, pp_21, qq_21⟩ ?_
    clear hK K
    (try simp only [Act.put, List.setIfInBounds_toArray, List.set_cons_zero, List.set_cons_succ])
    repeat (first
      | (refine mix_skip (by rfl) ?_
         (try simp only [Act.put, List.setIfInBounds_toArray, List.set_cons_zero, List.set_cons_succ]))
      | (refine mix_pure (v := ?_) (by rfl) (fun u hu => ?_) ?_
         rotate_left
         · obtain ⟨y0, y1, y2, y3, y4, y5, y6, y7, y8, y9⟩ := hu
           obtain ⟨_, _, _, _, _, _⟩ := y0.three
           obtain ⟨_, _, _, _⟩ := y1.two
           obtain ⟨_, _, _, _, _, _, _, _⟩ := y2.four
           obtain ⟨_, _, _, _, _, _⟩ := y3.three
           obtain ⟨_, _, _, _, _, _, _, _⟩ := y4.four
           obtain ⟨_, _, _, _, _, _, _, _⟩ := y5.four
           obtain ⟨_, _, _, _⟩ := y6.two
           obtain ⟨_, _, _, _⟩ := y7.two
           obtain ⟨_, _, _, _⟩ := y8.two
           obtain ⟨_, _, _, _⟩ := y9.two
           go_simp
           (with_reducible rfl)
         (try simp only [Act.put, List.setIfInBounds_toArray, List.set_cons_zero, List.set_cons_succ])))
    refine mix_call (by rfl) (fun K hK => ?_)
    go_simp
    refine (SS.out _).mono ?_
    rintro e w22 ⟨rfl, hb22⟩
    have am_22 := am_21.below hb22 am_21.lt
    have ah_22 := ah_21.below hb22 ah_21.lt
    have hr_22 := hr_21.below hb22 hr_21.lt
    have ma_22 := ma_21.below hb22 ma_21.lt
    have ar_22 := ar_21.below hb22 ar_21.lt
    have sr_22 := sr_21.below hb22 sr_21.lt
    have mk_22 := mk_21.below hb22 mk_21.lt
    have rr_22 := rr_21.below hb22 rr_21.lt
    have pp_22 := pp_21.below hb22 pp_21.lt
    have qq_22 := qq_21.below hb22 qq_21.lt
    have hB22 := hB21.trans (hb22.mono hB21.size)
    clear hb22 hB21 qq_21 pp_21 rr_21 mk_21 sr_21 ar_21 ma_21 hr_21 ah_21 am_21
    refine hK _ _ (fun u => At u (w1.heap.size) 27 #[.int .i64 a0, .int .i64 a1, .int .i64 a2] ∧ At u (w1.heap.size + 1) 25 #[.int .i64 b0, .int .i64 b1] ∧ At u (w4.heap.size) 31 #[.int .i64 hc, .int .i64 h0, .int .i64 h1, .int .i64 h2] ∧ At u (w6.heap.size) 27 #[.int .i64 m0, .int .i64 m1, .int .i64 m2] ∧ At u (w8.heap.size) 31 #[.int .i64 ac, .int .i64 g0, .int .i64 g1, .int .i64 g2] ∧ At u (w10.heap.size) 31 #[.int .i64 sc, .int .i64 s0, .int .i64 s1, .int .i64 s2] ∧ At u (w12.heap.size) 25 #[.int .i64 k0, .int .i64 k1] ∧ At u (w14.heap.size) 39 #[.int .i64 rc, .int .i64 rv] ∧ At u (w16.heap.size) 25 #[.int .i64 p0, .int .i64 p1] ∧ At u (w16.heap.size + 1) 25 #[.int .i64 q0, .int .i64 q1]) (fun _ h => h) ⟨am_22, ah_22, hr_22, ma_22, ar_22, sr_22, mk_22, rr_22, pp_22, qq_22⟩ ?_
    clear hK K
    (try simp only [Act.put, List.setIfInBounds_toArray, List.set_cons_zero, List.set_cons_succ])
    repeat (first
      | (refine mix_skip (by rfl) ?_
         (try simp only [Act.put, List.setIfInBounds_toArray, List.set_cons_zero, List.set_cons_succ]))
      | (refine mix_pure (v := ?_) (by rfl) (fun u hu => ?_) ?_
         rotate_left
         · obtain ⟨y0, y1, y2, y3, y4, y5, y6, y7, y8, y9⟩ := hu
           obtain ⟨_, _, _, _, _, _⟩ := y0.three
           obtain ⟨_, _, _, _⟩ := y1.two
           obtain ⟨_, _, _, _, _, _, _, _⟩ := y2.four
           obtain ⟨_, _, _, _, _, _⟩ := y3.three
           obtain ⟨_, _, _, _, _, _, _, _⟩ := y4.four
           obtain ⟨_, _, _, _, _, _, _, _⟩ := y5.four
           obtain ⟨_, _, _, _⟩ := y6.two
           obtain ⟨_, _, _, _⟩ := y7.two
           obtain ⟨_, _, _, _⟩ := y8.two
           obtain ⟨_, _, _, _⟩ := y9.two
           go_simp
           (with_reducible rfl)
         (try simp only [Act.put, List.setIfInBounds_toArray, List.set_cons_zero, List.set_cons_succ])))
    refine mix_call (by rfl) (fun K hK => ?_)
    go_simp
    refine (SR.out _).mono ?_
    rintro e w23 ⟨rfl, hb23⟩
    have am_23 := am_22.below hb23 am_22.lt
    have ah_23 := ah_22.below hb23 ah_22.lt
    have hr_23 := hr_22.below hb23 hr_22.lt
    have ma_23 := ma_22.below hb23 ma_22.lt
    have ar_23 := ar_22.below hb23 ar_22.lt
    have sr_23 := sr_22.below hb23 sr_22.lt
    have mk_23 := mk_22.below hb23 mk_22.lt
    have rr_23 := rr_22.below hb23 rr_22.lt
    have pp_23 := pp_22.below hb23 pp_22.lt
    have qq_23 := qq_22.below hb23 qq_22.lt
    have hB23 := hB22.trans (hb23.mono hB22.size)
    clear hb23 hB22 qq_22 pp_22 rr_22 mk_22 sr_22 ar_22 ma_22 hr_22 ah_22 am_22
    refine hK _ _ (fun u => At u (w1.heap.size) 27 #[.int .i64 a0, .int .i64 a1, .int .i64 a2] ∧ At u (w1.heap.size + 1) 25 #[.int .i64 b0, .int .i64 b1] ∧ At u (w4.heap.size) 31 #[.int .i64 hc, .int .i64 h0, .int .i64 h1, .int .i64 h2] ∧ At u (w6.heap.size) 27 #[.int .i64 m0, .int .i64 m1, .int .i64 m2] ∧ At u (w8.heap.size) 31 #[.int .i64 ac, .int .i64 g0, .int .i64 g1, .int .i64 g2] ∧ At u (w10.heap.size) 31 #[.int .i64 sc, .int .i64 s0, .int .i64 s1, .int .i64 s2] ∧ At u (w12.heap.size) 25 #[.int .i64 k0, .int .i64 k1] ∧ At u (w14.heap.size) 39 #[.int .i64 rc, .int .i64 rv] ∧ At u (w16.heap.size) 25 #[.int .i64 p0, .int .i64 p1] ∧ At u (w16.heap.size + 1) 25 #[.int .i64 q0, .int .i64 q1]) (fun _ h => h) ⟨am_23, ah_23, hr_23, ma_23, ar_23, sr_23, mk_23, rr_23, pp_23, qq_23⟩ ?_
    clear hK K
    (try simp only [Act.put, List.setIfInBounds_toArray, List.set_cons_zero, List.set_cons_succ])
    repeat (first
      | (refine mix_skip (by rfl) ?_
         (try simp only [Act.put, List.setIfInBounds_toArray, List.set_cons_zero, List.set_cons_succ]))
      | (refine mix_pure (v := ?_) (by rfl) (fun u hu => ?_) ?_
         rotate_left
         · obtain ⟨y0, y1, y2, y3, y4, y5, y6, y7, y8, y9⟩ := hu
           obtain ⟨_, _, _, _, _, _⟩ := y0.three
           obtain ⟨_, _, _, _⟩ := y1.two
           obtain ⟨_, _, _, _, _, _, _, _⟩ := y2.four
           obtain ⟨_, _, _, _, _, _⟩ := y3.three
           obtain ⟨_, _, _, _, _, _, _, _⟩ := y4.four
           obtain ⟨_, _, _, _, _, _, _, _⟩ := y5.four
           obtain ⟨_, _, _, _⟩ := y6.two
           obtain ⟨_, _, _, _⟩ := y7.two
           obtain ⟨_, _, _, _⟩ := y8.two
           obtain ⟨_, _, _, _⟩ := y9.two
           go_simp
           (with_reducible rfl)
         (try simp only [Act.put, List.setIfInBounds_toArray, List.set_cons_zero, List.set_cons_succ])))
    refine mix_call (by rfl) (fun K hK => ?_)
    go_simp
    refine (implIsStronger p0 p1 q0 q1 _).mono ?_
    rintro e w24 ⟨rfl, hb24⟩
    have am_24 := am_23.below hb24 am_23.lt
    have ah_24 := ah_23.below hb24 ah_23.lt
    have hr_24 := hr_23.below hb24 hr_23.lt
    have ma_24 := ma_23.below hb24 ma_23.lt
    have ar_24 := ar_23.below hb24 ar_23.lt
    have sr_24 := sr_23.below hb24 sr_23.lt
    have mk_24 := mk_23.below hb24 mk_23.lt
    have rr_24 := rr_23.below hb24 rr_23.lt
    have pp_24 := pp_23.below hb24 pp_23.lt
    have qq_24 := qq_23.below hb24 qq_23.lt
    have hB24 := hB23.trans (hb24.mono hB23.size)
    clear hb24 hB23 qq_23 pp_23 rr_23 mk_23 sr_23 ar_23 ma_23 hr_23 ah_23 am_23
    refine hK _ _ (fun u => At u (w1.heap.size) 27 #[.int .i64 a0, .int .i64 a1, .int .i64 a2] ∧ At u (w1.heap.size + 1) 25 #[.int .i64 b0, .int .i64 b1] ∧ At u (w4.heap.size) 31 #[.int .i64 hc, .int .i64 h0, .int .i64 h1, .int .i64 h2] ∧ At u (w6.heap.size) 27 #[.int .i64 m0, .int .i64 m1, .int .i64 m2] ∧ At u (w8.heap.size) 31 #[.int .i64 ac, .int .i64 g0, .int .i64 g1, .int .i64 g2] ∧ At u (w10.heap.size) 31 #[.int .i64 sc, .int .i64 s0, .int .i64 s1, .int .i64 s2] ∧ At u (w12.heap.size) 25 #[.int .i64 k0, .int .i64 k1] ∧ At u (w14.heap.size) 39 #[.int .i64 rc, .int .i64 rv] ∧ At u (w16.heap.size) 25 #[.int .i64 p0, .int .i64 p1] ∧ At u (w16.heap.size + 1) 25 #[.int .i64 q0, .int .i64 q1]) (fun _ h => h) ⟨am_24, ah_24, hr_24, ma_24, ar_24, sr_24, mk_24, rr_24, pp_24, qq_24⟩ ?_
    clear hK K
    (try simp only [Act.put, List.setIfInBounds_toArray, List.set_cons_zero, List.set_cons_succ])
    repeat (first
      | (refine mix_skip (by rfl) ?_
         (try simp only [Act.put, List.setIfInBounds_toArray, List.set_cons_zero, List.set_cons_succ]))
      | (refine mix_pure (v := ?_) (by rfl) (fun u hu => ?_) ?_
         rotate_left
         · obtain ⟨y0, y1, y2, y3, y4, y5, y6, y7, y8, y9⟩ := hu
           obtain ⟨_, _, _, _, _, _⟩ := y0.three
           obtain ⟨_, _, _, _⟩ := y1.two
           obtain ⟨_, _, _, _, _, _, _, _⟩ := y2.four
           obtain ⟨_, _, _, _, _, _⟩ := y3.three
           obtain ⟨_, _, _, _, _, _, _, _⟩ := y4.four
           obtain ⟨_, _, _, _, _, _, _, _⟩ := y5.four
           obtain ⟨_, _, _, _⟩ := y6.two
           obtain ⟨_, _, _, _⟩ := y7.two
           obtain ⟨_, _, _, _⟩ := y8.two
           obtain ⟨_, _, _, _⟩ := y9.two
           go_simp
           (with_reducible rfl)
         (try simp only [Act.put, List.setIfInBounds_toArray, List.set_cons_zero, List.set_cons_succ])))
    refine mix_call (by rfl) (fun K hK => ?_)
    go_simp
    refine (specIsStronger p0 p1 q0 q1 _).mono ?_
    rintro e w25 ⟨rfl, hb25⟩
    have am_25 := am_24.below hb25 am_24.lt
    have ah_25 := ah_24.below hb25 ah_24.lt
    have hr_25 := hr_24.below hb25 hr_24.lt
    have ma_25 := ma_24.below hb25 ma_24.lt
    have ar_25 := ar_24.below hb25 ar_24.lt
    have sr_25 := sr_24.below hb25 sr_24.lt
    have mk_25 := mk_24.below hb25 mk_24.lt
    have rr_25 := rr_24.below hb25 rr_24.lt
    have pp_25 := pp_24.below hb25 pp_24.lt
    have qq_25 := qq_24.below hb25 qq_24.lt
    have hB25 := hB24.trans (hb25.mono hB24.size)
    clear hb25 hB24 qq_24 pp_24 rr_24 mk_24 sr_24 ar_24 ma_24 hr_24 ah_24 am_24
    refine hK _ _ (fun u => At u (w1.heap.size) 27 #[.int .i64 a0, .int .i64 a1, .int .i64 a2] ∧ At u (w1.heap.size + 1) 25 #[.int .i64 b0, .int .i64 b1] ∧ At u (w4.heap.size) 31 #[.int .i64 hc, .int .i64 h0, .int .i64 h1, .int .i64 h2] ∧ At u (w6.heap.size) 27 #[.int .i64 m0, .int .i64 m1, .int .i64 m2] ∧ At u (w8.heap.size) 31 #[.int .i64 ac, .int .i64 g0, .int .i64 g1, .int .i64 g2] ∧ At u (w10.heap.size) 31 #[.int .i64 sc, .int .i64 s0, .int .i64 s1, .int .i64 s2] ∧ At u (w12.heap.size) 25 #[.int .i64 k0, .int .i64 k1] ∧ At u (w14.heap.size) 39 #[.int .i64 rc, .int .i64 rv] ∧ At u (w16.heap.size) 25 #[.int .i64 p0, .int .i64 p1] ∧ At u (w16.heap.size + 1) 25 #[.int .i64 q0, .int .i64 q1]) (fun _ h => h) ⟨am_25, ah_25, hr_25, ma_25, ar_25, sr_25, mk_25, rr_25, pp_25, qq_25⟩ ?_
    clear hK K
    (try simp only [Act.put, List.setIfInBounds_toArray, List.set_cons_zero, List.set_cons_succ])
    repeat (first
      | (refine mix_skip (by rfl) ?_
         (try simp only [Act.put, List.setIfInBounds_toArray, List.set_cons_zero, List.set_cons_succ]))
      | (refine mix_pure (v := ?_) (by rfl) (fun u hu => ?_) ?_
         rotate_left
         · obtain ⟨y0, y1, y2, y3, y4, y5, y6, y7, y8, y9⟩ := hu
           obtain ⟨_, _, _, _, _, _⟩ := y0.three
           obtain ⟨_, _, _, _⟩ := y1.two
           obtain ⟨_, _, _, _, _, _, _, _⟩ := y2.four
           obtain ⟨_, _, _, _, _, _⟩ := y3.three
           obtain ⟨_, _, _, _, _, _, _, _⟩ := y4.four
           obtain ⟨_, _, _, _, _, _, _, _⟩ := y5.four
           obtain ⟨_, _, _, _⟩ := y6.two
           obtain ⟨_, _, _, _⟩ := y7.two
           obtain ⟨_, _, _, _⟩ := y8.two
           obtain ⟨_, _, _, _⟩ := y9.two
           go_simp
           (with_reducible rfl)
         (try simp only [Act.put, List.setIfInBounds_toArray, List.set_cons_zero, List.set_cons_succ])))
    refine mix_call (by rfl) (fun K hK => ?_)
    go_simp
    refine (implMemberFault a0 a1 a2 _).mono ?_
    rintro e w26 ⟨rfl, hb26⟩
    have am_26 := am_25.below hb26 am_25.lt
    have ah_26 := ah_25.below hb26 ah_25.lt
    have hr_26 := hr_25.below hb26 hr_25.lt
    have ma_26 := ma_25.below hb26 ma_25.lt
    have ar_26 := ar_25.below hb26 ar_25.lt
    have sr_26 := sr_25.below hb26 sr_25.lt
    have mk_26 := mk_25.below hb26 mk_25.lt
    have rr_26 := rr_25.below hb26 rr_25.lt
    have pp_26 := pp_25.below hb26 pp_25.lt
    have qq_26 := qq_25.below hb26 qq_25.lt
    have hB26 := hB25.trans (hb26.mono hB25.size)
    clear hb26 hB25 qq_25 pp_25 rr_25 mk_25 sr_25 ar_25 ma_25 hr_25 ah_25 am_25
    refine hK _ _ (fun u => At u (w1.heap.size) 27 #[.int .i64 a0, .int .i64 a1, .int .i64 a2] ∧ At u (w1.heap.size + 1) 25 #[.int .i64 b0, .int .i64 b1] ∧ At u (w4.heap.size) 31 #[.int .i64 hc, .int .i64 h0, .int .i64 h1, .int .i64 h2] ∧ At u (w6.heap.size) 27 #[.int .i64 m0, .int .i64 m1, .int .i64 m2] ∧ At u (w8.heap.size) 31 #[.int .i64 ac, .int .i64 g0, .int .i64 g1, .int .i64 g2] ∧ At u (w10.heap.size) 31 #[.int .i64 sc, .int .i64 s0, .int .i64 s1, .int .i64 s2] ∧ At u (w12.heap.size) 25 #[.int .i64 k0, .int .i64 k1] ∧ At u (w14.heap.size) 39 #[.int .i64 rc, .int .i64 rv] ∧ At u (w16.heap.size) 25 #[.int .i64 p0, .int .i64 p1] ∧ At u (w16.heap.size + 1) 25 #[.int .i64 q0, .int .i64 q1]) (fun _ h => h) ⟨am_26, ah_26, hr_26, ma_26, ar_26, sr_26, mk_26, rr_26, pp_26, qq_26⟩ ?_
    clear hK K
    (try simp only [Act.put, List.setIfInBounds_toArray, List.set_cons_zero, List.set_cons_succ])
    repeat (first
      | (refine mix_skip (by rfl) ?_
         (try simp only [Act.put, List.setIfInBounds_toArray, List.set_cons_zero, List.set_cons_succ]))
      | (refine mix_pure (v := ?_) (by rfl) (fun u hu => ?_) ?_
         rotate_left
         · obtain ⟨y0, y1, y2, y3, y4, y5, y6, y7, y8, y9⟩ := hu
           obtain ⟨_, _, _, _, _, _⟩ := y0.three
           obtain ⟨_, _, _, _⟩ := y1.two
           obtain ⟨_, _, _, _, _, _, _, _⟩ := y2.four
           obtain ⟨_, _, _, _, _, _⟩ := y3.three
           obtain ⟨_, _, _, _, _, _, _, _⟩ := y4.four
           obtain ⟨_, _, _, _, _, _, _, _⟩ := y5.four
           obtain ⟨_, _, _, _⟩ := y6.two
           obtain ⟨_, _, _, _⟩ := y7.two
           obtain ⟨_, _, _, _⟩ := y8.two
           obtain ⟨_, _, _, _⟩ := y9.two
           go_simp
           (with_reducible rfl)
         (try simp only [Act.put, List.setIfInBounds_toArray, List.set_cons_zero, List.set_cons_succ])))
    refine mix_call (by rfl) (fun K hK => ?_)
    go_simp
    refine (specMemberFault a0 a1 a2 _).mono ?_
    rintro e w27 ⟨rfl, hb27⟩
    have am_27 := am_26.below hb27 am_26.lt
    have ah_27 := ah_26.below hb27 ah_26.lt
    have hr_27 := hr_26.below hb27 hr_26.lt
    have ma_27 := ma_26.below hb27 ma_26.lt
    have ar_27 := ar_26.below hb27 ar_26.lt
    have sr_27 := sr_26.below hb27 sr_26.lt
    have mk_27 := mk_26.below hb27 mk_26.lt
    have rr_27 := rr_26.below hb27 rr_26.lt
    have pp_27 := pp_26.below hb27 pp_26.lt
    have qq_27 := qq_26.below hb27 qq_26.lt
    have hB27 := hB26.trans (hb27.mono hB26.size)
    clear hb27 hB26 qq_26 pp_26 rr_26 mk_26 sr_26 ar_26 ma_26 hr_26 ah_26 am_26
    refine hK _ _ (fun u => At u (w1.heap.size) 27 #[.int .i64 a0, .int .i64 a1, .int .i64 a2] ∧ At u (w1.heap.size + 1) 25 #[.int .i64 b0, .int .i64 b1] ∧ At u (w4.heap.size) 31 #[.int .i64 hc, .int .i64 h0, .int .i64 h1, .int .i64 h2] ∧ At u (w6.heap.size) 27 #[.int .i64 m0, .int .i64 m1, .int .i64 m2] ∧ At u (w8.heap.size) 31 #[.int .i64 ac, .int .i64 g0, .int .i64 g1, .int .i64 g2] ∧ At u (w10.heap.size) 31 #[.int .i64 sc, .int .i64 s0, .int .i64 s1, .int .i64 s2] ∧ At u (w12.heap.size) 25 #[.int .i64 k0, .int .i64 k1] ∧ At u (w14.heap.size) 39 #[.int .i64 rc, .int .i64 rv] ∧ At u (w16.heap.size) 25 #[.int .i64 p0, .int .i64 p1] ∧ At u (w16.heap.size + 1) 25 #[.int .i64 q0, .int .i64 q1]) (fun _ h => h) ⟨am_27, ah_27, hr_27, ma_27, ar_27, sr_27, mk_27, rr_27, pp_27, qq_27⟩ ?_
    clear hK K
    (try simp only [Act.put, List.setIfInBounds_toArray, List.set_cons_zero, List.set_cons_succ])
    repeat (first
      | (refine mix_skip (by rfl) ?_
         (try simp only [Act.put, List.setIfInBounds_toArray, List.set_cons_zero, List.set_cons_succ]))
      | (refine mix_pure (v := ?_) (by rfl) (fun u hu => ?_) ?_
         rotate_left
         · obtain ⟨y0, y1, y2, y3, y4, y5, y6, y7, y8, y9⟩ := hu
           obtain ⟨_, _, _, _, _, _⟩ := y0.three
           obtain ⟨_, _, _, _⟩ := y1.two
           obtain ⟨_, _, _, _, _, _, _, _⟩ := y2.four
           obtain ⟨_, _, _, _, _, _⟩ := y3.three
           obtain ⟨_, _, _, _, _, _, _, _⟩ := y4.four
           obtain ⟨_, _, _, _, _, _, _, _⟩ := y5.four
           obtain ⟨_, _, _, _⟩ := y6.two
           obtain ⟨_, _, _, _⟩ := y7.two
           obtain ⟨_, _, _, _⟩ := y8.two
           obtain ⟨_, _, _, _⟩ := y9.two
           go_simp
           (with_reducible rfl)
         (try simp only [Act.put, List.setIfInBounds_toArray, List.set_cons_zero, List.set_cons_succ])))
    refine mix_call (by rfl) (fun K hK => ?_)
    go_simp
    refine (implMarkFault p0 p1 _).mono ?_
    rintro e w28 ⟨rfl, hb28⟩
    have am_28 := am_27.below hb28 am_27.lt
    have ah_28 := ah_27.below hb28 ah_27.lt
    have hr_28 := hr_27.below hb28 hr_27.lt
    have ma_28 := ma_27.below hb28 ma_27.lt
    have ar_28 := ar_27.below hb28 ar_27.lt
    have sr_28 := sr_27.below hb28 sr_27.lt
    have mk_28 := mk_27.below hb28 mk_27.lt
    have rr_28 := rr_27.below hb28 rr_27.lt
    have pp_28 := pp_27.below hb28 pp_27.lt
    have qq_28 := qq_27.below hb28 qq_27.lt
    have hB28 := hB27.trans (hb28.mono hB27.size)
    clear hb28 hB27 qq_27 pp_27 rr_27 mk_27 sr_27 ar_27 ma_27 hr_27 ah_27 am_27
    refine hK _ _ (fun u => At u (w1.heap.size) 27 #[.int .i64 a0, .int .i64 a1, .int .i64 a2] ∧ At u (w1.heap.size + 1) 25 #[.int .i64 b0, .int .i64 b1] ∧ At u (w4.heap.size) 31 #[.int .i64 hc, .int .i64 h0, .int .i64 h1, .int .i64 h2] ∧ At u (w6.heap.size) 27 #[.int .i64 m0, .int .i64 m1, .int .i64 m2] ∧ At u (w8.heap.size) 31 #[.int .i64 ac, .int .i64 g0, .int .i64 g1, .int .i64 g2] ∧ At u (w10.heap.size) 31 #[.int .i64 sc, .int .i64 s0, .int .i64 s1, .int .i64 s2] ∧ At u (w12.heap.size) 25 #[.int .i64 k0, .int .i64 k1] ∧ At u (w14.heap.size) 39 #[.int .i64 rc, .int .i64 rv] ∧ At u (w16.heap.size) 25 #[.int .i64 p0, .int .i64 p1] ∧ At u (w16.heap.size + 1) 25 #[.int .i64 q0, .int .i64 q1]) (fun _ h => h) ⟨am_28, ah_28, hr_28, ma_28, ar_28, sr_28, mk_28, rr_28, pp_28, qq_28⟩ ?_
    clear hK K
    (try simp only [Act.put, List.setIfInBounds_toArray, List.set_cons_zero, List.set_cons_succ])
    repeat (first
      | (refine mix_skip (by rfl) ?_
         (try simp only [Act.put, List.setIfInBounds_toArray, List.set_cons_zero, List.set_cons_succ]))
      | (refine mix_pure (v := ?_) (by rfl) (fun u hu => ?_) ?_
         rotate_left
         · obtain ⟨y0, y1, y2, y3, y4, y5, y6, y7, y8, y9⟩ := hu
           obtain ⟨_, _, _, _, _, _⟩ := y0.three
           obtain ⟨_, _, _, _⟩ := y1.two
           obtain ⟨_, _, _, _, _, _, _, _⟩ := y2.four
           obtain ⟨_, _, _, _, _, _⟩ := y3.three
           obtain ⟨_, _, _, _, _, _, _, _⟩ := y4.four
           obtain ⟨_, _, _, _, _, _, _, _⟩ := y5.four
           obtain ⟨_, _, _, _⟩ := y6.two
           obtain ⟨_, _, _, _⟩ := y7.two
           obtain ⟨_, _, _, _⟩ := y8.two
           obtain ⟨_, _, _, _⟩ := y9.two
           go_simp
           (with_reducible rfl)
         (try simp only [Act.put, List.setIfInBounds_toArray, List.set_cons_zero, List.set_cons_succ])))
    refine mix_call (by rfl) (fun K hK => ?_)
    go_simp
    refine (specMarkFault p0 p1 _).mono ?_
    rintro e w29 ⟨rfl, hb29⟩
    have am_29 := am_28.below hb29 am_28.lt
    have ah_29 := ah_28.below hb29 ah_28.lt
    have hr_29 := hr_28.below hb29 hr_28.lt
    have ma_29 := ma_28.below hb29 ma_28.lt
    have ar_29 := ar_28.below hb29 ar_28.lt
    have sr_29 := sr_28.below hb29 sr_28.lt
    have mk_29 := mk_28.below hb29 mk_28.lt
    have rr_29 := rr_28.below hb29 rr_28.lt
    have pp_29 := pp_28.below hb29 pp_28.lt
    have qq_29 := qq_28.below hb29 qq_28.lt
    have hB29 := hB28.trans (hb29.mono hB28.size)
    clear hb29 hB28 qq_28 pp_28 rr_28 mk_28 sr_28 ar_28 ma_28 hr_28 ah_28 am_28
    refine hK _ _ (fun u => At u (w1.heap.size) 27 #[.int .i64 a0, .int .i64 a1, .int .i64 a2] ∧ At u (w1.heap.size + 1) 25 #[.int .i64 b0, .int .i64 b1] ∧ At u (w4.heap.size) 31 #[.int .i64 hc, .int .i64 h0, .int .i64 h1, .int .i64 h2] ∧ At u (w6.heap.size) 27 #[.int .i64 m0, .int .i64 m1, .int .i64 m2] ∧ At u (w8.heap.size) 31 #[.int .i64 ac, .int .i64 g0, .int .i64 g1, .int .i64 g2] ∧ At u (w10.heap.size) 31 #[.int .i64 sc, .int .i64 s0, .int .i64 s1, .int .i64 s2] ∧ At u (w12.heap.size) 25 #[.int .i64 k0, .int .i64 k1] ∧ At u (w14.heap.size) 39 #[.int .i64 rc, .int .i64 rv] ∧ At u (w16.heap.size) 25 #[.int .i64 p0, .int .i64 p1] ∧ At u (w16.heap.size + 1) 25 #[.int .i64 q0, .int .i64 q1]) (fun _ h => h) ⟨am_29, ah_29, hr_29, ma_29, ar_29, sr_29, mk_29, rr_29, pp_29, qq_29⟩ ?_
    clear hK K
    (try simp only [Act.put, List.setIfInBounds_toArray, List.set_cons_zero, List.set_cons_succ])
    repeat (first
      | (refine mix_skip (by rfl) ?_
         (try simp only [Act.put, List.setIfInBounds_toArray, List.set_cons_zero, List.set_cons_succ]))
      | (refine mix_pure (v := ?_) (by rfl) (fun u hu => ?_) ?_
         rotate_left
         · obtain ⟨y0, y1, y2, y3, y4, y5, y6, y7, y8, y9⟩ := hu
           obtain ⟨_, _, _, _, _, _⟩ := y0.three
           obtain ⟨_, _, _, _⟩ := y1.two
           obtain ⟨_, _, _, _, _, _, _, _⟩ := y2.four
           obtain ⟨_, _, _, _, _, _⟩ := y3.three
           obtain ⟨_, _, _, _, _, _, _, _⟩ := y4.four
           obtain ⟨_, _, _, _, _, _, _, _⟩ := y5.four
           obtain ⟨_, _, _, _⟩ := y6.two
           obtain ⟨_, _, _, _⟩ := y7.two
           obtain ⟨_, _, _, _⟩ := y8.two
           obtain ⟨_, _, _, _⟩ := y9.two
           go_simp
           (with_reducible rfl)
         (try simp only [Act.put, List.setIfInBounds_toArray, List.set_cons_zero, List.set_cons_succ])))
    refine mix_nil ?_
    clear SH SA SS SR F1 F2
    go_upto_region 13 with fail
    go_cut [126] (fun s wx => s = .bool false ∧ Below w29.heap.size w29 wx)
    case first =>
      as_aux_lemma =>
        have HZ := Below.refl w29.heap.size w29
        have S1 := fun W => implIsStronger p0 p1 q0 q1 W
        have S2 := fun W => implIsStronger q0 q1 p0 p1 W
        rcases h1 : strongM (p0, p1) (q0, q1) <;> rcases h2 : strongM (q0, q1) (p0, p1) <;> rw [h1] at S1 <;> rw [h2] at S2
        · have he := strong_same (a := (p0, p1)) (b := (q0, q1)) (by rw [h1]; simp) (by rw [h2]; simp)
          obtain ⟨rfl, rfl⟩ : p0 = q0 ∧ p1 = q1 := by simpa using he
          clear he h1 h2
          have F3 := neqMkS
          obtain ⟨pp0, pp1, _, _⟩ := pp_29.two
          obtain ⟨qq0, qq1, _, _⟩ := qq_29.two
          go_wp2_with fail
          refine (S1 _).mono ?_
          rintro e w30 ⟨rfl, hb30⟩
          have pp_30 := pp_29.below hb30 pp_29.lt
          have qq_30 := qq_29.below hb30 qq_29.lt
          have hB30 := HZ.trans (hb30.mono HZ.size)
          clear hb30 pp0 pp1 qq0 qq1 HZ qq_29 pp_29
          obtain ⟨pp0, pp1, _, _⟩ := pp_30.two
          obtain ⟨qq0, qq1, _, _⟩ := qq_30.two
          go_wp2_with fail
          refine (S1 _).mono ?_
          rintro e w31 ⟨rfl, hb31⟩
          have pp_31 := pp_30.below hb31 pp_30.lt
          have qq_31 := qq_30.below hb31 qq_30.lt
          have hB31 := hB30.trans (hb31.mono hB30.size)
          clear hb31 pp0 pp1 qq0 qq1 hB30 qq_30 pp_30
          obtain ⟨pp0, pp1, _, _⟩ := pp_31.two
          obtain ⟨qq0, qq1, _, _⟩ := qq_31.two
          go_wp2_with fail
          refine (S2 _).mono ?_
          rintro e w32 ⟨rfl, hb32⟩
          have pp_32 := pp_31.below hb32 pp_31.lt
          have qq_32 := qq_31.below hb32 qq_31.lt
          have hB32 := hB31.trans (hb32.mono hB31.size)
          clear hb32 pp0 pp1 qq0 qq1 hB31 qq_31 pp_31
          obtain ⟨pp0, pp1, _, _⟩ := pp_32.two
          obtain ⟨qq0, qq1, _, _⟩ := qq_32.two
          go_wp2_with fail
          go_meet
          exact ⟨rfl, hB32⟩
        · clear h1 h2
          obtain ⟨pp0, pp1, _, _⟩ := pp_29.two
          obtain ⟨qq0, qq1, _, _⟩ := qq_29.two
          go_wp2_with fail
          refine (S1 _).mono ?_
          rintro e w30 ⟨rfl, hb30⟩
          have pp_30 := pp_29.below hb30 pp_29.lt
          have qq_30 := qq_29.below hb30 qq_29.lt
          have hB30 := HZ.trans (hb30.mono HZ.size)
          clear hb30 pp0 pp1 qq0 qq1 HZ qq_29 pp_29
          obtain ⟨pp0, pp1, _, _⟩ := pp_30.two
          obtain ⟨qq0, qq1, _, _⟩ := qq_30.two
          go_wp2_with fail
          refine (S1 _).mono ?_
          rintro e w31 ⟨rfl, hb31⟩
          have pp_31 := pp_30.below hb31 pp_30.lt
          have qq_31 := qq_30.below hb31 qq_30.lt
          have hB31 := hB30.trans (hb31.mono hB30.size)
          clear hb31 pp0 pp1 qq0 qq1 hB30 qq_30 pp_30
          obtain ⟨pp0, pp1, _, _⟩ := pp_31.two
          obtain ⟨qq0, qq1, _, _⟩ := qq_31.two
          go_wp2_with fail
          refine (S2 _).mono ?_
          rintro e w32 ⟨rfl, hb32⟩
          have pp_32 := pp_31.below hb32 pp_31.lt
          have qq_32 := qq_31.below hb32 qq_31.lt
          have hB32 := hB31.trans (hb32.mono hB31.size)
          clear hb32 pp0 pp1 qq0 qq1 hB31 qq_31 pp_31
          go_wp2_with fail
          go_meet
          exact ⟨rfl, hB32⟩
        · clear h1 h2
          obtain ⟨pp0, pp1, _, _⟩ := pp_29.two
          obtain ⟨qq0, qq1, _, _⟩ := qq_29.two
          go_wp2_with fail
          refine (S1 _).mono ?_
          rintro e w30 ⟨rfl, hb30⟩
          have pp_30 := pp_29.below hb30 pp_29.lt
          have qq_30 := qq_29.below hb30 qq_29.lt
          have hB30 := HZ.trans (hb30.mono HZ.size)
          clear hb30 pp0 pp1 qq0 qq1 HZ qq_29 pp_29
          obtain ⟨pp0, pp1, _, _⟩ := pp_30.two
          obtain ⟨qq0, qq1, _, _⟩ := qq_30.two
          go_wp2_with fail
          refine (S2 _).mono ?_
          rintro e w31 ⟨rfl, hb31⟩
          have pp_31 := pp_30.below hb31 pp_30.lt
          have qq_31 := qq_30.below hb31 qq_30.lt
          have hB31 := hB30.trans (hb31.mono hB30.size)
          clear hb31 pp0 pp1 qq0 qq1 hB30 qq_30 pp_30
          obtain ⟨pp0, pp1, _, _⟩ := pp_31.two
          obtain ⟨qq0, qq1, _, _⟩ := qq_31.two
          go_wp2_with fail
          refine (S1 _).mono ?_
          rintro e w32 ⟨rfl, hb32⟩
          have pp_32 := pp_31.below hb32 pp_31.lt
          have qq_32 := qq_31.below hb32 qq_31.lt
          have hB32 := hB31.trans (hb32.mono hB31.size)
          clear hb32 pp0 pp1 qq0 qq1 hB31 qq_31 pp_31
          go_wp2_with fail
          go_meet
          exact ⟨rfl, hB32⟩
        · exact absurd ⟨h1, h2⟩ (strong_not _ _)
    case rest =>
      as_aux_lemma =>
        obtain ⟨rfl, hb30⟩ := hcut
        rename World => w30
        have am_30 := am_29.below hb30 am_29.lt
        have ah_30 := ah_29.below hb30 ah_29.lt
        have hr_30 := hr_29.below hb30 hr_29.lt
        have ma_30 := ma_29.below hb30 ma_29.lt
        have ar_30 := ar_29.below hb30 ar_29.lt
        have sr_30 := sr_29.below hb30 sr_29.lt
        have mk_30 := mk_29.below hb30 mk_29.lt
        have rr_30 := rr_29.below hb30 rr_29.lt
        have pp_30 := pp_29.below hb30 pp_29.lt
        have qq_30 := qq_29.below hb30 qq_29.lt
        have hB30 := hB29.trans (hb30.mono hB29.size)
        clear hb30 hB29 qq_29 pp_29 rr_29 mk_29 sr_29 ar_29 ma_29 hr_29 ah_29 am_29
        go_upto_region 15 with fail
        go_cut [153] (fun s wx => s = .bool false ∧ Below w30.heap.size w30 wx)
        case first =>
          as_aux_lemma =>
            have HZ := Below.refl w30.heap.size w30
            have F1 := neqMb
            by_cases hz : hc = 0
            · subst hz
              obtain ⟨e1, e2, e3⟩ := hear_said HH.out
              have S1 := fun W => implIsStronger b0 b1 h0 h1 W
              have S2 := fun W => implIsStronger a0 a1 h0 h1 W
              have S3 := fun W => implHearMark h0 h1 h2 b0 b1 t0 W
              dsimp only at e1 e2
              rw [e1] at S1
              rw [e2] at S2
              rw [e3] at S3
              simp only [RetMb] at S3
              clear e1 e2 e3
              have hb31 : Below w30.heap.size w30 w30.drew := (Below.refl _ _).drew
              have am_31 := am_30.below hb31 am_30.lt
              have ah_31 := ah_30.below hb31 ah_30.lt
              have hr_31 := hr_30.below hb31 hr_30.lt
              have hB31 := HZ.trans (hb31.mono HZ.size)
              clear hb31 HZ hr_30 ah_30 am_30
              refine wp_region_mix [(0, false), (1, false), (2, false), (3, false), (4, false), (5, false), (6, false), (7, false), (8, true), (9, false), (10, false), (11, false), (12, false), (13, false), (14, false), (15, true), (16, false), (17, false), (18, false), (19, false), (20, false), (21, false), (23, false), (22, true), (24, false), (25, false), (26, false)] (fun u => At u (w1.heap.size) 27 #[.int .i64 a0, .int .i64 a1, .int .i64 a2] ∧ At u (w1.heap.size + 1) 25 #[.int .i64 b0, .int .i64 b1] ∧ At u (w4.heap.size) 31 #[.int .i64 0, .int .i64 h0, .int .i64 h1, .int .i64 h2]) (by kernel_rfl) (by kernel_rfl) (fun _ _ _ _ _ h => h) ⟨am_31, ah_31, hr_31⟩ ?_
              simp only [mixOps, List.map_cons, List.map_nil, List.getElem?_cons_succ, List.getElem?_cons_zero, Option.getD_some]
              repeat (first
                | (refine mix_skip (by rfl) ?_
                   (try simp only [Act.put, List.setIfInBounds_toArray, List.set_cons_zero, List.set_cons_succ]))
                | (refine mix_pure (v := ?_) (by rfl) (fun u hu => ?_) ?_
                   rotate_left
                   · obtain ⟨y0, y1, y2⟩ := hu
                     obtain ⟨_, _, _, _, _, _⟩ := y0.three
                     obtain ⟨_, _, _, _⟩ := y1.two
                     obtain ⟨_, _, _, _, _, _, _, _⟩ := y2.four
                     go_simp
                     (with_reducible rfl)
                   (try simp only [Act.put, List.setIfInBounds_toArray, List.set_cons_zero, List.set_cons_succ])))
              refine mix_call (by rfl) (fun K hK => ?_)
              go_simp
              refine (S1 _).mono ?_
              rintro e w32 ⟨rfl, hb32⟩
              have am_32 := am_31.below hb32 am_31.lt
              have ah_32 := ah_31.below hb32 ah_31.lt
              have hr_32 := hr_31.below hb32 hr_31.lt
              have hB32 := hB31.trans (hb32.mono hB31.size)
              clear hb32 hB31 hr_31 ah_31 am_31
              refine hK _ _ (fun u => At u (w1.heap.size) 27 #[.int .i64 a0, .int .i64 a1, .int .i64 a2] ∧ At u (w1.heap.size + 1) 25 #[.int .i64 b0, .int .i64 b1] ∧ At u (w4.heap.size) 31 #[.int .i64 0, .int .i64 h0, .int .i64 h1, .int .i64 h2]) (fun _ h => h) ⟨am_32, ah_32, hr_32⟩ ?_
              clear hK K
              (try simp only [Act.put, List.setIfInBounds_toArray, List.set_cons_zero, List.set_cons_succ])
              repeat (first
                | (refine mix_skip (by rfl) ?_
                   (try simp only [Act.put, List.setIfInBounds_toArray, List.set_cons_zero, List.set_cons_succ]))
                | (refine mix_pure (v := ?_) (by rfl) (fun u hu => ?_) ?_
                   rotate_left
                   · obtain ⟨y0, y1, y2⟩ := hu
                     obtain ⟨_, _, _, _, _, _⟩ := y0.three
                     obtain ⟨_, _, _, _⟩ := y1.two
                     obtain ⟨_, _, _, _, _, _, _, _⟩ := y2.four
                     go_simp
                     (with_reducible rfl)
                   (try simp only [Act.put, List.setIfInBounds_toArray, List.set_cons_zero, List.set_cons_succ])))
              refine mix_call (by rfl) (fun K hK => ?_)
              go_simp
              refine (S2 _).mono ?_
              rintro e w33 ⟨rfl, hb33⟩
              have am_33 := am_32.below hb33 am_32.lt
              have ah_33 := ah_32.below hb33 ah_32.lt
              have hr_33 := hr_32.below hb33 hr_32.lt
              have hB33 := hB32.trans (hb33.mono hB32.size)
              clear hb33 hB32 hr_32 ah_32 am_32
              refine hK _ _ (fun u => At u (w1.heap.size) 27 #[.int .i64 a0, .int .i64 a1, .int .i64 a2] ∧ At u (w1.heap.size + 1) 25 #[.int .i64 b0, .int .i64 b1] ∧ At u (w4.heap.size) 31 #[.int .i64 0, .int .i64 h0, .int .i64 h1, .int .i64 h2]) (fun _ h => h) ⟨am_33, ah_33, hr_33⟩ ?_
              clear hK K
              (try simp only [Act.put, List.setIfInBounds_toArray, List.set_cons_zero, List.set_cons_succ])
              repeat (first
                | (refine mix_skip (by rfl) ?_
                   (try simp only [Act.put, List.setIfInBounds_toArray, List.set_cons_zero, List.set_cons_succ]))
                | (refine mix_pure (v := ?_) (by rfl) (fun u hu => ?_) ?_
                   rotate_left
                   · obtain ⟨y0, y1, y2⟩ := hu
                     obtain ⟨_, _, _, _, _, _⟩ := y0.three
                     obtain ⟨_, _, _, _⟩ := y1.two
                     obtain ⟨_, _, _, _, _, _, _, _⟩ := y2.four
                     go_simp
                     (with_reducible rfl)
                   (try simp only [Act.put, List.setIfInBounds_toArray, List.set_cons_zero, List.set_cons_succ])))
              refine mix_call (by rfl) (fun K hK => ?_)
              go_simp
              refine (S3 _).mono ?_
              rintro e w34 ⟨rfl, hb34⟩
              have am_34 := am_33.below hb34 am_33.lt
              have ah_34 := ah_33.below hb34 ah_33.lt
              have hr_34 := hr_33.below hb34 hr_33.lt
              have hB34 := hB33.trans (hb34.mono hB33.size)
              clear hb34 hB33 hr_33 ah_33 am_33
              refine hK _ _ (fun u => At u (w1.heap.size) 27 #[.int .i64 a0, .int .i64 a1, .int .i64 a2] ∧ At u (w1.heap.size + 1) 25 #[.int .i64 b0, .int .i64 b1] ∧ At u (w4.heap.size) 31 #[.int .i64 0, .int .i64 h0, .int .i64 h1, .int .i64 h2]) (fun _ h => h) ⟨am_34, ah_34, hr_34⟩ ?_
              clear hK K
              (try simp only [Act.put, List.setIfInBounds_toArray, List.set_cons_zero, List.set_cons_succ])
              repeat (first
                | (refine mix_skip (by rfl) ?_
                   (try simp only [Act.put, List.setIfInBounds_toArray, List.set_cons_zero, List.set_cons_succ]))
                | (refine mix_pure (v := ?_) (by rfl) (fun u hu => ?_) ?_
                   rotate_left
                   · obtain ⟨y0, y1, y2⟩ := hu
                     obtain ⟨_, _, _, _, _, _⟩ := y0.three
                     obtain ⟨_, _, _, _⟩ := y1.two
                     obtain ⟨_, _, _, _, _, _, _, _⟩ := y2.four
                     go_simp
                     (with_reducible rfl)
                   (try simp only [Act.put, List.setIfInBounds_toArray, List.set_cons_zero, List.set_cons_succ])))
              refine mix_nil ?_
              go_wp2_with fail
              go_meet
              exact ⟨rfl, hB34⟩
            · have hne : (hc == 0) = false := by simpa using hz
              clear hz
              have hb31 : Below w30.heap.size w30 w30.drew := (Below.refl _ _).drew
              have am_31 := am_30.below hb31 am_30.lt
              have ah_31 := ah_30.below hb31 ah_30.lt
              have hr_31 := hr_30.below hb31 hr_30.lt
              have hB31 := HZ.trans (hb31.mono HZ.size)
              clear hb31 HZ hr_30 ah_30 am_30
              refine wp_region_mix [(0, false), (1, false), (2, false), (3, false), (4, false), (5, false), (6, false), (7, false), (8, true), (9, false), (10, false), (11, false), (12, false), (13, false), (14, false), (15, true), (16, false), (17, false), (18, false), (19, false), (20, false), (21, false), (23, false), (22, true), (24, false), (25, false), (26, false)] (fun u => At u (w1.heap.size) 27 #[.int .i64 a0, .int .i64 a1, .int .i64 a2] ∧ At u (w1.heap.size + 1) 25 #[.int .i64 b0, .int .i64 b1] ∧ At u (w4.heap.size) 31 #[.int .i64 hc, .int .i64 h0, .int .i64 h1, .int .i64 h2]) (by kernel_rfl) (by kernel_rfl) (fun _ _ _ _ _ h => h) ⟨am_31, ah_31, hr_31⟩ ?_
              simp only [mixOps, List.map_cons, List.map_nil, List.getElem?_cons_succ, List.getElem?_cons_zero, Option.getD_some]
              repeat (first
                | (refine mix_skip (by rfl) ?_
                   (try simp only [Act.put, List.setIfInBounds_toArray, List.set_cons_zero, List.set_cons_succ]))
                | (refine mix_pure (v := ?_) (by rfl) (fun u hu => ?_) ?_
                   rotate_left
                   · obtain ⟨y0, y1, y2⟩ := hu
                     obtain ⟨_, _, _, _, _, _⟩ := y0.three
                     obtain ⟨_, _, _, _⟩ := y1.two
                     obtain ⟨_, _, _, _, _, _, _, _⟩ := y2.four
                     go_simp
                     (with_reducible rfl)
                   (try simp only [Act.put, List.setIfInBounds_toArray, List.set_cons_zero, List.set_cons_succ])))
              refine mix_nil ?_
              go_wp2_with fail
              go_meet
              exact ⟨rfl, hB31⟩
        case rest =>
          as_aux_lemma =>
            obtain ⟨rfl, hb31⟩ := hcut
            rename World => w31
            have am_31 := am_30.below hb31 am_30.lt
            have ah_31 := ah_30.below hb31 ah_30.lt
            have hr_31 := hr_30.below hb31 hr_30.lt
            have ma_31 := ma_30.below hb31 ma_30.lt
            have ar_31 := ar_30.below hb31 ar_30.lt
            have sr_31 := sr_30.below hb31 sr_30.lt
            have mk_31 := mk_30.below hb31 mk_30.lt
            have rr_31 := rr_30.below hb31 rr_30.lt
            have pp_31 := pp_30.below hb31 pp_30.lt
            have qq_31 := qq_30.below hb31 qq_30.lt
            have hB31 := hB30.trans (hb31.mono hB30.size)
            clear hb31 hB30 qq_30 pp_30 rr_30 mk_30 sr_30 ar_30 ma_30 hr_30 ah_30 am_30
            go_upto_region 17 with fail
            go_cut [188] (fun s wx => s = .bool false ∧ Below w31.heap.size w31 wx)
            case first =>
              as_aux_lemma =>
                have HZ := Below.refl w31.heap.size w31
                by_cases hz : ac = 0
                · subst hz
                  obtain ⟨e1, e2⟩ := age_said HA.out
                  dsimp only at e1 e2
                  have d1 : (g1 != m1) = false := by rw [e1]; simp
                  have d2 : decide (g0 < m0) = false := decide_eq_false (by omega)
                  clear e1 e2
                  by_cases hq : sc = 0
                  · subst hq
                    have e4 := susp_said HS.out
                    dsimp only at e4
                    have d4 : (s0 == 1) = false := by simpa using e4
                    clear e4
                    obtain ⟨ma0, ma1, ma2, _, _, _⟩ := ma_31.three
                    obtain ⟨ar0, ar1, ar2, ar3, _, _, _, _⟩ := ar_31.four
                    obtain ⟨sr0, sr1, sr2, sr3, _, _, _, _⟩ := sr_31.four
                    go_wp2_with fail
                    go_meet
                    exact ⟨rfl, HZ⟩
                  · have d5 : (sc == 0) = false := by simpa using hq
                    clear hq
                    obtain ⟨ma0, ma1, ma2, _, _, _⟩ := ma_31.three
                    obtain ⟨ar0, ar1, ar2, ar3, _, _, _, _⟩ := ar_31.four
                    obtain ⟨sr0, sr1, sr2, sr3, _, _, _, _⟩ := sr_31.four
                    go_wp2_with fail
                    go_meet
                    exact ⟨rfl, HZ⟩
                · have d1 : (ac == 0) = false := by simpa using hz
                  clear hz
                  by_cases hq : sc = 0
                  · subst hq
                    have e4 := susp_said HS.out
                    dsimp only at e4
                    have d4 : (s0 == 1) = false := by simpa using e4
                    clear e4
                    obtain ⟨ma0, ma1, ma2, _, _, _⟩ := ma_31.three
                    obtain ⟨ar0, ar1, ar2, ar3, _, _, _, _⟩ := ar_31.four
                    obtain ⟨sr0, sr1, sr2, sr3, _, _, _, _⟩ := sr_31.four
                    go_wp2_with fail
                    go_meet
                    exact ⟨rfl, HZ⟩
                  · have d5 : (sc == 0) = false := by simpa using hq
                    clear hq
                    obtain ⟨ma0, ma1, ma2, _, _, _⟩ := ma_31.three
                    obtain ⟨ar0, ar1, ar2, ar3, _, _, _, _⟩ := ar_31.four
                    obtain ⟨sr0, sr1, sr2, sr3, _, _, _, _⟩ := sr_31.four
                    go_wp2_with fail
                    go_meet
                    exact ⟨rfl, HZ⟩
            case rest =>
              as_aux_lemma =>
                obtain ⟨rfl, hb32⟩ := hcut
                rename World => w32
                have ma_32 := ma_31.below hb32 ma_31.lt
                have ar_32 := ar_31.below hb32 ar_31.lt
                have sr_32 := sr_31.below hb32 sr_31.lt
                have mk_32 := mk_31.below hb32 mk_31.lt
                have rr_32 := rr_31.below hb32 rr_31.lt
                have hB32 := hB31.trans (hb32.mono hB31.size)
                clear hb32 hB31 rr_31 mk_31 sr_31 ar_31 ma_31
                by_cases hz : rc = 0
                · subst hz
                  have e1 := refute_said HR.out
                  have S1 := fun W => implIsStronger k0 k1 1 rv W
                  by_cases hg : li ≤ rv
                  · have dg : decide (li ≤ rv) = true := decide_eq_true hg
                    rcases hs : strongM (k0, k1) (1, rv)
                    · rw [hs] at S1
                      clear hs e1
                      obtain ⟨mk0, mk1, _, _⟩ := mk_32.two
                      obtain ⟨rr0, rr1, _, _⟩ := rr_32.two
                      go_wp2_with fail
                      refine (S1 _).mono ?_
                      rintro e w33 ⟨rfl, hb33⟩
                      have mk_33 := mk_32.below hb33 mk_32.lt
                      have rr_33 := rr_32.below hb33 rr_32.lt
                      have hB33 := hB32.trans (hb33.mono hB32.size)
                      clear hb33 mk0 mk1 rr0 rr1 hB32 rr_32 mk_32
                      obtain ⟨mk0, mk1, _, _⟩ := mk_33.two
                      obtain ⟨rr0, rr1, _, _⟩ := rr_33.two
                      go_wp2_with fail
                      go_ret
                      exact ⟨rfl, hB33⟩
                    · rw [hs] at S1
                      have hk : k0 = 1 := by rcases e1 with ⟨_, e⟩ | e; rw [hs] at e; exact absurd e (by simp); exact e
                      subst hk
                      clear hs e1
                      obtain ⟨mk0, mk1, _, _⟩ := mk_32.two
                      obtain ⟨rr0, rr1, _, _⟩ := rr_32.two
                      go_wp2_with fail
                      refine (S1 _).mono ?_
                      rintro e w33 ⟨rfl, hb33⟩
                      have mk_33 := mk_32.below hb33 mk_32.lt
                      have rr_33 := rr_32.below hb33 rr_32.lt
                      have hB33 := hB32.trans (hb33.mono hB32.size)
                      clear hb33 mk0 mk1 rr0 rr1 hB32 rr_32 mk_32
                      obtain ⟨mk0, mk1, _, _⟩ := mk_33.two
                      obtain ⟨rr0, rr1, _, _⟩ := rr_33.two
                      go_wp2_with fail
                      go_ret
                      exact ⟨rfl, hB33⟩
                  · have dg : decide (li ≤ rv) = false := decide_eq_false hg
                    have hk : k0 = 1 := by rcases e1 with ⟨e, _⟩ | e; exact absurd e hg; exact e
                    subst hk
                    clear e1
                    obtain ⟨mk0, mk1, _, _⟩ := mk_32.two
                    obtain ⟨rr0, rr1, _, _⟩ := rr_32.two
                    go_wp2_with fail
                    go_ret
                    exact ⟨rfl, hB32⟩
                · have hne : (rc != 0) = true := by rw [bne_iff_ne]; exact hz
                  clear hz
                  obtain ⟨mk0, mk1, _, _⟩ := mk_32.two
                  obtain ⟨rr0, rr1, _, _⟩ := rr_32.two
                  go_wp2_with fail
                  go_ret
                  exact ⟨rfl, hB32⟩
end Go.Proofs.Ytbfjfjocangjeaa
