/-
  Texts of one proof, joined: each has its own namespace.
-/
import Derived.Test.YtjlkmfijkhjjkaaDoorBFnHints3
import Derived.Test.YtjlkmfijkhjjkaaDoorBFnHints2
/-
  The model's functions on hints.
-/
namespace Go.Proofs.YtjlkmfijkhjjkaaDoor
set_option maxRecDepth 20000
open Go.RowKit
set_option linter.unusedSimpArgs false
set_option linter.unusedVariables false

theorem l4Node (p : Int) (w : World) : Calls Tryd.prog 57 #[.int .i64 p] w fun e w' => e = .returned (.bool (inB (p, 0, 3))) ∧ w = w' := by
  go_enter Tryd.func57, Tryd.ntmps57
  go_wp2_with (go_at_call 60; refine (l1In_any p 0 3 _).mono ?_; rintro e w' ⟨rfl, rfl⟩)
  go_ret
  exact ⟨by simp, rfl⟩

def FindRelH (w : World) (l : List Hnt) (p i : Int) (n : Nat) (v : Value) (wr : World) : Prop :=
  ∃ k : Nat, k ≤ n ∧ v = .int .i64 k ∧ (∀ j, j < k → hitH l p i j = false) ∧ wr = w

set_option maxHeartbeats 2000000 in
theorem l4Find (A : Option Addr) (n c : Nat) (l : List Hnt) (p i : Int) (w : World) (ha : Rd eH w w.heap.size A l) (hn : l.length = n) (hm : n ≤ maxLen) :
    Calls Tryd.prog 58 #[.slice A n c, .int .i64 p, .int .i64 i] w fun e w' => e = .returned (.int .i64 (findHI l p i)) ∧ w = w' := by
  have Hn := Lib.hid hn
  clear hn
  unfold maxLen at hm
  go_enter Tryd.func58, Tryd.ntmps58
  go_wp2
  go_loopw [7] (fun v wr => FindRelH w l p i n v wr) (fun v _ => n - (intOf v).toNat)
  case atStart => exact ⟨0, Nat.zero_le _, rfl, fun _ h => absurd h (by omega), rfl⟩
  case round =>
    obtain ⟨k, hk, rfl, hal, rfl⟩ := hrel
    have Hal := Lib.hid hal
    clear hal
    by_cases hlt : k < n
    · obtain ⟨g, o, a0, a1, a2, a3, a4, a5, a6, rfl, hg, hx, ca⟩ := ha.hnt (k := k) (by rw [Hn.out]; exact hlt)
      have Hh := Lib.hid (hitH_at (p := p) (i := i) hx)
      clear hx
      obtain ⟨c0, c1, c2, c3, c4, c5, c6⟩ := ca
      by_cases h0 : a0 = p
      · by_cases h3 : a3 = i
        · have hb0 : (a0 == p) = true := by simpa using h0
          have hb3 : (a3 == i) = true := by simpa using h3
          have Hf := Lib.hid (findHI_some (p := p) (i := i) (by rw [Hn.out]; exact hlt) (by rw [Hh.out]; simp [h0, h3]) Hal.out)
          clear h0 h3
          go_wp2
          go_ret
          exact ⟨by rw [Hf.out]; rfl, by first | rfl | trivial⟩
        · have hb0 : (a0 == p) = true := by simpa using h0
          have hb3 : (a3 == i) = false := by simpa using h3
          have Hs := Lib.hid (show hitH l p i k = false by rw [Hh.out]; simp [h3])
          clear h0 h3
          go_wp2
          refine ⟨⟨k + 1, by omega, by go_num, fun j hj => ?_, by first | rfl | trivial⟩, by simp [intOf]; omega⟩
          rcases Nat.lt_or_ge j k with h | h
          · exact Hal.out j h
          · obtain rfl : j = k := by omega
            exact Hs.out
      · have hb0 : (a0 == p) = false := by simpa using h0
        have Hs := Lib.hid (show hitH l p i k = false by rw [Hh.out]; simp [h0])
        clear h0
        go_wp2
        refine ⟨⟨k + 1, by omega, by go_num, fun j hj => ?_, by first | rfl | trivial⟩, by simp [intOf]; omega⟩
        rcases Nat.lt_or_ge j k with h | h
        · exact Hal.out j h
        · obtain rfl : j = k := by omega
          exact Hs.out
    · obtain rfl : n = k := by omega
      have Hf := Lib.hid (findHI_none Hn.out Hal.out)
      go_wp2
      go_ret
      exact ⟨by rw [Hf.out]; rfl, by first | rfl | trivial⟩

def RightRelH (w : World) (l : List Hnt) (n : Nat) (i : Value) (wr : World) : Prop :=
  ∃ k : Nat, k ≤ n ∧ i = .int .i64 k ∧ (∀ j x, j < k → l[j]? = some x → hfaultM x = 0) ∧ Below w.heap.size w wr
def DisRel (w : World) (l : List Hnt) (n : Nat) (i : Value) (wr : World) : Prop :=
  ∃ k : Nat, k ≤ n ∧ i = .int .i64 k ∧ (∀ j x, j < k → l[j]? = some x → findHI l x.1 (idH x) = (j : Int)) ∧ Below w.heap.size w wr

set_option maxHeartbeats 4000000 in
theorem specHintsFault (A : Option Addr) (n c : Nat) (l : List Hnt) (w : World) (ha : Rd eH w w.heap.size A l) (hn : l.length = n) :
    Calls Tryd.prog 29 #[.slice A n c] w fun e w' => e = .returned (.int .i64 (hintsFaultM l)) ∧ Below w.heap.size w w' := by
  by_cases hbig : 8 < n
  · have hb : (8 : Int) < (n : Int) := by omega
    rw [hintsFault_many (by omega)]
    go_enter Tryd.func29, Tryd.ntmps29
    go_wp2
    go_ret
    exact ⟨rfl, Below.refl _ _⟩
  have hb : (n : Int) ≤ 8 := by omega
  have Hbig := Lib.hid (show ¬ 8 < l.length by omega)
  have Hn := Lib.hid hn
  clear hn hbig
  go_enter Tryd.func29, Tryd.ntmps29
  go_wp2
  go_loopw [3] (fun i wr => RightRelH w l n i wr) (fun i _ => n - (intOf i).toNat)
  case atStart => exact ⟨0, Nat.zero_le _, rfl, fun _ _ h => absurd h (by omega), Below.refl _ _⟩
  case round =>
    obtain ⟨k, hk, rfl, hal, hbel⟩ := hrel
    have Hal := Lib.hid hal
    clear hal
    by_cases hlt : k < n
    · obtain ⟨g, o, a0, a1, a2, a3, a4, a5, a6, rfl, hg, hx, ca⟩ := (ha.below hbel (Nat.le_refl _)).hnt (k := k) (by rw [Hn.out]; exact hlt)
      have Ca := Lib.hid ca
      obtain ⟨c0, c1, c2, c3, c4, c5, c6⟩ := ca
      rcases faultM_or (a1, a2, a3, a4) with hf | hf
      · have hq := specSampleFault a1 a2 a3 a4 wr
        rw [hf] at hq
        have Hx := Lib.hid hx
        have Hf := Lib.hid hf
        clear hx hf
        go_wp2_with fail
        refine hq.mono ?_
        rintro e w2 ⟨rfl, hb2⟩
        have hB2 := hbel.trans (hb2.mono hbel.size)
        clear c0 c1 c2 c3 c4 c5 c6
        obtain ⟨c0, c1, c2, c3, c4, c5, c6⟩ := Ca.out.below hb2 (Nat.lt_of_lt_of_le hg hbel.size)
        rcases h0 : inB (a0, 0, 3)
        · have Hr := Lib.hid (hintsFault_wrong Hbig.out Hx.out (hfault_no Hf.out (by unfold rangeH; simp [h0])))
          go_wp2_with (first | (go_at_call 57; refine (l4Node _ _).mono ?_; rintro e w8 ⟨rfl, rfl⟩) | (go_at_call 60; refine (l1In_any _ _ _ _).mono ?_; rintro e w9 ⟨rfl, rfl⟩))
          go_ret
          exact ⟨by rw [Hr.out]; rfl, hB2⟩
        rcases h5 : inB (a5, 0, 4)
        · have Hr := Lib.hid (hintsFault_wrong Hbig.out Hx.out (hfault_no Hf.out (by unfold rangeH; simp [h5])))
          go_wp2_with (first | (go_at_call 57; refine (l4Node _ _).mono ?_; rintro e w8 ⟨rfl, rfl⟩) | (go_at_call 60; refine (l1In_any _ _ _ _).mono ?_; rintro e w9 ⟨rfl, rfl⟩))
          go_ret
          exact ⟨by rw [Hr.out]; rfl, hB2⟩
        rcases h6 : inB (a6, 0, 200000)
        · have Hr := Lib.hid (hintsFault_wrong Hbig.out Hx.out (hfault_no Hf.out (by unfold rangeH; simp [h6])))
          go_wp2_with (first | (go_at_call 57; refine (l4Node _ _).mono ?_; rintro e w8 ⟨rfl, rfl⟩) | (go_at_call 60; refine (l1In_any _ _ _ _).mono ?_; rintro e w9 ⟨rfl, rfl⟩))
          go_ret
          exact ⟨by rw [Hr.out]; rfl, hB2⟩
        have Hr := Lib.hid (hfault_yes (h := (a0, (a1, a2, a3, a4), a5, a6)) Hf.out (by unfold rangeH; simp [h0, h5, h6]))
        go_wp2_with (first | (go_at_call 57; refine (l4Node _ _).mono ?_; rintro e w8 ⟨rfl, rfl⟩) | (go_at_call 60; refine (l1In_any _ _ _ _).mono ?_; rintro e w9 ⟨rfl, rfl⟩))
        refine ⟨⟨k + 1, by omega, by go_num, fun j x hj hx => ?_, hB2⟩, by simp [intOf]; omega⟩
        rcases Nat.lt_or_ge j k with h | h
        · exact Hal.out j x h hx
        · obtain rfl : j = k := by omega
          obtain rfl := Option.some.inj (Hx.out.symm.trans hx)
          exact Hr.out
      · have hq := specSampleFault a1 a2 a3 a4 wr
        rw [hf] at hq
        have Hr := Lib.hid (hintsFault_wrong Hbig.out hx (hfault_smp (h := (a0, (a1, a2, a3, a4), a5, a6)) hf))
        clear hx hf
        go_wp2_with fail
        refine hq.mono ?_
        rintro e w2 ⟨rfl, hb2⟩
        have hB2 := hbel.trans (hb2.mono hbel.size)
        go_wp2
        go_ret
        exact ⟨by rw [Hr.out]; rfl, hB2⟩
    · obtain rfl : n = k := by omega
      have Hright := Lib.hid (rightHM_of Hn.out Hal.out)
      clear Hal
      go_wp2
      go_loopw [6] (fun i wr => DisRel w l n i wr) (fun i _ => n - (intOf i).toNat)
      case atStart => exact ⟨0, Nat.zero_le _, rfl, fun _ _ h => absurd h (by omega), hbel⟩
      case round =>
        obtain ⟨k, hk, rfl, hal, hbel⟩ := hrel
        have Hal := Lib.hid hal
        clear hal
        by_cases hlt : k < n
        · obtain ⟨g, o, a0, a1, a2, a3, a4, a5, a6, rfl, hg, hx, ca⟩ := (ha.below hbel (Nat.le_refl _)).hnt (k := k) (by rw [Hn.out]; exact hlt)
          have Hx := Lib.hid hx
          clear hx
          have hbd := hbel.drew
          have had := ha.lift hbd
          have hF := l4Find (some ⟨g, o, none⟩) n c l a0 a3 _ had Hn.out (by unfold maxLen; omega)
          obtain ⟨f, hf⟩ : ∃ f, findHI l a0 a3 = f := ⟨_, rfl⟩
          rw [hf] at hF
          have Hf := Lib.hid hf
          clear hf had
          go_wp2
          refine wp_region_mix [(0, false), (1, false), (2, false), (3, false), (4, false), (5, false), (6, false), (7, false), (8, false), (9, false), (10, false), (11, false), (13, false), (12, true), (14, false)] (fun u => S7 u g (o + k * 7) a0 a1 a2 a3 a4 a5 a6) (by kernel_rfl) (by kernel_rfl) (fun _ _ _ _ _ h => h) ca.drew ?_
          simp only [mixOps, List.map_cons, List.map_nil, List.getElem?_cons_succ, List.getElem?_cons_zero, Option.getD_some]
          iterate 13 (
            refine mix_pure (v := ?_) (by rfl) (fun u hu => ?_) ?_
            rotate_left
            · obtain ⟨_, _, _, _, _, _, _⟩ := hu
              go_simp
              (with_reducible rfl)
            (try simp only [Act.put, List.setIfInBounds_toArray, List.set_cons_zero, List.set_cons_succ]))
          refine mix_call (by rfl) (fun K hK => ?_)
          go_simp
          refine hF.mono ?_
          rintro e w1 ⟨rfl, rfl⟩
          refine hK _ _ _ (fun _ h => h) ca.drew ?_
          (try simp only [Act.put, List.setIfInBounds_toArray, List.set_cons_zero, List.set_cons_succ])
          by_cases hfk : f = (k : Int)
          · have hne : (f != (k : Int)) = false := by simpa using hfk
            have Hfk := Lib.hid hfk
            clear hfk
            iterate 1 (
              refine mix_pure (v := ?_) (by rfl) (fun u hu => ?_) ?_
              rotate_left
              · skip
                go_simp
                (with_reducible rfl)
              (try simp only [Act.put, List.setIfInBounds_toArray, List.set_cons_zero, List.set_cons_succ]))
            refine mix_nil ?_
            go_wp2
            refine ⟨⟨k + 1, by omega, by go_num, fun j x hj hx => ?_, hbd⟩, by simp [intOf]; omega⟩
            rcases Nat.lt_or_ge j k with h | h
            · exact Hal.out j x h hx
            · obtain rfl : j = k := by omega
              obtain rfl := Option.some.inj (Hx.out.symm.trans hx)
              exact Hf.out.trans Hfk.out
          · have hne : (f != (k : Int)) = true := by rw [bne_iff_ne]; exact hfk
            have Hr := Lib.hid (hintsFault_taken Hbig.out Hright.out (fun hd => hfk (Hf.out.symm.trans (findHI_self hd Hx.out))))
            clear hfk
            iterate 1 (
              refine mix_pure (v := ?_) (by rfl) (fun u hu => ?_) ?_
              rotate_left
              · skip
                go_simp
                (with_reducible rfl)
              (try simp only [Act.put, List.setIfInBounds_toArray, List.set_cons_zero, List.set_cons_succ]))
            refine mix_nil ?_
            go_wp2
            go_ret
            exact ⟨by rw [Hr.out]; rfl, hbd⟩
        · obtain rfl : n = k := by omega
          have Hr := Lib.hid (hintsFault_ok Hbig.out Hright.out (dis_of fun j x hx => Hal.out j x (by have := getElem?_some_lt hx; have := Hn.out; omega) hx))
          go_wp2
          go_ret
          exact ⟨by rw [Hr.out]; rfl, hbel⟩

theorem l1Min (a b : Int) (w : World) : Calls Tryd.prog 62 #[.int .i64 a, .int .i64 b] w fun e w' => e = .returned (.int .i64 (if a < b then a else b)) ∧ w = w' := by
  by_cases h : a < b
  · rw [if_pos h]
    go_enter Tryd.func62, Tryd.ntmps62
    go_wp2
    go_ret
    exact ⟨rfl, rfl⟩
  · rw [if_neg h]
    go_enter Tryd.func62, Tryd.ntmps62
    go_wp2
    go_ret
    exact ⟨rfl, rfl⟩

set_option maxHeartbeats 1000000 in
theorem l4Copy (A : Option Addr) (n c : Nat) (l : List Hnt) (w : World) (ha : Rd eH w w.heap.size A l) (hn : l.length = n) (hm : n ≤ 1048576) :
    Calls Tryd.prog 55 #[.slice A n c] w fun e w' => ∃ A' c', e = .returned (.slice A' n c') ∧ Ow eH w' w.heap.size A' n c' l ∧ Below w.heap.size w w' := by
  have Hn := Lib.hid hn
  clear hn
  have B1 := (Below.refl w.heap.size w).alloc (Nat.le_refl _) (.cells #[] 50)
  have a1 := ha.lift B1
  have o1 : Ow eH (w.alloc (.cells #[] 50)) w.heap.size (some ⟨w.heap.size, 0, none⟩) 0 0 [] := Ow.lit w [] #[] 0 (Nat.le_refl _) (by unfold maxLen; omega) rfl rfl
  go_enter Tryd.func55, Tryd.ntmps55
  go_wp2_with (at_builtin; refine wpList_append_ow okH _ rfl (.tmp 3) (.tmp 4) _ rfl w.heap.size info_hnt Tryd.underlying24 rfl (some ⟨w.heap.size, 0, none⟩) 0 0 [] rfl o1 A n c _ l rfl a1 Hn.out (by unfold maxLen; omega) (by omega) (by simp) ?_; intro A2 c2 w2 ow2 hg2 _)
  have B2 : Below w.heap.size w w2 := B1.grown hg2 (by simp) (fun g hg => by simp at hg; omega)
  rw [Nat.zero_add, List.nil_append] at ow2
  go_ret
  refine ⟨A2, c2, ?_, ow2, B2⟩
  simp
end Go.Proofs.YtjlkmfijkhjjkaaDoor
/-
  Rows of hints that are drawn, and some that have faults.
-/
namespace Go.Proofs.YtjlkmfijkhjjkaaDoor
set_option maxRecDepth 20000
open Go.RowKit
set_option linter.unusedSimpArgs false
set_option linter.unusedVariables false

def DrawHRel (base g : Nat) (A : Option Addr) (m c k : Nat) (l : List UInt8) (n : Nat) (w : World) (out vn : Value) (wr : World) : Prop :=
  ∃ (j : Nat) (A' : Option Addr) (L c' : Nat) (xs : List Hnt), j ≤ n ∧ vn = .int .i64 ((n : Int) - (j : Int)) ∧ out = .slice A' L c' ∧ L ≤ 8 ∧ Ow eH wr w.heap.size A' L c' xs ∧ Src wr base g A m c (k + 1 + 7 * j) l ∧ Within g (g + 1) w wr

set_option maxHeartbeats 4000000 in
theorem l4Draw (w : World) (base g : Nat) (A : Option Addr) (m c k : Nat) (l : List UInt8) (h : Src w base g A m c k l) (hk : k < 700000000) :
    Calls Tryd.prog 54 #[.pointer (some ⟨g, 0, none⟩)] w fun e w' => ∃ (k' : Nat) (A' : Option Addr) (L c' : Nat) (xs : List Hnt), e = .returned (.slice A' L c') ∧ L ≤ 8 ∧ Ow eH w' w.heap.size A' L c' xs ∧ k' ≤ k + 80 ∧ Src w' base g A m c k' l ∧ Within g (g + 1) w w' := by
  have hgl := h.at_.lt
  go_enter Tryd.func54, Tryd.ntmps54
  go_wp2_with fail
  refine (l1Next _ base g A m c k l 10 (h.alloc _) (by omega) (by omega)).mono ?_
  rintro e w1 ⟨r, rfl, hr, -, s1, hw1, -⟩
  obtain ⟨hr0, hr1⟩ := hr (by omega)
  obtain ⟨n, rfl⟩ := Int.eq_ofNat_of_zero_le hr0
  have hn : n < 10 := by omega
  have hwi0 := ((Within.refl g (g + 1) w).alloc (.cells #[] 50)).trans hw1
  have how00 : Ow eH (w.alloc (.cells #[] 50)) w.heap.size (some ⟨w.heap.size, 0, none⟩) 0 0 [] := Ow.lit (E := eH) w [] #[] 0 (Nat.le_refl _) (by unfold maxLen; omega) rfl rfl
  have how0 := how00.within hw1 how00.lt (.inr hgl)
  clear how00 hr hr0 hr1
  go_wp2_with fail
  have g1 := s1.at_.lt
  go_loopw [3, 4] (fun out vn wr => DrawHRel base g A m c k l n w out vn wr) (fun _ vn _ => (intOf vn).toNat)
  case atStart => exact ⟨0, _, 0, 0, [], Nat.zero_le _, by simp, rfl, by omega, how0, s1, hwi0⟩
  case round =>
    obtain ⟨j, A1, L, c1, xs, hj, rfl, rfl, hL, how, hsrc, hwi⟩ := hrel
    have Hs := Lib.hid hsrc
    by_cases hlt : j < n
    · go_wp2_with fail
      refine (l1Next _ base g A m c _ l 4 hsrc (by omega) (by omega)).mono ?_
      rintro e w2 ⟨y0, rfl, -, -, s2, hw2, -⟩
      have ow2 := how.within hw2 how.lt (.inr hgl)
      have wi2 := hwi.trans hw2
      go_wp2_with fail
      refine (l2Draw _ base g A m c _ l s2 (by omega)).mono ?_
      rintro e w3 ⟨n0, n1, n2, n3, rfl, -, -, -, -, s3, hw3⟩
      have ow3 := ow2.within hw3 ow2.lt (.inr hgl)
      have wi3 := wi2.trans hw3
      generalize ((n3 : Int) - 1000) = y4 at *
      generalize (n0 : Int) = y1 at *
      generalize (n1 : Int) = y2 at *
      generalize (n2 : Int) = y3 at *
      go_wp2_with fail
      refine (l1Next _ base g A m c _ l 5 s3 (by omega) (by omega)).mono ?_
      rintro e w4 ⟨y5, rfl, -, -, s4, hw4, -⟩
      have ow4 := ow3.within hw4 ow3.lt (.inr hgl)
      have wi4 := wi3.trans hw4
      have g4 := s4.at_.lt
      go_wp2_with fail
      refine (l1Pick (w4.alloc (.cells #[.int .i64 0, .int .i64 5, .int .i64 7, .int .i64 100] 2)) _ _ A m c _ l w4.heap.size #[.int .i64 0, .int .i64 5, .int .i64 7, .int .i64 100] [0, 5, 7, 100] 4 4 (s4.alloc _) (by omega) (At.newAt (by first | rfl | simp)) (by simp [intCells]) (by omega) rfl (by omega) (by omega)).mono ?_
      rintro e w5 ⟨v5, hv5, rfl, s5, hw5, -⟩
      have g5 := s5.at_.lt
      have ow5' := ow4.alloc (.cells #[.int .i64 0, .int .i64 5, .int .i64 7, .int .i64 100] 2)
      have ow5 := ow5'.within hw5 ow5'.lt (.inr hgl)
      have wi5 := (wi4.alloc (.cells #[.int .i64 0, .int .i64 5, .int .i64 7, .int .i64 100] 2)).trans hw5
      obtain ⟨y6, hy6⟩ : ∃ y, v5 = y := ⟨_, rfl⟩
      subst hy6
      clear hv5 ow5'
      generalize v5 = y6 at *
      have hat := At.new w5 50 #[.int .i64 y0, .int .i64 y1, .int .i64 y2, .int .i64 y3, .int .i64 y4, .int .i64 y5, .int .i64 y6]
      have ow6 := ow5.alloc (.cells #[.int .i64 y0, .int .i64 y1, .int .i64 y2, .int .i64 y3, .int .i64 y4, .int .i64 y5, .int .i64 y6] 50)
      have wi6 := wi5.alloc (.cells #[.int .i64 y0, .int .i64 y1, .int .i64 y2, .int .i64 y3, .int .i64 y4, .int .i64 y5, .int .i64 y6] 50)
      have s6 := s5.alloc (.cells #[.int .i64 y0, .int .i64 y1, .int .i64 y2, .int .i64 y3, .int .i64 y4, .int .i64 y5, .int .i64 y6] 50)
      have hl6 := ow6.len okH
      have hfi := l4Find A1 L c1 xs y0 y3 _ (ow6.rd okH) hl6 (by unfold maxLen; omega)
      have hkk : k + 1 + 7 * j + 1 + 4 + 1 + 1 = k + 1 + 7 * (j + 1) := by omega
      rw [hkk] at s6
      have S6 := Lib.hid s6
      clear s2 s3 s4 s5 s6 hw2 hw3 hw4 hw5 how hwi hsrc ow2 ow3 ow4 ow5 wi2 wi3 wi4
      obtain ⟨f, hf⟩ : ∃ f, findHI xs y0 y3 = f := ⟨_, rfl⟩
      rw [hf] at hfi
      clear hf
      by_cases hneg : f < 0
      · by_cases h8 : L < 8
        · have h8i : (L : Int) < 8 := by omega
          have ob : Rd eH ((w5.alloc (.cells #[.int .i64 y0, .int .i64 y1, .int .i64 y2, .int .i64 y3, .int .i64 y4, .int .i64 y5, .int .i64 y6] 50)).alloc (.cells #[.int .i64 y0, .int .i64 y1, .int .i64 y2, .int .i64 y3, .int .i64 y4, .int .i64 y5, .int .i64 y6] 50)) (w5.heap.size + 1 + 1) (some ⟨w5.heap.size + 1, 0, none⟩) [(y0, (y1, y2, y3, y4), y5, y6)] := by
            have := rd_lit okH (w5.alloc (.cells #[.int .i64 y0, .int .i64 y1, .int .i64 y2, .int .i64 y3, .int .i64 y4, .int .i64 y5, .int .i64 y6] 50)) 50 [(y0, (y1, y2, y3, y4), y5, y6)] #[.int .i64 y0, .int .i64 y1, .int .i64 y2, .int .i64 y3, .int .i64 y4, .int .i64 y5, .int .i64 y6] rfl
            simpa using this
          have ow7 := ow6.alloc (.cells #[.int .i64 y0, .int .i64 y1, .int .i64 y2, .int .i64 y3, .int .i64 y4, .int .i64 y5, .int .i64 y6] 50)
          have wi7 := wi6.alloc (.cells #[.int .i64 y0, .int .i64 y1, .int .i64 y2, .int .i64 y3, .int .i64 y4, .int .i64 y5, .int .i64 y6] 50)
          have s7 := S6.out.alloc (.cells #[.int .i64 y0, .int .i64 y1, .int .i64 y2, .int .i64 y3, .int .i64 y4, .int .i64 y5, .int .i64 y6] 50)
          have S7' := Lib.hid s7
          clear s7
          have hr5 : ∀ x, A1.map (·.block) = some x → w.heap.size ≤ x := fun x hx => (ow6.lt x hx).1
          go_wp2_with fail
          refine hfi.mono ?_
          rintro e w99 ⟨rfl, rfl⟩
          go_wp2_with (at_builtin; refine wpList_append_ow okH _ rfl (.tmp 36) (.tmp 38) _ rfl w.heap.size info_hnt Tryd.underlying24 rfl A1 L c1 xs rfl ow7 _ 1 1 _ [(y0, (y1, y2, y3, y4), y5, y6)] rfl ob rfl (by unfold maxLen; omega) (by omega) wi7.size ?_; intro A5 c5 w8 ow8 hg8 _)
          exact ⟨⟨j + 1, A5, L + 1, c5, _, by omega, by go_num, rfl, by omega, ow8, S7'.out.grown hg8 (fun x hx => Nat.lt_of_lt_of_le hgl (hr5 x hx)), wi7.push hg8 hr5⟩, by simp [intOf]; omega⟩
        · have h8i : ¬ (L : Int) < 8 := by omega
          go_wp2_with fail
          refine hfi.mono ?_
          rintro e w99 ⟨rfl, rfl⟩
          go_wp2
          exact ⟨⟨j + 1, A1, L, c1, xs, by omega, by go_num, rfl, by omega, ow6, S6.out, wi6⟩, by simp [intOf]; omega⟩
      · go_wp2_with fail
        refine hfi.mono ?_
        rintro e w99 ⟨rfl, rfl⟩
        go_wp2
        exact ⟨⟨j + 1, A1, L, c1, xs, by omega, by go_num, rfl, by omega, ow6, S6.out, wi6⟩, by simp [intOf]; omega⟩
    · obtain rfl : n = j := by omega
      go_wp2
      go_ret
      exact ⟨_, A1, L, c1, xs, rfl, by omega, how, by omega, Hs.out, hwi⟩

set_option maxHeartbeats 8000000 in
theorem l4Bent (w : World) (base g : Nat) (A : Option Addr) (m c k : Nat) (l : List UInt8) (h : Src w base g A m c k l) (hk : k < 600000000) :
    Calls Tryd.prog 39 #[.pointer (some ⟨g, 0, none⟩)] w fun e w' => ∃ (k' : Nat) (A' : Option Addr) (L c' : Nat) (xs : List Hnt), e = .returned (.slice A' L c') ∧ L ≤ 16 ∧ Ow eH w' w.heap.size A' L c' xs ∧ k' ≤ k + 100 ∧ Src w' base g A m c k' l ∧ Within g (g + 1) w w' := by
  have hgl := h.at_.lt
  go_enter Tryd.func39, Tryd.ntmps39
  go_wp2_with fail
  refine (l4Draw w base g A m c k l h (by omega)).mono ?_
  rintro e w1 ⟨k1, A1, L1, c1, xs, rfl, hL, ow1, hk1, s1, wi1⟩
  have g1 := s1.at_.lt
  have hl1 := ow1.len okH
  by_cases h0 : 0 < L1
  rotate_left
  · have h0i : ¬ (0 : Int) < (L1 : Int) := by omega
    go_wp2_with fail
    go_ret
    first | exact ⟨k1, A1, L1, c1, xs, rfl, by omega, ow1, by omega, s1, wi1⟩ | exact ⟨k1, A1, L1, c1, rfl, by omega, ⟨xs, ow1⟩, by omega, s1, wi1⟩
  have h0i : (0 : Int) < (L1 : Int) := by omega
  obtain ⟨gO, rfl, hgO, hgO'⟩ := ow1.form h0
  go_wp2_with fail
  refine (l1Next _ base g A m c k1 l (L1 : Int) s1 (by omega) (by omega)).mono ?_
  rintro e w2 ⟨r2, rfl, hr2, -, s2, hw2, -⟩
  obtain ⟨hr20, hr21⟩ := hr2 (by omega)
  obtain ⟨q, rfl⟩ := Int.eq_ofNat_of_zero_le hr20
  have hq : q < L1 := by omega
  have ow2 := ow1.within hw2 ow1.lt (.inr hgl)
  have wi2 := wi1.trans hw2
  have g2 := s2.at_.lt
  have hqi : (q : Int) < (L1 : Int) := by omega
  have hqn : (0 : Int) ≤ (q : Int) := by omega
  clear hr2 hr20 hr21
  go_wp2_with fail
  refine (l1Next _ base g A m c _ l 18 s2 (by omega) (by omega)).mono ?_
  rintro e w3 ⟨r, rfl, hr, -, s3, hw3, -⟩
  obtain ⟨hr0, hr1⟩ := hr (by omega)
  have ow3 := ow2.within hw3 ow2.lt (.inr hgl)
  have wi3 := wi2.trans hw3
  have g3 := s3.at_.lt
  have z3 := wi3.size
  have hgs : gO < w3.heap.size := (ow3.lt gO rfl).2
  clear hr ow1 ow2 s1 s2 hw2 hw3 wi1 wi2
  obtain ⟨⟨a0, ⟨a1, a2, a3, a4⟩, a5, a6⟩, hx⟩ : ∃ x, xs[q]? = some x := ⟨xs[q], List.getElem?_eq_getElem (by omega)⟩
  have Hx := Lib.hid hx
  clear hx
  rcases (show r = 0 ∨ r = 1 ∨ r = 2 ∨ r = 3 ∨ r = 4 ∨ 5 ≤ r by omega) with rfl | rfl | rfl | rfl | rfl | hr5
  · go_wp2_with fail
    refine (l1Pick (w3.alloc (.cells #[.int .i64 (-1), .int .i64 4] 2)) _ _ A m c _ l w3.heap.size #[.int .i64 (-1), .int .i64 4] [(-1), 4] 2 2 (s3.alloc _) (by omega) (At.newAt (by first | rfl | simp)) (by simp [intCells]) (by omega) rfl (by omega) (by omega)).mono ?_
    rintro e w4 ⟨v4, hv4, rfl, s4, hw4, -⟩
    have g4 := s4.at_.lt
    have ow4' := ow3.alloc (.cells #[.int .i64 (-1), .int .i64 4] 2)
    have ow4 := ow4'.within hw4 ow4'.lt (.inr hgl)
    have wi4 := (wi3.alloc (.cells #[.int .i64 (-1), .int .i64 4] 2)).trans hw4
    clear hv4 ow4'
    obtain ⟨d0, d1, d2, d3, d4, d5, d6⟩ := ow4.hntAt Hx.out
    have fz := ow4.frozenAt (q * 7)
    have hp := ow4.hntPut (j := 0) (y := (v4, (a1, a2, a3, a4), a5, a6)) (u := .int .i64 v4) Hx.out (by omega) rfl
    have Hp := Lib.hid hp.1
    have s5 := s4.grown hp.2 (fun x hx => by cases hx; omega)
    have wi5 := wi4.push hp.2 (fun x hx => by cases hx; exact hgO)
    have S5 := Lib.hid s5
    have W5 := Lib.hid wi5
    clear hp s5 wi5
    go_wp2_with fail
    go_ret
    first | exact ⟨_, some ⟨gO, 0, none⟩, L1, c1, _, rfl, by omega, Hp.out, by omega, S5.out, W5.out⟩ | exact ⟨_, some ⟨gO, 0, none⟩, L1, c1, rfl, by omega, ⟨_, Hp.out⟩, by omega, S5.out, W5.out⟩
  · go_wp2_with fail
    refine (l1Pick (w3.alloc (.cells #[.int .i64 (-1), .int .i64 5] 2)) _ _ A m c _ l w3.heap.size #[.int .i64 (-1), .int .i64 5] [(-1), 5] 2 2 (s3.alloc _) (by omega) (At.newAt (by first | rfl | simp)) (by simp [intCells]) (by omega) rfl (by omega) (by omega)).mono ?_
    rintro e w4 ⟨v4, hv4, rfl, s4, hw4, -⟩
    have g4 := s4.at_.lt
    have ow4' := ow3.alloc (.cells #[.int .i64 (-1), .int .i64 5] 2)
    have ow4 := ow4'.within hw4 ow4'.lt (.inr hgl)
    have wi4 := (wi3.alloc (.cells #[.int .i64 (-1), .int .i64 5] 2)).trans hw4
    clear hv4 ow4'
    obtain ⟨d0, d1, d2, d3, d4, d5, d6⟩ := ow4.hntAt Hx.out
    have fz := ow4.frozenAt (q * 7 + 5)
    have hp := ow4.hntPut (j := 5) (y := (a0, (a1, a2, a3, a4), v4, a6)) (u := .int .i64 v4) Hx.out (by omega) rfl
    have Hp := Lib.hid hp.1
    have s5 := s4.grown hp.2 (fun x hx => by cases hx; omega)
    have wi5 := wi4.push hp.2 (fun x hx => by cases hx; exact hgO)
    have S5 := Lib.hid s5
    have W5 := Lib.hid wi5
    clear hp s5 wi5
    go_wp2_with fail
    go_ret
    first | exact ⟨_, some ⟨gO, 0, none⟩, L1, c1, _, rfl, by omega, Hp.out, by omega, S5.out, W5.out⟩ | exact ⟨_, some ⟨gO, 0, none⟩, L1, c1, rfl, by omega, ⟨_, Hp.out⟩, by omega, S5.out, W5.out⟩
  · go_wp2_with fail
    refine (l1Pick (w3.alloc (.cells #[.int .i64 (-1), .int .i64 200000, .int .i64 200001] 2)) _ _ A m c _ l w3.heap.size #[.int .i64 (-1), .int .i64 200000, .int .i64 200001] [(-1), 200000, 200001] 3 3 (s3.alloc _) (by omega) (At.newAt (by first | rfl | simp)) (by simp [intCells]) (by omega) rfl (by omega) (by omega)).mono ?_
    rintro e w4 ⟨v4, hv4, rfl, s4, hw4, -⟩
    have g4 := s4.at_.lt
    have ow4' := ow3.alloc (.cells #[.int .i64 (-1), .int .i64 200000, .int .i64 200001] 2)
    have ow4 := ow4'.within hw4 ow4'.lt (.inr hgl)
    have wi4 := (wi3.alloc (.cells #[.int .i64 (-1), .int .i64 200000, .int .i64 200001] 2)).trans hw4
    clear hv4 ow4'
    obtain ⟨d0, d1, d2, d3, d4, d5, d6⟩ := ow4.hntAt Hx.out
    have fz := ow4.frozenAt (q * 7 + 6)
    have hp := ow4.hntPut (j := 6) (y := (a0, (a1, a2, a3, a4), a5, v4)) (u := .int .i64 v4) Hx.out (by omega) rfl
    have Hp := Lib.hid hp.1
    have s5 := s4.grown hp.2 (fun x hx => by cases hx; omega)
    have wi5 := wi4.push hp.2 (fun x hx => by cases hx; exact hgO)
    have S5 := Lib.hid s5
    have W5 := Lib.hid wi5
    clear hp s5 wi5
    go_wp2_with fail
    go_ret
    first | exact ⟨_, some ⟨gO, 0, none⟩, L1, c1, _, rfl, by omega, Hp.out, by omega, S5.out, W5.out⟩ | exact ⟨_, some ⟨gO, 0, none⟩, L1, c1, rfl, by omega, ⟨_, Hp.out⟩, by omega, S5.out, W5.out⟩
  · go_wp2_with fail
    refine (l2Bent _ base g A m c _ l s3 (by omega)).mono ?_
    rintro e w4 ⟨b1, b2, b3, b4, rfl, ⟨k4, hk4, s4⟩, hw4⟩
    have ow4 := ow3.within hw4 ow3.lt (.inr hgl)
    have wi4 := wi3.trans hw4
    obtain ⟨d0, d1, d2, d3, d4, d5, d6⟩ := ow4.hntAt Hx.out
    have fz1 := ow4.frozenAt (q * 7 + 1)
    have fz2 := ow4.frozenAt (q * 7 + 2)
    have fz3 := ow4.frozenAt (q * 7 + 3)
    have fz4 := ow4.frozenAt (q * 7 + 4)
    have lx : q < xs.length := by omega
    have p1 := ow4.hntPut (j := 1) (y := (a0, (b1, a2, a3, a4), a5, a6)) (u := .int .i64 b1) Hx.out (by omega) rfl
    have p2 := p1.1.hntPut (j := 2) (x := (a0, (b1, a2, a3, a4), a5, a6)) (y := (a0, (b1, b2, a3, a4), a5, a6)) (u := .int .i64 b2) (by rw [List.getElem?_set_self lx]) (by omega) rfl
    rw [List.set_set] at p2
    have p3 := p2.1.hntPut (j := 3) (x := (a0, (b1, b2, a3, a4), a5, a6)) (y := (a0, (b1, b2, b3, a4), a5, a6)) (u := .int .i64 b3) (by rw [List.getElem?_set_self lx]) (by omega) rfl
    rw [List.set_set] at p3
    have p4 := p3.1.hntPut (j := 4) (x := (a0, (b1, b2, b3, a4), a5, a6)) (y := (a0, (b1, b2, b3, b4), a5, a6)) (u := .int .i64 b4) (by rw [List.getElem?_set_self lx]) (by omega) rfl
    rw [List.set_set] at p4
    have hg := grown_trans (grown_trans (grown_trans p1.2 p2.2) p3.2) p4.2
    have Hp := Lib.hid p4.1
    have S5 := Lib.hid (s4.grown hg (fun x hx => by cases hx; omega))
    have W5 := Lib.hid (wi4.push hg (fun x hx => by cases hx; exact hgO))
    clear p1 p2 p3 p4 hg
    go_wp2_with fail
    go_ret
    first | exact ⟨_, some ⟨gO, 0, none⟩, L1, c1, _, rfl, by omega, Hp.out, by omega, S5.out, W5.out⟩ | exact ⟨_, some ⟨gO, 0, none⟩, L1, c1, rfl, by omega, ⟨_, Hp.out⟩, by omega, S5.out, W5.out⟩
  · have hr5 : ∀ x, (some (⟨gO, 0, none⟩ : Addr)).map (·.block) = some x → w.heap.size ≤ x := fun x hx => (ow3.lt x hx).1
    go_wp2_with (at_builtin; refine wpList_append_ow okH _ rfl (.tmp 52) (.tmp 53) _ rfl w.heap.size info_hnt Tryd.underlying24 rfl (some ⟨gO, 0, none⟩) L1 c1 xs rfl ow3 (some ⟨gO, 0, none⟩) L1 c1 _ xs rfl (ow3.rd okH) hl1 (by unfold maxLen; omega) (by omega) wi3.size ?_; intro A5 c5 w5 ow5 hg5 _)
    go_ret
    first | exact ⟨_, A5, L1 + L1, c5, _, rfl, by omega, ow5, by omega, s3.grown hg5 (fun x hx => Nat.lt_of_lt_of_le hgl (hr5 x hx)), wi3.push hg5 hr5⟩ | exact ⟨_, A5, L1 + L1, c5, rfl, by omega, ⟨_, ow5⟩, by omega, s3.grown hg5 (fun x hx => Nat.lt_of_lt_of_le hgl (hr5 x hx)), wi3.push hg5 hr5⟩
  · have b0 : (r == 0) = false := by simp; omega
    have b1 : (r == 1) = false := by simp; omega
    have b2 : (r == 2) = false := by simp; omega
    have b3 : (r == 3) = false := by simp; omega
    have b4 : (r == 4) = false := by simp; omega
    go_wp2_with fail
    go_ret
    first | exact ⟨_, some ⟨gO, 0, none⟩, L1, c1, xs, rfl, by omega, ow3, by omega, s3, wi3⟩ | exact ⟨_, some ⟨gO, 0, none⟩, L1, c1, rfl, by omega, ⟨xs, ow3⟩, by omega, s3, wi3⟩
end Go.Proofs.YtjlkmfijkhjjkaaDoor
/-
  What the law of hints draws: the arguments of each function.
-/
namespace Go.Proofs.YtjlkmfijkhjjkaaDoor
set_option maxRecDepth 20000
open Go.RowKit
set_option linter.unusedSimpArgs false
set_option linter.unusedVariables false

theorem Ow.farH {α : Type} {E : Enc α} {w : World} {base n c : Nat} {A : Option Addr} {l : List α} (h : Ow E w base A n c l) {p : Addr} (hne : ∀ g, A.map (·.block) = some g → g ≠ p.block) (u : Value) : Ow E (w.setCell p u) base A n c l :=
  h.grown (grown_setCell w p u) (fun g hg he => hne g hg (Option.some.inj he).symm)

set_option maxHeartbeats 4000000 in
theorem drawBackoffOf (A : Option Addr) (m c : Nat) (l : List UInt8) (w : World) (ha : Rd eB w w.heap.size A l) (hn : l.length = m) (hm : m ≤ 1048576) :
    Calls Tryd.prog 18 #[.slice A m c] w fun e w' => ∃ v : Int, e = .returned (.int .i64 v) ∧ Below w.heap.size w w' := by
  go_enter Tryd.func18, Tryd.ntmps18
  go_wp2_with fail
  refine (l1Source A m c l _ ha hn hm).mono ?_
  rintro e w1 ⟨rfl, s1, hb1, -⟩
  have g1 := s1.at_.lt
  go_wp2_with fail
  refine (l1Pick (w1.alloc (.cells #[.int .i64 0, .int .i64 1, .int .i64 3, .int .i64 4, .int .i64 5, .int .i64 (-1)] 2)) _ _ A m c 0 l w1.heap.size #[.int .i64 0, .int .i64 1, .int .i64 3, .int .i64 4, .int .i64 5, .int .i64 (-1)] [0, 1, 3, 4, 5, (-1)] 6 6 (s1.alloc _) (by omega) (At.newAt (by first | rfl | simp)) (by simp [intCells]) (by omega) rfl (by omega) (by omega)).mono ?_
  rintro e w2 ⟨v2, hv2, rfl, s2, hw2, -⟩
  have g2 := s2.at_.lt
  have A2 := hb1.alloc hb1.size (.cells #[.int .i64 0, .int .i64 1, .int .i64 3, .int .i64 4, .int .i64 5, .int .i64 (-1)] 2)
  have B2 := hw2.below A2 A2.size (Nat.le_refl _)
  go_wp2
  go_ret
  exact ⟨v2, rfl, B2⟩

set_option maxHeartbeats 4000000 in
theorem drawDueHints (A : Option Addr) (m c : Nat) (l : List UInt8) (w : World) (ha : Rd eB w w.heap.size A l) (hn : l.length = m) (hm : m ≤ 1048576) :
    Calls Tryd.prog 16 #[.slice A m c] w fun e w' => ∃ (X : Option Addr) (L cx : Nat) (xs : List Hnt) (u : Int), e = .returned (.tuple #[.slice X L cx, .int .i64 u]) ∧ L ≤ 16 ∧ Ow eH w' w.heap.size X L cx xs ∧ Below w.heap.size w w' := by
  go_enter Tryd.func16, Tryd.ntmps16
  go_wp2_with fail
  refine (l1Source A m c l _ ha hn hm).mono ?_
  rintro e w1 ⟨rfl, s1, hb1, -⟩
  have g1 := s1.at_.lt
  go_wp2_with fail
  refine (l4Bent w1 w.heap.size w.heap.size A m c 0 l s1 (by omega)).mono ?_
  rintro e w2 ⟨k2, X, L, cx, xs, rfl, hL, ox2, hk2, s2, wi2⟩
  have B2 := wi2.below hb1 (Nat.le_of_lt g1) (Nat.le_refl _)
  have g2 := s2.at_.lt
  go_wp2_with fail
  refine (l1Pick (w2.alloc (.cells #[.int .i64 0, .int .i64 4, .int .i64 5, .int .i64 6, .int .i64 100, .int .i64 (-1)] 2)) _ _ A m c k2 l w2.heap.size #[.int .i64 0, .int .i64 4, .int .i64 5, .int .i64 6, .int .i64 100, .int .i64 (-1)] [0, 4, 5, 6, 100, (-1)] 6 6 (s2.alloc _) (by omega) (At.newAt (by first | rfl | simp)) (by simp [intCells]) (by omega) rfl (by omega) (by omega)).mono ?_
  rintro e w3 ⟨v3, hv3, rfl, s3, hw3, -⟩
  have g3 := s3.at_.lt
  have ox3' := ox2.alloc (.cells #[.int .i64 0, .int .i64 4, .int .i64 5, .int .i64 6, .int .i64 100, .int .i64 (-1)] 2)
  have ox3 := ox3'.within hw3 ox3'.lt (.inr g1)
  have A3 := B2.alloc B2.size (.cells #[.int .i64 0, .int .i64 4, .int .i64 5, .int .i64 6, .int .i64 100, .int .i64 (-1)] 2)
  have B3 := hw3.below A3 A3.size (by first | exact Nat.le_refl _ | omega)
  go_wp2_with fail
  refine bodyPost_ret (v := .tuple #[.slice X L cx, .int .i64 v3]) (by simp [results, Tryd.results16, go_sem]) rfl ?_
  exact ⟨X, L, cx, xs, v3, rfl, hL, ox3.from_ (Nat.le_of_lt g1), B3⟩

set_option maxHeartbeats 4000000 in
theorem drawDoneHint (A : Option Addr) (m c : Nat) (l : List UInt8) (w : World) (ha : Rd eB w w.heap.size A l) (hn : l.length = m) (hm : m ≤ 1048576) :
    Calls Tryd.prog 12 #[.slice A m c] w fun e w' => ∃ (X : Option Addr) (L cx : Nat) (xs : List Hnt) (p i : Int), e = .returned (.tuple #[.slice X L cx, .int .i64 p, .int .i64 i]) ∧ L ≤ 16 ∧ Ow eH w' w.heap.size X L cx xs ∧ Below w.heap.size w w' := by
  go_enter Tryd.func12, Tryd.ntmps12
  go_wp2_with fail
  refine (l1Source A m c l _ ha hn hm).mono ?_
  rintro e w1 ⟨rfl, s1, hb1, -⟩
  have g1 := s1.at_.lt
  go_wp2_with fail
  refine (l4Bent w1 w.heap.size w.heap.size A m c 0 l s1 (by omega)).mono ?_
  rintro e w2 ⟨k2, X, L, cx, xs, rfl, hL, ox2, hk2, s2, wi2⟩
  have B2 := wi2.below hb1 (Nat.le_of_lt g1) (Nat.le_refl _)
  have g2 := s2.at_.lt
  have hl2 := ox2.len okH
  by_cases h0 : 0 < L
  rotate_left
  · have h0i : ¬ (0 : Int) < (L : Int) := by omega
    go_wp2_with fail
    refine (l1Next w2 _ _ A m c k2 l 4 s2 (by omega) (by omega)).mono ?_
    rintro e w8 ⟨r8, rfl, hr8, -, s8, hw8, -⟩
    have g8 := s8.at_.lt
    have ox8 := ox2.within hw8 ox2.lt (.inr g1)
    have B8 := hw8.below B2 B2.size (by first | exact Nat.le_refl _ | omega)
    go_wp2_with fail
    refine (l1Pick (w8.alloc (.cells #[.int .i64 0, .int .i64 1, .int .i64 9999] 2)) _ _ A m c _ l w8.heap.size #[.int .i64 0, .int .i64 1, .int .i64 9999] [0, 1, 9999] 3 3 (s8.alloc _) (by omega) (At.newAt (by first | rfl | simp)) (by simp [intCells]) (by omega) rfl (by omega) (by omega)).mono ?_
    rintro e w9 ⟨v9, hv9, rfl, s9, hw9, -⟩
    have g9 := s9.at_.lt
    have ox9' := ox8.alloc (.cells #[.int .i64 0, .int .i64 1, .int .i64 9999] 2)
    have ox9 := ox9'.within hw9 ox9'.lt (.inr g1)
    have A9 := B8.alloc B8.size (.cells #[.int .i64 0, .int .i64 1, .int .i64 9999] 2)
    have B9 := hw9.below A9 A9.size (by first | exact Nat.le_refl _ | omega)
    go_wp2_with fail
    refine bodyPost_ret (v := .tuple #[.slice X L cx, .int .i64 r8, .int .i64 v9]) (by simp [results, Tryd.results12, go_sem]) rfl ?_
    exact ⟨X, L, cx, xs, r8, v9, rfl, hL, ox9.from_ (Nat.le_of_lt g1), B9⟩
  have h0i : (0 : Int) < (L : Int) := by omega
  go_wp2_with fail
  refine (l1Chance w2 _ _ A m c k2 l 3 s2 (by omega) (by omega)).mono ?_
  rintro e w3 ⟨b3, rfl, s3, hw3, -⟩
  have g3 := s3.at_.lt
  have ox3 := ox2.within hw3 ox2.lt (.inr g1)
  have B3 := hw3.below B2 B2.size (by first | exact Nat.le_refl _ | omega)
  cases b3
  · go_wp2_with fail
    refine (l1Next w3 _ _ A m c _ l (L : Int) s3 (by omega) (by omega)).mono ?_
    rintro e w4 ⟨r4, rfl, hr4, -, s4, hw4, -⟩
    have g4 := s4.at_.lt
    have ox4 := ox3.within hw4 ox3.lt (.inr g1)
    have B4 := hw4.below B3 B3.size (by first | exact Nat.le_refl _ | omega)
    obtain ⟨hr0, hr1⟩ := hr4 (by omega)
    obtain ⟨q, rfl⟩ := Int.eq_ofNat_of_zero_le hr0
    have hq : q < L := by omega
    have hqi : (q : Int) < (L : Int) := by omega
    have hqn : (0 : Int) ≤ (q : Int) := by omega
    clear hr4 hr0 hr1
    obtain ⟨gX, rfl, hgX, hgX'⟩ := ox4.form h0
    obtain ⟨⟨y0, ⟨y1, y2, y3, y4⟩, y5, y6⟩, hx⟩ : ∃ x, xs[q]? = some x := ⟨xs[q], List.getElem?_eq_getElem (by omega)⟩
    obtain ⟨d0, d1, d2, d3, d4, d5, d6⟩ := ox4.hntAt hx
    clear hx
    have ox5 := ox4.alloc (.cells #[.int .i64 y0, .int .i64 y1, .int .i64 y2, .int .i64 y3, .int .i64 y4, .int .i64 y5, .int .i64 y6] 50)
    have B5 := B4.alloc B4.size (.cells #[.int .i64 y0, .int .i64 y1, .int .i64 y2, .int .i64 y3, .int .i64 y4, .int .i64 y5, .int .i64 y6] 50)
    have OX5 := Lib.hid ox5
    have BX5 := Lib.hid B5
    clear ox5 B5
    go_wp2_with fail
    go_quiet (fail)
    go_wp2
    refine bodyPost_ret (v := .tuple #[.slice (some ⟨gX, 0, none⟩) L cx, .int .i64 y0, .int .i64 y3]) (by simp [results, Tryd.results12, go_sem]) rfl ?_
    exact ⟨some ⟨gX, 0, none⟩, L, cx, xs, y0, y3, rfl, hL, (OX5.out.drewN _).from_ (Nat.le_of_lt g1), bdrewN BX5.out _⟩
  · go_wp2_with fail
    refine (l1Next w3 _ _ A m c _ l 4 s3 (by omega) (by omega)).mono ?_
    rintro e w8 ⟨r8, rfl, hr8, -, s8, hw8, -⟩
    have g8 := s8.at_.lt
    have ox8 := ox3.within hw8 ox3.lt (.inr g1)
    have B8 := hw8.below B3 B3.size (by first | exact Nat.le_refl _ | omega)
    go_wp2_with fail
    refine (l1Pick (w8.alloc (.cells #[.int .i64 0, .int .i64 1, .int .i64 9999] 2)) _ _ A m c _ l w8.heap.size #[.int .i64 0, .int .i64 1, .int .i64 9999] [0, 1, 9999] 3 3 (s8.alloc _) (by omega) (At.newAt (by first | rfl | simp)) (by simp [intCells]) (by omega) rfl (by omega) (by omega)).mono ?_
    rintro e w9 ⟨v9, hv9, rfl, s9, hw9, -⟩
    have g9 := s9.at_.lt
    have ox9' := ox8.alloc (.cells #[.int .i64 0, .int .i64 1, .int .i64 9999] 2)
    have ox9 := ox9'.within hw9 ox9'.lt (.inr g1)
    have A9 := B8.alloc B8.size (.cells #[.int .i64 0, .int .i64 1, .int .i64 9999] 2)
    have B9 := hw9.below A9 A9.size (by first | exact Nat.le_refl _ | omega)
    go_wp2_with fail
    refine bodyPost_ret (v := .tuple #[.slice X L cx, .int .i64 r8, .int .i64 v9]) (by simp [results, Tryd.results12, go_sem]) rfl ?_
    exact ⟨X, L, cx, xs, r8, v9, rfl, hL, ox9.from_ (Nat.le_of_lt g1), B9⟩

theorem l1Later2 (A : Option Addr) (m c : Nat) (l : List UInt8) (w : World) (ha : Rd eB w w.heap.size A l) (hn : l.length = m) (hm : m ≤ 1048576) :
    Calls Tryd.prog 52 #[.slice A m c, .int .i64 2] w fun e w' => e = .returned (.pointer (some ⟨w.heap.size, 0, none⟩)) ∧ Src w' w.heap.size w.heap.size A m c 19 l ∧ Below w.heap.size w w' := by
  go_enter Tryd.func52, Tryd.ntmps52
  go_wp2
  go_ret
  have hb := (Below.refl w.heap.size w).alloc (Nat.le_refl _) (.cells #[.slice A m c, .int .i64 19] 100)
  exact ⟨rfl, ⟨At.new w _ _, ha.below hb (Nat.le_refl _), hn, hm, Nat.le_refl _⟩, hb⟩

set_option maxHeartbeats 4000000 in
theorem drawSentHint (A : Option Addr) (m c : Nat) (l : List UInt8) (w : World) (ha : Rd eB w w.heap.size A l) (hn : l.length = m) (hm : m ≤ 1048576) :
    Calls Tryd.prog 14 #[.slice A m c] w fun e w' => ∃ (X : Option Addr) (L cx : Nat) (xs : List Hnt) (p i u : Int), e = .returned (.tuple #[.slice X L cx, .int .i64 p, .int .i64 i, .int .i64 u]) ∧ L ≤ 16 ∧ Ow eH w' w.heap.size X L cx xs ∧ Below w.heap.size w w' := by
  go_enter Tryd.func14, Tryd.ntmps14
  go_wp2_with fail
  refine (drawDoneHint A m c l _ ha hn hm).mono ?_
  rintro e w1 ⟨X, L, cx, xs, p, i, rfl, hL, ox1, hb1⟩
  have ha1 := ha.lift hb1
  go_wp2_with fail
  refine (l1Later2 A m c l _ ha1 hn hm).mono ?_
  rintro e w2 ⟨rfl, s2, hb2⟩
  have g2 := s2.at_.lt
  have ox2 := ox1.below hb2 (Nat.le_refl _)
  have B2 := hb1.trans (hb2.mono hb1.size)
  have lx := ox1.lt
  go_wp2_with fail
  refine (l1Pick (w2.alloc (.cells #[.int .i64 0, .int .i64 5, .int .i64 100000, .int .i64 100001, .int .i64 (-1)] 2)) _ _ A m c 19 l w2.heap.size #[.int .i64 0, .int .i64 5, .int .i64 100000, .int .i64 100001, .int .i64 (-1)] [0, 5, 100000, 100001, (-1)] 5 5 (s2.alloc _) (by omega) (At.newAt (by first | rfl | simp)) (by simp [intCells]) (by omega) rfl (by omega) (by omega)).mono ?_
  rintro e w3 ⟨v3, hv3, rfl, s3, hw3, -⟩
  have g3 := s3.at_.lt
  have ox3' := ox2.alloc (.cells #[.int .i64 0, .int .i64 5, .int .i64 100000, .int .i64 100001, .int .i64 (-1)] 2)
  have ox3 := ox3'.within hw3 (lo := w.heap.size) (hi := w1.heap.size) ox1.lt (.inl (Nat.le_refl _))
  have A3 := B2.alloc B2.size (.cells #[.int .i64 0, .int .i64 5, .int .i64 100000, .int .i64 100001, .int .i64 (-1)] 2)
  have B3 := hw3.below A3 A3.size hb1.size
  go_wp2_with fail
  refine bodyPost_ret (v := .tuple #[.slice X L cx, .int .i64 p, .int .i64 i, .int .i64 v3]) (by simp [results, Tryd.results14, go_sem]) rfl ?_
  exact ⟨X, L, cx, xs, p, i, v3, rfl, hL, ox3, B3⟩

set_option maxHeartbeats 4000000 in
theorem drawAddHint (A : Option Addr) (m c : Nat) (l : List UInt8) (w : World) (ha : Rd eB w w.heap.size A l) (hn : l.length = m) (hm : m ≤ 1048576) :
    Calls Tryd.prog 10 #[.slice A m c] w fun e w' => ∃ (X : Option Addr) (L cx : Nat) (xs : List Hnt) (p a0 a1 a2 a3 : Int), e = .returned (.tuple #[.slice X L cx, .int .i64 p, .agg #[.int .i64 a0, .int .i64 a1, .int .i64 a2, .int .i64 a3]]) ∧ L ≤ 16 ∧ Ow eH w' w.heap.size X L cx xs ∧ Below w.heap.size w w' := by
  have B0 := (Below.refl w.heap.size w).alloc (Nat.le_refl _) (.cells #[.int .i64 0, .int .i64 0, .int .i64 0, .int .i64 0] 26)
  have r0 := At.new w 26 #[.int .i64 0, .int .i64 0, .int .i64 0, .int .i64 0]
  go_enter Tryd.func10, Tryd.ntmps10
  go_wp2_with fail
  refine (l1Source A m c l _ (ha.lift B0) hn hm).mono ?_
  rintro e w1 ⟨rfl, s1, hb1, -⟩
  rw [show (w.alloc (.cells #[.int .i64 0, .int .i64 0, .int .i64 0, .int .i64 0] 26)).heap.size = w.heap.size + 1 by simp] at s1
  have B1 := B0.trans (hb1.mono B0.size)
  have r1 := r0.below hb1 r0.lt
  have g1 := s1.at_.lt
  go_wp2_with fail
  refine (l4Bent w1 (w.heap.size + 1) (w.heap.size + 1) A m c 0 l s1 (by omega)).mono ?_
  rintro e w2 ⟨k2, X, L, cx, xs, rfl, hL, ox2, hk2, s2, wi2⟩
  have B2 := wi2.below B1 B1.size (by omega)
  have r2 := r1.within wi2 (by omega)
  have g2 := s2.at_.lt
  go_wp2_with fail
  refine (l1Pick (w2.alloc (.cells #[.int .i64 0, .int .i64 1, .int .i64 2, .int .i64 3, .int .i64 4, .int .i64 (-1)] 2)) _ _ A m c k2 l w2.heap.size #[.int .i64 0, .int .i64 1, .int .i64 2, .int .i64 3, .int .i64 4, .int .i64 (-1)] [0, 1, 2, 3, 4, (-1)] 6 6 (s2.alloc _) (by omega) (At.newAt (by first | rfl | simp)) (by simp [intCells]) (by omega) rfl (by omega) (by omega)).mono ?_
  rintro e w3 ⟨v3, hv3, rfl, s3, hw3, -⟩
  have g3 := s3.at_.lt
  have ox3' := ox2.alloc (.cells #[.int .i64 0, .int .i64 1, .int .i64 2, .int .i64 3, .int .i64 4, .int .i64 (-1)] 2)
  have ox3 := ox3'.within hw3 ox3'.lt (.inr g1)
  have A3 := B2.alloc B2.size (.cells #[.int .i64 0, .int .i64 1, .int .i64 2, .int .i64 3, .int .i64 4, .int .i64 (-1)] 2)
  have B3 := hw3.below A3 A3.size (by omega)
  have r3 := (r2.alloc (.cells #[.int .i64 0, .int .i64 1, .int .i64 2, .int .i64 3, .int .i64 4, .int .i64 (-1)] 2)).within hw3 (by omega)
  go_wp2_with fail
  refine (l2Bent w3 (w.heap.size + 1) (w.heap.size + 1) A m c _ l s3 (by omega)).mono ?_
  rintro e w4 ⟨a0, a1, a2, a3, rfl, -, hw4⟩
  have ox4 := ox3.within hw4 ox3.lt (.inr g1)
  have B4 := hw4.below B3 B3.size (by omega)
  have r4 := r3.within hw4 (by omega)
  obtain ⟨c0, c1, c2, c3, f0, f1, f2, f3⟩ := r4.four
  have hXr : ∀ g, X.map (·.block) = some g → g ≠ w.heap.size := fun g hg => by have := (ox2.lt g hg).1; have := B1.size; omega
  have lz := B1.size
  go_wp2_with fail
  refine bodyPost_ret (v := .tuple #[.slice X L cx, .int .i64 v3, .agg #[.int .i64 a0, .int .i64 a1, .int .i64 a2, .int .i64 a3]]) (by simp [results, Tryd.results10, go_sem, c0, c1, c2, c3]) rfl ?_
  exact ⟨X, L, cx, xs, v3, a0, a1, a2, a3, rfl, hL, ((((ox4.farH (p := ⟨w.heap.size, 0, none⟩) hXr _).farH (p := ⟨w.heap.size, 1, none⟩) hXr _).farH (p := ⟨w.heap.size, 2, none⟩) hXr _).farH (p := ⟨w.heap.size, 3, none⟩) hXr _).from_ B1.size, (((B4.setCell (by simp) _).setCell (by simp) _).setCell (by simp) _).setCell (by simp) _⟩

set_option maxHeartbeats 4000000 in
theorem drawSameHints (A : Option Addr) (m c : Nat) (l : List UInt8) (w : World) (ha : Rd eB w w.heap.size A l) (hn : l.length = m) (hm : m ≤ 1048576) :
    Calls Tryd.prog 19 #[.slice A m c] w fun e w' => ∃ (X Y : Option Addr) (L M cx cy : Nat) (xs ys : List Hnt), e = .returned (.tuple #[.slice X L cx, .slice Y M cy]) ∧ L ≤ 16 ∧ M ≤ 16 ∧ Ow eH w' w.heap.size X L cx xs ∧ Ow eH w' w.heap.size Y M cy ys ∧ Below w.heap.size w w' := by
  go_enter Tryd.func19, Tryd.ntmps19
  go_wp2_with fail
  refine (l1Source A m c l _ ha hn hm).mono ?_
  rintro e w1 ⟨rfl, s1, hb1, -⟩
  have g1 := s1.at_.lt
  go_wp2_with fail
  refine (l4Draw w1 w.heap.size w.heap.size A m c 0 l s1 (by omega)).mono ?_
  rintro e w2 ⟨k2, X, L, cx, xs, rfl, hL, ox2, hk2, s2, wi2⟩
  have B2 := wi2.below hb1 (Nat.le_of_lt g1) (Nat.le_refl _)
  have g2 := s2.at_.lt
  go_wp2_with fail
  refine (l4Copy X L cx xs w2 (ox2.rd okH) (ox2.len okH) (by omega)).mono ?_
  rintro e w3 ⟨Y, cy, rfl, oy, hb3⟩
  have B3 := B2.trans (hb3.mono (Nat.le_of_lt g2))
  have ox3 := ox2.below hb3 (Nat.le_refl _)
  have s3 := s2.below hb3 g2
  by_cases h0 : 0 < L
  rotate_left
  · have h0i : ¬ (0 : Int) < (L : Int) := by omega
    go_wp2_with fail
    refine bodyPost_ret (v := .tuple #[.slice X L cx, .slice Y L cy]) (by simp [results, Tryd.results19, go_sem]) rfl ?_
    exact ⟨X, Y, L, L, cx, cy, xs, xs, rfl, by omega, by omega, ox3.from_ (Nat.le_of_lt g1), oy.from_ (Nat.le_of_lt g2), B3⟩
  have h0i : (0 : Int) < (L : Int) := by omega
  go_wp2_with fail
  refine (l1Chance _ _ _ A m c k2 l 2 s3 (by omega) (by omega)).mono ?_
  rintro e w4 ⟨ch, rfl, s4, hw4, -⟩
  have B4 := hw4.below B3 B3.size (Nat.le_refl _)
  have ox4 := ox3.within hw4 ox3.lt (.inr g1)
  have oy4 := oy.within hw4 oy.lt (.inr g2)
  cases ch
  · go_wp2_with fail
    refine bodyPost_ret (v := .tuple #[.slice X L cx, .slice Y L cy]) (by simp [results, Tryd.results19, go_sem]) rfl ?_
    exact ⟨X, Y, L, L, cx, cy, xs, xs, rfl, by omega, by omega, ox4.from_ (Nat.le_of_lt g1), oy4.from_ (Nat.le_of_lt g2), B4⟩
  · go_wp2_with fail
    refine (l1Next _ _ _ A m c _ l L s4 (by omega) (by omega)).mono ?_
    rintro e w5 ⟨r, rfl, hr, -, s5, hw5, -⟩
    obtain ⟨hr0, hr1⟩ := hr (by omega)
    obtain ⟨q, rfl⟩ := Int.eq_ofNat_of_zero_le hr0
    have hq : q < L := by omega
    have B5 := hw5.below B4 B4.size (Nat.le_refl _)
    have ox5 := ox4.within hw5 ox4.lt (.inr g1)
    have oy5 := oy4.within hw5 oy4.lt (.inr g2)
    have hl5 := oy5.len okH
    obtain ⟨gY, rfl, hgy, hgz⟩ := oy5.form h0
    obtain ⟨⟨b0, ⟨b1, b2, b3, b4⟩, b5, b6⟩, hb⟩ : ∃ y, xs[q]? = some y := ⟨xs[q], List.getElem?_eq_getElem (by omega)⟩
    obtain ⟨d0, d1, d2, d3, d4, d5, d6⟩ := oy5.hntAt hb
    have f6 := oy5.frozenAt (q * 7 + 6)
    clear hr hr0 hr1
    go_wp2_with fail
    have hp := oy5.hntPut (j := 6) (y := (b0, (b1, b2, b3, b4), b5, wrap64 (b6 + 1))) (u := .int .i64 (wrap64 (b6 + 1))) hb (by omega) rfl
    refine bodyPost_ret (v := .tuple #[.slice X L cx, .slice (some ⟨gY, 0, none⟩) L cy]) (by simp [results, Tryd.results19, go_sem]) rfl ?_
    refine ⟨X, some ⟨gY, 0, none⟩, L, L, cx, cy, xs, _, rfl, by omega, by omega, (ox5.grown hp.2 fun x hx he => ?_).from_ (Nat.le_of_lt g1), hp.1.from_ (Nat.le_of_lt g2), B5.setCell (p := ⟨gY, q * 7 + 6, none⟩) (by show w.heap.size ≤ gY; omega) _⟩
    have h1 := (ox2.lt x hx).2
    obtain rfl := Option.some.inj he
    omega
end Go.Proofs.YtjlkmfijkhjjkaaDoor
/-
  What the law of hints says, of the pure answers.
-/
namespace Go.Proofs.YtjlkmfijkhjjkaaDoor
set_option maxRecDepth 20000
open Go.RowKit
set_option linter.unusedSimpArgs false
set_option linter.unusedVariables false

theorem findH_none_iff {l : List Hnt} {p i : Int} : findH l p i = none ↔ ∀ a ∈ l, ¬ (a.1 = p ∧ idH a = i) := by
  constructor
  · intro h a ha hp
    unfold findH at h
    rw [List.find?_range_eq_none] at h
    obtain ⟨j, hj⟩ := List.mem_iff_getElem?.1 ha
    have := h j (getElem?_some_lt hj)
    rw [hitH_at hj] at this
    simp [hp.1, hp.2] at this
  · intro h
    refine findH_none fun j hj => ?_
    have hx : l[j]? = some l[j] := List.getElem?_eq_getElem hj
    rw [hitH_at hx]
    have := h _ (List.mem_of_getElem? hx)
    simp only [Bool.and_eq_false_iff, decide_eq_false_iff_not]
    by_cases h1 : l[j].1 = p
    · exact .inr fun h2 => this ⟨h1, h2⟩
    · exact .inl h1
theorem findHI_neg {l : List Hnt} {p i : Int} (h : ¬ 0 ≤ findHI l p i) : findH l p i = none := by
  rcases findHI_or l p i with ⟨_, h2⟩ | ⟨k, h1, _, _⟩
  · exact h2
  · omega
theorem findH_last {l : List Hnt} {h : Hnt} (hn : findH l h.1 (idH h) = none) : findH (l ++ [h]) h.1 (idH h) = some l.length := by
  refine findH_some (by simp) ?_ fun j hj => ?_
  · rw [hitH_at (a := h) (by simp)]
    simp
  · have hx : l[j]? = some l[j] := List.getElem?_eq_getElem hj
    rw [hitH_at (a := l[j]) (by rw [List.getElem?_append_left hj, hx])]
    have := findH_none_iff.1 hn _ (List.mem_of_getElem? hx)
    simp only [Bool.and_eq_false_iff, decide_eq_false_iff_not]
    by_cases h1 : l[j].1 = h.1
    · exact .inr fun h2 => this ⟨h1, h2⟩
    · exact .inl h1
/-- What is added is there, and gone again when it is done. -/
theorem add_said {h al : List Hnt} {p x1 x2 x3 x4 : Int} (k : addM h p (x1, x2, x3, x4) = (0, al)) : hintsFaultM al = 0 ∧ doneM al p x3 = (0, h) ∧ (addM al p (x1, x2, x3, x4)).1 = 6 := by
  unfold addM at k
  by_cases h0 : hintsFaultM h = 0
  rotate_left
  · rw [if_pos h0] at k
    exact absurd (Prod.mk.inj k).1 h0
  rw [if_neg (by simp [h0])] at k
  by_cases hf : faultM (x1, x2, x3, x4) = 0
  rotate_left
  · rw [if_pos hf] at k
    exact absurd (Prod.mk.inj k).1 (by decide)
  rw [if_neg (by simp [hf])] at k
  rcases hp : inB (p, 0, 3)
  · rw [if_pos hp] at k
    exact absurd (Prod.mk.inj k).1 (by decide)
  rw [if_neg (by simp [hp])] at k
  by_cases hi : 0 ≤ findHI h p x3
  · rw [if_pos hi] at k
    exact absurd (Prod.mk.inj k).1 (by decide)
  rw [if_neg hi] at k
  by_cases h8 : 8 ≤ h.length
  · rw [if_pos h8] at k
    exact absurd (Prod.mk.inj k).1 (by decide)
  rw [if_neg h8] at k
  obtain rfl := (Prod.mk.inj k).2
  have hn := findHI_neg hi
  obtain ⟨g1, g2, g3⟩ := (hintsFault_iff h).1 h0
  have hfn : hfaultM (p, (x1, x2, x3, x4), 0, 0) = 0 := hfault_yes hf (by unfold rangeH; rw [hp]; simp [inB])
  have hz : hintsFaultM (h ++ [(p, (x1, x2, x3, x4), 0, 0)]) = 0 := by
    refine (hintsFault_iff _).2 ⟨by simp; omega, fun y hy => ?_, dis_append.2 ⟨g3, fun y hy => ?_⟩⟩
    · rcases List.mem_append.1 hy with hy | hy
      · exact g2 y hy
      · obtain rfl := List.mem_singleton.1 hy
        exact hfn
    · have := findH_none_iff.1 hn y hy
      rcases hs : sameH y (p, (x1, x2, x3, x4), 0, 0)
      · rfl
      · exact absurd ((sameH_iff _ _).1 hs) this
  have hl := findH_last (h := (p, (x1, x2, x3, x4), 0, 0)) hn
  refine ⟨hz, ?_, ?_⟩
  · unfold doneM
    rw [if_neg (by simp [hz]), show findH (h ++ [(p, (x1, x2, x3, x4), 0, 0)]) p x3 = some h.length from hl]
    simp
  · unfold addM
    rw [if_neg (by simp [hz]), if_neg (by simp [hf]), if_neg (by simp [hp]), if_pos]
    unfold findHI
    rw [show findH (h ++ [(p, (x1, x2, x3, x4), 0, 0)]) p x3 = some h.length from hl]
    show (0 : Int) ≤ (h.length : Int)
    omega
/-- What is done is gone. -/
theorem done_said {g dl : List Hnt} {p i : Int} (k : doneM g p i = (0, dl)) : dl.length + 1 = g.length ∧ (doneM dl p i).1 = 4 := by
  unfold doneM at k
  by_cases h0 : hintsFaultM g = 0
  rotate_left
  · rw [if_pos h0] at k
    exact absurd (Prod.mk.inj k).1 h0
  rw [if_neg (by simp [h0])] at k
  rcases hf : findH g p i with _ | j
  · rw [hf] at k
    exact absurd (Prod.mk.inj k).1 (by decide)
  rw [hf] at k
  simp only [Prod.mk.injEq, true_and] at k
  obtain ⟨hlt, hh, hal⟩ := findH_is hf
  obtain ⟨g1, g2, g3⟩ := (hintsFault_iff g).1 h0
  have he : dl = g.eraseIdx j := by rw [List.eraseIdx_eq_take_drop_succ]; exact k.symm
  have hlen : dl.length + 1 = g.length := by
    rw [he, List.length_eraseIdx_of_lt hlt]
    omega
  have hsub : dl.Sublist g := by rw [he]; exact List.eraseIdx_sublist _ _
  have hz : hintsFaultM dl = 0 := (hintsFault_iff dl).2 ⟨by omega, fun y hy => g2 y (hsub.subset hy), g3.sublist hsub⟩
  refine ⟨hlen, ?_⟩
  have hn : findH dl p i = none := by
    refine findH_none_iff.2 fun y hy hp => ?_
    rw [he] at hy
    obtain ⟨m, hne, hm⟩ := List.mem_eraseIdx_iff_getElem?.1 hy
    have hj : g[j]? = some g[j] := List.getElem?_eq_getElem hlt
    have hjp : g[j].1 = p ∧ idH g[j] = i := by
      rw [hitH_at hj] at hh
      simpa using hh
    have hml := getElem?_some_lt hm
    have hsame : sameH g[m] g[j] = true := by
      rw [List.getElem?_eq_getElem hml] at hm
      rw [Option.some.inj hm, sameH_iff]
      exact ⟨hp.1.trans hjp.1.symm, hp.2.trans hjp.2.symm⟩
    rcases Nat.lt_or_ge m j with h | h
    · have := (List.pairwise_iff_getElem.1 g3) m j hml hlt h
      rw [hsame] at this
      cases this
    · have := (List.pairwise_iff_getElem.1 g3) j m hlt hml (by omega)
      rw [sameH_comm, hsame] at this
      cases this
  unfold doneM
  rw [if_neg (by simp [hz]), hn]
/-- What was sent is due later, not later than it may, and stays. -/
theorem sent_said {l sl : List Hnt} {p i now : Int} (k : sentM l p i now = (0, sl)) : sl.length = l.length ∧ hintsFaultM sl = 0 ∧ (0 ≤ now ∧ now ≤ 100000) ∧
    ∀ (j : Nat) (a : Hnt), l[j]? = some a → ∃ b, sl[j]? = some b ∧ ((a.1 = p ∧ idH a = i) → now < b.2.2.2 ∧ b.2.2.2 ≤ now + 16 ∧ a.2.2.1 ≤ b.2.2.1) ∧ (¬ (a.1 = p ∧ idH a = i) → b = a) := by
  unfold sentM at k
  by_cases h0 : hintsFaultM l = 0
  rotate_left
  · rw [if_pos h0] at k
    exact absurd (Prod.mk.inj k).1 h0
  rw [if_neg (by simp [h0])] at k
  rcases hb : inB (now, 0, 100000)
  · rw [if_pos hb] at k
    exact absurd (Prod.mk.inj k).1 (by decide)
  rw [if_neg (by simp [hb])] at k
  have hnow : 0 ≤ now ∧ now ≤ 100000 := by simpa [inB] using hb
  rcases hf : findH l p i with _ | m
  · rw [hf] at k
    exact absurd (Prod.mk.inj k).1 (by decide)
  rw [hf] at k
  simp only [Prod.mk.injEq, true_and] at k
  obtain ⟨hlt, hh, hal⟩ := findH_is hf
  obtain ⟨g1, g2, g3⟩ := (hintsFault_iff l).1 h0
  have hm : l[m]? = some l[m] := List.getElem?_eq_getElem hlt
  rw [hm, Option.getD_some] at k
  have hmp : l[m].1 = p ∧ idH l[m] = i := by
    rw [hitH_at hm] at hh
    simpa using hh
  have hr := (hfault_zero (g2 _ (List.mem_of_getElem? hm))).2
  have hf1 := (hfault_zero (g2 _ (List.mem_of_getElem? hm))).1
  have ht : 0 ≤ l[m].2.2.1 ∧ l[m].2.2.1 ≤ 4 := by unfold rangeH at hr; simp [inB] at hr; omega
  have hq := pw_le (j := l[m].2.2.1.toNat) (by omega)
  have hsame : sameH (sentH now l[m]) l[m] = true := (sameH_iff _ _).2 ⟨rfl, rfl⟩
  have hsl : sl.length = l.length := by rw [← k]; simp
  have hat : ∀ j, sl[j]? = if m = j then some (sentH now l[m]) else l[j]? := fun j => by
    rw [← k, List.getElem?_set]
    by_cases hj : m = j
    · subst hj
      rw [if_pos rfl, if_pos rfl, if_pos hlt]
    · rw [if_neg hj, if_neg hj]
  refine ⟨hsl, ?_, hnow, fun j a ha => ?_⟩
  · refine (hintsFault_iff sl).2 ⟨by omega, fun y hy => ?_, ?_⟩
    · obtain ⟨j, hj⟩ := List.mem_iff_getElem?.1 hy
      rw [hat] at hj
      split at hj
      · obtain rfl := Option.some.inj hj
        refine hfault_yes hf1 ?_
        unfold rangeH at hr ⊢
        simp only [inB, Bool.and_eq_true, decide_eq_true_eq] at hr ⊢
        simp only [sentH]
        refine ⟨hr.1, ⟨?_, ?_⟩, ?_, ?_⟩ <;> (try split) <;> omega
      · exact g2 y (List.mem_of_getElem? hj)
    · refine List.pairwise_iff_getElem.2 fun i1 i2 hi1 hi2 h12 => ?_
      have e1 := hat i1
      have e2 := hat i2
      rw [List.getElem?_eq_getElem hi1] at e1
      rw [List.getElem?_eq_getElem hi2] at e2
      have h1 : i1 < l.length := by omega
      have h2 : i2 < l.length := by omega
      have hp := (List.pairwise_iff_getElem.1 g3) i1 i2 h1 h2 h12
      by_cases hm1 : m = i1
      · subst hm1
        rw [if_pos rfl] at e1
        rw [if_neg (by omega), List.getElem?_eq_getElem h2] at e2
        rw [Option.some.inj e1, Option.some.inj e2, sameH_trans hsame]
        exact hp
      · rw [if_neg hm1, List.getElem?_eq_getElem h1] at e1
        by_cases hm2 : m = i2
        · subst hm2
          rw [if_pos rfl] at e2
          rw [Option.some.inj e1, Option.some.inj e2, sameH_comm, sameH_trans hsame, sameH_comm]
          exact hp
        · rw [if_neg hm2, List.getElem?_eq_getElem h2] at e2
          rw [Option.some.inj e1, Option.some.inj e2]
          exact hp
  · by_cases hj : m = j
    · subst hj
      obtain rfl : l[m] = a := by rw [hm] at ha; exact Option.some.inj ha
      refine ⟨sentH now l[m], by rw [hat, if_pos rfl], fun _ => ?_, fun hno => absurd hmp hno⟩
      simp only [sentH]
      refine ⟨by omega, by omega, ?_⟩
      split <;> omega
    · refine ⟨a, by rw [hat, if_neg hj]; exact ha, fun hp => ?_, fun _ => rfl⟩
      exfalso
      have hjl := getElem?_some_lt ha
      have hsm : sameH l[j] l[m] = true := by
        rw [List.getElem?_eq_getElem hjl] at ha
        rw [Option.some.inj ha, sameH_iff]
        exact ⟨hp.1.trans hmp.1.symm, hp.2.trans hmp.2.symm⟩
      rcases Nat.lt_or_ge j m with h | h
      · have := (List.pairwise_iff_getElem.1 g3) j m hjl hlt h
        rw [hsm] at this
        cases this
      · have := (List.pairwise_iff_getElem.1 g3) m j hlt hjl (by omega)
        rw [sameH_comm, hsm] at this
        cases this
theorem addM_small {h al : List Hnt} {p : Int} {x : Smp} {pc : Int} {n : Nat} (k : addM h p x = (pc, al)) (hn : h.length = n) (h16 : n ≤ 16) : al.length ≤ 17 := by
  have := addM_le h p x
  rw [k] at this
  simp only at this
  omega
theorem doneM_small {h al : List Hnt} {p i : Int} {pc : Int} {n : Nat} (k : doneM h p i = (pc, al)) (hn : h.length = n) (h16 : n ≤ 16) : al.length ≤ 17 := by
  have := doneM_le h p i
  rw [k] at this
  simp only at this
  omega
theorem sentM_small {h al : List Hnt} {p i t : Int} {pc : Int} {n : Nat} (k : sentM h p i t = (pc, al)) (hn : h.length = n) (h16 : n ≤ 16) : al.length ≤ 17 := by
  have := sentM_le h p i t
  rw [k] at this
  simp only at this
  omega
theorem dueM_small {h al : List Hnt} {t : Int} {pc : Int} {n : Nat} (k : dueM h t = (pc, al)) (hn : h.length = n) (h16 : n ≤ 16) : al.length ≤ 17 := by
  have := dueM_le h t
  rw [k] at this
  simp only at this
  omega
end Go.Proofs.YtjlkmfijkhjjkaaDoor
