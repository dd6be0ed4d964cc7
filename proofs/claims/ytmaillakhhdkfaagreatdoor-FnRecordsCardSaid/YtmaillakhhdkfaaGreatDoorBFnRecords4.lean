/-
  Texts of one proof, joined: each has its own namespace.
-/
import Derived.Test.YtmaillakhhdkfaaGreatDoorBFnRecords3
import Derived.Laws.AppendOwn
/-
  Rows of hints that are drawn, and some that have faults.
-/
namespace Go.Proofs.YtmaillakhhdkfaaGreatDoor
set_option maxRecDepth 20000
open Go.RowKit
set_option linter.unusedSimpArgs false
set_option linter.unusedVariables false

def DrawHRel (base g : Nat) (A : Option Addr) (m c k : Nat) (l : List UInt8) (n : Nat) (w : World) (out vn : Value) (wr : World) : Prop :=
  ∃ (j : Nat) (A' : Option Addr) (L c' : Nat) (xs : List Hnt), j ≤ n ∧ vn = .int .i64 ((n : Int) - (j : Int)) ∧ out = .slice A' L c' ∧ L ≤ 8 ∧ Ow eH wr w.heap.size A' L c' xs ∧ Src wr base g A m c (k + 1 + 7 * j) l ∧ Within g (g + 1) w wr

set_option maxHeartbeats 4000000 in
theorem l4Draw (w : World) (base g : Nat) (A : Option Addr) (m c k : Nat) (l : List UInt8) (h : Src w base g A m c k l) (hk : k < 700000000) :
    Calls Tryz.prog 51 #[.pointer (some ⟨g, 0, none⟩)] w fun e w' => ∃ (k' : Nat) (A' : Option Addr) (L c' : Nat) (xs : List Hnt), e = .returned (.slice A' L c') ∧ L ≤ 8 ∧ Ow eH w' w.heap.size A' L c' xs ∧ k' ≤ k + 80 ∧ Src w' base g A m c k' l ∧ Within g (g + 1) w w' := by
  have hgl := h.at_.lt
  go_enter Tryz.func51, Tryz.ntmps51
  go_wp2_with fail
  refine (l1Next _ base g A m c k l 10 (h.alloc _) (by omega) (by omega)).mono ?_
  rintro e w1 ⟨r, rfl, hr, -, s1, hw1, -⟩
  obtain ⟨hr0, hr1⟩ := hr (by omega)
  obtain ⟨n, rfl⟩ := Int.eq_ofNat_of_zero_le hr0
  have hn : n < 10 := by omega
  have hwi0 := ((Within.refl g (g + 1) w).alloc (.cells #[] 75)).trans hw1
  have how00 : Ow eH (w.alloc (.cells #[] 75)) w.heap.size (some ⟨w.heap.size, 0, none⟩) 0 0 [] := Ow.lit (E := eH) w [] #[] 0 (Nat.le_refl _) (by unfold maxLen; omega) rfl rfl
  have how0 := how00.within hw1 how00.lt (.inr hgl)
  clear how00 hr hr0 hr1
  go_wp2_with fail
  have g1 := s1.at_.lt
  go_loopw [3, 4] (fun out vn wr => DrawHRel base g A m c k l n w out vn wr) (fun _ vn _ => (intOf vn).toNat)
  case atStart => exact ⟨0, _, 0, 0, [], Nat.zero_le _, by simp, rfl, by omega, how0, s1, hwi0⟩
  case round =>
    obtain ⟨j, A1, L, c1, xs, hj, rfl, rfl, hL, how, hsrc, hwi⟩ := hrel
    have Hs := Lib.hid hsrc
    by_cases hlt : j < n
    · go_wp2_with fail
      refine (l1Next _ base g A m c _ l 4 hsrc (by omega) (by omega)).mono ?_
      rintro e w2 ⟨y0, rfl, -, -, s2, hw2, -⟩
      have ow2 := how.within hw2 how.lt (.inr hgl)
      have wi2 := hwi.trans hw2
      go_wp2_with fail
      refine (l2Draw _ base g A m c _ l s2 (by omega)).mono ?_
      rintro e w3 ⟨n0, n1, n2, n3, rfl, -, -, -, -, s3, hw3⟩
      have ow3 := ow2.within hw3 ow2.lt (.inr hgl)
      have wi3 := wi2.trans hw3
      generalize ((n3 : Int) - 1000) = y4 at *
      generalize (n0 : Int) = y1 at *
      generalize (n1 : Int) = y2 at *
      generalize (n2 : Int) = y3 at *
      go_wp2_with fail
      refine (l1Next _ base g A m c _ l 5 s3 (by omega) (by omega)).mono ?_
      rintro e w4 ⟨y5, rfl, -, -, s4, hw4, -⟩
      have ow4 := ow3.within hw4 ow3.lt (.inr hgl)
      have wi4 := wi3.trans hw4
      have g4 := s4.at_.lt
      go_wp2_with fail
      refine (l1Pick (w4.alloc (.cells #[.int .i64 0, .int .i64 5, .int .i64 7, .int .i64 100] 2)) _ _ A m c _ l w4.heap.size #[.int .i64 0, .int .i64 5, .int .i64 7, .int .i64 100] [0, 5, 7, 100] 4 4 (s4.alloc _) (by omega) (At.newAt (by first | rfl | simp)) (by simp [intCells]) (by omega) rfl (by omega) (by omega)).mono ?_
      rintro e w5 ⟨v5, hv5, rfl, s5, hw5, -⟩
      have g5 := s5.at_.lt
      have ow5' := ow4.alloc (.cells #[.int .i64 0, .int .i64 5, .int .i64 7, .int .i64 100] 2)
      have ow5 := ow5'.within hw5 ow5'.lt (.inr hgl)
      have wi5 := (wi4.alloc (.cells #[.int .i64 0, .int .i64 5, .int .i64 7, .int .i64 100] 2)).trans hw5
      obtain ⟨y6, hy6⟩ : ∃ y, v5 = y := ⟨_, rfl⟩
      subst hy6
      clear hv5 ow5'
      generalize v5 = y6 at *
      have hat := At.new w5 75 #[.int .i64 y0, .int .i64 y1, .int .i64 y2, .int .i64 y3, .int .i64 y4, .int .i64 y5, .int .i64 y6]
      have ow6 := ow5.alloc (.cells #[.int .i64 y0, .int .i64 y1, .int .i64 y2, .int .i64 y3, .int .i64 y4, .int .i64 y5, .int .i64 y6] 75)
      have wi6 := wi5.alloc (.cells #[.int .i64 y0, .int .i64 y1, .int .i64 y2, .int .i64 y3, .int .i64 y4, .int .i64 y5, .int .i64 y6] 75)
      have s6 := s5.alloc (.cells #[.int .i64 y0, .int .i64 y1, .int .i64 y2, .int .i64 y3, .int .i64 y4, .int .i64 y5, .int .i64 y6] 75)
      have hl6 := ow6.len okH
      have hfi := l4Find A1 L c1 xs y0 y3 _ (ow6.rd okH) hl6 (by unfold maxLen; omega)
      have hkk : k + 1 + 7 * j + 1 + 4 + 1 + 1 = k + 1 + 7 * (j + 1) := by omega
      rw [hkk] at s6
      have S6 := Lib.hid s6
      clear s2 s3 s4 s5 s6 hw2 hw3 hw4 hw5 how hwi hsrc ow2 ow3 ow4 ow5 wi2 wi3 wi4
      obtain ⟨f, hf⟩ : ∃ f, findHI xs y0 y3 = f := ⟨_, rfl⟩
      rw [hf] at hfi
      clear hf
      by_cases hneg : f < 0
      · by_cases h8 : L < 8
        · have h8i : (L : Int) < 8 := by omega
          have ob : Rd eH ((w5.alloc (.cells #[.int .i64 y0, .int .i64 y1, .int .i64 y2, .int .i64 y3, .int .i64 y4, .int .i64 y5, .int .i64 y6] 75)).alloc (.cells #[.int .i64 y0, .int .i64 y1, .int .i64 y2, .int .i64 y3, .int .i64 y4, .int .i64 y5, .int .i64 y6] 75)) (w5.heap.size + 1 + 1) (some ⟨w5.heap.size + 1, 0, none⟩) [(y0, (y1, y2, y3, y4), y5, y6)] := by
            have := rd_lit okH (w5.alloc (.cells #[.int .i64 y0, .int .i64 y1, .int .i64 y2, .int .i64 y3, .int .i64 y4, .int .i64 y5, .int .i64 y6] 75)) 75 [(y0, (y1, y2, y3, y4), y5, y6)] #[.int .i64 y0, .int .i64 y1, .int .i64 y2, .int .i64 y3, .int .i64 y4, .int .i64 y5, .int .i64 y6] rfl
            simpa using this
          have ow7 := ow6.alloc (.cells #[.int .i64 y0, .int .i64 y1, .int .i64 y2, .int .i64 y3, .int .i64 y4, .int .i64 y5, .int .i64 y6] 75)
          have wi7 := wi6.alloc (.cells #[.int .i64 y0, .int .i64 y1, .int .i64 y2, .int .i64 y3, .int .i64 y4, .int .i64 y5, .int .i64 y6] 75)
          have s7 := S6.out.alloc (.cells #[.int .i64 y0, .int .i64 y1, .int .i64 y2, .int .i64 y3, .int .i64 y4, .int .i64 y5, .int .i64 y6] 75)
          have S7' := Lib.hid s7
          clear s7
          have hr5 : ∀ x, A1.map (·.block) = some x → w.heap.size ≤ x := fun x hx => (ow6.lt x hx).1
          go_wp2_with fail
          refine hfi.mono ?_
          rintro e w99 ⟨rfl, rfl⟩
          go_wp2_with (at_builtin; refine wpList_append_ow okH _ rfl (.tmp 36) (.tmp 38) _ rfl w.heap.size info_hnt Tryz.underlying37 rfl A1 L c1 xs rfl ow7 _ 1 1 _ [(y0, (y1, y2, y3, y4), y5, y6)] rfl ob rfl (by unfold maxLen; omega) (by omega) wi7.size ?_; intro A5 c5 w8 ow8 hg8 _)
          exact ⟨⟨j + 1, A5, L + 1, c5, _, by omega, by go_num, rfl, by omega, ow8, S7'.out.grown hg8 (fun x hx => Nat.lt_of_lt_of_le hgl (hr5 x hx)), wi7.push hg8 hr5⟩, by simp [intOf]; omega⟩
        · have h8i : ¬ (L : Int) < 8 := by omega
          go_wp2_with fail
          refine hfi.mono ?_
          rintro e w99 ⟨rfl, rfl⟩
          go_wp2
          exact ⟨⟨j + 1, A1, L, c1, xs, by omega, by go_num, rfl, by omega, ow6, S6.out, wi6⟩, by simp [intOf]; omega⟩
      · go_wp2_with fail
        refine hfi.mono ?_
        rintro e w99 ⟨rfl, rfl⟩
        go_wp2
        exact ⟨⟨j + 1, A1, L, c1, xs, by omega, by go_num, rfl, by omega, ow6, S6.out, wi6⟩, by simp [intOf]; omega⟩
    · obtain rfl : n = j := by omega
      go_wp2
      go_ret
      exact ⟨_, A1, L, c1, xs, rfl, by omega, how, by omega, Hs.out, hwi⟩

set_option maxHeartbeats 8000000 in
theorem l4Bent (w : World) (base g : Nat) (A : Option Addr) (m c k : Nat) (l : List UInt8) (h : Src w base g A m c k l) (hk : k < 600000000) :
    Calls Tryz.prog 91 #[.pointer (some ⟨g, 0, none⟩)] w fun e w' => ∃ (k' : Nat) (A' : Option Addr) (L c' : Nat) (xs : List Hnt), e = .returned (.slice A' L c') ∧ L ≤ 16 ∧ Ow eH w' w.heap.size A' L c' xs ∧ k' ≤ k + 100 ∧ Src w' base g A m c k' l ∧ Within g (g + 1) w w' := by
  have hgl := h.at_.lt
  go_enter Tryz.func91, Tryz.ntmps91
  go_wp2_with fail
  refine (l4Draw w base g A m c k l h (by omega)).mono ?_
  rintro e w1 ⟨k1, A1, L1, c1, xs, rfl, hL, ow1, hk1, s1, wi1⟩
  have g1 := s1.at_.lt
  have hl1 := ow1.len okH
  by_cases h0 : 0 < L1
  rotate_left
  · have h0i : ¬ (0 : Int) < (L1 : Int) := by omega
    go_wp2_with fail
    go_ret
    first | exact ⟨k1, A1, L1, c1, xs, rfl, by omega, ow1, by omega, s1, wi1⟩ | exact ⟨k1, A1, L1, c1, rfl, by omega, ⟨xs, ow1⟩, by omega, s1, wi1⟩
  have h0i : (0 : Int) < (L1 : Int) := by omega
  obtain ⟨gO, rfl, hgO, hgO'⟩ := ow1.form h0
  go_wp2_with fail
  refine (l1Next _ base g A m c k1 l (L1 : Int) s1 (by omega) (by omega)).mono ?_
  rintro e w2 ⟨r2, rfl, hr2, -, s2, hw2, -⟩
  obtain ⟨hr20, hr21⟩ := hr2 (by omega)
  obtain ⟨q, rfl⟩ := Int.eq_ofNat_of_zero_le hr20
  have hq : q < L1 := by omega
  have ow2 := ow1.within hw2 ow1.lt (.inr hgl)
  have wi2 := wi1.trans hw2
  have g2 := s2.at_.lt
  have hqi : (q : Int) < (L1 : Int) := by omega
  have hqn : (0 : Int) ≤ (q : Int) := by omega
  clear hr2 hr20 hr21
  go_wp2_with fail
  refine (l1Next _ base g A m c _ l 18 s2 (by omega) (by omega)).mono ?_
  rintro e w3 ⟨r, rfl, hr, -, s3, hw3, -⟩
  obtain ⟨hr0, hr1⟩ := hr (by omega)
  have ow3 := ow2.within hw3 ow2.lt (.inr hgl)
  have wi3 := wi2.trans hw3
  have g3 := s3.at_.lt
  have z3 := wi3.size
  have hgs : gO < w3.heap.size := (ow3.lt gO rfl).2
  clear hr ow1 ow2 s1 s2 hw2 hw3 wi1 wi2
  obtain ⟨⟨a0, ⟨a1, a2, a3, a4⟩, a5, a6⟩, hx⟩ : ∃ x, xs[q]? = some x := ⟨xs[q], List.getElem?_eq_getElem (by omega)⟩
  have Hx := Lib.hid hx
  clear hx
  rcases (show r = 0 ∨ r = 1 ∨ r = 2 ∨ r = 3 ∨ r = 4 ∨ 5 ≤ r by omega) with rfl | rfl | rfl | rfl | rfl | hr5
  · go_wp2_with fail
    refine (l1Pick (w3.alloc (.cells #[.int .i64 (-1), .int .i64 4] 2)) _ _ A m c _ l w3.heap.size #[.int .i64 (-1), .int .i64 4] [(-1), 4] 2 2 (s3.alloc _) (by omega) (At.newAt (by first | rfl | simp)) (by simp [intCells]) (by omega) rfl (by omega) (by omega)).mono ?_
    rintro e w4 ⟨v4, hv4, rfl, s4, hw4, -⟩
    have g4 := s4.at_.lt
    have ow4' := ow3.alloc (.cells #[.int .i64 (-1), .int .i64 4] 2)
    have ow4 := ow4'.within hw4 ow4'.lt (.inr hgl)
    have wi4 := (wi3.alloc (.cells #[.int .i64 (-1), .int .i64 4] 2)).trans hw4
    clear hv4 ow4'
    obtain ⟨d0, d1, d2, d3, d4, d5, d6⟩ := ow4.hntAt Hx.out
    have fz := ow4.frozenAt (q * 7)
    have hp := ow4.hntPut (j := 0) (y := (v4, (a1, a2, a3, a4), a5, a6)) (u := .int .i64 v4) Hx.out (by omega) rfl
    have Hp := Lib.hid hp.1
    have s5 := s4.grown hp.2 (fun x hx => by cases hx; omega)
    have wi5 := wi4.push hp.2 (fun x hx => by cases hx; exact hgO)
    have S5 := Lib.hid s5
    have W5 := Lib.hid wi5
    clear hp s5 wi5
    go_wp2_with fail
    go_ret
    first | exact ⟨_, some ⟨gO, 0, none⟩, L1, c1, _, rfl, by omega, Hp.out, by omega, S5.out, W5.out⟩ | exact ⟨_, some ⟨gO, 0, none⟩, L1, c1, rfl, by omega, ⟨_, Hp.out⟩, by omega, S5.out, W5.out⟩
  · go_wp2_with fail
    refine (l1Pick (w3.alloc (.cells #[.int .i64 (-1), .int .i64 5] 2)) _ _ A m c _ l w3.heap.size #[.int .i64 (-1), .int .i64 5] [(-1), 5] 2 2 (s3.alloc _) (by omega) (At.newAt (by first | rfl | simp)) (by simp [intCells]) (by omega) rfl (by omega) (by omega)).mono ?_
    rintro e w4 ⟨v4, hv4, rfl, s4, hw4, -⟩
    have g4 := s4.at_.lt
    have ow4' := ow3.alloc (.cells #[.int .i64 (-1), .int .i64 5] 2)
    have ow4 := ow4'.within hw4 ow4'.lt (.inr hgl)
    have wi4 := (wi3.alloc (.cells #[.int .i64 (-1), .int .i64 5] 2)).trans hw4
    clear hv4 ow4'
    obtain ⟨d0, d1, d2, d3, d4, d5, d6⟩ := ow4.hntAt Hx.out
    have fz := ow4.frozenAt (q * 7 + 5)
    have hp := ow4.hntPut (j := 5) (y := (a0, (a1, a2, a3, a4), v4, a6)) (u := .int .i64 v4) Hx.out (by omega) rfl
    have Hp := Lib.hid hp.1
    have s5 := s4.grown hp.2 (fun x hx => by cases hx; omega)
    have wi5 := wi4.push hp.2 (fun x hx => by cases hx; exact hgO)
    have S5 := Lib.hid s5
    have W5 := Lib.hid wi5
    clear hp s5 wi5
    go_wp2_with fail
    go_ret
    first | exact ⟨_, some ⟨gO, 0, none⟩, L1, c1, _, rfl, by omega, Hp.out, by omega, S5.out, W5.out⟩ | exact ⟨_, some ⟨gO, 0, none⟩, L1, c1, rfl, by omega, ⟨_, Hp.out⟩, by omega, S5.out, W5.out⟩
  · go_wp2_with fail
    refine (l1Pick (w3.alloc (.cells #[.int .i64 (-1), .int .i64 200000, .int .i64 200001] 2)) _ _ A m c _ l w3.heap.size #[.int .i64 (-1), .int .i64 200000, .int .i64 200001] [(-1), 200000, 200001] 3 3 (s3.alloc _) (by omega) (At.newAt (by first | rfl | simp)) (by simp [intCells]) (by omega) rfl (by omega) (by omega)).mono ?_
    rintro e w4 ⟨v4, hv4, rfl, s4, hw4, -⟩
    have g4 := s4.at_.lt
    have ow4' := ow3.alloc (.cells #[.int .i64 (-1), .int .i64 200000, .int .i64 200001] 2)
    have ow4 := ow4'.within hw4 ow4'.lt (.inr hgl)
    have wi4 := (wi3.alloc (.cells #[.int .i64 (-1), .int .i64 200000, .int .i64 200001] 2)).trans hw4
    clear hv4 ow4'
    obtain ⟨d0, d1, d2, d3, d4, d5, d6⟩ := ow4.hntAt Hx.out
    have fz := ow4.frozenAt (q * 7 + 6)
    have hp := ow4.hntPut (j := 6) (y := (a0, (a1, a2, a3, a4), a5, v4)) (u := .int .i64 v4) Hx.out (by omega) rfl
    have Hp := Lib.hid hp.1
    have s5 := s4.grown hp.2 (fun x hx => by cases hx; omega)
    have wi5 := wi4.push hp.2 (fun x hx => by cases hx; exact hgO)
    have S5 := Lib.hid s5
    have W5 := Lib.hid wi5
    clear hp s5 wi5
    go_wp2_with fail
    go_ret
    first | exact ⟨_, some ⟨gO, 0, none⟩, L1, c1, _, rfl, by omega, Hp.out, by omega, S5.out, W5.out⟩ | exact ⟨_, some ⟨gO, 0, none⟩, L1, c1, rfl, by omega, ⟨_, Hp.out⟩, by omega, S5.out, W5.out⟩
  · go_wp2_with fail
    refine (l2Bent _ base g A m c _ l s3 (by omega)).mono ?_
    rintro e w4 ⟨b1, b2, b3, b4, rfl, ⟨k4, hk4, s4⟩, hw4⟩
    have ow4 := ow3.within hw4 ow3.lt (.inr hgl)
    have wi4 := wi3.trans hw4
    obtain ⟨d0, d1, d2, d3, d4, d5, d6⟩ := ow4.hntAt Hx.out
    have fz1 := ow4.frozenAt (q * 7 + 1)
    have fz2 := ow4.frozenAt (q * 7 + 2)
    have fz3 := ow4.frozenAt (q * 7 + 3)
    have fz4 := ow4.frozenAt (q * 7 + 4)
    have lx : q < xs.length := by omega
    have p1 := ow4.hntPut (j := 1) (y := (a0, (b1, a2, a3, a4), a5, a6)) (u := .int .i64 b1) Hx.out (by omega) rfl
    have p2 := p1.1.hntPut (j := 2) (x := (a0, (b1, a2, a3, a4), a5, a6)) (y := (a0, (b1, b2, a3, a4), a5, a6)) (u := .int .i64 b2) (by rw [List.getElem?_set_self lx]) (by omega) rfl
    rw [List.set_set] at p2
    have p3 := p2.1.hntPut (j := 3) (x := (a0, (b1, b2, a3, a4), a5, a6)) (y := (a0, (b1, b2, b3, a4), a5, a6)) (u := .int .i64 b3) (by rw [List.getElem?_set_self lx]) (by omega) rfl
    rw [List.set_set] at p3
    have p4 := p3.1.hntPut (j := 4) (x := (a0, (b1, b2, b3, a4), a5, a6)) (y := (a0, (b1, b2, b3, b4), a5, a6)) (u := .int .i64 b4) (by rw [List.getElem?_set_self lx]) (by omega) rfl
    rw [List.set_set] at p4
    have hg := grown_trans (grown_trans (grown_trans p1.2 p2.2) p3.2) p4.2
    have Hp := Lib.hid p4.1
    have S5 := Lib.hid (s4.grown hg (fun x hx => by cases hx; omega))
    have W5 := Lib.hid (wi4.push hg (fun x hx => by cases hx; exact hgO))
    clear p1 p2 p3 p4 hg
    go_wp2_with fail
    go_ret
    first | exact ⟨_, some ⟨gO, 0, none⟩, L1, c1, _, rfl, by omega, Hp.out, by omega, S5.out, W5.out⟩ | exact ⟨_, some ⟨gO, 0, none⟩, L1, c1, rfl, by omega, ⟨_, Hp.out⟩, by omega, S5.out, W5.out⟩
  · have hr5 : ∀ x, (some (⟨gO, 0, none⟩ : Addr)).map (·.block) = some x → w.heap.size ≤ x := fun x hx => (ow3.lt x hx).1
    go_wp2_with (at_builtin; refine wpList_append_ow okH _ rfl (.tmp 52) (.tmp 53) _ rfl w.heap.size info_hnt Tryz.underlying37 rfl (some ⟨gO, 0, none⟩) L1 c1 xs rfl ow3 (some ⟨gO, 0, none⟩) L1 c1 _ xs rfl (ow3.rd okH) hl1 (by unfold maxLen; omega) (by omega) wi3.size ?_; intro A5 c5 w5 ow5 hg5 _)
    go_ret
    first | exact ⟨_, A5, L1 + L1, c5, _, rfl, by omega, ow5, by omega, s3.grown hg5 (fun x hx => Nat.lt_of_lt_of_le hgl (hr5 x hx)), wi3.push hg5 hr5⟩ | exact ⟨_, A5, L1 + L1, c5, rfl, by omega, ⟨_, ow5⟩, by omega, s3.grown hg5 (fun x hx => Nat.lt_of_lt_of_le hgl (hr5 x hx)), wi3.push hg5 hr5⟩
  · have b0 : (r == 0) = false := by simp; omega
    have b1 : (r == 1) = false := by simp; omega
    have b2 : (r == 2) = false := by simp; omega
    have b3 : (r == 3) = false := by simp; omega
    have b4 : (r == 4) = false := by simp; omega
    go_wp2_with fail
    go_ret
    first | exact ⟨_, some ⟨gO, 0, none⟩, L1, c1, xs, rfl, by omega, ow3, by omega, s3, wi3⟩ | exact ⟨_, some ⟨gO, 0, none⟩, L1, c1, rfl, by omega, ⟨xs, ow3⟩, by omega, s3, wi3⟩
end Go.Proofs.YtmaillakhhdkfaaGreatDoor
/-
  What the law of hints draws: the arguments of each function.
-/
namespace Go.Proofs.YtmaillakhhdkfaaGreatDoor
set_option maxRecDepth 20000
open Go.RowKit
set_option linter.unusedSimpArgs false
set_option linter.unusedVariables false

theorem Ow.farH {α : Type} {E : Enc α} {w : World} {base n c : Nat} {A : Option Addr} {l : List α} (h : Ow E w base A n c l) {p : Addr} (hne : ∀ g, A.map (·.block) = some g → g ≠ p.block) (u : Value) : Ow E (w.setCell p u) base A n c l :=
  h.grown (grown_setCell w p u) (fun g hg he => hne g hg (Option.some.inj he).symm)

end Go.Proofs.YtmaillakhhdkfaaGreatDoor
/-
  A store's bounds and order: the model's StoreFault.
-/
namespace Go.Proofs.YtmaillakhhdkfaaGreatDoor
set_option maxRecDepth 20000
open Go.RowKit
set_option linter.unusedSimpArgs false

/-- The i-th is ahead of the next one. -/
def stepM (l : List Smp) (i : Nat) : Bool := match l[i]?, l[i + 1]? with | some a, some b => aheadM a b | _, _ => true
theorem stepM_at {l : List Smp} {i : Nat} {a b : Smp} (ha : l[i]? = some a) (hb : l[i + 1]? = some b) : stepM l i = aheadM a b := by
  unfold stepM
  rw [ha, hb]
def risesM (l : List Smp) : Bool := (List.range l.length).all (stepM l)
def rightM (l : List Smp) : Bool := l.all fun x => decide (faultM x = 0)
def storeFaultM (l : List Smp) : Int := if 160 < l.length then 2 else if rightM l = false then 3 else if risesM l = false then 1 else 0
theorem storeFault_many {l : List Smp} (h : 160 < l.length) : storeFaultM l = 2 := if_pos h
theorem storeFault_wrong {l : List Smp} {k : Nat} {x : Smp} (h : ¬ 160 < l.length) (hx : l[k]? = some x) (hf : faultM x = 3) : storeFaultM l = 3 := by
  have hr : rightM l = false := by
    unfold rightM
    rw [List.all_eq_false]
    exact ⟨x, List.mem_of_getElem? hx, by simp [hf]⟩
  unfold storeFaultM
  rw [if_neg h, if_pos hr]
theorem rightM_of {l : List Smp} {n : Nat} (hn : l.length = n) (hal : ∀ j x, j < n → l[j]? = some x → faultM x = 0) : rightM l = true := by
  unfold rightM
  rw [List.all_eq_true]
  intro x hx
  obtain ⟨j, hj⟩ := List.mem_iff_getElem?.1 hx
  exact decide_eq_true (hal j x (by have := getElem?_some_lt hj; omega) hj)
theorem storeFault_form {l : List Smp} {k : Nat} (h : ¬ 160 < l.length) (hr : rightM l = true) (hk : k < l.length) (hs : stepM l k = false) : storeFaultM l = 1 := by
  have hq : risesM l = false := by
    unfold risesM
    rw [List.all_eq_false]
    exact ⟨k, List.mem_range.2 hk, by simp [hs]⟩
  unfold storeFaultM
  rw [if_neg h, if_neg (by simp [hr]), if_pos hq]
theorem storeFault_ok {l : List Smp} {n : Nat} (hn : l.length = n) (h : ¬ 160 < l.length) (hr : rightM l = true) (hal : ∀ j, j + 1 < n → stepM l j = true) : storeFaultM l = 0 := by
  have hq : risesM l = true := by
    unfold risesM
    rw [List.all_eq_true]
    intro j hj
    have hj' := List.mem_range.1 hj
    rcases Nat.lt_or_ge (j + 1) n with h1 | h1
    · exact hal j h1
    · unfold stepM
      rw [List.getElem?_eq_none (l := l) (i := j + 1) (by omega)]
      cases l[j]? <;> rfl
  unfold storeFaultM
  rw [if_neg h, if_neg (by simp [hr]), if_neg (by simp [hq])]

def RightRel (w : World) (l : List Smp) (n : Nat) (i : Value) (wr : World) : Prop :=
  ∃ k : Nat, k ≤ n ∧ i = .int .i64 k ∧ (∀ j x, j < k → l[j]? = some x → faultM x = 0) ∧ Below w.heap.size w wr
def RiseRel (w : World) (l : List Smp) (n : Nat) (i : Value) (wr : World) : Prop :=
  ∃ k : Nat, (k + 1 ≤ n ∨ k = 0) ∧ i = .int .i64 ((k + 1 : Nat) : Int) ∧ (∀ j, j < k → stepM l j = true) ∧ Below w.heap.size w wr

set_option maxHeartbeats 2000000 in
theorem specStoreFault (A : Option Addr) (n c : Nat) (l : List Smp) (w : World) (ha : Rd eS w w.heap.size A l) (hn : l.length = n) :
    Calls Tryz.prog 65 #[.slice A n c] w fun e w' => e = .returned (.int .i64 (storeFaultM l)) ∧ Below w.heap.size w w' := by
  by_cases hbig : 160 < n
  · have hb : (160 : Int) < (n : Int) := by omega
    rw [storeFault_many (by omega)]
    go_enter Tryz.func65, Tryz.ntmps65
    go_wp2
    go_ret
    exact ⟨rfl, Below.refl _ _⟩
  have hb : (n : Int) ≤ 160 := by omega
  have Hbig := Lib.hid (show ¬ 160 < l.length by omega)
  have Hn := Lib.hid hn
  clear hn hbig
  go_enter Tryz.func65, Tryz.ntmps65
  go_wp2
  go_loopw [3] (fun i wr => RightRel w l n i wr) (fun i _ => n - (intOf i).toNat)
  case atStart => exact ⟨0, Nat.zero_le _, rfl, fun _ _ h => absurd h (by omega), Below.refl _ _⟩
  case round =>
    obtain ⟨k, hk, rfl, hal, hbel⟩ := hrel
    have Hal := Lib.hid hal
    clear hal
    by_cases hlt : k < n
    · obtain ⟨g, o, a0, a1, a2, a3, rfl, hg, hx, c0, c1, c2, c3⟩ := (ha.below hbel (Nat.le_refl _)).smp (k := k) (by rw [Hn.out]; exact hlt)
      rcases faultM_or (a0, a1, a2, a3) with hf | hf
      · have hq := specSampleFault a0 a1 a2 a3 wr
        rw [hf] at hq
        have Hx := Lib.hid hx
        have Hf := Lib.hid hf
        clear hx hf
        go_wp2_with fail
        refine hq.mono ?_
        rintro e w2 ⟨rfl, hb2⟩
        have hB2 := hbel.trans (hb2.mono hbel.size)
        go_wp2
        refine ⟨⟨k + 1, by omega, by go_num, fun j x hj hx => ?_, hB2⟩, by simp [intOf]; omega⟩
        rcases Nat.lt_or_ge j k with h | h
        · exact Hal.out j x h hx
        · obtain rfl : j = k := by omega
          obtain rfl := Option.some.inj (Hx.out.symm.trans hx)
          exact Hf.out
      · have hq := specSampleFault a0 a1 a2 a3 wr
        rw [hf] at hq
        have Hr := Lib.hid (storeFault_wrong Hbig.out hx hf)
        clear hx hf
        go_wp2_with fail
        refine hq.mono ?_
        rintro e w2 ⟨rfl, hb2⟩
        have hB2 := hbel.trans (hb2.mono hbel.size)
        go_wp2
        go_ret
        exact ⟨by rw [Hr.out]; rfl, hB2⟩
    · obtain rfl : n = k := by omega
      have Hright := Lib.hid (rightM_of Hn.out Hal.out)
      clear Hal
      go_wp2
      go_loopw [5] (fun i wr => RiseRel w l n i wr) (fun i _ => n - (intOf i).toNat)
      case atStart => exact ⟨0, .inr rfl, rfl, fun _ h => absurd h (by omega), hbel⟩
      case round =>
        obtain ⟨k, hk, rfl, hal, hbel⟩ := hrel
        have Hal := Lib.hid hal
        clear hal
        by_cases hlt : k + 1 < n
        · obtain ⟨g, o, a0, a1, a2, a3, rfl, hg, hx, ca⟩ := (ha.below hbel (Nat.le_refl _)).smp (k := k) (by rw [Hn.out]; omega)
          obtain ⟨g', o', b0, b1, b2, b3, e', hg', hy, cb⟩ := (ha.below hbel (Nat.le_refl _)).smp (k := k + 1) (by rw [Hn.out]; omega)
          obtain ⟨rfl, rfl⟩ : g = g' ∧ o = o' := by simpa using Option.some.inj e'
          have Hst := Lib.hid (stepM_at hx hy)
          clear hx hy e'
          have hbd := hbel.drew
          have hw : IntKind.i64.wrap (k : Int) = (k : Int) := IntWalk.i64_in _ (by omega)
          have i1 : (k : Int) < (n : Int) := by omega
          have i2 : (k : Int) + 1 < (n : Int) := by omega
          have i3 : (0 : Int) ≤ (k : Int) + 1 := by omega
          have i4 : ((k : Int) + 1).toNat = k + 1 := by omega
          go_wp2
          refine wp_region_mix [(0, false), (1, false), (2, false), (3, false), (4, false), (5, false), (6, false), (7, false), (8, false), (9, true), (10, false)] (fun u => S4 u g (o + k * 4) a0 a1 a2 a3 ∧ S4 u g (o + (k + 1) * 4) b0 b1 b2 b3) (by kernel_rfl) (by kernel_rfl) (fun _ _ _ _ _ h => h) ⟨ca.drew, cb.drew⟩ ?_
          simp only [mixOps, List.map_cons, List.map_nil, List.getElem?_cons_succ, List.getElem?_cons_zero, Option.getD_some]
          repeat (first
            | (refine mix_skip (by rfl) ?_
               (try simp only [Act.put, List.setIfInBounds_toArray, List.set_cons_zero, List.set_cons_succ]))
            | (refine mix_pure (v := ?_) (by rfl) (fun u hu => ?_) ?_
               rotate_left
               · obtain ⟨⟨_, _, _, _⟩, _, _, _, _⟩ := hu
                 go_simp
                 (with_reducible rfl)
               (try simp only [Act.put, List.setIfInBounds_toArray, List.set_cons_zero, List.set_cons_succ])))
          refine mix_call (by rfl) (fun K hK => ?_)
          go_simp
          refine (specIsAhead a0 a1 a2 a3 b0 b1 b2 b3 _).mono ?_
          rintro e w1 ⟨rfl, hb1⟩
          have hB1 := hbd.trans (hb1.mono hbd.size)
          refine hK _ _ _ (fun _ h => h) ⟨ca.drew.below hb1 (Nat.lt_of_lt_of_le hg hbd.size), cb.drew.below hb1 (Nat.lt_of_lt_of_le hg hbd.size)⟩ ?_
          (try simp only [Act.put, List.setIfInBounds_toArray, List.set_cons_zero, List.set_cons_succ])
          rw [← Hst.out]
          rcases hs : stepM l k
          · have Hf := Lib.hid (storeFault_form Hbig.out Hright.out (show k < l.length by rw [Hn.out]; omega) hs)
            clear hs
            refine mix_pure (v := ?_) (by rfl) (fun u hu => ?_) ?_
            rotate_left
            · go_simp
              (with_reducible rfl)
            (try simp only [Act.put, List.setIfInBounds_toArray, List.set_cons_zero, List.set_cons_succ])
            refine mix_nil ?_
            go_wp2
            go_ret
            exact ⟨by rw [Hf.out]; rfl, hB1⟩
          · have Hs := Lib.hid hs
            clear hs
            refine mix_pure (v := ?_) (by rfl) (fun u hu => ?_) ?_
            rotate_left
            · go_simp
              (with_reducible rfl)
            (try simp only [Act.put, List.setIfInBounds_toArray, List.set_cons_zero, List.set_cons_succ])
            refine mix_nil ?_
            go_wp2
            refine ⟨⟨k + 1, .inl (by omega), by go_num, fun j hj => ?_, hB1⟩, by simp [intOf]; omega⟩
            rcases Nat.lt_or_ge j k with h | h
            · exact Hal.out j h
            · obtain rfl : j = k := by omega
              exact Hs.out
        · have hq := storeFault_ok Hn.out Hbig.out Hright.out (fun j hj => Hal.out j (by omega))
          have Hq := Lib.hid hq
          clear hq
          have i5 : ¬ (k : Int) + 1 < (n : Int) := by omega
          go_wp2
          go_ret
          exact ⟨by rw [Hq.out]; rfl, hbel⟩
end Go.Proofs.YtmaillakhhdkfaaGreatDoor
/-
  A key looked for in a store, a store copied: the model's.
-/
namespace Go.Proofs.YtmaillakhhdkfaaGreatDoor
set_option maxRecDepth 20000
open Go.RowKit
set_option linter.unusedSimpArgs false

def hitM (l : List Smp) (x : Smp) (i : Nat) : Bool := match l[i]? with | some a => sameKeyM a x | none => false
theorem hitM_at {l : List Smp} {x a : Smp} {i : Nat} (h : l[i]? = some a) : hitM l x i = sameKeyM a x := by
  unfold hitM
  rw [h]
/-- Where the key stands. -/
def findM (l : List Smp) (x : Smp) : Option Nat := (List.range l.length).find? (hitM l x)
def findI (l : List Smp) (x : Smp) : Int := match findM l x with | some i => (i : Int) | none => -1
theorem findI_some {l : List Smp} {x : Smp} {k : Nat} (hk : k < l.length) (h : hitM l x k = true) (hal : ∀ j, j < k → hitM l x j = false) : findI l x = (k : Int) := by
  have : findM l x = some k := by
    unfold findM
    rw [List.find?_range_eq_some]
    exact ⟨h, by simpa using hk, fun j hj => by simp [hal j hj]⟩
  unfold findI
  rw [this]
theorem findI_none {l : List Smp} {x : Smp} {n : Nat} (hn : l.length = n) (hal : ∀ j, j < n → hitM l x j = false) : findI l x = -1 := by
  have : findM l x = none := by
    unfold findM
    rw [List.find?_range_eq_none]
    exact fun j hj => by simp [hal j (by omega)]
  unfold findI
  rw [this]

def FindRel (w : World) (l : List Smp) (x : Smp) (n : Nat) (i : Value) (wr : World) : Prop :=
  ∃ k : Nat, k ≤ n ∧ i = .int .i64 k ∧ (∀ j, j < k → hitM l x j = false) ∧ Below w.heap.size w wr

set_option maxHeartbeats 2000000 in
theorem l3Find (A : Option Addr) (n c : Nat) (l : List Smp) (gk pk : Nat) (k0 k1 k2 k3 : Int) (w : World) (ha : Rd eS w w.heap.size A l) (hn : l.length = n) (hm : n ≤ maxLen) (hk : S4 w gk pk k0 k1 k2 k3) (hgk : gk < w.heap.size) :
    Calls Tryz.prog 100 #[.slice A n c, .pointer (some ⟨gk, pk, none⟩)] w fun e w' => e = .returned (.int .i64 (findI l (k0, k1, k2, k3))) ∧ Below w.heap.size w w' := by
  have Hn := Lib.hid hn
  clear hn
  unfold maxLen at hm
  go_enter Tryz.func100, Tryz.ntmps100
  go_wp2
  go_loopw [5] (fun i wr => FindRel w l (k0, k1, k2, k3) n i wr) (fun i _ => n - (intOf i).toNat)
  case atStart => exact ⟨0, Nat.zero_le _, rfl, fun _ h => absurd h (by omega), Below.refl _ _⟩
  case round =>
    obtain ⟨k, hkn, rfl, hal, hbel⟩ := hrel
    have Hal := Lib.hid hal
    clear hal
    by_cases hlt : k < n
    · obtain ⟨g, o, a0, a1, a2, a3, rfl, hg, hx, ca⟩ := (ha.below hbel (Nat.le_refl _)).smp (k := k) (by rw [Hn.out]; exact hlt)
      have cb := hk.below hbel hgk
      have Hh := Lib.hid (hitM_at (x := (k0, k1, k2, k3)) hx)
      clear hx
      have hbd := hbel.drew
      go_wp2
      refine wp_region_mix [(0, false), (1, false), (2, false), (3, false), (4, false), (5, false), (6, false), (7, true)] (fun u => S4 u g (o + k * 4) a0 a1 a2 a3 ∧ S4 u gk pk k0 k1 k2 k3) (by kernel_rfl) (by kernel_rfl) (fun _ _ _ _ _ h => h) ⟨ca.drew, cb.drew⟩ ?_
      simp only [mixOps, List.map_cons, List.map_nil, List.getElem?_cons_succ, List.getElem?_cons_zero, Option.getD_some]
      repeat (first
        | (refine mix_skip (by rfl) ?_
           (try simp only [Act.put, List.setIfInBounds_toArray, List.set_cons_zero, List.set_cons_succ]))
        | (refine mix_pure (v := ?_) (by rfl) (fun u hu => ?_) ?_
           rotate_left
           · obtain ⟨⟨_, _, _, _⟩, _, _, _, _⟩ := hu
             go_simp
             (with_reducible rfl)
           (try simp only [Act.put, List.setIfInBounds_toArray, List.set_cons_zero, List.set_cons_succ])))
      refine mix_call (by rfl) (fun K hK => ?_)
      go_simp
      refine (specIsSameKey a0 a1 a2 a3 k0 k1 k2 k3 _).mono ?_
      rintro e w1 ⟨rfl, hb1⟩
      have hB1 := hbd.trans (hb1.mono hbd.size)
      refine hK _ _ _ (fun _ h => h) ⟨ca.drew.below hb1 (Nat.lt_of_lt_of_le hg hbd.size), cb.drew.below hb1 (Nat.lt_of_lt_of_le hgk hbd.size)⟩ ?_
      (try simp only [Act.put, List.setIfInBounds_toArray, List.set_cons_zero, List.set_cons_succ])
      rw [← Hh.out]
      refine mix_nil ?_
      rcases hs : hitM l (k0, k1, k2, k3) k
      · have Hs := Lib.hid hs
        clear hs
        go_wp2
        refine ⟨⟨k + 1, by omega, by go_num, fun j hj => ?_, hB1⟩, by simp [intOf]; omega⟩
        rcases Nat.lt_or_ge j k with h | h
        · exact Hal.out j h
        · obtain rfl : j = k := by omega
          exact Hs.out
      · have Hf := Lib.hid (findI_some (by rw [Hn.out]; exact hlt) hs Hal.out)
        clear hs
        go_wp2
        go_ret
        exact ⟨by rw [Hf.out]; rfl, hB1⟩
    · obtain rfl : n = k := by omega
      have Hf := Lib.hid (findI_none Hn.out Hal.out)
      go_wp2
      go_ret
      exact ⟨by rw [Hf.out]; rfl, hbel⟩

set_option maxHeartbeats 1000000 in
theorem l3Copy (A : Option Addr) (n c : Nat) (l : List Smp) (w : World) (ha : Rd eS w w.heap.size A l) (hn : l.length = n) (hm : n ≤ 1048576) :
    Calls Tryz.prog 97 #[.slice A n c] w fun e w' => ∃ A' c', e = .returned (.slice A' n c') ∧ Ow eS w' w.heap.size A' n c' l ∧ Below w.heap.size w w' := by
  have Hn := Lib.hid hn
  clear hn
  have B1 := (Below.refl w.heap.size w).alloc (Nat.le_refl _) (.cells #[] 25)
  have a1 := ha.lift B1
  have o1 : Ow eS (w.alloc (.cells #[] 25)) w.heap.size (some ⟨w.heap.size, 0, none⟩) 0 0 [] := Ow.lit w [] #[] 0 (Nat.le_refl _) (by unfold maxLen; omega) rfl rfl
  go_enter Tryz.func97, Tryz.ntmps97
  go_wp2_with (at_builtin; refine wpList_append_ow okS _ rfl (.tmp 3) (.tmp 4) _ rfl w.heap.size info_smp Tryz.underlying36 rfl (some ⟨w.heap.size, 0, none⟩) 0 0 [] rfl o1 A n c _ l rfl a1 Hn.out (by unfold maxLen; omega) (by omega) (by simp) ?_; intro A2 c2 w2 ow2 hg2 _)
  have B2 : Below w.heap.size w w2 := B1.grown hg2 (by simp) (fun g hg => by simp at hg; omega)
  rw [Nat.zero_add, List.nil_append] at ow2
  go_ret
  refine ⟨A2, c2, ?_, ow2, B2⟩
  simp
end Go.Proofs.YtmaillakhhdkfaaGreatDoor
/-
  A sample put at its place: the model's.
-/
namespace Go.Proofs.YtmaillakhhdkfaaGreatDoor
set_option maxRecDepth 20000
open Go.RowKit
set_option linter.unusedSimpArgs false

def frontOf (l : List Smp) (x : Smp) (i : Nat) : Bool := match l[i]? with | some a => aheadM x a | none => false
theorem frontOf_at {l : List Smp} {x a : Smp} {i : Nat} (h : l[i]? = some a) : frontOf l x i = aheadM x a := by
  unfold frontOf
  rw [h]
def spotM (l : List Smp) (x : Smp) : Option Nat := (List.range l.length).find? (frontOf l x)
/-- The store with the sample at its place. -/
def insM (l : List Smp) (x : Smp) : List Smp := match spotM l x with | some p => l.take p ++ x :: l.drop p | none => l ++ [x]
theorem insM_at {l : List Smp} {x : Smp} {p : Nat} (hp : p < l.length) (h : frontOf l x p = true) (hal : ∀ j, j < p → frontOf l x j = false) : insM l x = l.take p ++ x :: l.drop p := by
  have : spotM l x = some p := by
    unfold spotM
    rw [List.find?_range_eq_some]
    exact ⟨h, by simpa using hp, fun j hj => by simp [hal j hj]⟩
  unfold insM
  rw [this]
theorem insM_end {l : List Smp} {x : Smp} {n : Nat} (hn : l.length = n) (hal : ∀ j, j < n → frontOf l x j = false) : insM l x = l ++ [x] := by
  have : spotM l x = none := by
    unfold spotM
    rw [List.find?_range_eq_none]
    exact fun j hj => by simp [hal j (by omega)]
  unfold insM
  rw [this]
theorem insM_len (l : List Smp) (x : Smp) : (insM l x).length = l.length + 1 := by
  unfold insM
  rcases h : spotM l x with _ | p
  · simp
  · simp only [List.length_append, List.length_take, List.length_cons, List.length_drop]
    unfold spotM at h
    rw [List.find?_range_eq_some] at h
    have := h.2.1
    simp at this
    omega

/-- What k rounds have laid. -/
def PartI (l : List Smp) (x : Smp) (k : Nat) (d : Bool) (out : List Smp) : Prop :=
  (d = false ∧ (∀ j, j < k → frontOf l x j = false) ∧ out = l.take k) ∨ (d = true ∧ ∃ p, p < k ∧ frontOf l x p = true ∧ (∀ j, j < p → frontOf l x j = false) ∧ out = l.take p ++ x :: (l.take k).drop p)
theorem take_next {l : List Smp} {k : Nat} {a : Smp} (h : l[k]? = some a) : l.take (k + 1) = l.take k ++ [a] := by
  have hl := getElem?_some_lt h
  rw [List.take_succ_eq_append_getElem hl]
  rw [List.getElem?_eq_getElem hl] at h
  rw [Option.some.inj h]
theorem partI_done {l : List Smp} {x a : Smp} {k : Nat} {out : List Smp} (h : PartI l x k true out) (hk : l[k]? = some a) : PartI l x (k + 1) true (out ++ [a]) := by
  rcases h with ⟨h, _⟩ | ⟨_, p, hp, h1, h2, rfl⟩
  · cases h
  · refine .inr ⟨rfl, p, by omega, h1, h2, ?_⟩
    rw [take_next hk, List.drop_append_of_le_length (by rw [List.length_take]; have := getElem?_some_lt hk; omega)]
    simp
theorem partI_not {l : List Smp} {x a : Smp} {k : Nat} {out : List Smp} (h : PartI l x k false out) (hk : l[k]? = some a) (hf : frontOf l x k = false) : PartI l x (k + 1) false (out ++ [a]) := by
  rcases h with ⟨_, h1, rfl⟩ | ⟨h, _⟩
  · refine .inl ⟨rfl, fun j hj => ?_, (take_next hk).symm⟩
    rcases Nat.lt_or_ge j k with h | h
    · exact h1 j h
    · obtain rfl : j = k := by omega
      exact hf
  · cases h
theorem partI_now {l : List Smp} {x a : Smp} {k : Nat} {out : List Smp} (h : PartI l x k false out) (hk : l[k]? = some a) (hf : frontOf l x k = true) : PartI l x (k + 1) true (out ++ [x] ++ [a]) := by
  rcases h with ⟨_, h1, rfl⟩ | ⟨h, _⟩
  · refine .inr ⟨rfl, k, by omega, hf, h1, ?_⟩
    rw [take_next hk, List.drop_append_of_le_length (by rw [List.length_take]; have := getElem?_some_lt hk; omega), List.drop_of_length_le (by rw [List.length_take]; omega)]
    simp
  · cases h
theorem partI_end {l : List Smp} {x : Smp} {n : Nat} {out : List Smp} (hn : l.length = n) (h : PartI l x n true out) : out = insM l x := by
  rcases h with ⟨h, _⟩ | ⟨_, p, hp, h1, h2, rfl⟩
  · cases h
  · rw [insM_at (by omega) h1 h2, show l.take n = l from List.take_of_length_le (by omega)]
theorem partI_last {l : List Smp} {x : Smp} {n : Nat} {out : List Smp} (hn : l.length = n) (h : PartI l x n false out) : out ++ [x] = insM l x := by
  rcases h with ⟨_, h1, rfl⟩ | ⟨h, _⟩
  · rw [insM_end hn h1, List.take_of_length_le (by omega)]
  · cases h

def InsRel (w : World) (l : List Smp) (x0 x1 x2 x3 : Int) (n : Nat) (o d i : Value) (wr : World) : Prop :=
  ∃ (k : Nat) (b : Bool) (A : Option Addr) (L c : Nat) (out : List Smp), k ≤ n ∧ i = .int .i64 k ∧ d = .bool b ∧ o = .slice A L c ∧ PartI l (x0, x1, x2, x3) k b out ∧ L ≤ 2 * k ∧ Ow eS wr (w.heap.size + 1) A L c out ∧ At wr w.heap.size 25 #[.int .i64 x0, .int .i64 x1, .int .i64 x2, .int .i64 x3] ∧ Below w.heap.size w wr
theorem ow_smp (w : World) (a0 a1 a2 a3 : Int) : Ow eS (w.alloc (.cells #[.int .i64 a0, .int .i64 a1, .int .i64 a2, .int .i64 a3] 25)) w.heap.size (some ⟨w.heap.size, 0, none⟩) 1 1 [(a0, a1, a2, a3)] :=
  Ow.lit w [(a0, a1, a2, a3)] _ 1 (Nat.le_refl _) (by unfold maxLen; omega) rfl rfl

set_option maxHeartbeats 4000000 in
theorem l3Insert (A : Option Addr) (n c : Nat) (l : List Smp) (x0 x1 x2 x3 : Int) (w : World) (ha : Rd eS w w.heap.size A l) (hn : l.length = n) (hm : n ≤ 1048576) :
    Calls Tryz.prog 101 #[.slice A n c, .agg #[.int .i64 x0, .int .i64 x1, .int .i64 x2, .int .i64 x3]] w fun e w' => ∃ A' c', e = .returned (.slice A' (n + 1) c') ∧ Ow eS w' w.heap.size A' (n + 1) c' (insM l (x0, x1, x2, x3)) ∧ Below w.heap.size w w' := by
  have Hn := Lib.hid hn
  clear hn
  have B1 := (Below.refl w.heap.size w).alloc (Nat.le_refl _) (.cells #[.int .i64 x0, .int .i64 x1, .int .i64 x2, .int .i64 x3] 25)
  have b1 := (At.new w 25 #[.int .i64 x0, .int .i64 x1, .int .i64 x2, .int .i64 x3]).alloc (.cells #[] 25)
  have e1 : (w.alloc (.cells #[.int .i64 x0, .int .i64 x1, .int .i64 x2, .int .i64 x3] 25)).heap.size = w.heap.size + 1 := by simp
  have o1 : Ow eS ((w.alloc (.cells #[.int .i64 x0, .int .i64 x1, .int .i64 x2, .int .i64 x3] 25)).alloc (.cells #[] 25)) (w.alloc (.cells #[.int .i64 x0, .int .i64 x1, .int .i64 x2, .int .i64 x3] 25)).heap.size (some ⟨(w.alloc (.cells #[.int .i64 x0, .int .i64 x1, .int .i64 x2, .int .i64 x3] 25)).heap.size, 0, none⟩) 0 0 [] := Ow.lit _ [] #[] 0 (Nat.le_refl _) (by unfold maxLen; omega) rfl rfl
  have B2 := B1.alloc B1.size (.cells #[] 25)
  rw [e1] at o1
  go_enter Tryz.func101, Tryz.ntmps101
  go_wp2
  go_loopw [5, 6, 7] (fun o d i wr => InsRel w l x0 x1 x2 x3 n o d i wr) (fun _ _ i _ => n - (intOf i).toNat)
  case atStart => exact ⟨0, false, _, 0, 0, [], Nat.zero_le _, rfl, rfl, rfl, .inl ⟨rfl, fun _ h => absurd h (by omega), by simp⟩, by omega, o1, b1, B2⟩
  case round =>
    obtain ⟨k, b, A1, L1, c1, out, hk, rfl, rfl, rfl, hp, hL, ow1, bx, hbel⟩ := hrel
    have HP := Lib.hid hp
    clear hp
    have lbx := bx.lt
    obtain ⟨q0, q1, q2, q3, _, _, _, _⟩ := bx.four
    by_cases hlt : k < n
    · obtain ⟨g, o, a0, a1, a2, a3, rfl, hg, hx, ca⟩ := (ha.below hbel (Nat.le_refl _)).smp (k := k) (by rw [Hn.out]; exact hlt)
      have Hx := Lib.hid hx
      have Hf := Lib.hid (frontOf_at (x := (x0, x1, x2, x3)) hx)
      clear hx
      cases b
      · have hbd := hbel.drew
        have bs : S4 wr w.heap.size 0 x0 x1 x2 x3 := ⟨bx.cell 0, bx.cell 1, bx.cell 2, bx.cell 3⟩
        go_wp2
        refine wp_region_mix [(0, false), (1, false), (2, false), (3, false), (4, false), (5, false), (6, false), (7, false), (8, true), (9, false)] (fun u => S4 u w.heap.size 0 x0 x1 x2 x3 ∧ S4 u g (o + k * 4) a0 a1 a2 a3) (by kernel_rfl) (by kernel_rfl) (fun _ _ _ _ _ h => h) ⟨bs.drew, ca.drew⟩ ?_
        simp only [mixOps, List.map_cons, List.map_nil, List.getElem?_cons_succ, List.getElem?_cons_zero, Option.getD_some]
        repeat (first
          | (refine mix_skip (by rfl) ?_
             (try simp only [Act.put, List.setIfInBounds_toArray, List.set_cons_zero, List.set_cons_succ]))
          | (refine mix_pure (v := ?_) (by rfl) (fun u hu => ?_) ?_
             rotate_left
             · obtain ⟨⟨_, _, _, _⟩, _, _, _, _⟩ := hu
               go_simp
               (with_reducible rfl)
             (try simp only [Act.put, List.setIfInBounds_toArray, List.set_cons_zero, List.set_cons_succ])))
        refine mix_call (by rfl) (fun K hK => ?_)
        go_simp
        refine (specIsAhead x0 x1 x2 x3 a0 a1 a2 a3 _).mono ?_
        rintro e w2 ⟨rfl, hb2⟩
        have hB2 := hbd.trans (hb2.mono hbd.size)
        have bx2 := bx.drew.below hb2 lbx
        have ow2 := (ow1.drewN 1).below hb2 (Nat.le_refl _)
        have ca2 := ca.drew.below hb2 (Nat.lt_of_lt_of_le hg hbd.size)
        refine hK _ _ _ (fun _ h => h) ⟨bs.drew.below hb2 lbx, ca2⟩ ?_
        (try simp only [Act.put, List.setIfInBounds_toArray, List.set_cons_zero, List.set_cons_succ])
        rw [← Hf.out]
        clear q0 q1 q2 q3
        obtain ⟨q0, q1, q2, q3, _, _, _, _⟩ := bx2.four
        have hlo := ow1.len okS
        rcases hs : frontOf l (x0, x1, x2, x3) k
        · have Hs := Lib.hid hs
          clear hs
          refine mix_pure (v := ?_) (by rfl) (fun u hu => ?_) ?_
          rotate_left
          · go_simp
            (with_reducible rfl)
          (try simp only [Act.put, List.setIfInBounds_toArray, List.set_cons_zero, List.set_cons_succ])
          refine mix_nil ?_
          obtain ⟨_, _, _, _⟩ := ca2
          go_wp2_with (at_builtin; refine wpList_append_ow okS _ rfl (.tmp 29) (.tmp 34) _ rfl (w.heap.size + 1) info_smp Tryz.underlying36 rfl A1 L1 c1 out rfl (ow2.alloc _) _ 1 1 _ [(a0, a1, a2, a3)] rfl ((ow_smp _ a0 a1 a2 a3).rd okS) rfl (by unfold maxLen; omega) (by omega) (by have := hB2.size; simp; omega) ?_; intro A5 c5 w5 ow5 hg5 _; have hB5 := (hB2.alloc hB2.size _).grown hg5 (hB2.alloc hB2.size _).size (fun g hg => by have := (ow2.lt g hg).1; omega); have bx5 := (bx2.alloc _).grown hg5 (fun e => by have := (ow2.lt _ e).1; omega))
          exact ⟨⟨k + 1, false, A5, L1 + 1, c5, out ++ [(a0, a1, a2, a3)], by omega, by go_num, rfl, rfl, partI_not HP.out Hx.out Hs.out, by omega, ow5, bx5, hB5⟩, by simp [intOf]; omega⟩
        · have Hs := Lib.hid hs
          clear hs
          refine mix_pure (v := ?_) (by rfl) (fun u hu => ?_) ?_
          rotate_left
          · go_simp
            (with_reducible rfl)
          (try simp only [Act.put, List.setIfInBounds_toArray, List.set_cons_zero, List.set_cons_succ])
          refine mix_nil ?_
          go_wp2_with (first
            | (at_builtin; refine wpList_append_ow okS _ rfl (.tmp 25) (.tmp 27) _ rfl (w.heap.size + 1) info_smp Tryz.underlying36 rfl A1 L1 c1 out rfl (ow2.alloc _) _ 1 1 _ [(x0, x1, x2, x3)] rfl ((ow_smp _ x0 x1 x2 x3).rd okS) rfl (by unfold maxLen; omega) (by omega) (by have := hB2.size; simp; omega) ?_; intro A5 c5 w5 ow5 hg5 _; have hB5 := (hB2.alloc hB2.size _).grown hg5 (hB2.alloc hB2.size _).size (fun g hg => by have := (ow2.lt g hg).1; omega); have bx5 := (bx2.alloc _).grown hg5 (fun e => by have := (ow2.lt _ e).1; omega); obtain ⟨_, _, _, _⟩ := (ha.below hB5 (Nat.le_refl _)).smp_is Hx.out)
            | (at_builtin; refine wpList_append_ow okS _ rfl (.tmp 29) (.tmp 34) _ rfl (w.heap.size + 1) info_smp Tryz.underlying36 rfl A5 (L1 + 1) c5 (out ++ [(x0, x1, x2, x3)]) rfl (ow5.alloc _) _ 1 1 _ [(a0, a1, a2, a3)] rfl ((ow_smp _ a0 a1 a2 a3).rd okS) rfl (by unfold maxLen; omega) (by omega) (by have := hB5.size; simp; omega) ?_; intro A6 c6 w6 ow6 hg6 _; have hB6 := (hB5.alloc hB5.size _).grown hg6 (hB5.alloc hB5.size _).size (fun g hg => by have := (ow5.lt g hg).1; omega); have bx6 := (bx5.alloc _).grown hg6 (fun e => by have := (ow5.lt _ e).1; omega)))
          exact ⟨⟨k + 1, true, A6, L1 + 1 + 1, c6, out ++ [(x0, x1, x2, x3)] ++ [(a0, a1, a2, a3)], by omega, by go_num, rfl, rfl, partI_now HP.out Hx.out Hs.out, by omega, ow6, bx6, hB6⟩, by simp [intOf]; omega⟩
      · obtain ⟨_, _, _, _⟩ := ca
        have hlo := ow1.len okS
        go_wp2
        go_quiet (fail)
        go_wp2_with (at_builtin; refine wpList_append_ow okS _ rfl (.tmp 29) (.tmp 34) _ rfl (w.heap.size + 1) info_smp Tryz.underlying36 rfl A1 L1 c1 out rfl ((ow1.drewN _).alloc _) _ 1 1 _ [(a0, a1, a2, a3)] rfl ((ow_smp _ a0 a1 a2 a3).rd okS) rfl (by unfold maxLen; omega) (by omega) (by have := hbel.size; simp; omega) ?_; intro A5 c5 w5 ow5 hg5 _; have hB5 := ((bdrewN hbel _).alloc (bdrewN hbel _).size _).grown hg5 ((bdrewN hbel _).alloc (bdrewN hbel _).size _).size (fun g hg => by have := (ow1.lt g hg).1; omega); have bx5 := ((bx.drewN _).alloc _).grown hg5 (fun e => by have := (ow1.lt _ e).1; omega))
        exact ⟨⟨k + 1, true, A5, L1 + 1, c5, out ++ [(a0, a1, a2, a3)], by omega, by go_num, rfl, rfl, partI_done HP.out Hx.out, by omega, ow5, bx5, hB5⟩, by simp [intOf]; omega⟩
    · obtain rfl : n = k := by omega
      have hlo := ow1.len okS
      cases b
      · go_wp2_with (at_builtin; refine wpList_append_ow okS _ rfl (.tmp 38) (.tmp 40) _ rfl (w.heap.size + 1) info_smp Tryz.underlying36 rfl A1 L1 c1 out rfl (ow1.alloc _) _ 1 1 _ [(x0, x1, x2, x3)] rfl ((ow_smp _ x0 x1 x2 x3).rd okS) rfl (by unfold maxLen; omega) (by omega) (by have := hbel.size; simp; omega) ?_; intro A5 c5 w5 ow5 hg5 _; have hB5 := (hbel.alloc hbel.size _).grown hg5 (hbel.alloc hbel.size _).size (fun g hg => by have := (ow1.lt g hg).1; omega); have bx5 := (bx.alloc _).grown hg5 (fun e => by have := (ow1.lt _ e).1; omega))
        have hq := partI_last Hn.out HP.out
        rw [hq] at ow5
        have hL1 : L1 + 1 = n + 1 := by rw [← ow5.len okS, insM_len, Hn.out]
        go_ret
        rw [hL1] at ow5
        exact ⟨_, _, by simp; omega, ow5.from_ (by omega), hB5⟩
      · have hq := partI_end Hn.out HP.out
        have hL1 : L1 = n + 1 := by rw [← hlo, hq, insM_len, Hn.out]
        subst hL1
        subst hq
        go_wp2
        go_ret
        exact ⟨_, _, rfl, ow1.from_ (by omega), hbel⟩
end Go.Proofs.YtmaillakhhdkfaaGreatDoor
/-
  Rows of samples marked and held, as the law does it.
-/
namespace Go.Proofs.YtmaillakhhdkfaaGreatDoor
set_option maxRecDepth 20000
open Go.RowKit
set_option linter.unusedSimpArgs false

end Go.Proofs.YtmaillakhhdkfaaGreatDoor
/-
  Answers that hold samples: compared, marked and held as the law does it.
-/
namespace Go.Proofs.YtmaillakhhdkfaaGreatDoor
set_option maxRecDepth 20000
open Go.RowKit
set_option linter.unusedSimpArgs false

/-- A code and samples of the call's own. -/
def RetSs (r : Int × List Smp) (w : World) (e : Ending) (w' : World) : Prop :=
  ∃ A n c, e = .returned (.agg #[.int .i64 r.1, .slice A n c]) ∧ Ow eS w' w.heap.size A n c r.2 ∧ Below w.heap.size w w'
/-- A code, whether it is new, and samples of the call's own. -/
def RetSt (r : Int × Bool × List Smp) (w : World) (e : Ending) (w' : World) : Prop :=
  ∃ A n c, e = .returned (.agg #[.int .i64 r.1, .bool r.2.1, .slice A n c]) ∧ Ow eS w' w.heap.size A n c r.2.2 ∧ Below w.heap.size w w'

end Go.Proofs.YtmaillakhhdkfaaGreatDoor
/-
  A sample put into a store, and one looked for: the model's.
-/
namespace Go.Proofs.YtmaillakhhdkfaaGreatDoor
set_option maxRecDepth 20000
open Go.RowKit
set_option linter.unusedSimpArgs false

theorem findI_or (l : List Smp) (x : Smp) : findI l x = -1 ∨ ∃ k : Nat, findI l x = (k : Int) ∧ k < l.length := by
  unfold findI
  rcases h : findM l x with _ | i
  · exact .inl rfl
  · refine .inr ⟨i, rfl, ?_⟩
    unfold findM at h
    rw [List.find?_range_eq_some] at h
    simpa using h.2.1
theorem storeFault_zero {l : List Smp} (h : storeFaultM l = 0) : l.length ≤ 160 := by
  unfold storeFaultM at h
  by_cases hb : 160 < l.length
  · rw [if_pos hb] at h
    cases h
  · omega
/-- What InsertSample answers. -/
def insertM (l : List Smp) (x : Smp) : Int × Bool × List Smp :=
  if storeFaultM l ≠ 0 then (storeFaultM l, false, []) else if faultM x ≠ 0 then (faultM x, false, []) else if 0 ≤ findI l x then (0, false, l) else if 160 ≤ l.length then (7, false, []) else (0, true, insM l x)
/-- What FindSample answers. -/
def lookM (l : List Smp) (x : Smp) : Int × Smp :=
  if storeFaultM l ≠ 0 then (storeFaultM l, (0, 0, 0, 0)) else match findM l x with | some i => (0, (l[i]?).getD (0, 0, 0, 0)) | none => (4, (0, 0, 0, 0))

set_option maxRecDepth 100000 in
set_option maxHeartbeats 2000000 in
theorem specInsertSample (A : Option Addr) (n c : Nat) (l : List Smp) (x0 x1 x2 x3 : Int) (w : World) (ha : Rd eS w w.heap.size A l) (hn : l.length = n) (hm : n ≤ 1048576) :
    Calls Tryz.prog 106 #[.slice A n c, .agg #[.int .i64 x0, .int .i64 x1, .int .i64 x2, .int .i64 x3]] w fun e w' => RetSt (insertM l (x0, x1, x2, x3)) w e w' := by
  have hB0 : Below w.heap.size w ((w.alloc (.cells #[.int .i64 x0, .int .i64 x1, .int .i64 x2, .int .i64 x3] 25)).alloc (.cells #[.int .i64 0, .bool false, .slice none 0 0] 135)) := ((Below.refl _ _).alloc (Nat.le_refl _) _).alloc (by simp) _
  have bx0 := (At.new w 25 #[.int .i64 x0, .int .i64 x1, .int .i64 x2, .int .i64 x3]).alloc (.cells #[.int .i64 0, .bool false, .slice none 0 0] 135)
  have e1 : (w.alloc (.cells #[.int .i64 x0, .int .i64 x1, .int .i64 x2, .int .i64 x3] 25)).heap.size = w.heap.size + 1 := by simp
  have r0 := At.new (w.alloc (.cells #[.int .i64 x0, .int .i64 x1, .int .i64 x2, .int .i64 x3] 25)) 135 #[.int .i64 0, .bool false, .slice none 0 0]
  rw [e1] at r0
  have ha0 := ha.lift hB0
  have HF := specStoreFault A n c l _ ha0 hn
  by_cases h0 : storeFaultM l = 0
  rotate_left
  · rw [show insertM l (x0, x1, x2, x3) = (storeFaultM l, false, []) from if_pos h0]
    have hne : (storeFaultM l != 0) = true := by rw [bne_iff_ne]; exact h0
    generalize storeFaultM l = sf at *
    clear h0
    go_enter Tryz.func106, Tryz.ntmps106
    go_wp2_with fail
    refine (HF).mono ?_
    rintro e w1 ⟨rfl, hb1⟩
    have hB1 := hB0.trans (hb1.mono hB0.size)
    have bx1 := bx0.below hb1 bx0.lt
    have r1 := r0.below hb1 r0.lt
    have ha1 := ha0.lift hb1
    obtain ⟨b1_0, b1_1, b1_2, b1_3, _, _, _, _⟩ := bx1.four
    obtain ⟨c0, c1, c2, _, _, _⟩ := r1.three
    go_wp2_with fail
    refine bodyPost_ret (v := .agg #[.int .i64 sf, .bool false, .slice none 0 0]) (by simp [results, Tryz.results106, go_sem, c0, c1, c2]) rfl ?_
    exact ⟨_, _, _, rfl, Ow.nil, (((hB1.setCell (by simp) _).setCell (by simp) _).setCell (by simp) _)⟩
  have h160 := storeFault_zero h0
  rw [h0] at HF
  rcases faultM_or (x0, x1, x2, x3) with hf | hf
  rotate_left
  · rw [show insertM l (x0, x1, x2, x3) = (3, false, []) by unfold insertM; rw [if_neg (by simp [h0]), if_pos (by simp [hf]), hf]]
    have XF := specSampleFault x0 x1 x2 x3
    rw [hf] at XF
    clear hf h0
    go_enter Tryz.func106, Tryz.ntmps106
    go_wp2_with fail
    refine (HF).mono ?_
    rintro e w1 ⟨rfl, hb1⟩
    have hB1 := hB0.trans (hb1.mono hB0.size)
    have bx1 := bx0.below hb1 bx0.lt
    have r1 := r0.below hb1 r0.lt
    have ha1 := ha0.lift hb1
    obtain ⟨b1_0, b1_1, b1_2, b1_3, _, _, _, _⟩ := bx1.four
    go_wp2_with fail
    refine (XF _).mono ?_
    rintro e w2 ⟨rfl, hb2⟩
    have hB2 := hB1.trans (hb2.mono hB1.size)
    have bx2 := bx1.below hb2 bx1.lt
    have r2 := r1.below hb2 r1.lt
    have ha2 := ha1.lift hb2
    obtain ⟨b2_0, b2_1, b2_2, b2_3, _, _, _, _⟩ := bx2.four
    obtain ⟨c0, c1, c2, _, _, _⟩ := r2.three
    go_wp2_with fail
    refine bodyPost_ret (v := .agg #[.int .i64 3, .bool false, .slice none 0 0]) (by simp [results, Tryz.results106, go_sem, c0, c1, c2]) rfl ?_
    exact ⟨_, _, _, rfl, Ow.nil, (((hB2.setCell (by simp) _).setCell (by simp) _).setCell (by simp) _)⟩
  have XF := specSampleFault x0 x1 x2 x3
  rw [hf] at XF
  have HL := fun W (h1 : Rd eS W W.heap.size A l) h2 h3 => l3Find A n c l w.heap.size 0 x0 x1 x2 x3 W h1 hn (by unfold maxLen; omega) h2 h3
  rcases findI_or l (x0, x1, x2, x3) with hi | ⟨k, hi, hk⟩
  · rw [hi] at HL
    by_cases hfull : 160 ≤ n
    · rw [show insertM l (x0, x1, x2, x3) = (7, false, []) by unfold insertM; rw [if_neg (by simp [h0]), if_neg (by simp [hf]), if_neg (by rw [hi]; omega), if_pos (by omega)]]
      have hfi : (160 : Int) ≤ (n : Int) := by omega
      clear hf h0 hi
      go_enter Tryz.func106, Tryz.ntmps106
      go_wp2_with fail
      refine (HF).mono ?_
      rintro e w1 ⟨rfl, hb1⟩
      have hB1 := hB0.trans (hb1.mono hB0.size)
      have bx1 := bx0.below hb1 bx0.lt
      have r1 := r0.below hb1 r0.lt
      have ha1 := ha0.lift hb1
      obtain ⟨b1_0, b1_1, b1_2, b1_3, _, _, _, _⟩ := bx1.four
      go_wp2_with fail
      refine (XF _).mono ?_
      rintro e w2 ⟨rfl, hb2⟩
      have hB2 := hB1.trans (hb2.mono hB1.size)
      have bx2 := bx1.below hb2 bx1.lt
      have r2 := r1.below hb2 r1.lt
      have ha2 := ha1.lift hb2
      obtain ⟨b2_0, b2_1, b2_2, b2_3, _, _, _, _⟩ := bx2.four
      go_wp2_with fail
      refine (HL _ ha2 ⟨bx2.cell 0, bx2.cell 1, bx2.cell 2, bx2.cell 3⟩ bx2.lt).mono ?_
      rintro e w3 ⟨rfl, hb3⟩
      have hB3 := hB2.trans (hb3.mono hB2.size)
      have bx3 := bx2.below hb3 bx2.lt
      have r3 := r2.below hb3 r2.lt
      have ha3 := ha2.lift hb3
      obtain ⟨b3_0, b3_1, b3_2, b3_3, _, _, _, _⟩ := bx3.four
      obtain ⟨c0, c1, c2, _, _, _⟩ := r3.three
      go_wp2_with fail
      refine bodyPost_ret (v := .agg #[.int .i64 7, .bool false, .slice none 0 0]) (by simp [results, Tryz.results106, go_sem, c0, c1, c2]) rfl ?_
      exact ⟨_, _, _, rfl, Ow.nil, (((hB3.setCell (by simp) _).setCell (by simp) _).setCell (by simp) _)⟩
    · rw [show insertM l (x0, x1, x2, x3) = (0, true, insM l (x0, x1, x2, x3)) by unfold insertM; rw [if_neg (by simp [h0]), if_neg (by simp [hf]), if_neg (by rw [hi]; omega), if_neg (by omega)]]
      have hfi : ¬ (160 : Int) ≤ (n : Int) := by omega
      clear hf h0 hi
      go_enter Tryz.func106, Tryz.ntmps106
      go_wp2_with fail
      refine (HF).mono ?_
      rintro e w1 ⟨rfl, hb1⟩
      have hB1 := hB0.trans (hb1.mono hB0.size)
      have bx1 := bx0.below hb1 bx0.lt
      have r1 := r0.below hb1 r0.lt
      have ha1 := ha0.lift hb1
      obtain ⟨b1_0, b1_1, b1_2, b1_3, _, _, _, _⟩ := bx1.four
      go_wp2_with fail
      refine (XF _).mono ?_
      rintro e w2 ⟨rfl, hb2⟩
      have hB2 := hB1.trans (hb2.mono hB1.size)
      have bx2 := bx1.below hb2 bx1.lt
      have r2 := r1.below hb2 r1.lt
      have ha2 := ha1.lift hb2
      obtain ⟨b2_0, b2_1, b2_2, b2_3, _, _, _, _⟩ := bx2.four
      go_wp2_with fail
      refine (HL _ ha2 ⟨bx2.cell 0, bx2.cell 1, bx2.cell 2, bx2.cell 3⟩ bx2.lt).mono ?_
      rintro e w3 ⟨rfl, hb3⟩
      have hB3 := hB2.trans (hb3.mono hB2.size)
      have bx3 := bx2.below hb3 bx2.lt
      have r3 := r2.below hb3 r2.lt
      have ha3 := ha2.lift hb3
      obtain ⟨b3_0, b3_1, b3_2, b3_3, _, _, _, _⟩ := bx3.four
      go_wp2_with fail
      refine (l3Insert A n c l x0 x1 x2 x3 _ ha3 hn hm).mono ?_
      rintro e w4 ⟨A4, c4, rfl, ow4, hb4⟩
      have hB4 := hB3.trans (hb4.mono hB3.size)
      have bx4 := bx3.below hb4 bx3.lt
      have r4 := r3.below hb4 r3.lt
      have ha4 := ha3.lift hb4
      obtain ⟨b4_0, b4_1, b4_2, b4_3, _, _, _, _⟩ := bx4.four
      obtain ⟨c0, c1, c2, _, _, _⟩ := r4.three
      go_wp2_with fail
      refine bodyPost_ret (v := .agg #[.int .i64 0, .bool true, .slice A4 (n + 1) c4]) (by simp [results, Tryz.results106, go_sem, c0, c1, c2]) rfl ?_
      exact ⟨_, _, _, rfl, ((((ow4.under (p := ⟨w.heap.size + 1, 0, none⟩) r3.lt _).under (p := ⟨w.heap.size + 1, 1, none⟩) r3.lt _).under (p := ⟨w.heap.size + 1, 2, none⟩) r3.lt _).from_ hB3.size), (((hB4.setCell (by simp) _).setCell (by simp) _).setCell (by simp) _)⟩
  · rw [hi] at HL
    rw [show insertM l (x0, x1, x2, x3) = (0, false, l) by unfold insertM; rw [if_neg (by simp [h0]), if_neg (by simp [hf]), if_pos (by rw [hi]; omega)]]
    have hk0 : (0 : Int) ≤ (k : Int) := by omega
    clear hf h0 hi
    go_enter Tryz.func106, Tryz.ntmps106
    go_wp2_with fail
    refine (HF).mono ?_
    rintro e w1 ⟨rfl, hb1⟩
    have hB1 := hB0.trans (hb1.mono hB0.size)
    have bx1 := bx0.below hb1 bx0.lt
    have r1 := r0.below hb1 r0.lt
    have ha1 := ha0.lift hb1
    obtain ⟨b1_0, b1_1, b1_2, b1_3, _, _, _, _⟩ := bx1.four
    go_wp2_with fail
    refine (XF _).mono ?_
    rintro e w2 ⟨rfl, hb2⟩
    have hB2 := hB1.trans (hb2.mono hB1.size)
    have bx2 := bx1.below hb2 bx1.lt
    have r2 := r1.below hb2 r1.lt
    have ha2 := ha1.lift hb2
    obtain ⟨b2_0, b2_1, b2_2, b2_3, _, _, _, _⟩ := bx2.four
    go_wp2_with fail
    refine (HL _ ha2 ⟨bx2.cell 0, bx2.cell 1, bx2.cell 2, bx2.cell 3⟩ bx2.lt).mono ?_
    rintro e w3 ⟨rfl, hb3⟩
    have hB3 := hB2.trans (hb3.mono hB2.size)
    have bx3 := bx2.below hb3 bx2.lt
    have r3 := r2.below hb3 r2.lt
    have ha3 := ha2.lift hb3
    obtain ⟨b3_0, b3_1, b3_2, b3_3, _, _, _, _⟩ := bx3.four
    go_wp2_with fail
    refine (l3Copy A n c l _ ha3 hn hm).mono ?_
    rintro e w4 ⟨A4, c4, rfl, ow4, hb4⟩
    have hB4 := hB3.trans (hb4.mono hB3.size)
    have bx4 := bx3.below hb4 bx3.lt
    have r4 := r3.below hb4 r3.lt
    have ha4 := ha3.lift hb4
    obtain ⟨b4_0, b4_1, b4_2, b4_3, _, _, _, _⟩ := bx4.four
    obtain ⟨c0, c1, c2, _, _, _⟩ := r4.three
    go_wp2_with fail
    refine bodyPost_ret (v := .agg #[.int .i64 0, .bool false, .slice A4 n c4]) (by simp [results, Tryz.results106, go_sem, c0, c1, c2]) rfl ?_
    exact ⟨_, _, _, rfl, ((((ow4.under (p := ⟨w.heap.size + 1, 0, none⟩) r3.lt _).under (p := ⟨w.heap.size + 1, 1, none⟩) r3.lt _).under (p := ⟨w.heap.size + 1, 2, none⟩) r3.lt _).from_ hB3.size), (((hB4.setCell (by simp) _).setCell (by simp) _).setCell (by simp) _)⟩

end Go.Proofs.YtmaillakhhdkfaaGreatDoor
/-
  A region that draws its order, step by step: what may come is asked at each step; two that may come are walked both.
-/
namespace Go.Proofs.YtmaillakhhdkfaaGreatDoor
set_option maxRecDepth 20000
open Go.RowKit

section
variable {P : Program} {md : Region.Mode} {Q : Exit → Act → World → Prop} {l : List Oper} {S : World → Prop} {fuel : Nat} {listed : Array Bool} {a : Act} {w : World}

theorem any_start {id : Nat} (S : World → Prop) (hm : P.follows .mixedOrders = true) (hS : S w.drew) (h : S w.drew → wpAnyH P .any l.toArray Q S l.length (Array.replicate l.length false) a w.drew) : (Code.region id l.toArray true).wp P Q a w := by
  refine wp_region_held (S := S) hm ?_
  simpa using h hS
theorem any_pure (k : Nat) {o : Oper} {v : Value} (hoa : l[k]? = some o) (hB : (Region.noSelect l.toArray && ((Region.ready md l.toArray listed).contains k && Region.free md l.toArray listed k)) = true)
    (hQ : ∀ c a (d : Nat) v w, Q (.panic c) (Act.put a (some d) v) w → Q (.panic c) a w) (hw : Region.wanted o (yielded l.toArray a.tmps) = true) (hv : ∀ x, S x → (execOp a.eval o).run P x = .ok (.value v) x) (hS : S w)
    (h : wpAnyH P md l.toArray Q S fuel (listed.setIfInBounds k true) (a.put o.dst v) w) : wpAnyH P md l.toArray Q S (fuel + 1) listed a w := by
  simp only [Bool.and_eq_true] at hB
  obtain ⟨h1, h2, h3⟩ := hB
  refine wpAnyH_take (by simpa using hoa) h1 h3 h2 (fun c a w => ?_) (.inl ⟨hw, hv⟩) hS h
  cases hd : o.dst with
  | none => exact fun h => h
  | some d => exact hQ c a d v w
theorem any_op {k : Nat} {o : Oper} (hoa : l[k]? = some o) (hw : Region.wanted o (yielded l.toArray a.tmps) = true)
    (h : o.wp P a w (fun a' w' => ∃ S' : World → Prop, (∀ x, S' x → S x) ∧ S' w' ∧ wpAnyH P md l.toArray Q S' fuel (listed.setIfInBounds k true) a' w') Q) :
    wpOp P l.toArray Q k (fun a' w' => S w' ∧ wpAnyH P md l.toArray Q S fuel (listed.setIfInBounds k true) a' w') a w := by
  have h1 : wpOp P l.toArray Q k (fun a' w' => ∃ S' : World → Prop, (∀ x, S' x → S x) ∧ S' w' ∧ wpAnyH P md l.toArray Q S' fuel (listed.setIfInBounds k true) a' w') a w := by
    unfold wpOp
    rw [show l.toArray[k]? = some o by simpa using hoa]
    simp only
    rw [if_pos hw]
    exact .inl h
  exact wpOp_mono (fun a' w' ⟨S', h1, h2, h3⟩ => ⟨h1 _ h2, held_mono h1 _ _ _ _ h3⟩) h1
theorem any_one (k : Nat) {o : Oper} (hoa : l[k]? = some o) (hB : (Region.ready md l.toArray listed == [k]) = true) (hw : Region.wanted o (yielded l.toArray a.tmps) = true)
    (h : o.wp P a w (fun a' w' => ∃ S' : World → Prop, (∀ x, S' x → S x) ∧ S' w' ∧ wpAnyH P md l.toArray Q S' fuel (listed.setIfInBounds k true) a' w') Q) : wpAnyH P md l.toArray Q S (fuel + 1) listed a w := by
  refine wpAnyH_all (rs := [k]) (by simpa using hB) (by simp) fun i hi => ?_
  obtain rfl : i = k := by simpa using hi
  exact any_op hoa hw h
theorem any_two (i j : Nat) {o o' : Oper} (hoa : l[i]? = some o) (hob : l[j]? = some o') (hB : (Region.ready md l.toArray listed == [i, j]) = true) (hw : Region.wanted o (yielded l.toArray a.tmps) = true) (hw' : Region.wanted o' (yielded l.toArray a.tmps) = true)
    (h : o.wp P a w (fun a' w' => ∃ S' : World → Prop, (∀ x, S' x → S x) ∧ S' w' ∧ wpAnyH P md l.toArray Q S' fuel (listed.setIfInBounds i true) a' w') Q)
    (h' : o'.wp P a w (fun a' w' => ∃ S' : World → Prop, (∀ x, S' x → S x) ∧ S' w' ∧ wpAnyH P md l.toArray Q S' fuel (listed.setIfInBounds j true) a' w') Q) : wpAnyH P md l.toArray Q S (fuel + 1) listed a w := by
  refine wpAnyH_all (rs := [i, j]) (by simpa using hB) (by simp) fun k hk => ?_
  rcases (show k = i ∨ k = j by simpa using hk) with rfl | rfl
  · exact any_op hoa hw h
  · exact any_op hob hw' h'
theorem any_done (hB : (Region.ready md l.toArray listed).isEmpty = true) (h : Q .normal a w) : wpAnyH P md l.toArray Q S 0 listed a w := wpAnyH_done (by simpa using hB) h 0
theorem At.newAt' {w : World} {g : Nat} {t : TypeId} {cs : Array Value} (h : w.heap.size = g) : At (w.alloc (.cells cs t)) g t cs := by
  subst h
  exact At.new w t cs
end
end Go.Proofs.YtmaillakhhdkfaaGreatDoor
/-
  Rows of samples that are drawn.
-/
namespace Go.Proofs.YtmaillakhhdkfaaGreatDoor
set_option maxRecDepth 20000
open Go.RowKit
set_option linter.unusedSimpArgs false

def DrawLRel (base g : Nat) (A : Option Addr) (m c k : Nat) (l : List UInt8) (n : Nat) (w : World) (vn out : Value) (wr : World) : Prop :=
  ∃ (j : Nat) (A' : Option Addr) (L c' : Nat) (xs : List Smp), j ≤ n ∧ vn = .int .i64 ((n : Int) - (j : Int)) ∧ out = .slice A' L c' ∧ L ≤ j ∧ Ow eS wr w.heap.size A' L c' xs ∧ Src wr base g A m c (k + 1 + 4 * j) l ∧ Within g (g + 1) w wr

set_option maxHeartbeats 1600000 in
theorem l3Draw (w : World) (base g : Nat) (A : Option Addr) (m c k : Nat) (l : List UInt8) (h : Src w base g A m c k l) (hk : k < 700000000) :
    Calls Tryz.prog 52 #[.pointer (some ⟨g, 0, none⟩)] w fun e w' => ∃ (k' : Nat) (A' : Option Addr) (L c' : Nat) (xs : List Smp), e = .returned (.slice A' L c') ∧ L ≤ 12 ∧ Ow eS w' w.heap.size A' L c' xs ∧ k' ≤ k + 60 ∧ Src w' base g A m c k' l ∧ Within g (g + 1) w w' := by
  have hgl := h.at_.lt
  go_enter Tryz.func52, Tryz.ntmps52
  go_wp2_with fail
  refine (l1Next _ base g A m c k l 12 (h.alloc _) (by omega) (by omega)).mono ?_
  rintro e w1 ⟨r, rfl, hr, -, s1, hw1, -⟩
  obtain ⟨hr0, hr1⟩ := hr (by omega)
  obtain ⟨n, rfl⟩ := Int.eq_ofNat_of_zero_le hr0
  have hn : n < 12 := by omega
  have hwi0 := ((Within.refl g (g + 1) w).alloc (.cells #[] 25)).trans hw1
  have how00 : Ow eS (w.alloc (.cells #[] 25)) w.heap.size (some ⟨w.heap.size, 0, none⟩) 0 0 [] := Ow.lit (E := eS) w [] #[] 0 (Nat.le_refl _) (by unfold maxLen; omega) rfl rfl
  have how0 := how00.within hw1 how00.lt (.inr hgl)
  clear how00
  clear hr hr0 hr1
  go_wp2_with fail
  have g1 := s1.at_.lt
  go_loopw [3, 4] (fun out vn wr => DrawLRel base g A m c k l n w vn out wr) (fun _ vn _ => (intOf vn).toNat)
  case atStart => exact ⟨0, _, 0, 0, [], Nat.zero_le _, by simp, rfl, Nat.le_refl _, how0, s1, hwi0⟩
  case round =>
    obtain ⟨j, A1, L, c1, xs, hj, rfl, rfl, hL, how, hsrc, hwi⟩ := hrel
    have Hs := Lib.hid hsrc
    by_cases hlt : j < n
    · go_wp2_with fail
      refine (l2Draw _ base g A m c _ l hsrc (by omega)).mono ?_
      rintro e w2 ⟨n0, n1, n2, n3, rfl, -, -, -, -, s2, hw2⟩
      have ow2 := how.within hw2 how.lt (.inr hgl)
      have g2 := s2.at_.lt
      have wi2 := hwi.trans hw2
      have hz2 := wi2.size
      generalize ((n3 : Int) - 1000) = y3 at *
      generalize (n0 : Int) = y0 at *
      generalize (n1 : Int) = y1 at *
      generalize (n2 : Int) = y2 at *
      have hat := At.new w2 25 #[.int .i64 y0, .int .i64 y1, .int .i64 y2, .int .i64 y3]
      have cA : S4 (w2.alloc (.cells #[.int .i64 y0, .int .i64 y1, .int .i64 y2, .int .i64 y3] 25)) w2.heap.size 0 y0 y1 y2 y3 := by
        obtain ⟨h0, h1, h2, h3, _⟩ := hat.four
        exact ⟨h0, h1, h2, h3⟩
      have wi3 := wi2.alloc (.cells #[.int .i64 y0, .int .i64 y1, .int .i64 y2, .int .i64 y3] 25)
      have s3 := s2.alloc (.cells #[.int .i64 y0, .int .i64 y1, .int .i64 y2, .int .i64 y3] 25)
      have ow3 := ow2.alloc (.cells #[.int .i64 y0, .int .i64 y1, .int .i64 y2, .int .i64 y3] 25)
      have hl3 := ow3.len okS
      have hfi := l3Find A1 L c1 xs w2.heap.size 0 y0 y1 y2 y3 _ (ow3.rd okS) hl3 (by unfold maxLen; omega) cA hat.lt
      rcases findI_or xs (y0, y1, y2, y3) with hi | ⟨j', hi, _⟩
      · rw [hi] at hfi
        clear hi
        go_wp2_with fail
        refine hfi.mono ?_
        rintro e w4 ⟨rfl, hb4⟩
        have ow4 := ow3.below hb4 (Nat.le_refl _)
        have wi4 := wi3.trans (Within.of_below hb4)
        have s4 := s3.below hb4 s3.at_.lt
        obtain ⟨_, _, _, _, _, _, _, _⟩ := (hat.below hb4 hat.lt).four
        go_wp2_with fail
        refine (l3Insert A1 L c1 xs y0 y1 y2 y3 _ (ow4.rd okS) hl3 (by omega)).mono ?_
        rintro e w5 ⟨A5, c5, rfl, ow5, hb5⟩
        have wi5 := wi4.trans (Within.of_below hb5)
        have s5 := s4.below hb5 s4.at_.lt
        go_wp2
        refine ⟨⟨j + 1, A5, L + 1, c5, _, by omega, by go_num, rfl, by omega, ow5.from_ wi4.size, ?_, wi5⟩, by simp [intOf]; omega⟩
        rw [show k + 1 + 4 * (j + 1) = k + 1 + 4 * j + 4 by omega]
        exact s5
      · have hj' : ¬ (j' : Int) < 0 := by omega
        rw [hi] at hfi
        clear hi
        go_wp2_with fail
        refine hfi.mono ?_
        rintro e w4 ⟨rfl, hb4⟩
        have ow4 := ow3.below hb4 (Nat.le_refl _)
        have wi4 := wi3.trans (Within.of_below hb4)
        have s4 := s3.below hb4 s3.at_.lt
        go_wp2
        refine ⟨⟨j + 1, A1, L, c1, xs, by omega, by go_num, rfl, by omega, ow4, ?_, wi4⟩, by simp [intOf]; omega⟩
        rw [show k + 1 + 4 * (j + 1) = k + 1 + 4 * j + 4 by omega]
        exact s4
    · obtain rfl : n = j := by omega
      go_wp2
      go_ret
      exact ⟨_, A1, L, c1, xs, rfl, by omega, how, by omega, Hs.out, hwi⟩
end Go.Proofs.YtmaillakhhdkfaaGreatDoor
/-
  Rows of samples that are drawn, some of them no store.
-/
namespace Go.Proofs.YtmaillakhhdkfaaGreatDoor
set_option maxRecDepth 20000
open Go.RowKit
set_option linter.unusedSimpArgs false

def DrawBRel (base g : Nat) (A : Option Addr) (m c k : Nat) (l : List UInt8) (n : Nat) (w : World) (vn out : Value) (wr : World) : Prop :=
  ∃ (j : Nat) (A' : Option Addr) (c' : Nat) (xs : List Smp), j ≤ n ∧ vn = .int .i64 ((n : Int) - (j : Int)) ∧ out = .slice A' j c' ∧ Ow eS wr w.heap.size A' j c' xs ∧ Src wr base g A m c k l ∧ Within g (g + 1) w wr

set_option maxHeartbeats 1600000 in
theorem l3Bent (w : World) (base g : Nat) (A : Option Addr) (m c k : Nat) (l : List UInt8) (h : Src w base g A m c k l) (hk : k < 600000000) :
    Calls Tryz.prog 90 #[.pointer (some ⟨g, 0, none⟩)] w fun e w' => ∃ (k' : Nat) (A' : Option Addr) (L c' : Nat) (xs : List Smp), e = .returned (.slice A' L c') ∧ L ≤ 200 ∧ Ow eS w' w.heap.size A' L c' xs ∧ k' ≤ k + 100 ∧ Src w' base g A m c k' l ∧ Within g (g + 1) w w' := by
  have hgl := h.at_.lt
  go_enter Tryz.func90, Tryz.ntmps90
  go_wp2_with fail
  refine (l3Draw w base g A m c k l h (by omega)).mono ?_
  rintro e w1 ⟨k1, A1, L1, c1, xs, rfl, hL, ow1, hk1, s1, wi1⟩
  have g1 := s1.at_.lt
  go_wp2_with fail
  refine (l1Next _ base g A m c _ l 14 s1 (by omega) (by omega)).mono ?_
  rintro e w2 ⟨r, rfl, hr, -, s2, hw2, -⟩
  obtain ⟨hr0, hr1⟩ := hr (by omega)
  have ow2 := ow1.within hw2 ow1.lt (.inr hgl)
  have wi2 := wi1.trans hw2
  have hl2 := ow2.len okS
  have g2 := s2.at_.lt
  clear hr ow1
  rcases (show r = 0 ∨ r = 1 ∨ r = 2 ∨ 3 ≤ r by omega) with rfl | rfl | rfl | hr3
  · go_wp2_with fail
    refine (l2Bent _ base g A m c _ l s2 (by omega)).mono ?_
    rintro e w3 ⟨a0, a1, a2, a3, rfl, ⟨k3, hk3, s3⟩, hw3⟩
    have ow3 := ow2.within hw3 ow2.lt (.inr hgl)
    have wi3 := wi2.trans hw3
    have g3 := s3.at_.lt
    go_wp2_with (at_builtin; refine wpList_append_ow okS _ rfl (.tmp 11) (.tmp 14) _ rfl w.heap.size info_smp Tryz.underlying36 rfl A1 L1 c1 xs rfl (ow3.alloc _) _ 1 1 _ [(a0, a1, a2, a3)] rfl ((ow_smp _ a0 a1 a2 a3).rd okS) rfl (by unfold maxLen; omega) (by omega) ((wi3.alloc _).size) ?_; intro A5 c5 w5 ow5 hg5 _)
    have hr5 : ∀ x, A1.map (·.block) = some x → w.heap.size ≤ x := fun x hx => (ow3.lt x hx).1
    go_wp2
    go_ret
    exact ⟨k3, A5, L1 + 1, c5, rfl, by omega, ⟨_, ow5⟩, by omega, (s3.alloc _).grown hg5 fun x hx => Nat.lt_of_lt_of_le hgl (hr5 x hx), (wi3.alloc _).push hg5 hr5⟩
  · go_wp2_with (at_builtin; refine wpList_append_ow okS _ rfl (.tmp 18) (.tmp 19) _ rfl w.heap.size info_smp Tryz.underlying36 rfl A1 L1 c1 xs rfl ow2 A1 L1 c1 _ xs rfl (ow2.rd okS) hl2 (by unfold maxLen; omega) (by omega) wi2.size ?_; intro A5 c5 w5 ow5 hg5 _)
    have hr5 : ∀ x, A1.map (·.block) = some x → w.heap.size ≤ x := fun x hx => (ow2.lt x hx).1
    go_wp2
    go_ret
    exact ⟨_, A5, L1 + L1, c5, rfl, by omega, ⟨_, ow5⟩, by omega, s2.grown hg5 fun x hx => Nat.lt_of_lt_of_le hgl (hr5 x hx), wi2.push hg5 hr5⟩
  · go_wp2_with fail
    have s3 := s2.alloc (.cells #[] 25)
    have wi3 := wi2.alloc (.cells #[] 25)
    have ow3 : Ow eS (w2.alloc (.cells #[] 25)) w.heap.size (some ⟨w2.heap.size, 0, none⟩) 0 0 [] := Ow.lit (E := eS) w2 [] #[] 0 wi2.size (by unfold maxLen; omega) rfl rfl
    refine (l1Pick _ _ _ A m c _ l (w2.heap.size + 1) #[.int .i64 100, .int .i64 159, .int .i64 160, .int .i64 161] [100, 159, 160, 161] 4 4 (s3.alloc _) (by omega) (At.newAt (by simp)) (by simp [intCells]) (by omega) rfl (by omega) (by omega)).mono ?_
    rintro e w4 ⟨v, hv, rfl, s4, hw4, -⟩
    have wi4 := (wi3.alloc _).trans hw4
    have ow3' := ow3.alloc (.cells #[.int .i64 100, .int .i64 159, .int .i64 160, .int .i64 161] 2)
    have ow4 := ow3'.within hw4 ow3'.lt (.inr hgl)
    clear ow3 ow3'
    obtain ⟨n, rfl, hn⟩ := pick_nat 161 hv rfl
    have g4 := s4.at_.lt
    clear hv
    go_wp2_with fail
    go_loopw [3, 4] (fun out vn wr => DrawBRel base g A m c (k1 + 1 + 1) l n w vn out wr) (fun _ vn _ => (intOf vn).toNat)
    case atStart => exact ⟨0, _, 0, [], Nat.zero_le _, by simp, rfl, ow4, s4, wi4⟩
    case round =>
      obtain ⟨j, A3, c3, ys, hj, rfl, rfl, how, hsrc, hwi⟩ := hrel
      have Hs := Lib.hid hsrc
      have Hw := Lib.hid hwi
      have hr5 : ∀ x, A3.map (·.block) = some x → w.heap.size ≤ x := fun x hx => (how.lt x hx).1
      by_cases hlt : j < n
      · go_wp2_with (at_builtin; refine wpList_append_ow okS _ rfl (.tmp 31) (.tmp 35) _ rfl w.heap.size info_smp Tryz.underlying36 rfl A3 j c3 ys rfl (how.alloc _) _ 1 1 _ [(3, 0, (j : Int), 0)] rfl ((ow_smp _ 3 0 j 0).rd okS) rfl (by unfold maxLen; omega) (by omega) ((Hw.out.alloc _).size) ?_; intro A5 c5 w5 ow5 hg5 _)
        exact ⟨⟨j + 1, A5, c5, _, by omega, by go_num, rfl, ow5, (Hs.out.alloc _).grown hg5 fun x hx => Nat.lt_of_lt_of_le hgl (hr5 x hx), (Hw.out.alloc _).push hg5 hr5⟩, by simp [intOf]; omega⟩
      · obtain rfl : n = j := by omega
        go_wp2
        go_ret
        exact ⟨_, A3, n, c3, ys, rfl, by omega, how, by omega, Hs.out, Hw.out⟩
  · have b0 : (r == 0) = false := by simp; omega
    have b1 : (r == 1) = false := by simp; omega
    have b2 : (r == 2) = false := by simp; omega
    go_wp2_with fail
    go_ret
    exact ⟨_, A1, L1, c1, xs, rfl, by omega, ow2, by omega, s2, wi2⟩
end Go.Proofs.YtmaillakhhdkfaaGreatDoor
/-
  What the laws of stores draw.
-/
namespace Go.Proofs.YtmaillakhhdkfaaGreatDoor
set_option maxRecDepth 20000
open Go.RowKit
set_option linter.unusedSimpArgs false

end Go.Proofs.YtmaillakhhdkfaaGreatDoor
/-
  Rows of records: how they lie in memory.
-/
namespace Go.Proofs.YtmaillakhhdkfaaGreatDoor
set_option maxRecDepth 20000
open Go.RowKit
set_option linter.unusedSimpArgs false

/-- A record: its kind, its node, its sample, its number. -/
abbrev Rcd := Int × Int × Smp × Int
abbrev zeroR : Rcd := (0, 0, (0, 0, 0, 0), 0)
section
variable {w w' : World} {base hi n c : Nat} {A : Option Addr} {l : List Rcd}
end
end Go.Proofs.YtmaillakhhdkfaaGreatDoor
/-
  One record: the law's own copying and comparing of it.
-/
namespace Go.Proofs.YtmaillakhhdkfaaGreatDoor
set_option maxRecDepth 20000
open Go.RowKit
set_option linter.unusedSimpArgs false
set_option linter.unusedVariables false

end Go.Proofs.YtmaillakhhdkfaaGreatDoor
/-
  A sample's bytes where the sample lies in a record: the model's.
-/
namespace Go.Proofs.YtmaillakhhdkfaaGreatDoor
set_option maxRecDepth 20000
open Go.RowKit

set_option maxHeartbeats 2000000 in
theorem l2EncodeR (g n0 n1 n2 n3 : Nat) (b0 b1 b6 : Int) (w : World) (hx : At w g 27 #[.int .i64 b0, .int .i64 b1, .int .i64 n0, .int .i64 n1, .int .i64 n2, .int .i64 ((n3 : Int) - 1000), .int .i64 b6]) (h0 : n0 ≤ 9) (h1 : n1 ≤ 999) (h2 : n2 ≤ 9999) (h3 : n3 ≤ 2000) :
    Calls Tryz.prog 85 #[.pointer (some ⟨g, 2, none⟩)] w fun e w' => ∃ A c, e = .returned (.slice A 7 c) ∧ Ow eB w' w.heap.size A 7 c (encL n0 n1 n2 n3) ∧ Below w.heap.size w w' := by
  have hg := hx.lt
  go_enter Tryz.func85, Tryz.ntmps85
  go_wp2
  refine wp_region_fork2 [(0, false), (1, false), (2, false), (3, false), (4, false), (6, false), (7, false), (8, false), (9, false)] [(10, true), (11, true), (12, false)] [(5, true), (11, true), (12, false)] 5 10 (fun u => At u g 27 #[.int .i64 b0, .int .i64 b1, .int .i64 n0, .int .i64 n1, .int .i64 n2, .int .i64 ((n3 : Int) - 1000), .int .i64 b6]) (by kernel_rfl) (by kernel_rfl) (fun _ _ _ _ _ h => h) hx.drew ?_
  simp only [mixOps, List.map_cons, List.map_nil, List.getElem?_cons_succ, List.getElem?_cons_zero, Option.getD_some]
  repeat (first
    | (refine mixR_skip (by rfl) ?_
       (try simp only [Act.put, List.setIfInBounds_toArray, List.set_cons_zero, List.set_cons_succ]))
    | (refine mixR_pure (v := ?_) (by rfl) (fun u hu => ?_) ?_
       rotate_left
       · obtain ⟨_, _, _, _, _, _, _⟩ := hu.seven
         go_simp
         (with_reducible rfl)
       (try simp only [Act.put, List.setIfInBounds_toArray, List.set_cons_zero, List.set_cons_succ])))
  have hx0 := hx.drew
  refine mixR_nil ⟨?_, ?_⟩
  · refine mixR_call (by rfl) (fun K hK => ?_)
    go_simp
    have hx1 := (hx.alloc (.cells #[.int .u8 (IntKind.u8.wrap (n0 : Int))] 5)).drew
    refine hK _ _ _ (fun _ h => h) hx1 ?_
    (try simp only [Act.put, List.setIfInBounds_toArray, List.set_cons_zero, List.set_cons_succ])
    have hB1 : Below w.heap.size w ((w.alloc (.cells #[.int .u8 (IntKind.u8.wrap (n0 : Int))] 5)).drew) := ((Below.refl _ _).alloc (Nat.le_refl _) _).drew
    have ob1 := ow_byte w (UInt8.ofNat n0) (IntKind.u8.wrap (n0 : Int)) (by rw [byte_small1 (by omega)]; exact IntWalk.u8_in _ (by omega))
    refine mixR_call (by rfl) (fun K hK => ?_)
    go_simp
    refine (l1Pack n1 2 _ (by omega) (by omega)).mono ?_
    rintro e w2 ⟨A1, c1, rfl, oa2, hb2⟩
    have hB2 := hB1.trans (hb2.mono hB1.size)
    have hx2 := hx1.below hb2 hx1.lt
    have ob2 := ob1.below hb2 (Nat.le_refl _)
    refine hK _ _ _ (fun _ h => h) hx2 ?_
    (try simp only [Act.put, List.setIfInBounds_toArray, List.set_cons_zero, List.set_cons_succ])
    refine mixR_call (by rfl) (fun K hK => ?_)
    refine wp_append_ow okB _ (.tmp 9) (.tmp 14) _ rfl w.heap.size info_u8 Tryz.underlying22 rfl _ 1 1 [UInt8.ofNat n0] rfl ob2 A1 2 c1 _ (packL n1 2) rfl (oa2.rd okB) (packL_len _ _) (by unfold maxLen; omega) (by omega) hB2.size ?_
    intro A2 c2 w3 ow3 hg3 _
    have hB3 : Below w.heap.size w w3 := hB2.grown hg3 hB2.size (fun g hg => (ob2.lt g hg).1)
    have hx3 := hx2.grown hg3 (fun e => by have := (ob2.lt _ e).1; omega)
    refine hK _ _ _ (fun _ h => h) hx3 ?_
    (try simp only [Act.put, List.setIfInBounds_toArray, List.set_cons_zero, List.set_cons_succ])
    refine mixR_pure (v := ?_) (by rfl) (fun u hu => ?_) ?_
    rotate_left
    · go_simp
      (with_reducible rfl)
    (try simp only [Act.put, List.setIfInBounds_toArray, List.set_cons_zero, List.set_cons_succ])
    refine mixR_nil ?_
    clear hx0
    obtain ⟨_, _, _, _, y2, y3, _⟩ := hx3.seven
    go_wp2_with fail
    refine (l1Pack n2 2 _ (by omega) (by omega)).mono ?_
    rintro e w4 ⟨A4, c4, rfl, o4, hb4⟩
    have hB4 := hB3.trans (hb4.mono hB3.size)
    have hx4 := hx3.below hb4 hx3.lt
    have ow4 := ow3.below hb4 (Nat.le_refl _)
    clear y2 y3
    obtain ⟨_, _, _, _, y2, y3, _⟩ := hx4.seven
    go_wp2_with (at_builtin; refine wpList_append_ow okB _ rfl (.tmp 16) (.tmp 21) _ rfl w.heap.size info_u8 Tryz.underlying22 rfl A2 (1 + 2) c2 ([UInt8.ofNat n0] ++ packL n1 2) rfl ow4 A4 2 c4 _ (packL n2 2) rfl (o4.rd okB) (packL_len _ _) (by unfold maxLen; omega) (by omega) hB4.size ?_; intro A5 c5 w5 ow5 hg5 _; have hB5 := hB4.grown hg5 hB4.size (fun g hg => (ow4.lt g hg).1); have hx5 := hx4.grown hg5 (fun e => by have := (ow4.lt _ e).1; omega); clear y2 y3; obtain ⟨_, _, _, _, y2, y3, _⟩ := hx5.seven)
    refine (l1Pack n3 2 _ (by omega) (by omega)).mono ?_
    rintro e w6 ⟨A6, c6, rfl, o6, hb6⟩
    have hB6 := hB5.trans (hb6.mono hB5.size)
    have ow6 : Ow eB w6 w.heap.size A5 5 c5 ([UInt8.ofNat n0] ++ packL n1 2 ++ packL n2 2) := ow5.below hb6 (Nat.le_refl _)
    go_wp2_with (at_builtin; refine wpList_append_ow okB _ rfl (.tmp 23) (.tmp 29) _ rfl w.heap.size info_u8 Tryz.underlying22 rfl A5 5 c5 ([UInt8.ofNat n0] ++ packL n1 2 ++ packL n2 2) rfl ow6 A6 2 c6 _ (packL n3 2) rfl (o6.rd okB) (packL_len _ _) (by unfold maxLen; omega) (by omega) hB6.size ?_; intro A7 c7 w7 ow7 hg7 _; have hB7 := hB6.grown hg7 hB6.size (fun g hg => (ow6.lt g hg).1))
    go_ret
    exact ⟨A7, c7, rfl, ow7, hB7⟩
  · refine mixR_call (by rfl) (fun K hK => ?_)
    go_simp
    have hB0 : Below w.heap.size w w.drew := (Below.refl _ _).drew
    refine (l1Pack n1 2 _ (by omega) (by omega)).mono ?_
    rintro e w1 ⟨A1, c1, rfl, oa1, hb1⟩
    have hB1 := hB0.trans (hb1.mono hB0.size)
    have hx1 := hx0.below hb1 hx0.lt
    refine hK _ _ _ (fun _ h => h) hx1 ?_
    (try simp only [Act.put, List.setIfInBounds_toArray, List.set_cons_zero, List.set_cons_succ])
    refine mixR_call (by rfl) (fun K hK => ?_)
    go_simp
    have hx2 := (hx1.alloc (.cells #[.int .u8 (IntKind.u8.wrap (n0 : Int))] 5))
    have oa2 := oa1.alloc (.cells #[.int .u8 (IntKind.u8.wrap (n0 : Int))] 5)
    have hB2 := hB1.alloc hB1.size (.cells #[.int .u8 (IntKind.u8.wrap (n0 : Int))] 5)
    have ob2 := (ow_byte w1 (UInt8.ofNat n0) (IntKind.u8.wrap (n0 : Int)) (by rw [byte_small1 (by omega)]; exact IntWalk.u8_in _ (by omega))).from_ hB1.size
    refine hK _ _ _ (fun _ h => h) hx2 ?_
    (try simp only [Act.put, List.setIfInBounds_toArray, List.set_cons_zero, List.set_cons_succ])
    refine mixR_call (by rfl) (fun K hK => ?_)
    refine wp_append_ow okB _ (.tmp 9) (.tmp 14) _ rfl w.heap.size info_u8 Tryz.underlying22 rfl _ 1 1 [UInt8.ofNat n0] rfl ob2 A1 2 c1 _ (packL n1 2) rfl (oa2.rd okB) (packL_len _ _) (by unfold maxLen; omega) (by omega) hB2.size ?_
    intro A2 c2 w3 ow3 hg3 _
    have hB3 : Below w.heap.size w w3 := hB2.grown hg3 hB2.size (fun g hg => (ob2.lt g hg).1)
    have hx3 := hx2.grown hg3 (fun e => by have := (ob2.lt _ e).1; omega)
    refine hK _ _ _ (fun _ h => h) hx3 ?_
    (try simp only [Act.put, List.setIfInBounds_toArray, List.set_cons_zero, List.set_cons_succ])
    refine mixR_pure (v := ?_) (by rfl) (fun u hu => ?_) ?_
    rotate_left
    · go_simp
      (with_reducible rfl)
    (try simp only [Act.put, List.setIfInBounds_toArray, List.set_cons_zero, List.set_cons_succ])
    refine mixR_nil ?_
    clear hx0
    obtain ⟨_, _, _, _, y2, y3, _⟩ := hx3.seven
    go_wp2_with fail
    refine (l1Pack n2 2 _ (by omega) (by omega)).mono ?_
    rintro e w4 ⟨A4, c4, rfl, o4, hb4⟩
    have hB4 := hB3.trans (hb4.mono hB3.size)
    have hx4 := hx3.below hb4 hx3.lt
    have ow4 := ow3.below hb4 (Nat.le_refl _)
    clear y2 y3
    obtain ⟨_, _, _, _, y2, y3, _⟩ := hx4.seven
    go_wp2_with (at_builtin; refine wpList_append_ow okB _ rfl (.tmp 16) (.tmp 21) _ rfl w.heap.size info_u8 Tryz.underlying22 rfl A2 (1 + 2) c2 ([UInt8.ofNat n0] ++ packL n1 2) rfl ow4 A4 2 c4 _ (packL n2 2) rfl (o4.rd okB) (packL_len _ _) (by unfold maxLen; omega) (by omega) hB4.size ?_; intro A5 c5 w5 ow5 hg5 _; have hB5 := hB4.grown hg5 hB4.size (fun g hg => (ow4.lt g hg).1); have hx5 := hx4.grown hg5 (fun e => by have := (ow4.lt _ e).1; omega); clear y2 y3; obtain ⟨_, _, _, _, y2, y3, _⟩ := hx5.seven)
    refine (l1Pack n3 2 _ (by omega) (by omega)).mono ?_
    rintro e w6 ⟨A6, c6, rfl, o6, hb6⟩
    have hB6 := hB5.trans (hb6.mono hB5.size)
    have ow6 : Ow eB w6 w.heap.size A5 5 c5 ([UInt8.ofNat n0] ++ packL n1 2 ++ packL n2 2) := ow5.below hb6 (Nat.le_refl _)
    go_wp2_with (at_builtin; refine wpList_append_ow okB _ rfl (.tmp 23) (.tmp 29) _ rfl w.heap.size info_u8 Tryz.underlying22 rfl A5 5 c5 ([UInt8.ofNat n0] ++ packL n1 2 ++ packL n2 2) rfl ow6 A6 2 c6 _ (packL n3 2) rfl (o6.rd okB) (packL_len _ _) (by unfold maxLen; omega) (by omega) hB6.size ?_; intro A7 c7 w7 ow7 hg7 _; have hB7 := hB6.grown hg7 hB6.size (fun g hg => (ow6.lt g hg).1))
    go_ret
    exact ⟨A7, c7, rfl, ow7, hB7⟩
end Go.Proofs.YtmaillakhhdkfaaGreatDoor
/-
  What is asked of records, of the pure answers: their form, their faults, their bytes.
-/
namespace Go.Proofs.YtmaillakhhdkfaaGreatDoor
set_option maxRecDepth 20000
open Go.RowKit
set_option linter.unusedSimpArgs false
set_option linter.unusedVariables false

/-- What a record does not need is zero. -/
def formM (r : Rcd) (a b c : Bool) : Bool := (a || decide (r.2.1 = 0)) && ((b || decide (r.2.2.1 = (0, 0, 0, 0))) && (c || decide (r.2.2.2 = 0)))
def recFormM (r : Rcd) : Bool := if r.1 = 1 then formM r false true false else if r.1 = 2 then formM r true true false else if r.1 = 3 then formM r true false true else if r.1 = 4 then formM r false false true else false
def mostM (r : Rcd) : Int := if r.1 = 4 then 60000 else 9999
def rrangeM (r : Rcd) (m : Int) : Int := if (inB (r.2.1, 0, 3) && inB (r.2.2.2, 0, m)) = true then faultM r.2.2.1 else 3
def recFaultM (r : Rcd) : Int := if recFormM r = true then rrangeM r (mostM r) else 1
theorem recFault_form {r : Rcd} (h : recFormM r = false) : recFaultM r = 1 := by unfold recFaultM; rw [if_neg (by simp [h])]
theorem recFault_range {r : Rcd} (h : recFormM r = true) : recFaultM r = rrangeM r (mostM r) := by unfold recFaultM; rw [if_pos h]
/-- A store, hints, a life. -/
abbrev Sta := List Smp × List Hnt × Int
def stateFaultM (s : Sta) : Int := if storeFaultM s.1 ≠ 0 then storeFaultM s.1 else if hintsFaultM s.2.1 ≠ 0 then hintsFaultM s.2.1 else if inB (s.2.2, 0, 60000) = true then 0 else 3
end Go.Proofs.YtmaillakhhdkfaaGreatDoor
/-
  The model's faults of a record.
-/
namespace Go.Proofs.YtmaillakhhdkfaaGreatDoor
set_option maxRecDepth 20000
open Go.RowKit
set_option linter.unusedSimpArgs false
set_option linter.unusedVariables false

theorem eqlZ (a2 a3 a4 a5 : Int) (u : World) : (binOp .eql 25 (.agg #[.int .i64 a2, .int .i64 a3, .int .i64 a4, .int .i64 a5]) (.agg #[.int .i64 0, .int .i64 0, .int .i64 0, .int .i64 0])).run Tryz.prog u = .ok (.bool (decide ((a2, a3, a4, a5) = ((0 : Int), (0 : Int), (0 : Int), (0 : Int))))) u := by
  go_simp
  (by_cases h0 : a2 = 0; rotate_left; simp [h0]; by_cases h1 : a3 = 0; rotate_left; simp [h0, h1]; by_cases h2 : a4 = 0; rotate_left; simp [h0, h1, h2]; by_cases h3 : a5 = 0; rotate_left; simp [h0, h1, h2, h3]; simp [h0, h1, h2, h3])

set_option maxHeartbeats 4000000 in
theorem l5Form (g : Nat) (a0 a1 a2 a3 a4 a5 a6 : Int) (nd sm nm : Bool) (w : World) (hx : At w g 27 #[.int .i64 a0, .int .i64 a1, .int .i64 a2, .int .i64 a3, .int .i64 a4, .int .i64 a5, .int .i64 a6]) :
    Calls Tryz.prog 102 #[.pointer (some ⟨g, 0, none⟩), .bool nd, .bool sm, .bool nm] w fun e w' => e = .returned (.bool (formM (a0, a1, (a2, a3, a4, a5), a6) nd sm nm)) ∧ w' = w := by
  obtain ⟨x0, x1, x2, x3, x4, x5, x6⟩ := hx.seven
  have Z := eqlZ a2 a3 a4 a5
  have e1 : (a1 == 0) = decide (a1 = 0) := rfl
  have e6 : (a6 == 0) = decide (a6 = 0) := rfl
  rcases h1 : decide (a1 = 0) <;> rcases h2 : decide ((a2, a3, a4, a5) = ((0 : Int), (0 : Int), (0 : Int), (0 : Int))) <;> rcases h6 : decide (a6 = 0) <;> rw [h2] at Z <;> rw [h1] at e1 <;> rw [h6] at e6 <;>
    (have Hr := Lib.hid (show ∀ a b c, formM (a0, a1, (a2, a3, a4, a5), a6) a b c = ((a || decide (a1 = 0)) && ((b || decide ((a2, a3, a4, a5) = ((0 : Int), (0 : Int), (0 : Int), (0 : Int)))) && (c || decide (a6 = 0)))) from fun _ _ _ => rfl)
     rw [h1, h2, h6] at Hr
     clear h1 h2 h6
     rcases nd <;> rcases sm <;> rcases nm <;>
      (go_enter Tryz.func102, Tryz.ntmps102
       go_wp2
       go_ret
       exact ⟨by rw [Hr.out]; rfl, rfl⟩))

set_option maxHeartbeats 4000000 in
theorem l5Range (g : Nat) (a0 a1 a2 a3 a4 a5 a6 m : Int) (w : World) (hx : At w g 27 #[.int .i64 a0, .int .i64 a1, .int .i64 a2, .int .i64 a3, .int .i64 a4, .int .i64 a5, .int .i64 a6]) :
    Calls Tryz.prog 103 #[.pointer (some ⟨g, 0, none⟩), .int .i64 m] w fun e w' => e = .returned (.int .i64 (rrangeM (a0, a1, (a2, a3, a4, a5), a6) m)) ∧ Below w.heap.size w w' := by
  obtain ⟨x0, x1, x2, x3, x4, x5, x6⟩ := hx.seven
  have Hr := Lib.hid (show rrangeM (a0, a1, (a2, a3, a4, a5), a6) m = if (inB (a1, 0, 3) && inB (a6, 0, m)) = true then faultM (a2, a3, a4, a5) else 3 from rfl)
  rcases h1 : inB (a1, 0, 3)
  · go_enter Tryz.func103, Tryz.ntmps103
    go_wp2_with (go_at_call 117; refine (l4Node a1 w).mono ?_; rintro e w1 ⟨rfl, rfl⟩; rw [h1])
    go_ret
    exact ⟨by rw [Hr.out, h1]; rfl, Below.refl _ _⟩
  rcases h2 : inB (a6, 0, m)
  · go_enter Tryz.func103, Tryz.ntmps103
    go_wp2_with (first | (go_at_call 117; refine (l4Node a1 w).mono ?_; rintro e w1 ⟨rfl, rfl⟩; rw [h1]) | (go_at_call 67; refine (l1In_any a6 0 m w).mono ?_; rintro e w1 ⟨rfl, rfl⟩; rw [h2]))
    go_ret
    exact ⟨by rw [Hr.out, h1, h2]; rfl, Below.refl _ _⟩
  · go_enter Tryz.func103, Tryz.ntmps103
    go_wp2_with (first | (go_at_call 117; refine (l4Node a1 w).mono ?_; rintro e w1 ⟨rfl, rfl⟩; rw [h1]) | (go_at_call 67; refine (l1In_any a6 0 m w).mono ?_; rintro e w1 ⟨rfl, rfl⟩; rw [h2]) | (go_at_call 115; refine (specSampleFault a2 a3 a4 a5 w).mono ?_; rintro e w1 ⟨rfl, hb1⟩))
    go_ret
    exact ⟨by rw [Hr.out, h1, h2]; rfl, hb1⟩

set_option maxHeartbeats 4000000 in
theorem specRecordFault (a0 a1 a2 a3 a4 a5 a6 : Int) (w : World) :
    Calls Tryz.prog 53 #[.agg #[.int .i64 a0, .int .i64 a1, .int .i64 a2, .int .i64 a3, .int .i64 a4, .int .i64 a5, .int .i64 a6]] w fun e w' => e = .returned (.int .i64 (recFaultM (a0, a1, (a2, a3, a4, a5), a6))) ∧ Below w.heap.size w w' := by
  have hB0 : Below w.heap.size w (w.alloc (.cells #[.int .i64 a0, .int .i64 a1, .int .i64 a2, .int .i64 a3, .int .i64 a4, .int .i64 a5, .int .i64 a6] 27)) := (Below.refl _ _).alloc (Nat.le_refl _) _
  have r0 := At.new w 27 #[.int .i64 a0, .int .i64 a1, .int .i64 a2, .int .i64 a3, .int .i64 a4, .int .i64 a5, .int .i64 a6]
  obtain ⟨c0, c1, c2, c3, c4, c5, c6⟩ := r0.seven
  have LF := fun a b c => l5Form w.heap.size a0 a1 a2 a3 a4 a5 a6 a b c _ r0
  have LR := fun m => l5Range w.heap.size a0 a1 a2 a3 a4 a5 a6 m _ r0
  by_cases k1 : a0 = 1
  rotate_left
  by_cases k2 : a0 = 2
  rotate_left
  by_cases k3 : a0 = 3
  rotate_left
  by_cases k4 : a0 = 4
  rotate_left
  · have b1 : (a0 == 1) = false := by simpa using k1
    have b2 : (a0 == 2) = false := by simpa using k2
    have b3 : (a0 == 3) = false := by simpa using k3
    have b4 : (a0 == 4) = false := by simpa using k4
    have Hr := Lib.hid (recFault_form (r := (a0, a1, (a2, a3, a4, a5), a6)) (by unfold recFormM; rw [if_neg k1, if_neg k2, if_neg k3, if_neg k4]))
    clear k1 k2 k3 k4
    go_enter Tryz.func53, Tryz.ntmps53
    go_wp2
    go_ret
    exact ⟨by rw [Hr.out]; try rfl, hB0⟩
  · subst k1
    have hform : recFormM (1, a1, (a2, a3, a4, a5), a6) = formM (1, a1, (a2, a3, a4, a5), a6) false true false := by unfold recFormM; rw [if_pos rfl]
    have hmost : mostM (1, a1, (a2, a3, a4, a5), a6) = 9999 := by unfold mostM; rfl
    rcases hf : formM (1, a1, (a2, a3, a4, a5), a6) false true false
    · have Hr := Lib.hid (recFault_form (hform.trans hf))
      have Hf := Lib.hid hf
      clear hf hform hmost
      go_enter Tryz.func53, Tryz.ntmps53
      go_wp2_with (go_at_call 102; refine (LF false true false).mono ?_; rintro e w1 ⟨rfl, rfl⟩; rw [Hf.out])
      go_ret
      exact ⟨by rw [Hr.out]; try rfl, hB0⟩
    · have Hr := Lib.hid (recFault_range (hform.trans hf))
      rw [hmost] at Hr
      have Hf := Lib.hid hf
      clear hf hform hmost
      go_enter Tryz.func53, Tryz.ntmps53
      go_wp2_with (first | (go_at_call 102; refine (LF false true false).mono ?_; rintro e w1 ⟨rfl, rfl⟩; rw [Hf.out]) | (go_at_call 103; refine (LR 9999).mono ?_; rintro e w2 ⟨rfl, hb2⟩))
      go_ret
      exact ⟨by rw [Hr.out]; try rfl, hB0.trans (hb2.mono hB0.size)⟩
  · subst k2
    clear k1
    have hform : recFormM (2, a1, (a2, a3, a4, a5), a6) = formM (2, a1, (a2, a3, a4, a5), a6) true true false := by unfold recFormM; rw [if_neg (show ¬ ((2 : Int) = 1) by decide), if_pos rfl]
    have hmost : mostM (2, a1, (a2, a3, a4, a5), a6) = 9999 := by unfold mostM; rfl
    rcases hf : formM (2, a1, (a2, a3, a4, a5), a6) true true false
    · have Hr := Lib.hid (recFault_form (hform.trans hf))
      have Hf := Lib.hid hf
      clear hf hform hmost
      go_enter Tryz.func53, Tryz.ntmps53
      go_wp2_with (go_at_call 102; refine (LF true true false).mono ?_; rintro e w1 ⟨rfl, rfl⟩; rw [Hf.out])
      go_ret
      exact ⟨by rw [Hr.out]; try rfl, hB0⟩
    · have Hr := Lib.hid (recFault_range (hform.trans hf))
      rw [hmost] at Hr
      have Hf := Lib.hid hf
      clear hf hform hmost
      go_enter Tryz.func53, Tryz.ntmps53
      go_wp2_with (first | (go_at_call 102; refine (LF true true false).mono ?_; rintro e w1 ⟨rfl, rfl⟩; rw [Hf.out]) | (go_at_call 103; refine (LR 9999).mono ?_; rintro e w2 ⟨rfl, hb2⟩))
      go_ret
      exact ⟨by rw [Hr.out]; try rfl, hB0.trans (hb2.mono hB0.size)⟩
  · subst k3
    clear k1 k2
    have hform : recFormM (3, a1, (a2, a3, a4, a5), a6) = formM (3, a1, (a2, a3, a4, a5), a6) true false true := by unfold recFormM; rw [if_neg (show ¬ ((3 : Int) = 1) by decide), if_neg (show ¬ ((3 : Int) = 2) by decide), if_pos rfl]
    have hmost : mostM (3, a1, (a2, a3, a4, a5), a6) = 9999 := by unfold mostM; rfl
    rcases hf : formM (3, a1, (a2, a3, a4, a5), a6) true false true
    · have Hr := Lib.hid (recFault_form (hform.trans hf))
      have Hf := Lib.hid hf
      clear hf hform hmost
      go_enter Tryz.func53, Tryz.ntmps53
      go_wp2_with (go_at_call 102; refine (LF true false true).mono ?_; rintro e w1 ⟨rfl, rfl⟩; rw [Hf.out])
      go_ret
      exact ⟨by rw [Hr.out]; try rfl, hB0⟩
    · have Hr := Lib.hid (recFault_range (hform.trans hf))
      rw [hmost] at Hr
      have Hf := Lib.hid hf
      clear hf hform hmost
      go_enter Tryz.func53, Tryz.ntmps53
      go_wp2_with (first | (go_at_call 102; refine (LF true false true).mono ?_; rintro e w1 ⟨rfl, rfl⟩; rw [Hf.out]) | (go_at_call 103; refine (LR 9999).mono ?_; rintro e w2 ⟨rfl, hb2⟩))
      go_ret
      exact ⟨by rw [Hr.out]; try rfl, hB0.trans (hb2.mono hB0.size)⟩
  · subst k4
    clear k1 k2 k3
    have hform : recFormM (4, a1, (a2, a3, a4, a5), a6) = formM (4, a1, (a2, a3, a4, a5), a6) false false true := by unfold recFormM; rw [if_neg (show ¬ ((4 : Int) = 1) by decide), if_neg (show ¬ ((4 : Int) = 2) by decide), if_neg (show ¬ ((4 : Int) = 3) by decide), if_pos rfl]
    have hmost : mostM (4, a1, (a2, a3, a4, a5), a6) = 60000 := by unfold mostM; rfl
    rcases hf : formM (4, a1, (a2, a3, a4, a5), a6) false false true
    · have Hr := Lib.hid (recFault_form (hform.trans hf))
      have Hf := Lib.hid hf
      clear hf hform hmost
      go_enter Tryz.func53, Tryz.ntmps53
      go_wp2_with (go_at_call 102; refine (LF false false true).mono ?_; rintro e w1 ⟨rfl, rfl⟩; rw [Hf.out])
      go_ret
      exact ⟨by rw [Hr.out]; try rfl, hB0⟩
    · have Hr := Lib.hid (recFault_range (hform.trans hf))
      rw [hmost] at Hr
      have Hf := Lib.hid hf
      clear hf hform hmost
      go_enter Tryz.func53, Tryz.ntmps53
      go_wp2_with (first | (go_at_call 102; refine (LF false false true).mono ?_; rintro e w1 ⟨rfl, rfl⟩; rw [Hf.out]) | (go_at_call 103; refine (LR 60000).mono ?_; rintro e w2 ⟨rfl, hb2⟩))
      go_ret
      exact ⟨by rw [Hr.out]; try rfl, hB0.trans (hb2.mono hB0.size)⟩
end Go.Proofs.YtmaillakhhdkfaaGreatDoor
/-
  A state: the law's own measuring and copying of it.
-/
namespace Go.Proofs.YtmaillakhhdkfaaGreatDoor
set_option maxRecDepth 20000
open Go.RowKit
set_option linter.unusedSimpArgs false
set_option linter.unusedVariables false

/-- Two states are the same. -/
def staSame (s t : Sta) : Bool := decide (s.1 = t.1) && (decide (s.2.1 = t.2.1) && decide (s.2.2 = t.2.2))
theorem sta_yes (s : Sta) : staSame s s = true := by simp [staSame]

end Go.Proofs.YtmaillakhhdkfaaGreatDoor
/-
  The model's faults of a state.
-/
namespace Go.Proofs.YtmaillakhhdkfaaGreatDoor
set_option maxRecDepth 20000
open Go.RowKit
set_option linter.unusedSimpArgs false
set_option linter.unusedVariables false

theorem stateFault_store {s : Sta} {z : Int} (h : storeFaultM s.1 = z) (k : z ≠ 0) : stateFaultM s = z := by unfold stateFaultM; rw [h, if_pos k]
theorem stateFault_hints {s : Sta} {z : Int} (h : storeFaultM s.1 = 0) (h2 : hintsFaultM s.2.1 = z) (k : z ≠ 0) : stateFaultM s = z := by unfold stateFaultM; rw [h, if_neg (by simp), h2, if_pos k]
theorem stateFault_life {s : Sta} {b : Bool} (h : storeFaultM s.1 = 0) (h2 : hintsFaultM s.2.1 = 0) (h3 : inB (s.2.2, 0, 60000) = b) : stateFaultM s = if b then 0 else 3 := by
  unfold stateFaultM
  rw [h, if_neg (by simp), h2, if_neg (by simp), h3]

set_option maxHeartbeats 4000000 in
theorem specStateFault (A B : Option Addr) (n c m d : Nat) (l : List Smp) (h : List Hnt) (life : Int) (w : World) (ha : Rd eS w w.heap.size A l) (hb : Rd eH w w.heap.size B h) (hn : l.length = n) (hm : h.length = m) :
    Calls Tryz.prog 21 #[.agg #[.slice A n c, .slice B m d, .int .i64 life]] w fun e w' => e = .returned (.int .i64 (stateFaultM (l, h, life))) ∧ Below w.heap.size w w' := by
  have hB0 : Below w.heap.size w (w.alloc (.cells #[.slice A n c, .slice B m d, .int .i64 life] 39)) := (Below.refl _ _).alloc (Nat.le_refl _) _
  have r0 := At.new w 39 #[.slice A n c, .slice B m d, .int .i64 life]
  obtain ⟨c0, c1, c2, _, _, _⟩ := r0.three
  have SF := specStoreFault A n c l _ (ha.lift hB0) hn
  have hb0 := hb.lift hB0
  obtain ⟨sf, hsf⟩ : ∃ z, storeFaultM l = z := ⟨_, rfl⟩
  obtain ⟨hf, hhf⟩ : ∃ z, hintsFaultM h = z := ⟨_, rfl⟩
  rw [hsf] at SF
  by_cases k1 : sf = 0
  rotate_left
  · have Hr := Lib.hid (stateFault_store (s := (l, h, life)) hsf k1)
    have b1 : (sf != 0) = true := by simpa using k1
    clear hsf hhf k1 ha hb hn hm
    go_enter Tryz.func21, Tryz.ntmps21
    go_wp2_with (go_at_call 65; refine SF.mono ?_; rintro e w1 ⟨rfl, hb1⟩)
    go_ret
    exact ⟨by rw [Hr.out]; try rfl, hB0.trans (hb1.mono hB0.size)⟩
  subst k1
  have HF := fun W (hW : Below (w.alloc (.cells #[.slice A n c, .slice B m d, .int .i64 life] 39)).heap.size _ W) => specHintsFault B m d h W (hb0.lift hW) hm
  rw [hhf] at HF
  by_cases k2 : hf = 0
  rotate_left
  · have Hr := Lib.hid (stateFault_hints (s := (l, h, life)) hsf hhf k2)
    have b1 : (hf != 0) = true := by simpa using k2
    clear hsf hhf k2 ha hb hn hm hb0
    go_enter Tryz.func21, Tryz.ntmps21
    go_wp2_with fail
    refine SF.mono ?_
    rintro e w1 ⟨rfl, hb1⟩
    have r1 := r0.below hb1 r0.lt
    obtain ⟨e0, e1, e2, _, _, _⟩ := r1.three
    go_wp2_with fail
    refine (HF w1 hb1).mono ?_
    rintro e w2 ⟨rfl, hb2⟩
    go_wp2
    go_ret
    exact ⟨by rw [Hr.out]; try rfl, (hB0.trans (hb1.mono hB0.size)).trans (hb2.mono (hB0.trans (hb1.mono hB0.size)).size)⟩
  subst k2
  rcases h3 : inB (life, 0, 60000)
  all_goals
    have Hr := Lib.hid (stateFault_life (s := (l, h, life)) hsf hhf h3)
    have H3 := Lib.hid h3
    clear hsf hhf h3 ha hb hn hm hb0
    go_enter Tryz.func21, Tryz.ntmps21
    go_wp2_with fail
    refine SF.mono ?_
    rintro e w1 ⟨rfl, hb1⟩
    have r1 := r0.below hb1 r0.lt
    obtain ⟨e0, e1, e2, _, _, _⟩ := r1.three
    go_wp2_with fail
    refine (HF w1 hb1).mono ?_
    rintro e w2 ⟨rfl, hb2⟩
    have r2 := r1.below hb2 r1.lt
    obtain ⟨g0, g1, g2, _, _, _⟩ := r2.three
    go_wp2_with fail
    refine (l1In_any life 0 60000 w2).mono ?_
    rintro e w3 ⟨rfl, rfl⟩
    rw [H3.out]
    go_wp2
    go_ret
    exact ⟨by rw [Hr.out]; rfl, (hB0.trans (hb1.mono hB0.size)).trans (hb2.mono (hB0.trans (hb1.mono hB0.size)).size)⟩
end Go.Proofs.YtmaillakhhdkfaaGreatDoor
/-
  What is asked for of a store, and two merged: the model's.
-/
namespace Go.Proofs.YtmaillakhhdkfaaGreatDoor
set_option maxRecDepth 20000
open Go.RowKit
set_option linter.unusedSimpArgs false

def mergeStep (a : List Smp) (out : List Smp) (x : Smp) : List Smp := if findI a x < 0 then insM out x else out
def mergeM (a b : List Smp) : List Smp := b.foldl (mergeStep a) a
/-- What MergeLists answers. -/
def mergeListsM (a b : List Smp) : Int × List Smp := if storeFaultM a ≠ 0 then (storeFaultM a, []) else if storeFaultM b ≠ 0 then (storeFaultM b, []) else if 160 < (mergeM a b).length then (7, []) else (0, mergeM a b)
theorem mergeLists_le (a b : List Smp) : (mergeListsM a b).2.length ≤ 160 := by
  unfold mergeListsM
  repeat (first | split | exact Nat.zero_le _ | (simp only; omega))
end Go.Proofs.YtmaillakhhdkfaaGreatDoor
/-
  What stores are, of the pure answers: in order, right, each key once; what is put in and merged.
-/
namespace Go.Proofs.YtmaillakhhdkfaaGreatDoor
set_option maxRecDepth 20000

theorem keyOrd (a b : Smp) : (aheadM a b = true ∧ aheadM b a = false ∧ sameKeyM a b = false) ∨ (aheadM a b = false ∧ aheadM b a = true ∧ sameKeyM a b = false) ∨ (aheadM a b = false ∧ aheadM b a = false ∧ sameKeyM a b = true) := by
  obtain ⟨a0, a1, a2, a3⟩ := a
  obtain ⟨b0, b1, b2, b3⟩ := b
  unfold aheadM sameKeyM
  simp only
  rcases Int.lt_trichotomy a0 b0 with h | h | h
  · have h1 : ¬ a0 = b0 := by omega
    have h2 : ¬ b0 = a0 := by omega
    have h3 : ¬ b0 < a0 := by omega
    exact .inl ⟨by simp [h1, h], by simp [h2, h3], by simp [h1]⟩
  · subst h
    rcases Int.lt_trichotomy a1 b1 with h | h | h
    · have h1 : ¬ a1 = b1 := by omega
      have h2 : ¬ b1 = a1 := by omega
      exact .inl ⟨by simp [h], by simp [h2]; omega, by simp [h1]⟩
    · subst h
      rcases Int.lt_trichotomy a2 b2 with h | h | h
      · exact .inl ⟨by simp [h], by simp; omega, by simp; omega⟩
      · subst h
        exact .inr (.inr ⟨by simp, by simp, by simp⟩)
      · exact .inr (.inl ⟨by simp; omega, by simp [h], by simp; omega⟩)
    · have h1 : ¬ a1 = b1 := by omega
      exact .inr (.inl ⟨by simp [h1]; omega, by simp [h], by simp [h1]⟩)
  · have h1 : ¬ a0 = b0 := by omega
    have h2 : ¬ b0 = a0 := by omega
    exact .inr (.inl ⟨by simp [h1]; omega, by simp [h2, h], by simp [h1]⟩)

theorem ahead_iff (a b : Smp) : aheadM a b = true ↔ a.1 < b.1 ∨ (a.1 = b.1 ∧ (a.2.1 < b.2.1 ∨ (a.2.1 = b.2.1 ∧ a.2.2.1 < b.2.2.1))) := by
  unfold aheadM
  by_cases h : a.1 = b.1
  · simp [h]
  · simp [h]

theorem same_iff (a b : Smp) : sameKeyM a b = true ↔ a.1 = b.1 ∧ a.2.1 = b.2.1 ∧ a.2.2.1 = b.2.2.1 := by
  unfold sameKeyM
  simp

theorem ahead_trans {a b c : Smp} (h : aheadM a b = true) (k : aheadM b c = true) : aheadM a c = true := by
  rw [ahead_iff] at *
  omega

theorem same_symm (a b : Smp) : sameKeyM a b = sameKeyM b a := by
  rw [Bool.eq_iff_iff, same_iff, same_iff]
  omega

theorem ahead_not_same {a b : Smp} (h : aheadM a b = true) : sameKeyM a b = false := by
  rcases keyOrd a b with ⟨_, _, k⟩ | ⟨k, _⟩ | ⟨k, _⟩
  · exact k
  · rw [h] at k; cases k
  · rw [h] at k; cases k

/-- A row in order: each ahead of each behind it. -/
def Asc (l : List Smp) : Prop := l.Pairwise fun a b => aheadM a b = true

theorem asc_of_steps : ∀ {l : List Smp}, (∀ j, j + 1 < l.length → stepM l j = true) → Asc l
  | [], _ => List.Pairwise.nil
  | a :: l, h => by
    have hl : Asc l := asc_of_steps fun j hj => by
      have := h (j + 1) (by simpa using hj)
      simpa [stepM] using this
    refine List.pairwise_cons.2 ⟨?_, hl⟩
    match l, h, hl with
    | [], _, _ => simp
    | b :: l, h, hl =>
      have h0 : aheadM a b = true := by simpa [stepM] using h 0 (by simp)
      intro y hy
      rcases List.mem_cons.1 hy with rfl | hy
      · exact h0
      · exact ahead_trans h0 ((List.pairwise_cons.1 hl).1 y hy)

theorem steps_of_asc {l : List Smp} (h : Asc l) (j : Nat) : stepM l j = true := by
  unfold stepM
  rcases ha : l[j]? with _ | a
  · simp
  rcases hb : l[j + 1]? with _ | b
  · simp
  simp only
  have h1 := getElem?_some_lt hb
  rw [List.getElem?_eq_getElem (by omega)] at ha hb
  cases ha
  cases hb
  exact List.pairwise_iff_getElem.1 h j (j + 1) (by omega) h1 (by omega)

def Right (l : List Smp) : Prop := ∀ x ∈ l, faultM x = 0

theorem storeFault_iff (l : List Smp) : storeFaultM l = 0 ↔ l.length ≤ 160 ∧ Right l ∧ Asc l := by
  unfold storeFaultM
  constructor
  · intro h
    split at h
    · cases h
    split at h
    · cases h
    split at h
    · cases h
    · rename_i h1 h2 h3
      refine ⟨by omega, fun x hx => ?_, asc_of_steps fun j hj => ?_⟩
      · have : rightM l = true := by simpa using h2
        unfold rightM at this
        rw [List.all_eq_true] at this
        simpa using this x hx
      · have : risesM l = true := by simpa using h3
        unfold risesM at this
        rw [List.all_eq_true] at this
        exact this j (by simp; omega)
  · rintro ⟨h1, h2, h3⟩
    have k2 : rightM l = true := by
      unfold rightM
      rw [List.all_eq_true]
      exact fun x hx => decide_eq_true (h2 x hx)
    have k3 : risesM l = true := by
      unfold risesM
      rw [List.all_eq_true]
      exact fun j _ => steps_of_asc h3 j
    rw [if_neg (by omega), k2, k3]
    simp

theorem findI_neg (l : List Smp) (x : Smp) : findI l x < 0 ↔ ∀ a ∈ l, sameKeyM a x = false := by
  unfold findI
  constructor
  · intro h a ha
    rcases hf : findM l x with _ | i
    · unfold findM at hf
      rw [List.find?_range_eq_none] at hf
      obtain ⟨k, hk⟩ := List.mem_iff_getElem?.1 ha
      have := hf k (getElem?_some_lt hk)
      rw [hitM_at hk] at this
      simpa using this
    · rw [hf] at h
      simp only at h
      omega
  · intro h
    have : findM l x = none := by
      unfold findM
      rw [List.find?_range_eq_none]
      intro j hj
      rw [hitM_at (List.getElem?_eq_getElem hj)]
      simp [h _ (List.getElem_mem hj)]
    rw [this]
    simp

theorem mem_insM (l : List Smp) (x y : Smp) : y ∈ insM l x ↔ y = x ∨ y ∈ l := by
  unfold insM
  split
  · rename_i p _
    rw [List.mem_append, List.mem_cons]
    constructor
    · rintro (h | h | h)
      · exact .inr (List.mem_of_mem_take h)
      · exact .inl h
      · exact .inr (List.mem_of_mem_drop h)
    · rintro (h | h)
      · exact .inr (.inl h)
      · rw [← List.take_append_drop p l, List.mem_append] at h
        rcases h with h | h
        · exact .inl h
        · exact .inr (.inr h)
  · simp [or_comm]

theorem asc_insM {l : List Smp} {x : Smp} (h : Asc l) (hx : ∀ a ∈ l, sameKeyM a x = false) : Asc (insM l x) := by
  have low : ∀ a ∈ l, aheadM x a = false → aheadM a x = true := fun a ha k => by
    rcases keyOrd x a with ⟨k1, _⟩ | ⟨_, k1, _⟩ | ⟨_, _, k1⟩
    · rw [k] at k1; cases k1
    · exact k1
    · rw [same_symm, hx a ha] at k1; cases k1
  unfold insM
  split
  · rename_i p hp
    unfold spotM at hp
    rw [List.find?_range_eq_some] at hp
    obtain ⟨hf, hlt, hal⟩ := hp
    have hlt : p < l.length := by simpa using hlt
    have hat : ∀ (j : Nat) (hj : j < l.length), frontOf l x j = aheadM x l[j] := fun j hj => frontOf_at (List.getElem?_eq_getElem hj)
    have hd : Asc (l.drop p) := List.Pairwise.sublist (List.drop_sublist p l) h
    have ht : Asc (l.take p) := List.Pairwise.sublist (List.take_sublist p l) h
    have hxp : aheadM x l[p] = true := by rw [← hat p hlt]; exact hf
    have hdc : l.drop p = l[p] :: l.drop (p + 1) := List.drop_eq_getElem_cons hlt
    have hxd : ∀ b ∈ l.drop p, aheadM x b = true := fun b hb => by
      rw [hdc] at hb hd
      rcases List.mem_cons.1 hb with rfl | hb
      · exact hxp
      · exact ahead_trans hxp ((List.pairwise_cons.1 hd).1 b hb)
    have htx : ∀ a ∈ l.take p, aheadM a x = true := fun a ha => by
      obtain ⟨j, hj, rfl⟩ := List.mem_take_iff_getElem.1 ha
      refine low _ (List.getElem_mem _) ?_
      have := hal j (by omega)
      rw [hat j (by omega)] at this
      simpa using this
    refine List.pairwise_append.2 ⟨ht, List.pairwise_cons.2 ⟨hxd, hd⟩, fun a ha b hb => ?_⟩
    rcases List.mem_cons.1 hb with rfl | hb
    · exact htx a ha
    · exact ahead_trans (htx a ha) (hxd b hb)
  · rename_i hp
    unfold spotM at hp
    rw [List.find?_range_eq_none] at hp
    refine List.pairwise_append.2 ⟨h, List.pairwise_singleton _ _, fun a ha b hb => ?_⟩
    rw [List.mem_singleton] at hb
    subst hb
    obtain ⟨j, hj, rfl⟩ := List.mem_iff_getElem.1 ha
    refine low _ ha ?_
    have := hp j hj
    rw [frontOf_at (List.getElem?_eq_getElem hj)] at this
    simpa using this

/-- What is merged: the first row, and what the second has besides, in order. -/
theorem merge_facts (a : List Smp) (ha : Asc a) (hr : Right a) : ∀ (b : List Smp), Asc b → Right b → ∀ out : List Smp, Asc out → Right out → (∀ y ∈ a, y ∈ out) → (∀ y ∈ out, (∃ z ∈ a, z = y) ∨ ∀ x ∈ b, aheadM y x = true) →
    Asc (b.foldl (mergeStep a) out) ∧ Right (b.foldl (mergeStep a) out) ∧ (∀ y ∈ out, y ∈ b.foldl (mergeStep a) out) ∧ (∀ x ∈ b, ∃ y ∈ b.foldl (mergeStep a) out, sameKeyM y x = true)
  | [], _, _, out, h1, h2, _, _ => ⟨h1, h2, fun _ h => h, fun _ h => by simp at h⟩
  | x :: b, hb, hbr, out, h1, h2, h3, h4 => by
    obtain ⟨hx, hb'⟩ := List.pairwise_cons.1 hb
    have hbr' : Right b := fun y hy => hbr y (List.mem_cons_of_mem _ hy)
    rw [List.foldl_cons]
    by_cases hf : findI a x < 0
    · have hs : mergeStep a out x = insM out x := if_pos hf
      rw [hs]
      have hno : ∀ y ∈ out, sameKeyM y x = false := fun y hy => by
        rcases h4 y hy with ⟨z, hz, rfl⟩ | h
        · exact (findI_neg a x).1 hf z hz
        · exact ahead_not_same (h x List.mem_cons_self)
      obtain ⟨k1, k2, k3, k4⟩ := merge_facts a ha hr b hb' hbr' (insM out x) (asc_insM h1 hno)
        (fun y hy => by
          rcases (mem_insM out x y).1 hy with rfl | hy
          · exact hbr y List.mem_cons_self
          · exact h2 y hy)
        (fun y hy => (mem_insM out x y).2 (.inr (h3 y hy)))
        (fun y hy => by
          rcases (mem_insM out x y).1 hy with rfl | hy
          · exact .inr hx
          · rcases h4 y hy with h | h
            · exact .inl h
            · exact .inr fun z hz => h z (List.mem_cons_of_mem _ hz))
      refine ⟨k1, k2, fun y hy => k3 y ((mem_insM out x y).2 (.inr hy)), fun z hz => ?_⟩
      rcases List.mem_cons.1 hz with rfl | hz
      · exact ⟨z, k3 z ((mem_insM out z z).2 (.inl rfl)), (same_iff z z).2 ⟨rfl, rfl, rfl⟩⟩
      · exact k4 z hz
    · have hs : mergeStep a out x = out := if_neg hf
      rw [hs]
      obtain ⟨k1, k2, k3, k4⟩ := merge_facts a ha hr b hb' hbr' out h1 h2 h3 (fun y hy => by
        rcases h4 y hy with h | h
        · exact .inl h
        · exact .inr fun z hz => h z (List.mem_cons_of_mem _ hz))
      refine ⟨k1, k2, k3, fun z hz => ?_⟩
      rcases List.mem_cons.1 hz with rfl | hz
      · obtain ⟨y, hy, he⟩ : ∃ y ∈ a, sameKeyM y z = true := by
          refine Classical.byContradiction fun hc => hf ((findI_neg a z).2 fun y hy => ?_)
          rcases he : sameKeyM y z with _ | _
          · rfl
          · exact absurd ⟨y, hy, he⟩ hc
        exact ⟨y, k3 y (h3 y hy), he⟩
      · exact k4 z hz

theorem findM_hit {l : List Smp} {x : Smp} (h : ¬ findI l x < 0) : ∃ (i : Nat) (a : Smp), findM l x = some i ∧ l[i]? = some a ∧ a ∈ l ∧ sameKeyM a x = true := by
  unfold findI at h
  rcases hf : findM l x with _ | i
  · rw [hf] at h
    simp at h
  · have h1 := hf
    unfold findM at h1
    rw [List.find?_range_eq_some] at h1
    obtain ⟨hh, hlt, _⟩ := h1
    have hlt : i < l.length := by simpa using hlt
    refine ⟨i, l[i], rfl, List.getElem?_eq_getElem hlt, List.getElem_mem hlt, ?_⟩
    rw [← hitM_at (List.getElem?_eq_getElem hlt)]
    exact hh

/-- In a row in order a key is there once. -/
theorem asc_one {l : List Smp} (h : Asc l) {a b : Smp} (ha : a ∈ l) (hb : b ∈ l) (hk : sameKeyM a b = true) : a = b := by
  obtain ⟨i, hi, rfl⟩ := List.mem_iff_getElem.1 ha
  obtain ⟨j, hj, rfl⟩ := List.mem_iff_getElem.1 hb
  rcases Nat.lt_trichotomy i j with h1 | h1 | h1
  · have := ahead_not_same (List.pairwise_iff_getElem.1 h i j hi hj h1)
    rw [hk] at this; cases this
  · subst h1; rfl
  · have := ahead_not_same (List.pairwise_iff_getElem.1 h j i hj hi h1)
    rw [same_symm, hk] at this; cases this

/-- What InsertSample answers with no fault: a right store that has the sample's key, put in again it stays, and a new one is found as it is. -/
theorem insert_said {l st : List Smp} {x : Smp} {new : Bool} (h : insertM l x = (0, new, st)) :
    storeFaultM st = 0 ∧ insertM st x = (0, false, st) ∧ (lookM st x).1 = 0 ∧ (new = true → (lookM st x).2 = x) := by
  have core : storeFaultM st = 0 → faultM x = 0 → ¬ findI st x < 0 → (new = true → x ∈ st) → storeFaultM st = 0 ∧ insertM st x = (0, false, st) ∧ (lookM st x).1 = 0 ∧ (new = true → (lookM st x).2 = x) := by
    intro fs fx hf hn
    obtain ⟨i, a, hi, ha, hal, hk⟩ := findM_hit hf
    refine ⟨fs, ?_, ?_, fun hnew => ?_⟩
    · unfold insertM
      rw [if_neg (by simpa using fs), if_neg (by simpa using fx), if_pos (by omega)]
    · unfold lookM
      rw [if_neg (by simpa using fs), hi]
    · unfold lookM
      rw [if_neg (by simpa using fs), hi]
      simp only [ha, Option.getD_some]
      exact asc_one ((storeFault_iff st).1 fs).2.2 hal (hn hnew) hk
  unfold insertM at h
  by_cases fl : storeFaultM l = 0
  · rw [if_neg (by simpa using fl)] at h
    by_cases fx : faultM x = 0
    · rw [if_neg (by simpa using fx)] at h
      by_cases hf : 0 ≤ findI l x
      · rw [if_pos hf] at h
        have e := Prod.mk.inj h
        have e2 := Prod.mk.inj e.2
        obtain rfl := e2.2
        exact core fl fx (by omega) (fun hn => by rw [← e2.1] at hn; cases hn)
      · rw [if_neg hf] at h
        by_cases hl : 160 ≤ l.length
        · rw [if_pos hl] at h
          simp at h
        · rw [if_neg hl] at h
          have e2 := Prod.mk.inj (Prod.mk.inj h).2
          obtain rfl := e2.2
          have hno := (findI_neg l x).1 (by omega)
          obtain ⟨_, rl, sl⟩ := (storeFault_iff l).1 fl
          have hx : x ∈ insM l x := (mem_insM l x x).2 (.inl rfl)
          refine core ((storeFault_iff _).2 ⟨by rw [insM_len]; omega, fun y hy => ?_, asc_insM sl hno⟩) fx (fun hc => ?_) (fun _ => hx)
          · rcases (mem_insM l x y).1 hy with rfl | hy
            · exact fx
            · exact rl y hy
          · have := (findI_neg _ x).1 hc x hx
            rw [(same_iff x x).2 ⟨rfl, rfl, rfl⟩] at this
            cases this
    · rw [if_pos fx] at h
      exact absurd (Prod.mk.inj h).1 fx
  · rw [if_pos fl] at h
    exact absurd (Prod.mk.inj h).1 fl

end Go.Proofs.YtmaillakhhdkfaaGreatDoor
/-
  What the law of hints says, of the pure answers.
-/
namespace Go.Proofs.YtmaillakhhdkfaaGreatDoor
set_option maxRecDepth 20000
open Go.RowKit
set_option linter.unusedSimpArgs false
set_option linter.unusedVariables false

theorem findH_none_iff {l : List Hnt} {p i : Int} : findH l p i = none ↔ ∀ a ∈ l, ¬ (a.1 = p ∧ idH a = i) := by
  constructor
  · intro h a ha hp
    unfold findH at h
    rw [List.find?_range_eq_none] at h
    obtain ⟨j, hj⟩ := List.mem_iff_getElem?.1 ha
    have := h j (getElem?_some_lt hj)
    rw [hitH_at hj] at this
    simp [hp.1, hp.2] at this
  · intro h
    refine findH_none fun j hj => ?_
    have hx : l[j]? = some l[j] := List.getElem?_eq_getElem hj
    rw [hitH_at hx]
    have := h _ (List.mem_of_getElem? hx)
    simp only [Bool.and_eq_false_iff, decide_eq_false_iff_not]
    by_cases h1 : l[j].1 = p
    · exact .inr fun h2 => this ⟨h1, h2⟩
    · exact .inl h1
theorem findHI_neg {l : List Hnt} {p i : Int} (h : ¬ 0 ≤ findHI l p i) : findH l p i = none := by
  rcases findHI_or l p i with ⟨_, h2⟩ | ⟨k, h1, _, _⟩
  · exact h2
  · omega
theorem findH_last {l : List Hnt} {h : Hnt} (hn : findH l h.1 (idH h) = none) : findH (l ++ [h]) h.1 (idH h) = some l.length := by
  refine findH_some (by simp) ?_ fun j hj => ?_
  · rw [hitH_at (a := h) (by simp)]
    simp
  · have hx : l[j]? = some l[j] := List.getElem?_eq_getElem hj
    rw [hitH_at (a := l[j]) (by rw [List.getElem?_append_left hj, hx])]
    have := findH_none_iff.1 hn _ (List.mem_of_getElem? hx)
    simp only [Bool.and_eq_false_iff, decide_eq_false_iff_not]
    by_cases h1 : l[j].1 = h.1
    · exact .inr fun h2 => this ⟨h1, h2⟩
    · exact .inl h1
/-- What is added is there, and gone again when it is done. -/
theorem add_said {h al : List Hnt} {p x1 x2 x3 x4 : Int} (k : addM h p (x1, x2, x3, x4) = (0, al)) : hintsFaultM al = 0 ∧ doneM al p x3 = (0, h) ∧ (addM al p (x1, x2, x3, x4)).1 = 6 := by
  unfold addM at k
  by_cases h0 : hintsFaultM h = 0
  rotate_left
  · rw [if_pos h0] at k
    exact absurd (Prod.mk.inj k).1 h0
  rw [if_neg (by simp [h0])] at k
  by_cases hf : faultM (x1, x2, x3, x4) = 0
  rotate_left
  · rw [if_pos hf] at k
    exact absurd (Prod.mk.inj k).1 (by decide)
  rw [if_neg (by simp [hf])] at k
  rcases hp : inB (p, 0, 3)
  · rw [if_pos hp] at k
    exact absurd (Prod.mk.inj k).1 (by decide)
  rw [if_neg (by simp [hp])] at k
  by_cases hi : 0 ≤ findHI h p x3
  · rw [if_pos hi] at k
    exact absurd (Prod.mk.inj k).1 (by decide)
  rw [if_neg hi] at k
  by_cases h8 : 8 ≤ h.length
  · rw [if_pos h8] at k
    exact absurd (Prod.mk.inj k).1 (by decide)
  rw [if_neg h8] at k
  obtain rfl := (Prod.mk.inj k).2
  have hn := findHI_neg hi
  obtain ⟨g1, g2, g3⟩ := (hintsFault_iff h).1 h0
  have hfn : hfaultM (p, (x1, x2, x3, x4), 0, 0) = 0 := hfault_yes hf (by unfold rangeH; rw [hp]; simp [inB])
  have hz : hintsFaultM (h ++ [(p, (x1, x2, x3, x4), 0, 0)]) = 0 := by
    refine (hintsFault_iff _).2 ⟨by simp; omega, fun y hy => ?_, dis_append.2 ⟨g3, fun y hy => ?_⟩⟩
    · rcases List.mem_append.1 hy with hy | hy
      · exact g2 y hy
      · obtain rfl := List.mem_singleton.1 hy
        exact hfn
    · have := findH_none_iff.1 hn y hy
      rcases hs : sameH y (p, (x1, x2, x3, x4), 0, 0)
      · rfl
      · exact absurd ((sameH_iff _ _).1 hs) this
  have hl := findH_last (h := (p, (x1, x2, x3, x4), 0, 0)) hn
  refine ⟨hz, ?_, ?_⟩
  · unfold doneM
    rw [if_neg (by simp [hz]), show findH (h ++ [(p, (x1, x2, x3, x4), 0, 0)]) p x3 = some h.length from hl]
    simp
  · unfold addM
    rw [if_neg (by simp [hz]), if_neg (by simp [hf]), if_neg (by simp [hp]), if_pos]
    unfold findHI
    rw [show findH (h ++ [(p, (x1, x2, x3, x4), 0, 0)]) p x3 = some h.length from hl]
    show (0 : Int) ≤ (h.length : Int)
    omega
end Go.Proofs.YtmaillakhhdkfaaGreatDoor
