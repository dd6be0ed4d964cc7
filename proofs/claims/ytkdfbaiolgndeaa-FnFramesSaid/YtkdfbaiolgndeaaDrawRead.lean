/-
  A disk: frames, and something behind them, or less of them, or one byte turned.
-/
import Derived.Test.YtkdfbaiolgndeaaDrawSame
import Derived.Test.YtkdfbaiolgndeaaFork
namespace Go.Proofs.Ytkdfbaiolgndeaa
open Go.RowKit

/-- Bytes that read as a list. -/
def RetRd (w : World) (e : Ending) (w' : World) : Prop :=
  ∃ (A : Option Addr) (n c : Nat) (xs : List UInt8), e = .returned (.slice A n c) ∧ xs.length = n ∧ n ≤ c ∧ c ≤ maxLen ∧ n ≤ 20001 ∧ Rd eB w' w'.heap.size A xs ∧ Below w.heap.size w w'
theorem retRd_of {w w' : World} {base : Nat} {A : Option Addr} {n c : Nat} {xs : List UInt8} (h : Ow eB w' base A n c xs) (hn : n ≤ 20001) (hb : Below w.heap.size w w') : RetRd w (.returned (.slice A n c)) w' :=
  ⟨A, n, c, xs, rfl, h.len okB, h.cap, h.capMax, hn, h.rd okB, hb⟩

/-- What the rounds have laid. -/
def DiskRel (A : Option Addr) (m c : Nat) (l : List UInt8) (q : Nat) (w : World) (vd vn : Value) (wr : World) : Prop :=
  ∃ (j : Nat) (A' : Option Addr) (L c' : Nat) (xs : List UInt8) (kk : Nat), j ≤ q ∧ vd = .slice A' L c' ∧ vn = .int .i64 ((q : Int) - (j : Int)) ∧ Ow eB wr (w.heap.size + 1) A' L c' xs ∧ L ≤ 43 * j ∧ Src wr w.heap.size w.heap.size A m c kk l ∧ kk ≤ 1 + 41 * j ∧ Below w.heap.size w wr

set_option maxHeartbeats 2000000 in
theorem drawReadFrames (A : Option Addr) (m c : Nat) (l : List UInt8) (w : World) (ha : Rd eB w w.heap.size A l) (hn : l.length = m) (hm : m ≤ 1048576) :
    Calls Try.prog 11 #[.slice A m c] w (RetRd w) := by
  have Hm := Lib.hid hm
  clear hm
  go_enter Try.func11, Try.ntmps11
  go_wp2_with fail
  refine (l1Source A m c l w ha hn Hm.out).mono ?_
  rintro e w1 ⟨rfl, s1, hb1, -⟩
  have g1 := s1.at_.lt
  have hB1 := hb1
  go_wp2_with fail
  refine (l1Next (w1.alloc (.cells #[] 5)) _ _ A m c 0 l 5 (s1.alloc _) (by omega) (by omega)).mono ?_
  rintro e w2 ⟨r2, rfl, hr2, hz2, s2, hw2, -⟩
  have g2 := s2.at_.lt
  have hB2 := hw2.below (hB1.alloc hB1.size _) (hB1.alloc hB1.size _).size (Nat.le_refl _)
  obtain ⟨q2, rfl⟩ := Int.eq_ofNat_of_zero_le (hr2 (by omega)).1
  have hq2 : q2 ≤ 4 := by have := (hr2 (by omega)).2; omega
  clear hr2 hz2
  have ow0 : Ow eB (w1.alloc (.cells #[] 5)) (w.heap.size + 1) (some ⟨w1.heap.size, 0, none⟩) 0 0 [] := Ow.lit w1 [] #[] 0 g1 (by unfold maxLen; omega) rfl rfl
  have ow2 := ow0.past hw2 (Nat.le_refl _)
  clear ow0 hw2
  go_wp2
  go_loopw [4, 5] (fun vd vn wr => DiskRel A m c l q2 w vd vn wr) (fun _ vn _ => (intOf vn).toNat)
  case atStart => exact ⟨0, _, 0, 0, [], 1, Nat.zero_le _, rfl, by simp, ow2, by omega, s2, by omega, hB2⟩
  case round =>
    clear ow2 s2 g2 hB2 hb1 hB1 s1 g1
    obtain ⟨j, A', L, c', xs, kk, hj, rfl, rfl, how, hL, hsrc, hkk, hbel⟩ := hrel
    have s2 := hsrc
    have g2 := s2.at_.lt
    have hB2 := hbel
    have ow0_2 := how
    have hcap := how.cap
    have hlen0 := how.len okB
    by_cases hlt : j < q2
    · go_wp2_with fail
      refine (l1Pick (wr.alloc (.cells #[.int .i64 1, .int .i64 2, .int .i64 9, .int .i64 40] 2)) _ _ A m c kk l wr.heap.size #[.int .i64 1, .int .i64 2, .int .i64 9, .int .i64 40] [1, 2, 9, 40] 4 4 (s2.alloc _) (by omega) (At.new _ _ _) (by simp [intCells]) (by omega) rfl (by omega) (by omega)).mono ?_
      rintro e w3 ⟨v3, hv3, rfl, s3, hw3, -⟩
      have g3 := s3.at_.lt
      have hB3 := hw3.below (hB2.alloc hB2.size _) (hB2.alloc hB2.size _).size (Nat.le_refl _)
      have ow0_3 := (ow0_2.alloc _).past hw3 (by omega)
      obtain ⟨q3, rfl, hq3⟩ := pick_nat 40 hv3 rfl
      clear hv3
      go_wp2_with fail
      refine (l1Some w3 _ _ A m c (kk + 1) l q3 s3 (by omega) (by omega)).mono ?_
      rintro e w4 ⟨A4, c4, xs4, rfl, hl4, ow4, s4, hw4⟩
      have g4 := s4.at_.lt
      have hB4 := hw4.below hB3 hB3.size (Nat.le_refl _)
      have ow0_4 := ow0_3.past hw4 (by omega)
      have ow4_4 := ow4
      go_wp2_with fail
      refine (l1Frame A4 q3 c4 xs4 w4 (ow4.rd okB) hl4 hq3).mono ?_
      rintro e w5 ⟨A5, c5, rfl, ow5, hb5⟩
      have s5 := s4.below hb5 g4
      have g5 := s5.at_.lt
      have ow0_5 := ow0_4.below hb5 (Nat.le_refl _)
      have hB5 := hB4.trans (hb5.mono hB4.size)
      go_wp2_with (at_builtin; refine wpList_append_ow okB _ rfl (.tmp 15) (.tmp 21) _ rfl (w.heap.size + 1) info_u8 Try.underlying22 rfl A' L c' xs rfl ow0_5 A5 (q3 + 3) c5 _ (frameL xs4) rfl (ow5.rd okB) (ow5.len okB) (by unfold maxLen; omega) (by omega) g5 ?_; intro A6 c6 w6 ow6 hg6 _)
      have hr6 : ∀ x, A'.map (·.block) = some x → w.heap.size + 1 ≤ x := fun x hx => (how.lt x hx).1
      exact ⟨⟨j + 1, A6, L + (q3 + 3), c6, _, kk + 1 + q3, by omega, rfl, by go_num, ow6, by omega, s5.grown hg6 (fun x hx => hr6 x hx), by omega, hB5.grown hg6 hB5.size (fun x hx => Nat.le_of_succ_le (hr6 x hx))⟩, by simp [intOf]; omega⟩
    · go_wp2_with fail
      refine (l1Next wr _ _ A m c kk l 6 s2 (by omega) (by omega)).mono ?_
      rintro e w3 ⟨r3, rfl, hr3, hz3, s3, hw3, -⟩
      have g3 := s3.at_.lt
      have hB3 := hw3.below hB2 hB2.size (Nat.le_refl _)
      have ow0_3 := ow0_2.past hw3 (by omega)
      obtain ⟨hr0, hr5⟩ := hr3 (by omega)
      have hkk2 : kk ≤ 300 := by omega
      have hL2 : L ≤ 172 := by omega
      clear hr3 hz3 hkk hr5 hj hL hlt
      rcases (show r3 = 0 ∨ r3 = 1 ∨ r3 = 2 ∨ r3 = 3 ∨ 3 < r3 by omega) with rfl | rfl | rfl | rfl | hbig
      · go_wp2_with fail
        refine (l1Pick (w3.alloc (.cells #[.int .i64 1, .int .i64 4, .int .i64 9] 2)) _ _ A m c (kk + 1) l w3.heap.size #[.int .i64 1, .int .i64 4, .int .i64 9] [1, 4, 9] 3 3 (s3.alloc _) (by omega) (At.new _ _ _) (by simp [intCells]) (by omega) rfl (by omega) (by omega)).mono ?_
        rintro e w4 ⟨v4, hv4, rfl, s4, hw4, -⟩
        have g4 := s4.at_.lt
        have hB4 := hw4.below (hB3.alloc hB3.size _) (hB3.alloc hB3.size _).size (Nat.le_refl _)
        have ow0_4 := (ow0_3.alloc _).past hw4 (by omega)
        obtain ⟨q4, rfl, hq4⟩ := pick_nat 9 hv4 rfl
        clear hv4
        go_wp2_with fail
        refine (l1Some w4 _ _ A m c (kk + 1 + 1) l q4 s4 (by omega) (by omega)).mono ?_
        rintro e w5 ⟨A5, c5, xs5, rfl, hl5, ow5, s5, hw5⟩
        have g5 := s5.at_.lt
        have hB5 := hw5.below hB4 hB4.size (Nat.le_refl _)
        have ow0_5 := ow0_4.past hw5 (by omega)
        have ow5_5 := ow5
        go_wp2_with (at_builtin; refine wpList_append_ow okB _ rfl (.tmp 27) (.tmp 32) _ rfl (w.heap.size + 1) info_u8 Try.underlying22 rfl A' L c' xs rfl ow0_5 A5 q4 c5 _ xs5 rfl (ow5.rd okB) hl5 (by unfold maxLen; omega) (by omega) g5 ?_; intro A6 c6 w6 ow6 hg6 _)
        go_ret
        exact retRd_of ow6 (by omega) (hB5.grown hg6 hB5.size (fun x hx => Nat.le_of_succ_le (how.lt x hx).1))
      · go_wp2_with fail
        refine (l1Next w3 _ _ A m c (kk + 1) l ((L : Int) + 1) s3 (by omega) (by omega)).mono ?_
        rintro e w4 ⟨r4, rfl, hr4, hz4, s4, hw4, -⟩
        have g4 := s4.at_.lt
        have hB4 := hw4.below hB3 hB3.size (Nat.le_refl _)
        have ow0_4 := ow0_3.past hw4 (by omega)
        obtain ⟨q4, rfl⟩ := Int.eq_ofNat_of_zero_le (hr4 (by omega)).1
        have hq4 : q4 ≤ L := by have := (hr4 (by omega)).2; omega
        have hq4c : q4 ≤ c' := by omega
        clear hr4 hz4
        go_wp2
        go_ret
        exact ⟨A', q4, c', xs.take q4, rfl, by rw [List.length_take]; omega, hq4c, how.capMax, by omega, (ow0_4.rd okB).take q4, hB4⟩
      · by_cases hL0 : L = 0
        · subst hL0
          go_wp2
          go_ret
          exact retRd_of ow0_3 (by omega) hB3
        · have hlen : decide ((0 : Int) < (L : Int)) = true := decide_eq_true (by omega)
          obtain ⟨gd, rfl, hgd, _⟩ := how.form (by omega)
          have sD : Src w3.drew w.heap.size w.heap.size A m c (kk + 1) l := ⟨s3.at_, s3.rd, s3.len, s3.big, s3.low⟩
          have owD : Ow eB w3.drew (w.heap.size + 1) (some ⟨gd, 0, none⟩) L c' xs := ow0_3
          have hBD := hB3.drew
          go_wp2
          refine wp_region_fork [(0, false), (1, false), (2, false), (3, false), (7, false), (4, true), (5, false)] [(8, true), (9, false), (10, false), (11, false), (12, false), (13, true)] [(9, false), (10, false), (6, true), (11, false), (12, false), (13, true)] 6 8 (by kernel_rfl) (by kernel_rfl) (fun _ _ _ _ _ h => h) ?_
          simp only [mixOps, List.map_cons, List.map_nil, List.getElem?_cons_succ, List.getElem?_cons_zero, Option.getD_some]
          repeat (first
            | (refine fork_skip (by rfl) ?_
               (try simp only [Act.put, List.setIfInBounds_toArray, List.set_cons_zero, List.set_cons_succ]))
            | (refine fork_pure (v := ?_) (by rfl) (fun u => ?_) ?_
               rotate_left
               · go_simp
                 (with_reducible rfl)
               (try simp only [Act.put, List.setIfInBounds_toArray, List.set_cons_zero, List.set_cons_succ])))
          refine fork_call (by rfl) (fun K hK => ?_)
          go_simp
          refine (l1Next _ _ _ A m c (kk + 1) l L sD (by omega) (by omega)).mono ?_
          rintro e w4 ⟨r4, rfl, hr4, -, s4, hw4, -⟩
          obtain ⟨i, rfl⟩ := Int.eq_ofNat_of_zero_le (hr4 (by omega)).1
          have hi : i < L := by have := (hr4 (by omega)).2; omega
          have hiI : (i : Int) < (L : Int) := by omega
          clear hr4
          have ow4 := owD.past hw4 (Nat.le_refl _)
          have hB4 := hw4.below hBD hBD.size (Nat.le_refl _)
          obtain ⟨x, hx⟩ : ∃ x, xs[i]? = some x := ⟨_, List.getElem?_eq_getElem (by omega)⟩
          have ca := ow4.byteAt hx
          refine hK _ _ ?_
          clear hK K
          (try simp only [Act.put, List.setIfInBounds_toArray, List.set_cons_zero, List.set_cons_succ])
          repeat (first
            | (refine fork_skip (by rfl) ?_
               (try simp only [Act.put, List.setIfInBounds_toArray, List.set_cons_zero, List.set_cons_succ]))
            | (refine fork_pure (v := ?_) (by rfl) (fun u => ?_) ?_
               rotate_left
               · go_simp
                 (with_reducible rfl)
               (try simp only [Act.put, List.setIfInBounds_toArray, List.set_cons_zero, List.set_cons_succ])))
          refine fork_nil ⟨?_, ?_⟩
          · refine fork_call (by rfl) (fun K hK => ?_)
            go_simp
            refine hK _ _ ?_
            clear hK K
            (try simp only [Act.put, List.setIfInBounds_toArray, List.set_cons_zero, List.set_cons_succ])
            refine fork_call (by rfl) (fun K hK => ?_)
            go_simp
            refine (l1Next w4 _ _ A m c (kk + 1 + 1) l 255 s4 (by omega) (by omega)).mono ?_
            rintro e w5 ⟨r5, rfl, hr5, -, s5, hw5, -⟩
            obtain ⟨q5, rfl⟩ := Int.eq_ofNat_of_zero_le (hr5 (by omega)).1
            have hq5 : q5 < 255 := by have := (hr5 (by omega)).2; omega
            clear hr5
            have ow5 := ow4.past hw5 (Nat.le_refl _)
            have hB5 := hw5.below hB4 hB4.size (Nat.le_refl _)
            have ca5 := ow5.byteAt hx
            have fa5 := ow5.frozenAt i
            have e1 : IntKind.i64.wrap (1 + (q5 : Int)) = 1 + (q5 : Int) := IntWalk.i64_in _ (by omega)
            have e2 : IntKind.u8.wrap (1 + (q5 : Int)) = 1 + (q5 : Int) := IntWalk.u8_in _ (by omega)
            have hxor := xor_u8 x (UInt8.ofNat (1 + q5))
            rw [byte_small (n := 1 + q5) (by omega)] at hxor
            push_cast at hxor
            have hset := ow5.byteSet hi (x ^^^ UInt8.ofNat (1 + q5))
            have Hset := Lib.hid hset
            clear hset hx
            refine hK _ _ ?_
            clear hK K
            (try simp only [Act.put, List.setIfInBounds_toArray, List.set_cons_zero, List.set_cons_succ])
            repeat (first
              | (refine fork_skip (by rfl) ?_
                 (try simp only [Act.put, List.setIfInBounds_toArray, List.set_cons_zero, List.set_cons_succ]))
              | (refine fork_pure (v := ?_) (by rfl) (fun u => ?_) ?_
                 rotate_left
                 · go_simp
                   (with_reducible rfl)
                 (try simp only [Act.put, List.setIfInBounds_toArray, List.set_cons_zero, List.set_cons_succ])))
            refine fork_call (by rfl) (fun K hK => ?_)
            go_simp
            refine hK _ _ ?_
            refine fork_nil ?_
            go_wp2
            go_ret
            exact retRd_of Hset.out.1 (by omega) (hB5.grown Hset.out.2 hB5.size (by simp; omega))
          · refine fork_call (by rfl) (fun K hK => ?_)
            go_simp
            refine (l1Next w4 _ _ A m c (kk + 1 + 1) l 255 s4 (by omega) (by omega)).mono ?_
            rintro e w5 ⟨r5, rfl, hr5, -, s5, hw5, -⟩
            obtain ⟨q5, rfl⟩ := Int.eq_ofNat_of_zero_le (hr5 (by omega)).1
            have hq5 : q5 < 255 := by have := (hr5 (by omega)).2; omega
            clear hr5
            have ow5 := ow4.past hw5 (Nat.le_refl _)
            have hB5 := hw5.below hB4 hB4.size (Nat.le_refl _)
            have ca5 := ow5.byteAt hx
            have fa5 := ow5.frozenAt i
            have e1 : IntKind.i64.wrap (1 + (q5 : Int)) = 1 + (q5 : Int) := IntWalk.i64_in _ (by omega)
            have e2 : IntKind.u8.wrap (1 + (q5 : Int)) = 1 + (q5 : Int) := IntWalk.u8_in _ (by omega)
            have hxor := xor_u8 x (UInt8.ofNat (1 + q5))
            rw [byte_small (n := 1 + q5) (by omega)] at hxor
            push_cast at hxor
            have hset := ow5.byteSet hi (x ^^^ UInt8.ofNat (1 + q5))
            have Hset := Lib.hid hset
            clear hset hx
            refine hK _ _ ?_
            clear hK K
            (try simp only [Act.put, List.setIfInBounds_toArray, List.set_cons_zero, List.set_cons_succ])
            repeat (first
              | (refine fork_skip (by rfl) ?_
                 (try simp only [Act.put, List.setIfInBounds_toArray, List.set_cons_zero, List.set_cons_succ]))
              | (refine fork_pure (v := ?_) (by rfl) (fun u => ?_) ?_
                 rotate_left
                 · go_simp
                   (with_reducible rfl)
                 (try simp only [Act.put, List.setIfInBounds_toArray, List.set_cons_zero, List.set_cons_succ])))
            refine fork_call (by rfl) (fun K hK => ?_)
            go_simp
            refine hK _ _ ?_
            clear hK K
            (try simp only [Act.put, List.setIfInBounds_toArray, List.set_cons_zero, List.set_cons_succ])
            repeat (first
              | (refine fork_skip (by rfl) ?_
                 (try simp only [Act.put, List.setIfInBounds_toArray, List.set_cons_zero, List.set_cons_succ]))
              | (refine fork_pure (v := ?_) (by rfl) (fun u => ?_) ?_
                 rotate_left
                 · go_simp
                   (with_reducible rfl)
                 (try simp only [Act.put, List.setIfInBounds_toArray, List.set_cons_zero, List.set_cons_succ])))
            refine fork_call (by rfl) (fun K hK => ?_)
            go_simp
            refine hK _ _ ?_
            refine fork_nil ?_
            go_wp2
            go_ret
            exact retRd_of Hset.out.1 (by omega) (hB5.grown Hset.out.2 hB5.size (by simp; omega))
      · go_wp2_with fail
        refine (l1Chance w3 _ _ A m c (kk + 1) l 12 s3 (by omega) (by omega)).mono ?_
        rintro e w4 ⟨b4, rfl, s4, hw4, -⟩
        have g4 := s4.at_.lt
        have hB4 := hw4.below hB3 hB3.size (Nat.le_refl _)
        have ow0_4 := ow0_3.past hw4 (by omega)
        cases b4
        · go_wp2
          go_ret
          exact retRd_of ow0_4 (by omega) hB4
        · go_wp2_with fail
          refine (l1Pick (w4.alloc (.cells #[.int .i64 20000, .int .i64 20001] 2)) _ _ A m c (kk + 1 + 1) l w4.heap.size #[.int .i64 20000, .int .i64 20001] [20000, 20001] 2 2 (s4.alloc _) (by omega) (At.new _ _ _) (by simp [intCells]) (by omega) rfl (by omega) (by omega)).mono ?_
          rintro e w5 ⟨v5, hv5, rfl, s5, hw5, -⟩
          have g5 := s5.at_.lt
          have hB5 := hw5.below (hB4.alloc hB4.size _) (hB4.alloc hB4.size _).size (Nat.le_refl _)
          have ow0_5 := (ow0_4.alloc _).past hw5 (by omega)
          obtain ⟨q5, rfl, hq5⟩ := pick_nat 20001 hv5 rfl
          clear hv5
          have hq' : (q5 : Int) ≤ 20001 := by omega
          clear hq5
          go_wp2_with (refine wpList_make_ow okB _ rfl _ _ _ rfl w.heap.size info_u8 Try.underlying22 0 rfl .i64 .i64 _ _ q5 rfl rfl rfl rfl (by omega) (by unfold maxLen; omega) hB5.size ?_; intro w9 how9 hg)
          go_ret
          exact retRd_of how9 (by omega) (hB5.grown hg hB5.size (by simp))
      · have e0 : (r3 == 0) = false := by rw [beq_eq_false_iff_ne]; omega
        have e1 : (r3 == 1) = false := by rw [beq_eq_false_iff_ne]; omega
        have e2 : (r3 == 2) = false := by rw [beq_eq_false_iff_ne]; omega
        have e3 : (r3 == 3) = false := by rw [beq_eq_false_iff_ne]; omega
        go_wp2
        go_ret
        exact retRd_of ow0_3 (by omega) hB3
end Go.Proofs.Ytkdfbaiolgndeaa
