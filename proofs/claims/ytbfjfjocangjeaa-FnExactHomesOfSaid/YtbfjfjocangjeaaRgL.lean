/-
  The model's places: each node put in its place, from behind.
-/
import Derived.Test.YtbfjfjocangjeaaRgS
import Derived.Test.YtbfjfjocangjeaaIrs
namespace Go.Proofs.Ytbfjfjocangjeaa
set_option maxRecDepth 20000
open Go.RowKit
set_option linter.unusedSimpArgs false
set_option linter.unusedVariables false
attribute [local irreducible] mixW

theorem ow_plc (w : World) (a0 a1 : Int) : Ow ePl (w.alloc (.cells #[.int .i64 a0, .int .i64 a1] 116)) w.heap.size (some ⟨w.heap.size, 0, none⟩) 1 1 [(a0, a1)] :=
  Ow.lit w [(a0, a1)] #[.int .i64 a0, .int .i64 a1] 1 (Nat.le_refl _) (by unfold maxLen; omega) rfl rfl
def PlRel (w : World) (s : Int) (N : Nat) (o i : Value) (wr : World) : Prop :=
  ∃ (k : Nat) (A : Option Addr) (c : Nat), k ≤ N ∧ i = .int .i64 k ∧ o = .slice A k c ∧ Ow ePl wr w.heap.size A k c (placesF s k) ∧ Below w.heap.size w wr
def ShRel (w : World) (l : List Plc) (p : Plc) (k g8 : Nat) (A : Option Addr) (c : Nat) (i : Value) (wr : World) : Prop :=
  ∃ (a : Nat) (z : Plc), a ≤ k ∧ i = .int .i64 a ∧ Ow ePl wr w.heap.size A (k + 1) c (l.take a ++ z :: l.drop a) ∧ (∀ q ∈ l.drop a, p.1 < q.1) ∧ At wr g8 116 #[.int .i64 p.1, .int .i64 p.2] ∧ Below w.heap.size w wr
theorem shift_at {l : List Plc} {a : Nat} {z q : Plc} (ha : a + 1 ≤ l.length) (hq : l[a]? = some q) : (l.take (a + 1) ++ z :: l.drop (a + 1))[a]? = some q ∧ (l.take (a + 1) ++ z :: l.drop (a + 1)).set (a + 1) q = l.take a ++ q :: l.drop a := by
  have hl : (l.take (a + 1)).length = a + 1 := by rw [List.length_take]; omega
  constructor
  · rw [List.getElem?_append_left (by omega), List.getElem?_take, if_pos (by omega), hq]
  · rw [List.set_append, if_neg (by omega), hl, Nat.sub_self, List.set_cons_zero]
    have h1 : l.take (a + 1) = l.take a ++ [q] := by rw [List.take_add_one, hq]; rfl
    have h2 : l.drop a = q :: l.drop (a + 1) := by
      have hlt : a < l.length := by omega
      rw [List.drop_eq_getElem_cons hlt]
      rw [List.getElem?_eq_getElem hlt] at hq
      rw [Option.some.inj hq]
    rw [h1, h2]
    simp
theorem lay_at {l : List Plc} {a : Nat} {z p : Plc} (ha : a ≤ l.length) : (l.take a ++ z :: l.drop a).set a p = l.take a ++ p :: l.drop a := by
  have hl : (l.take a).length = a := by rw [List.length_take]; omega
  rw [List.set_append, if_neg (by omega), hl, Nat.sub_self, List.set_cons_zero]

set_option maxRecDepth 100000 in
set_option maxHeartbeats 4000000 in
theorem l6Places (N : Nat) (s : Int) (w : World) (hN : N ≤ 4) (h0 : 0 ≤ s) (h9 : s ≤ 9) :
    Calls Try.prog 88 #[.int .i64 (N : Int), .int .i64 s] w fun e w' => ∃ A c, e = .returned (.slice A N c) ∧ Ow ePl w' w.heap.size A N c (placesF s N) ∧ Below w.heap.size w w' := by
  have F1 := fldIr1
  have B1 := (Below.refl w.heap.size w).alloc (Nat.le_refl _) (.cells #[] 116)
  have o1 : Ow ePl (w.alloc (.cells #[] 116)) w.heap.size (some ⟨w.heap.size, 0, none⟩) 0 0 [] := Ow.lit w [] #[] 0 (Nat.le_refl _) (by unfold maxLen; omega) rfl rfl
  go_enter Try.func88, Try.ntmps88
  go_wp2_with fail
  refine (specSeriesSpot s _ h0 h9).mono ?_
  rintro e w1 ⟨rfl, hb1⟩
  have o2 := o1.below hb1 (Nat.le_refl _)
  have B2 := B1.trans (hb1.mono B1.size)
  clear o1 B1 hb1
  have hs0 : 0 ≤ spotS s ∧ spotS s < 64 := by unfold spotS; omega
  go_wp2
  go_loopw [5, 7] (fun o i wr => PlRel w s N o i wr) (fun _ i _ => N - (intOf i).toNat)
  case atStart => exact ⟨0, _, 0, Nat.zero_le _, rfl, rfl, o2, B2⟩
  case round =>
    clear o2 B2
    obtain ⟨k, A1, c1, hk, rfl, rfl, ow1, hbel⟩ := hrel
    by_cases hlt : k < N
    · have hlo := ow1.len okPl
      have i5 : (k : Int) < (N : Int) := by omega
      have hn0 : 0 ≤ spotN (k : Int) ∧ spotN (k : Int) < 64 := by unfold spotN; omega
      have hw1 : IntKind.i64.wrap (spotN (k : Int) - spotS s) = spotN (k : Int) - spotS s := IntWalk.i64_in _ (by omega)
      have hw2 : IntKind.i64.wrap (spotN (k : Int) - spotS s + 64) = spotN (k : Int) - spotS s + 64 := IntWalk.i64_in _ (by omega)
      have ht : Int.tmod (spotN (k : Int) - spotS s + 64) 64 = farF s k := tmod_64 (by omega)
      have hw3 : IntKind.i64.wrap (farF s k) = farF s k := IntWalk.i64_in _ (by unfold farF; omega)
      go_wp2_with fail
      refine (specNodeSpot (k : Int) _ (by omega) (by omega)).mono ?_
      rintro e w2 ⟨rfl, hb2⟩
      have hB2 := hbel.trans (hb2.mono hbel.size)
      have ow2 := ow1.below hb2 (Nat.le_refl _)
      have X3 := At.new w2 116 #[.int .i64 (farF s k), .int .i64 (k : Int)]
      have ow3 := ow2.alloc (.cells #[.int .i64 (farF s k), .int .i64 (k : Int)] 116)
      have hB3 := hB2.alloc hB2.size (.cells #[.int .i64 (farF s k), .int .i64 (k : Int)] 116)
      have hz2 := hB2.size
      have mk3 : Ow ePl ((w2.alloc (.cells #[.int .i64 (farF s k), .int .i64 (k : Int)] 116)).alloc (.cells #[.int .i64 (farF s k), .int .i64 (k : Int)] 116)) (w2.heap.size + 1) (some ⟨w2.heap.size + 1, 0, none⟩) 1 1 [(farF s k, (k : Int))] := by
        have := ow_plc (w2.alloc (.cells #[.int .i64 (farF s k), .int .i64 (k : Int)] 116)) (farF s k) (k : Int)
        simpa using this
      go_wp2_with (at_builtin; refine wpList_append_ow okPl _ rfl (.tmp 30) (.tmp 32) _ rfl w.heap.size info_plc Try.underlying52 rfl A1 k c1 _ rfl (ow3.alloc _) _ 1 1 _ [(farF s k, (k : Int))] rfl (mk3.rd okPl) rfl (by unfold maxLen; omega) (by omega) (by simp; omega) ?_; intro A5 c5 w5 ow5 hg5 hA5; have hB5 := (hB3.alloc hB3.size _).grown hg5 (hB3.alloc hB3.size _).size (fun g hg => by have := (ow1.lt g hg).1; omega); have X5 := (X3.alloc _).grown hg5 (fun e => by have := (ow2.lt _ e).2; omega))
      obtain ⟨gA, rfl, hgA, hgA2⟩ := ow5.form (by omega)
      have hne : gA ≠ w2.heap.size := by
        rcases hA5 with h | h
        · have := (ow2.lt gA h.symm).2
          omega
        · have h2 : gA = ((w2.alloc (.cells #[.int .i64 (farF s k), .int .i64 (k : Int)] 116)).alloc (.cells #[.int .i64 (farF s k), .int .i64 (k : Int)] 116)).heap.size := Option.some.inj h
          simp at h2
          omega
      have Hr := Lib.hid (places_rise s k)
      have Hk := Lib.hid (show placesF s (k + 1) = insP (farF s k, (k : Int)) (placesF s k) from rfl)
      clear mk3 hA5 hg5 X3 ow3 hB3 ow2 hB2 hb2 ow1 hbel
      have hpl := places_len s k
      go_loopw [9] (fun i wr => ShRel w (placesF s k) (farF s k, (k : Int)) k w2.heap.size (some ⟨gA, 0, none⟩) c5 i wr) (fun i _ => (intOf i).toNat)
      case atStart => exact ⟨k, (farF s k, (k : Int)), Nat.le_refl _, rfl, by rw [List.take_of_length_le (by omega), List.drop_eq_nil_of_le (by omega)]; exact ow5, fun q hq => (by rw [List.drop_eq_nil_of_le (by omega)] at hq; cases hq), X5, hB5⟩
      case round =>
        clear ow5 X5 hB5
        obtain ⟨a, ⟨z0, z1⟩, hak, rfl, owr, hd, X, hb⟩ := hrel
        have hll : ((placesF s k).take a ++ (z0, z1) :: (placesF s k).drop a).length = k + 1 := owr.len okPl
        have hza : ((placesF s k).take a ++ (z0, z1) :: (placesF s k).drop a)[a]? = some (z0, z1) := by
          rw [List.getElem?_append_right (by rw [List.length_take]; omega), List.length_take, show a - min a (placesF s k).length = 0 by omega]
          rfl
        have hgw := owr.form (by omega)
        have hX8 := X.lt
        have owd := owr.drewN 1
        have Xd := X.drew
        have hbd := hb.drew
        have Hd := Lib.hid hd
        have Hza := Lib.hid hza
        clear hd
        rcases Nat.eq_zero_or_pos a with ha0 | ha0
        · subst ha0
          have i7 : decide ((0 : Int) < ((0 : Nat) : Int)) = false := by simp
          go_wp2
          refine wp_region_mix [(0, false), (1, false), (2, false), (3, false), (4, false), (5, false), (6, false), (7, false), (8, false), (9, false), (10, false), (11, false), (12, false)] (fun u => At u w2.heap.size 116 #[.int .i64 (farF s k), .int .i64 (k : Int)]) (by kernel_rfl) (by kernel_rfl) (fun _ _ _ _ _ h => h) Xd ?_
          simp only [mixOps, List.map_cons, List.map_nil, List.getElem?_cons_succ, List.getElem?_cons_zero, Option.getD_some]
          repeat (first
            | (refine mix_skip (by rfl) ?_
               (try simp only [Act.put, List.setIfInBounds_toArray, List.set_cons_zero, List.set_cons_succ]))
            | (refine mix_pure (v := ?_) (by rfl) (fun u hu => ?_) ?_
               rotate_left
               · obtain ⟨_, _, _, _⟩ := hu.two
                 go_simp
                 (with_reducible rfl)
               (try simp only [Act.put, List.setIfInBounds_toArray, List.set_cons_zero, List.set_cons_succ])))
          refine mix_nil ?_
          have hin := insP_at (farF s k, (k : Int)) (placesF s k) 0 (Nat.zero_le _) Hr.out Hd.out (.inl rfl)
          have hst := (owr.plcSet (k := 0) (by rw [hll]; omega) (farF s k) (k : Int)).1.drewN 1
          rw [lay_at (by omega), ← hin, ← Hk.out] at hst
          obtain ⟨m0, m1, _, _⟩ := X.two
          have f0 : World.frozen? wr ⟨gA, 0, none⟩ = false := owr.frozenAt _
          have f1 : World.frozen? wr ⟨gA, 1, none⟩ = false := owr.frozenAt _
          obtain ⟨v0, v1⟩ := owr.plcAt Hza.out
          have hBs := ((hb.setCell (p := ⟨gA, 0, none⟩) hgA (.int .i64 (farF s k))).setCell (p := ⟨gA, 1, none⟩) hgA (.int .i64 (k : Int))).drew
          try simp only [Nat.zero_mul, Nat.zero_add] at hst v0 v1
          have Hst := Lib.hid hst
          clear hst owr
          go_wp2
          exact ⟨⟨k + 1, _, c5, by omega, by go_num, rfl, Hst.out, hBs⟩, by simp [intOf]; omega⟩
        · obtain ⟨b, rfl⟩ : ∃ b, a = b + 1 := ⟨a - 1, by omega⟩
          clear ha0
          obtain ⟨⟨q0, q1⟩, hq⟩ : ∃ q, (placesF s k)[b]? = some q := ⟨(placesF s k)[b]'(by omega), List.getElem?_eq_getElem _⟩
          obtain ⟨hrb, hrs⟩ := shift_at (z := (z0, z1)) (by omega) hq
          obtain ⟨qc0, qc1⟩ := owr.plcAt hrb
          have Hq := Lib.hid hq
          have Hrs := Lib.hid hrs
          clear hq hrs hrb
          have hwb : IntKind.i64.wrap (b : Int) = (b : Int) := IntWalk.i64_in _ (by omega)
          have i1 : decide ((0 : Int) < (b : Int) + 1) = true := decide_eq_true (by omega)
          have i2 : (b : Int) < (k : Int) + 1 := by omega
          have i3 : (b : Int) + 1 < (k : Int) + 1 := by omega
          have i4 : ((b : Int) + 1).toNat = b + 1 := by omega
          have i5' : (b : Int) + 1 - 1 = (b : Int) := by omega
          have i6 : (0 : Int) ≤ (b : Int) + 1 := by omega
          rw [show ((b + 1 : Nat) : Int) = (b : Int) + 1 by omega]
          by_cases hc : farF s k < q0
          · have dc : decide (farF s k < q0) = true := decide_eq_true hc
            go_wp2
            refine wp_region_mix [(0, false), (1, false), (2, false), (3, false), (4, false), (5, false), (6, false), (7, false), (8, false), (9, false), (10, false), (11, false), (12, false)] (fun u => World.cell? u ⟨gA, b * 2, none⟩ = some (.int .i64 q0) ∧ At u w2.heap.size 116 #[.int .i64 (farF s k), .int .i64 (k : Int)]) (by kernel_rfl) (by kernel_rfl) (fun _ _ _ _ _ h => h) ⟨qc0, Xd⟩ ?_
            simp only [mixOps, List.map_cons, List.map_nil, List.getElem?_cons_succ, List.getElem?_cons_zero, Option.getD_some]
            repeat (first
              | (refine mix_skip (by rfl) ?_
                 (try simp only [Act.put, List.setIfInBounds_toArray, List.set_cons_zero, List.set_cons_succ]))
              | (refine mix_pure (v := ?_) (by rfl) (fun u hu => ?_) ?_
                 rotate_left
                 · (obtain ⟨_, hu2⟩ := hu; obtain ⟨_, _, _, _⟩ := hu2.two)
                   go_simp
                   (with_reducible rfl)
                 (try simp only [Act.put, List.setIfInBounds_toArray, List.set_cons_zero, List.set_cons_succ])))
            refine mix_nil ?_
            have hst := (owr.plcSet (k := b + 1) (by rw [hll]; omega) q0 q1).1.drewN 1
            rw [Hrs.out] at hst
            have f0 := owr.frozenAt ((b + 1) * 2)
            have f1 := owr.frozenAt ((b + 1) * 2 + 1)
            obtain ⟨v0, v1⟩ := owr.plcAt Hza.out
            have hBs := ((hb.setCell (p := ⟨gA, (b + 1) * 2, none⟩) hgA (.int .i64 q0)).setCell (p := ⟨gA, (b + 1) * 2 + 1, none⟩) hgA (.int .i64 q1)).drew
            have Xs := ((X.far (p := ⟨gA, (b + 1) * 2, none⟩) (fun e => hne e.symm) (.int .i64 q0)).far (p := ⟨gA, (b + 1) * 2 + 1, none⟩) (fun e => hne e.symm) (.int .i64 q1)).drew
            have Hst := Lib.hid hst
            have Hd2 : ∀ q ∈ (placesF s k).drop b, (farF s k, (k : Int)).1 < q.1 := fun q hm => by
              have hlt' : b < (placesF s k).length := by omega
              rw [List.drop_eq_getElem_cons hlt'] at hm
              rcases List.mem_cons.1 hm with h | h
              · have := Hq.out
                rw [List.getElem?_eq_getElem hlt'] at this
                rw [h, Option.some.inj this]
                exact hc
              · exact Hd.out q h
            have HD2 := Lib.hid Hd2
            clear hst owr Hd2
            go_wp2
            exact ⟨⟨b, (q0, q1), by omega, by go_num, Hst.out, HD2.out, Xs, hBs⟩, by simp [intOf]⟩
          · have dc : decide (farF s k < q0) = false := decide_eq_false hc
            go_wp2
            refine wp_region_mix [(0, false), (1, false), (2, false), (3, false), (4, false), (5, false), (6, false), (7, false), (8, false), (9, false), (10, false), (11, false), (12, false)] (fun u => World.cell? u ⟨gA, b * 2, none⟩ = some (.int .i64 q0) ∧ At u w2.heap.size 116 #[.int .i64 (farF s k), .int .i64 (k : Int)]) (by kernel_rfl) (by kernel_rfl) (fun _ _ _ _ _ h => h) ⟨qc0, Xd⟩ ?_
            simp only [mixOps, List.map_cons, List.map_nil, List.getElem?_cons_succ, List.getElem?_cons_zero, Option.getD_some]
            repeat (first
              | (refine mix_skip (by rfl) ?_
                 (try simp only [Act.put, List.setIfInBounds_toArray, List.set_cons_zero, List.set_cons_succ]))
              | (refine mix_pure (v := ?_) (by rfl) (fun u hu => ?_) ?_
                 rotate_left
                 · (obtain ⟨_, hu2⟩ := hu; obtain ⟨_, _, _, _⟩ := hu2.two)
                   go_simp
                   (with_reducible rfl)
                 (try simp only [Act.put, List.setIfInBounds_toArray, List.set_cons_zero, List.set_cons_succ])))
            refine mix_nil ?_
            have hin := insP_at (farF s k, (k : Int)) (placesF s k) (b + 1) (by omega) Hr.out Hd.out (.inr ⟨(q0, q1), by simpa using Hq.out, by show q0 ≤ farF s k; omega⟩)
            have hst := (owr.plcSet (k := (b + 1)) (by rw [hll]; omega) (farF s k) (k : Int)).1.drewN 1
            rw [lay_at (by omega), ← hin, ← Hk.out] at hst
            obtain ⟨m0, m1, _, _⟩ := X.two
            have f0 : World.frozen? wr ⟨gA, (b + 1) * 2, none⟩ = false := owr.frozenAt _
            have f1 : World.frozen? wr ⟨gA, (b + 1) * 2 + 1, none⟩ = false := owr.frozenAt _
            obtain ⟨v0, v1⟩ := owr.plcAt Hza.out
            have hBs := ((hb.setCell (p := ⟨gA, (b + 1) * 2, none⟩) hgA (.int .i64 (farF s k))).setCell (p := ⟨gA, (b + 1) * 2 + 1, none⟩) hgA (.int .i64 (k : Int))).drew
            try simp only [Nat.zero_mul, Nat.zero_add] at hst v0 v1
            have Hst := Lib.hid hst
            clear hst owr
            go_wp2
            exact ⟨⟨k + 1, _, c5, by omega, by go_num, rfl, Hst.out, hBs⟩, by simp [intOf]; omega⟩
    · obtain rfl : k = N := by omega
      go_wp2
      go_ret
      exact ⟨A1, c1, rfl, ow1, hbel⟩
end Go.Proofs.Ytbfjfjocangjeaa
