/-
  A sample put at its place: the model's.
-/
import Derived.Test.YtkgbjlbhlhdhbaaDoorStoreF
namespace Go.Proofs.YtkgbjlbhlhdhbaaDoor
set_option maxRecDepth 20000
open Go.RowKit
set_option linter.unusedSimpArgs false

def frontOf (l : List Smp) (x : Smp) (i : Nat) : Bool := match l[i]? with | some a => aheadM x a | none => false
theorem frontOf_at {l : List Smp} {x a : Smp} {i : Nat} (h : l[i]? = some a) : frontOf l x i = aheadM x a := by
  unfold frontOf
  rw [h]
def spotM (l : List Smp) (x : Smp) : Option Nat := (List.range l.length).find? (frontOf l x)
/-- The store with the sample at its place. -/
def insM (l : List Smp) (x : Smp) : List Smp := match spotM l x with | some p => l.take p ++ x :: l.drop p | none => l ++ [x]
theorem insM_at {l : List Smp} {x : Smp} {p : Nat} (hp : p < l.length) (h : frontOf l x p = true) (hal : ∀ j, j < p → frontOf l x j = false) : insM l x = l.take p ++ x :: l.drop p := by
  have : spotM l x = some p := by
    unfold spotM
    rw [List.find?_range_eq_some]
    exact ⟨h, by simpa using hp, fun j hj => by simp [hal j hj]⟩
  unfold insM
  rw [this]
theorem insM_end {l : List Smp} {x : Smp} {n : Nat} (hn : l.length = n) (hal : ∀ j, j < n → frontOf l x j = false) : insM l x = l ++ [x] := by
  have : spotM l x = none := by
    unfold spotM
    rw [List.find?_range_eq_none]
    exact fun j hj => by simp [hal j (by omega)]
  unfold insM
  rw [this]
theorem insM_len (l : List Smp) (x : Smp) : (insM l x).length = l.length + 1 := by
  unfold insM
  rcases h : spotM l x with _ | p
  · simp
  · simp only [List.length_append, List.length_take, List.length_cons, List.length_drop]
    unfold spotM at h
    rw [List.find?_range_eq_some] at h
    have := h.2.1
    simp at this
    omega

/-- What k rounds have laid. -/
def PartI (l : List Smp) (x : Smp) (k : Nat) (d : Bool) (out : List Smp) : Prop :=
  (d = false ∧ (∀ j, j < k → frontOf l x j = false) ∧ out = l.take k) ∨ (d = true ∧ ∃ p, p < k ∧ frontOf l x p = true ∧ (∀ j, j < p → frontOf l x j = false) ∧ out = l.take p ++ x :: (l.take k).drop p)
theorem take_next {l : List Smp} {k : Nat} {a : Smp} (h : l[k]? = some a) : l.take (k + 1) = l.take k ++ [a] := by
  have hl := getElem?_some_lt h
  rw [List.take_succ_eq_append_getElem hl]
  rw [List.getElem?_eq_getElem hl] at h
  rw [Option.some.inj h]
theorem partI_done {l : List Smp} {x a : Smp} {k : Nat} {out : List Smp} (h : PartI l x k true out) (hk : l[k]? = some a) : PartI l x (k + 1) true (out ++ [a]) := by
  rcases h with ⟨h, _⟩ | ⟨_, p, hp, h1, h2, rfl⟩
  · cases h
  · refine .inr ⟨rfl, p, by omega, h1, h2, ?_⟩
    rw [take_next hk, List.drop_append_of_le_length (by rw [List.length_take]; have := getElem?_some_lt hk; omega)]
    simp
theorem partI_not {l : List Smp} {x a : Smp} {k : Nat} {out : List Smp} (h : PartI l x k false out) (hk : l[k]? = some a) (hf : frontOf l x k = false) : PartI l x (k + 1) false (out ++ [a]) := by
  rcases h with ⟨_, h1, rfl⟩ | ⟨h, _⟩
  · refine .inl ⟨rfl, fun j hj => ?_, (take_next hk).symm⟩
    rcases Nat.lt_or_ge j k with h | h
    · exact h1 j h
    · obtain rfl : j = k := by omega
      exact hf
  · cases h
theorem partI_now {l : List Smp} {x a : Smp} {k : Nat} {out : List Smp} (h : PartI l x k false out) (hk : l[k]? = some a) (hf : frontOf l x k = true) : PartI l x (k + 1) true (out ++ [x] ++ [a]) := by
  rcases h with ⟨_, h1, rfl⟩ | ⟨h, _⟩
  · refine .inr ⟨rfl, k, by omega, hf, h1, ?_⟩
    rw [take_next hk, List.drop_append_of_le_length (by rw [List.length_take]; have := getElem?_some_lt hk; omega), List.drop_of_length_le (by rw [List.length_take]; omega)]
    simp
  · cases h
theorem partI_end {l : List Smp} {x : Smp} {n : Nat} {out : List Smp} (hn : l.length = n) (h : PartI l x n true out) : out = insM l x := by
  rcases h with ⟨h, _⟩ | ⟨_, p, hp, h1, h2, rfl⟩
  · cases h
  · rw [insM_at (by omega) h1 h2, show l.take n = l from List.take_of_length_le (by omega)]
theorem partI_last {l : List Smp} {x : Smp} {n : Nat} {out : List Smp} (hn : l.length = n) (h : PartI l x n false out) : out ++ [x] = insM l x := by
  rcases h with ⟨_, h1, rfl⟩ | ⟨h, _⟩
  · rw [insM_end hn h1, List.take_of_length_le (by omega)]
  · cases h

def InsRel (w : World) (l : List Smp) (x0 x1 x2 x3 : Int) (n : Nat) (o d i : Value) (wr : World) : Prop :=
  ∃ (k : Nat) (b : Bool) (A : Option Addr) (L c : Nat) (out : List Smp), k ≤ n ∧ i = .int .i64 k ∧ d = .bool b ∧ o = .slice A L c ∧ PartI l (x0, x1, x2, x3) k b out ∧ L ≤ 2 * k ∧ Ow eS wr (w.heap.size + 1) A L c out ∧ At wr w.heap.size 26 #[.int .i64 x0, .int .i64 x1, .int .i64 x2, .int .i64 x3] ∧ Below w.heap.size w wr
theorem ow_smp (w : World) (a0 a1 a2 a3 : Int) : Ow eS (w.alloc (.cells #[.int .i64 a0, .int .i64 a1, .int .i64 a2, .int .i64 a3] 26)) w.heap.size (some ⟨w.heap.size, 0, none⟩) 1 1 [(a0, a1, a2, a3)] :=
  Ow.lit w [(a0, a1, a2, a3)] _ 1 (Nat.le_refl _) (by unfold maxLen; omega) rfl rfl

set_option maxHeartbeats 4000000 in
theorem l3Insert (A : Option Addr) (n c : Nat) (l : List Smp) (x0 x1 x2 x3 : Int) (w : World) (ha : Rd eS w w.heap.size A l) (hn : l.length = n) (hm : n ≤ 1048576) :
    Calls Tryd.prog 56 #[.slice A n c, .agg #[.int .i64 x0, .int .i64 x1, .int .i64 x2, .int .i64 x3]] w fun e w' => ∃ A' c', e = .returned (.slice A' (n + 1) c') ∧ Ow eS w' w.heap.size A' (n + 1) c' (insM l (x0, x1, x2, x3)) ∧ Below w.heap.size w w' := by
  have Hn := Lib.hid hn
  clear hn
  have B1 := (Below.refl w.heap.size w).alloc (Nat.le_refl _) (.cells #[.int .i64 x0, .int .i64 x1, .int .i64 x2, .int .i64 x3] 26)
  have b1 := (At.new w 26 #[.int .i64 x0, .int .i64 x1, .int .i64 x2, .int .i64 x3]).alloc (.cells #[] 26)
  have e1 : (w.alloc (.cells #[.int .i64 x0, .int .i64 x1, .int .i64 x2, .int .i64 x3] 26)).heap.size = w.heap.size + 1 := by simp
  have o1 : Ow eS ((w.alloc (.cells #[.int .i64 x0, .int .i64 x1, .int .i64 x2, .int .i64 x3] 26)).alloc (.cells #[] 26)) (w.alloc (.cells #[.int .i64 x0, .int .i64 x1, .int .i64 x2, .int .i64 x3] 26)).heap.size (some ⟨(w.alloc (.cells #[.int .i64 x0, .int .i64 x1, .int .i64 x2, .int .i64 x3] 26)).heap.size, 0, none⟩) 0 0 [] := Ow.lit _ [] #[] 0 (Nat.le_refl _) (by unfold maxLen; omega) rfl rfl
  have B2 := B1.alloc B1.size (.cells #[] 26)
  rw [e1] at o1
  go_enter Tryd.func56, Tryd.ntmps56
  go_wp2
  go_loopw [5, 6, 7] (fun o d i wr => InsRel w l x0 x1 x2 x3 n o d i wr) (fun _ _ i _ => n - (intOf i).toNat)
  case atStart => exact ⟨0, false, _, 0, 0, [], Nat.zero_le _, rfl, rfl, rfl, .inl ⟨rfl, fun _ h => absurd h (by omega), by simp⟩, by omega, o1, b1, B2⟩
  case round =>
    obtain ⟨k, b, A1, L1, c1, out, hk, rfl, rfl, rfl, hp, hL, ow1, bx, hbel⟩ := hrel
    have HP := Lib.hid hp
    clear hp
    have lbx := bx.lt
    obtain ⟨q0, q1, q2, q3, _, _, _, _⟩ := bx.four
    by_cases hlt : k < n
    · obtain ⟨g, o, a0, a1, a2, a3, rfl, hg, hx, ca⟩ := (ha.below hbel (Nat.le_refl _)).smp (k := k) (by rw [Hn.out]; exact hlt)
      have Hx := Lib.hid hx
      have Hf := Lib.hid (frontOf_at (x := (x0, x1, x2, x3)) hx)
      clear hx
      cases b
      · have hbd := hbel.drew
        have bs : S4 wr w.heap.size 0 x0 x1 x2 x3 := ⟨bx.cell 0, bx.cell 1, bx.cell 2, bx.cell 3⟩
        go_wp2
        refine wp_region_mix [(0, false), (1, false), (2, false), (3, false), (4, false), (5, false), (6, false), (7, false), (8, true), (9, false)] (fun u => S4 u w.heap.size 0 x0 x1 x2 x3 ∧ S4 u g (o + k * 4) a0 a1 a2 a3) (by kernel_rfl) (by kernel_rfl) (fun _ _ _ _ _ h => h) ⟨bs.drew, ca.drew⟩ ?_
        simp only [mixOps, List.map_cons, List.map_nil, List.getElem?_cons_succ, List.getElem?_cons_zero, Option.getD_some]
        repeat (first
          | (refine mix_skip (by rfl) ?_
             (try simp only [Act.put, List.setIfInBounds_toArray, List.set_cons_zero, List.set_cons_succ]))
          | (refine mix_pure (v := ?_) (by rfl) (fun u hu => ?_) ?_
             rotate_left
             · obtain ⟨⟨_, _, _, _⟩, _, _, _, _⟩ := hu
               go_simp
               (with_reducible rfl)
             (try simp only [Act.put, List.setIfInBounds_toArray, List.set_cons_zero, List.set_cons_succ])))
        refine mix_call (by rfl) (fun K hK => ?_)
        go_simp
        refine (specIsAhead x0 x1 x2 x3 a0 a1 a2 a3 _).mono ?_
        rintro e w2 ⟨rfl, hb2⟩
        have hB2 := hbd.trans (hb2.mono hbd.size)
        have bx2 := bx.drew.below hb2 lbx
        have ow2 := (ow1.drewN 1).below hb2 (Nat.le_refl _)
        have ca2 := ca.drew.below hb2 (Nat.lt_of_lt_of_le hg hbd.size)
        refine hK _ _ _ (fun _ h => h) ⟨bs.drew.below hb2 lbx, ca2⟩ ?_
        (try simp only [Act.put, List.setIfInBounds_toArray, List.set_cons_zero, List.set_cons_succ])
        rw [← Hf.out]
        clear q0 q1 q2 q3
        obtain ⟨q0, q1, q2, q3, _, _, _, _⟩ := bx2.four
        have hlo := ow1.len okS
        rcases hs : frontOf l (x0, x1, x2, x3) k
        · have Hs := Lib.hid hs
          clear hs
          refine mix_pure (v := ?_) (by rfl) (fun u hu => ?_) ?_
          rotate_left
          · go_simp
            (with_reducible rfl)
          (try simp only [Act.put, List.setIfInBounds_toArray, List.set_cons_zero, List.set_cons_succ])
          refine mix_nil ?_
          obtain ⟨_, _, _, _⟩ := ca2
          go_wp2_with (at_builtin; refine wpList_append_ow okS _ rfl (.tmp 29) (.tmp 34) _ rfl (w.heap.size + 1) info_smp Tryd.underlying24 rfl A1 L1 c1 out rfl (ow2.alloc _) _ 1 1 _ [(a0, a1, a2, a3)] rfl ((ow_smp _ a0 a1 a2 a3).rd okS) rfl (by unfold maxLen; omega) (by omega) (by have := hB2.size; simp; omega) ?_; intro A5 c5 w5 ow5 hg5 _; have hB5 := (hB2.alloc hB2.size _).grown hg5 (hB2.alloc hB2.size _).size (fun g hg => by have := (ow2.lt g hg).1; omega); have bx5 := (bx2.alloc _).grown hg5 (fun e => by have := (ow2.lt _ e).1; omega))
          exact ⟨⟨k + 1, false, A5, L1 + 1, c5, out ++ [(a0, a1, a2, a3)], by omega, by go_num, rfl, rfl, partI_not HP.out Hx.out Hs.out, by omega, ow5, bx5, hB5⟩, by simp [intOf]; omega⟩
        · have Hs := Lib.hid hs
          clear hs
          refine mix_pure (v := ?_) (by rfl) (fun u hu => ?_) ?_
          rotate_left
          · go_simp
            (with_reducible rfl)
          (try simp only [Act.put, List.setIfInBounds_toArray, List.set_cons_zero, List.set_cons_succ])
          refine mix_nil ?_
          go_wp2_with (first
            | (at_builtin; refine wpList_append_ow okS _ rfl (.tmp 25) (.tmp 27) _ rfl (w.heap.size + 1) info_smp Tryd.underlying24 rfl A1 L1 c1 out rfl (ow2.alloc _) _ 1 1 _ [(x0, x1, x2, x3)] rfl ((ow_smp _ x0 x1 x2 x3).rd okS) rfl (by unfold maxLen; omega) (by omega) (by have := hB2.size; simp; omega) ?_; intro A5 c5 w5 ow5 hg5 _; have hB5 := (hB2.alloc hB2.size _).grown hg5 (hB2.alloc hB2.size _).size (fun g hg => by have := (ow2.lt g hg).1; omega); have bx5 := (bx2.alloc _).grown hg5 (fun e => by have := (ow2.lt _ e).1; omega); obtain ⟨_, _, _, _⟩ := (ha.below hB5 (Nat.le_refl _)).smp_is Hx.out)
            | (at_builtin; refine wpList_append_ow okS _ rfl (.tmp 29) (.tmp 34) _ rfl (w.heap.size + 1) info_smp Tryd.underlying24 rfl A5 (L1 + 1) c5 (out ++ [(x0, x1, x2, x3)]) rfl (ow5.alloc _) _ 1 1 _ [(a0, a1, a2, a3)] rfl ((ow_smp _ a0 a1 a2 a3).rd okS) rfl (by unfold maxLen; omega) (by omega) (by have := hB5.size; simp; omega) ?_; intro A6 c6 w6 ow6 hg6 _; have hB6 := (hB5.alloc hB5.size _).grown hg6 (hB5.alloc hB5.size _).size (fun g hg => by have := (ow5.lt g hg).1; omega); have bx6 := (bx5.alloc _).grown hg6 (fun e => by have := (ow5.lt _ e).1; omega)))
          exact ⟨⟨k + 1, true, A6, L1 + 1 + 1, c6, out ++ [(x0, x1, x2, x3)] ++ [(a0, a1, a2, a3)], by omega, by go_num, rfl, rfl, partI_now HP.out Hx.out Hs.out, by omega, ow6, bx6, hB6⟩, by simp [intOf]; omega⟩
      · obtain ⟨_, _, _, _⟩ := ca
        have hlo := ow1.len okS
        go_wp2
        go_quiet (fail)
        go_wp2_with (at_builtin; refine wpList_append_ow okS _ rfl (.tmp 29) (.tmp 34) _ rfl (w.heap.size + 1) info_smp Tryd.underlying24 rfl A1 L1 c1 out rfl ((ow1.drewN _).alloc _) _ 1 1 _ [(a0, a1, a2, a3)] rfl ((ow_smp _ a0 a1 a2 a3).rd okS) rfl (by unfold maxLen; omega) (by omega) (by have := hbel.size; simp; omega) ?_; intro A5 c5 w5 ow5 hg5 _; have hB5 := ((bdrewN hbel _).alloc (bdrewN hbel _).size _).grown hg5 ((bdrewN hbel _).alloc (bdrewN hbel _).size _).size (fun g hg => by have := (ow1.lt g hg).1; omega); have bx5 := ((bx.drewN _).alloc _).grown hg5 (fun e => by have := (ow1.lt _ e).1; omega))
        exact ⟨⟨k + 1, true, A5, L1 + 1, c5, out ++ [(a0, a1, a2, a3)], by omega, by go_num, rfl, rfl, partI_done HP.out Hx.out, by omega, ow5, bx5, hB5⟩, by simp [intOf]; omega⟩
    · obtain rfl : n = k := by omega
      have hlo := ow1.len okS
      cases b
      · go_wp2_with (at_builtin; refine wpList_append_ow okS _ rfl (.tmp 38) (.tmp 40) _ rfl (w.heap.size + 1) info_smp Tryd.underlying24 rfl A1 L1 c1 out rfl (ow1.alloc _) _ 1 1 _ [(x0, x1, x2, x3)] rfl ((ow_smp _ x0 x1 x2 x3).rd okS) rfl (by unfold maxLen; omega) (by omega) (by have := hbel.size; simp; omega) ?_; intro A5 c5 w5 ow5 hg5 _; have hB5 := (hbel.alloc hbel.size _).grown hg5 (hbel.alloc hbel.size _).size (fun g hg => by have := (ow1.lt g hg).1; omega); have bx5 := (bx.alloc _).grown hg5 (fun e => by have := (ow1.lt _ e).1; omega))
        have hq := partI_last Hn.out HP.out
        rw [hq] at ow5
        have hL1 : L1 + 1 = n + 1 := by rw [← ow5.len okS, insM_len, Hn.out]
        go_ret
        rw [hL1] at ow5
        exact ⟨_, _, by simp; omega, ow5.from_ (by omega), hB5⟩
      · have hq := partI_end Hn.out HP.out
        have hL1 : L1 = n + 1 := by rw [← hlo, hq, insM_len, Hn.out]
        subst hL1
        subst hq
        go_wp2
        go_ret
        exact ⟨_, _, rfl, ow1.from_ (by omega), hbel⟩
end Go.Proofs.YtkgbjlbhlhdhbaaDoor
