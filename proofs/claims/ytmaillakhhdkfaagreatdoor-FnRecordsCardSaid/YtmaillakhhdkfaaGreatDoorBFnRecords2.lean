/-
  Texts of one proof, joined: each has its own namespace.
-/
import Derived.Test.YtmaillakhhdkfaaGreatDoorBFnRecords1
import Derived.Test.YtmaillakhhdkfaaGreatDoorBFnRecords0
import Derived.Laws.CopyOwn
/-
  A sample put at its place: the model's.
-/
namespace Go.Proofs.YtmaillakhhdkfaaGreatDoor
set_option maxRecDepth 20000
open Go.RowKit
set_option linter.unusedSimpArgs false

def frontOf (l : List Smp) (x : Smp) (i : Nat) : Bool := match l[i]? with | some a => aheadM x a | none => false
theorem frontOf_at {l : List Smp} {x a : Smp} {i : Nat} (h : l[i]? = some a) : frontOf l x i = aheadM x a := by
  unfold frontOf
  rw [h]
def spotM (l : List Smp) (x : Smp) : Option Nat := (List.range l.length).find? (frontOf l x)
/-- The store with the sample at its place. -/
def insM (l : List Smp) (x : Smp) : List Smp := match spotM l x with | some p => l.take p ++ x :: l.drop p | none => l ++ [x]
theorem insM_at {l : List Smp} {x : Smp} {p : Nat} (hp : p < l.length) (h : frontOf l x p = true) (hal : ∀ j, j < p → frontOf l x j = false) : insM l x = l.take p ++ x :: l.drop p := by
  have : spotM l x = some p := by
    unfold spotM
    rw [List.find?_range_eq_some]
    exact ⟨h, by simpa using hp, fun j hj => by simp [hal j hj]⟩
  unfold insM
  rw [this]
theorem insM_end {l : List Smp} {x : Smp} {n : Nat} (hn : l.length = n) (hal : ∀ j, j < n → frontOf l x j = false) : insM l x = l ++ [x] := by
  have : spotM l x = none := by
    unfold spotM
    rw [List.find?_range_eq_none]
    exact fun j hj => by simp [hal j (by omega)]
  unfold insM
  rw [this]
theorem insM_len (l : List Smp) (x : Smp) : (insM l x).length = l.length + 1 := by
  unfold insM
  rcases h : spotM l x with _ | p
  · simp
  · simp only [List.length_append, List.length_take, List.length_cons, List.length_drop]
    unfold spotM at h
    rw [List.find?_range_eq_some] at h
    have := h.2.1
    simp at this
    omega

/-- What k rounds have laid. -/
def PartI (l : List Smp) (x : Smp) (k : Nat) (d : Bool) (out : List Smp) : Prop :=
  (d = false ∧ (∀ j, j < k → frontOf l x j = false) ∧ out = l.take k) ∨ (d = true ∧ ∃ p, p < k ∧ frontOf l x p = true ∧ (∀ j, j < p → frontOf l x j = false) ∧ out = l.take p ++ x :: (l.take k).drop p)
theorem take_next {l : List Smp} {k : Nat} {a : Smp} (h : l[k]? = some a) : l.take (k + 1) = l.take k ++ [a] := by
  have hl := getElem?_some_lt h
  rw [List.take_succ_eq_append_getElem hl]
  rw [List.getElem?_eq_getElem hl] at h
  rw [Option.some.inj h]
theorem partI_done {l : List Smp} {x a : Smp} {k : Nat} {out : List Smp} (h : PartI l x k true out) (hk : l[k]? = some a) : PartI l x (k + 1) true (out ++ [a]) := by
  rcases h with ⟨h, _⟩ | ⟨_, p, hp, h1, h2, rfl⟩
  · cases h
  · refine .inr ⟨rfl, p, by omega, h1, h2, ?_⟩
    rw [take_next hk, List.drop_append_of_le_length (by rw [List.length_take]; have := getElem?_some_lt hk; omega)]
    simp
theorem partI_not {l : List Smp} {x a : Smp} {k : Nat} {out : List Smp} (h : PartI l x k false out) (hk : l[k]? = some a) (hf : frontOf l x k = false) : PartI l x (k + 1) false (out ++ [a]) := by
  rcases h with ⟨_, h1, rfl⟩ | ⟨h, _⟩
  · refine .inl ⟨rfl, fun j hj => ?_, (take_next hk).symm⟩
    rcases Nat.lt_or_ge j k with h | h
    · exact h1 j h
    · obtain rfl : j = k := by omega
      exact hf
  · cases h
theorem partI_now {l : List Smp} {x a : Smp} {k : Nat} {out : List Smp} (h : PartI l x k false out) (hk : l[k]? = some a) (hf : frontOf l x k = true) : PartI l x (k + 1) true (out ++ [x] ++ [a]) := by
  rcases h with ⟨_, h1, rfl⟩ | ⟨h, _⟩
  · refine .inr ⟨rfl, k, by omega, hf, h1, ?_⟩
    rw [take_next hk, List.drop_append_of_le_length (by rw [List.length_take]; have := getElem?_some_lt hk; omega), List.drop_of_length_le (by rw [List.length_take]; omega)]
    simp
  · cases h
theorem partI_end {l : List Smp} {x : Smp} {n : Nat} {out : List Smp} (hn : l.length = n) (h : PartI l x n true out) : out = insM l x := by
  rcases h with ⟨h, _⟩ | ⟨_, p, hp, h1, h2, rfl⟩
  · cases h
  · rw [insM_at (by omega) h1 h2, show l.take n = l from List.take_of_length_le (by omega)]
theorem partI_last {l : List Smp} {x : Smp} {n : Nat} {out : List Smp} (hn : l.length = n) (h : PartI l x n false out) : out ++ [x] = insM l x := by
  rcases h with ⟨_, h1, rfl⟩ | ⟨h, _⟩
  · rw [insM_end hn h1, List.take_of_length_le (by omega)]
  · cases h

def InsRel (w : World) (l : List Smp) (x0 x1 x2 x3 : Int) (n : Nat) (o d i : Value) (wr : World) : Prop :=
  ∃ (k : Nat) (b : Bool) (A : Option Addr) (L c : Nat) (out : List Smp), k ≤ n ∧ i = .int .i64 k ∧ d = .bool b ∧ o = .slice A L c ∧ PartI l (x0, x1, x2, x3) k b out ∧ L ≤ 2 * k ∧ Ow eS wr (w.heap.size + 1) A L c out ∧ At wr w.heap.size 25 #[.int .i64 x0, .int .i64 x1, .int .i64 x2, .int .i64 x3] ∧ Below w.heap.size w wr
theorem ow_smp (w : World) (a0 a1 a2 a3 : Int) : Ow eS (w.alloc (.cells #[.int .i64 a0, .int .i64 a1, .int .i64 a2, .int .i64 a3] 25)) w.heap.size (some ⟨w.heap.size, 0, none⟩) 1 1 [(a0, a1, a2, a3)] :=
  Ow.lit w [(a0, a1, a2, a3)] _ 1 (Nat.le_refl _) (by unfold maxLen; omega) rfl rfl

set_option maxHeartbeats 4000000 in
theorem l3Insert (A : Option Addr) (n c : Nat) (l : List Smp) (x0 x1 x2 x3 : Int) (w : World) (ha : Rd eS w w.heap.size A l) (hn : l.length = n) (hm : n ≤ 1048576) :
    Calls Tryz.prog 101 #[.slice A n c, .agg #[.int .i64 x0, .int .i64 x1, .int .i64 x2, .int .i64 x3]] w fun e w' => ∃ A' c', e = .returned (.slice A' (n + 1) c') ∧ Ow eS w' w.heap.size A' (n + 1) c' (insM l (x0, x1, x2, x3)) ∧ Below w.heap.size w w' := by
  have Hn := Lib.hid hn
  clear hn
  have B1 := (Below.refl w.heap.size w).alloc (Nat.le_refl _) (.cells #[.int .i64 x0, .int .i64 x1, .int .i64 x2, .int .i64 x3] 25)
  have b1 := (At.new w 25 #[.int .i64 x0, .int .i64 x1, .int .i64 x2, .int .i64 x3]).alloc (.cells #[] 25)
  have e1 : (w.alloc (.cells #[.int .i64 x0, .int .i64 x1, .int .i64 x2, .int .i64 x3] 25)).heap.size = w.heap.size + 1 := by simp
  have o1 : Ow eS ((w.alloc (.cells #[.int .i64 x0, .int .i64 x1, .int .i64 x2, .int .i64 x3] 25)).alloc (.cells #[] 25)) (w.alloc (.cells #[.int .i64 x0, .int .i64 x1, .int .i64 x2, .int .i64 x3] 25)).heap.size (some ⟨(w.alloc (.cells #[.int .i64 x0, .int .i64 x1, .int .i64 x2, .int .i64 x3] 25)).heap.size, 0, none⟩) 0 0 [] := Ow.lit _ [] #[] 0 (Nat.le_refl _) (by unfold maxLen; omega) rfl rfl
  have B2 := B1.alloc B1.size (.cells #[] 25)
  rw [e1] at o1
  go_enter Tryz.func101, Tryz.ntmps101
  go_wp2
  go_loopw [5, 6, 7] (fun o d i wr => InsRel w l x0 x1 x2 x3 n o d i wr) (fun _ _ i _ => n - (intOf i).toNat)
  case atStart => exact ⟨0, false, _, 0, 0, [], Nat.zero_le _, rfl, rfl, rfl, .inl ⟨rfl, fun _ h => absurd h (by omega), by simp⟩, by omega, o1, b1, B2⟩
  case round =>
    obtain ⟨k, b, A1, L1, c1, out, hk, rfl, rfl, rfl, hp, hL, ow1, bx, hbel⟩ := hrel
    have HP := Lib.hid hp
    clear hp
    have lbx := bx.lt
    obtain ⟨q0, q1, q2, q3, _, _, _, _⟩ := bx.four
    by_cases hlt : k < n
    · obtain ⟨g, o, a0, a1, a2, a3, rfl, hg, hx, ca⟩ := (ha.below hbel (Nat.le_refl _)).smp (k := k) (by rw [Hn.out]; exact hlt)
      have Hx := Lib.hid hx
      have Hf := Lib.hid (frontOf_at (x := (x0, x1, x2, x3)) hx)
      clear hx
      cases b
      · have hbd := hbel.drew
        have bs : S4 wr w.heap.size 0 x0 x1 x2 x3 := ⟨bx.cell 0, bx.cell 1, bx.cell 2, bx.cell 3⟩
        go_wp2
        refine wp_region_mix [(0, false), (1, false), (2, false), (3, false), (4, false), (5, false), (6, false), (7, false), (8, true), (9, false)] (fun u => S4 u w.heap.size 0 x0 x1 x2 x3 ∧ S4 u g (o + k * 4) a0 a1 a2 a3) (by kernel_rfl) (by kernel_rfl) (fun _ _ _ _ _ h => h) ⟨bs.drew, ca.drew⟩ ?_
        simp only [mixOps, List.map_cons, List.map_nil, List.getElem?_cons_succ, List.getElem?_cons_zero, Option.getD_some]
        repeat (first
          | (refine mix_skip (by rfl) ?_
             (try simp only [Act.put, List.setIfInBounds_toArray, List.set_cons_zero, List.set_cons_succ]))
          | (refine mix_pure (v := ?_) (by rfl) (fun u hu => ?_) ?_
             rotate_left
             · obtain ⟨⟨_, _, _, _⟩, _, _, _, _⟩ := hu
               go_simp
               (with_reducible rfl)
             (try simp only [Act.put, List.setIfInBounds_toArray, List.set_cons_zero, List.set_cons_succ])))
        refine mix_call (by rfl) (fun K hK => ?_)
        go_simp
        refine (specIsAhead x0 x1 x2 x3 a0 a1 a2 a3 _).mono ?_
        rintro e w2 ⟨rfl, hb2⟩
        have hB2 := hbd.trans (hb2.mono hbd.size)
        have bx2 := bx.drew.below hb2 lbx
        have ow2 := (ow1.drewN 1).below hb2 (Nat.le_refl _)
        have ca2 := ca.drew.below hb2 (Nat.lt_of_lt_of_le hg hbd.size)
        refine hK _ _ _ (fun _ h => h) ⟨bs.drew.below hb2 lbx, ca2⟩ ?_
        (try simp only [Act.put, List.setIfInBounds_toArray, List.set_cons_zero, List.set_cons_succ])
        rw [← Hf.out]
        clear q0 q1 q2 q3
        obtain ⟨q0, q1, q2, q3, _, _, _, _⟩ := bx2.four
        have hlo := ow1.len okS
        rcases hs : frontOf l (x0, x1, x2, x3) k
        · have Hs := Lib.hid hs
          clear hs
          refine mix_pure (v := ?_) (by rfl) (fun u hu => ?_) ?_
          rotate_left
          · go_simp
            (with_reducible rfl)
          (try simp only [Act.put, List.setIfInBounds_toArray, List.set_cons_zero, List.set_cons_succ])
          refine mix_nil ?_
          obtain ⟨_, _, _, _⟩ := ca2
          go_wp2_with (at_builtin; refine wpList_append_ow okS _ rfl (.tmp 29) (.tmp 34) _ rfl (w.heap.size + 1) info_smp Tryz.underlying36 rfl A1 L1 c1 out rfl (ow2.alloc _) _ 1 1 _ [(a0, a1, a2, a3)] rfl ((ow_smp _ a0 a1 a2 a3).rd okS) rfl (by unfold maxLen; omega) (by omega) (by have := hB2.size; simp; omega) ?_; intro A5 c5 w5 ow5 hg5 _; have hB5 := (hB2.alloc hB2.size _).grown hg5 (hB2.alloc hB2.size _).size (fun g hg => by have := (ow2.lt g hg).1; omega); have bx5 := (bx2.alloc _).grown hg5 (fun e => by have := (ow2.lt _ e).1; omega))
          exact ⟨⟨k + 1, false, A5, L1 + 1, c5, out ++ [(a0, a1, a2, a3)], by omega, by go_num, rfl, rfl, partI_not HP.out Hx.out Hs.out, by omega, ow5, bx5, hB5⟩, by simp [intOf]; omega⟩
        · have Hs := Lib.hid hs
          clear hs
          refine mix_pure (v := ?_) (by rfl) (fun u hu => ?_) ?_
          rotate_left
          · go_simp
            (with_reducible rfl)
          (try simp only [Act.put, List.setIfInBounds_toArray, List.set_cons_zero, List.set_cons_succ])
          refine mix_nil ?_
          go_wp2_with (first
            | (at_builtin; refine wpList_append_ow okS _ rfl (.tmp 25) (.tmp 27) _ rfl (w.heap.size + 1) info_smp Tryz.underlying36 rfl A1 L1 c1 out rfl (ow2.alloc _) _ 1 1 _ [(x0, x1, x2, x3)] rfl ((ow_smp _ x0 x1 x2 x3).rd okS) rfl (by unfold maxLen; omega) (by omega) (by have := hB2.size; simp; omega) ?_; intro A5 c5 w5 ow5 hg5 _; have hB5 := (hB2.alloc hB2.size _).grown hg5 (hB2.alloc hB2.size _).size (fun g hg => by have := (ow2.lt g hg).1; omega); have bx5 := (bx2.alloc _).grown hg5 (fun e => by have := (ow2.lt _ e).1; omega); obtain ⟨_, _, _, _⟩ := (ha.below hB5 (Nat.le_refl _)).smp_is Hx.out)
            | (at_builtin; refine wpList_append_ow okS _ rfl (.tmp 29) (.tmp 34) _ rfl (w.heap.size + 1) info_smp Tryz.underlying36 rfl A5 (L1 + 1) c5 (out ++ [(x0, x1, x2, x3)]) rfl (ow5.alloc _) _ 1 1 _ [(a0, a1, a2, a3)] rfl ((ow_smp _ a0 a1 a2 a3).rd okS) rfl (by unfold maxLen; omega) (by omega) (by have := hB5.size; simp; omega) ?_; intro A6 c6 w6 ow6 hg6 _; have hB6 := (hB5.alloc hB5.size _).grown hg6 (hB5.alloc hB5.size _).size (fun g hg => by have := (ow5.lt g hg).1; omega); have bx6 := (bx5.alloc _).grown hg6 (fun e => by have := (ow5.lt _ e).1; omega)))
          exact ⟨⟨k + 1, true, A6, L1 + 1 + 1, c6, out ++ [(x0, x1, x2, x3)] ++ [(a0, a1, a2, a3)], by omega, by go_num, rfl, rfl, partI_now HP.out Hx.out Hs.out, by omega, ow6, bx6, hB6⟩, by simp [intOf]; omega⟩
      · obtain ⟨_, _, _, _⟩ := ca
        have hlo := ow1.len okS
        go_wp2
        go_quiet (fail)
        go_wp2_with (at_builtin; refine wpList_append_ow okS _ rfl (.tmp 29) (.tmp 34) _ rfl (w.heap.size + 1) info_smp Tryz.underlying36 rfl A1 L1 c1 out rfl ((ow1.drewN _).alloc _) _ 1 1 _ [(a0, a1, a2, a3)] rfl ((ow_smp _ a0 a1 a2 a3).rd okS) rfl (by unfold maxLen; omega) (by omega) (by have := hbel.size; simp; omega) ?_; intro A5 c5 w5 ow5 hg5 _; have hB5 := ((bdrewN hbel _).alloc (bdrewN hbel _).size _).grown hg5 ((bdrewN hbel _).alloc (bdrewN hbel _).size _).size (fun g hg => by have := (ow1.lt g hg).1; omega); have bx5 := ((bx.drewN _).alloc _).grown hg5 (fun e => by have := (ow1.lt _ e).1; omega))
        exact ⟨⟨k + 1, true, A5, L1 + 1, c5, out ++ [(a0, a1, a2, a3)], by omega, by go_num, rfl, rfl, partI_done HP.out Hx.out, by omega, ow5, bx5, hB5⟩, by simp [intOf]; omega⟩
    · obtain rfl : n = k := by omega
      have hlo := ow1.len okS
      cases b
      · go_wp2_with (at_builtin; refine wpList_append_ow okS _ rfl (.tmp 38) (.tmp 40) _ rfl (w.heap.size + 1) info_smp Tryz.underlying36 rfl A1 L1 c1 out rfl (ow1.alloc _) _ 1 1 _ [(x0, x1, x2, x3)] rfl ((ow_smp _ x0 x1 x2 x3).rd okS) rfl (by unfold maxLen; omega) (by omega) (by have := hbel.size; simp; omega) ?_; intro A5 c5 w5 ow5 hg5 _; have hB5 := (hbel.alloc hbel.size _).grown hg5 (hbel.alloc hbel.size _).size (fun g hg => by have := (ow1.lt g hg).1; omega); have bx5 := (bx.alloc _).grown hg5 (fun e => by have := (ow1.lt _ e).1; omega))
        have hq := partI_last Hn.out HP.out
        rw [hq] at ow5
        have hL1 : L1 + 1 = n + 1 := by rw [← ow5.len okS, insM_len, Hn.out]
        go_ret
        rw [hL1] at ow5
        exact ⟨_, _, by simp; omega, ow5.from_ (by omega), hB5⟩
      · have hq := partI_end Hn.out HP.out
        have hL1 : L1 = n + 1 := by rw [← hlo, hq, insM_len, Hn.out]
        subst hL1
        subst hq
        go_wp2
        go_ret
        exact ⟨_, _, rfl, ow1.from_ (by omega), hbel⟩
end Go.Proofs.YtmaillakhhdkfaaGreatDoor
/-
  Rows of samples marked and held, as the law does it.
-/
namespace Go.Proofs.YtmaillakhhdkfaaGreatDoor
set_option maxRecDepth 20000
open Go.RowKit
set_option linter.unusedSimpArgs false

end Go.Proofs.YtmaillakhhdkfaaGreatDoor
/-
  Answers that hold samples: compared, marked and held as the law does it.
-/
namespace Go.Proofs.YtmaillakhhdkfaaGreatDoor
set_option maxRecDepth 20000
open Go.RowKit
set_option linter.unusedSimpArgs false

/-- A code and samples of the call's own. -/
def RetSs (r : Int × List Smp) (w : World) (e : Ending) (w' : World) : Prop :=
  ∃ A n c, e = .returned (.agg #[.int .i64 r.1, .slice A n c]) ∧ Ow eS w' w.heap.size A n c r.2 ∧ Below w.heap.size w w'
/-- A code, whether it is new, and samples of the call's own. -/
def RetSt (r : Int × Bool × List Smp) (w : World) (e : Ending) (w' : World) : Prop :=
  ∃ A n c, e = .returned (.agg #[.int .i64 r.1, .bool r.2.1, .slice A n c]) ∧ Ow eS w' w.heap.size A n c r.2.2 ∧ Below w.heap.size w w'

end Go.Proofs.YtmaillakhhdkfaaGreatDoor
/-
  A sample put into a store, and one looked for: the model's.
-/
namespace Go.Proofs.YtmaillakhhdkfaaGreatDoor
set_option maxRecDepth 20000
open Go.RowKit
set_option linter.unusedSimpArgs false

theorem findI_or (l : List Smp) (x : Smp) : findI l x = -1 ∨ ∃ k : Nat, findI l x = (k : Int) ∧ k < l.length := by
  unfold findI
  rcases h : findM l x with _ | i
  · exact .inl rfl
  · refine .inr ⟨i, rfl, ?_⟩
    unfold findM at h
    rw [List.find?_range_eq_some] at h
    simpa using h.2.1
theorem storeFault_zero {l : List Smp} (h : storeFaultM l = 0) : l.length ≤ 160 := by
  unfold storeFaultM at h
  by_cases hb : 160 < l.length
  · rw [if_pos hb] at h
    cases h
  · omega
/-- What InsertSample answers. -/
def insertM (l : List Smp) (x : Smp) : Int × Bool × List Smp :=
  if storeFaultM l ≠ 0 then (storeFaultM l, false, []) else if faultM x ≠ 0 then (faultM x, false, []) else if 0 ≤ findI l x then (0, false, l) else if 160 ≤ l.length then (7, false, []) else (0, true, insM l x)
/-- What FindSample answers. -/
def lookM (l : List Smp) (x : Smp) : Int × Smp :=
  if storeFaultM l ≠ 0 then (storeFaultM l, (0, 0, 0, 0)) else match findM l x with | some i => (0, (l[i]?).getD (0, 0, 0, 0)) | none => (4, (0, 0, 0, 0))

set_option maxRecDepth 100000 in
set_option maxHeartbeats 2000000 in
theorem specInsertSample (A : Option Addr) (n c : Nat) (l : List Smp) (x0 x1 x2 x3 : Int) (w : World) (ha : Rd eS w w.heap.size A l) (hn : l.length = n) (hm : n ≤ 1048576) :
    Calls Tryz.prog 106 #[.slice A n c, .agg #[.int .i64 x0, .int .i64 x1, .int .i64 x2, .int .i64 x3]] w fun e w' => RetSt (insertM l (x0, x1, x2, x3)) w e w' := by
  have hB0 : Below w.heap.size w ((w.alloc (.cells #[.int .i64 x0, .int .i64 x1, .int .i64 x2, .int .i64 x3] 25)).alloc (.cells #[.int .i64 0, .bool false, .slice none 0 0] 135)) := ((Below.refl _ _).alloc (Nat.le_refl _) _).alloc (by simp) _
  have bx0 := (At.new w 25 #[.int .i64 x0, .int .i64 x1, .int .i64 x2, .int .i64 x3]).alloc (.cells #[.int .i64 0, .bool false, .slice none 0 0] 135)
  have e1 : (w.alloc (.cells #[.int .i64 x0, .int .i64 x1, .int .i64 x2, .int .i64 x3] 25)).heap.size = w.heap.size + 1 := by simp
  have r0 := At.new (w.alloc (.cells #[.int .i64 x0, .int .i64 x1, .int .i64 x2, .int .i64 x3] 25)) 135 #[.int .i64 0, .bool false, .slice none 0 0]
  rw [e1] at r0
  have ha0 := ha.lift hB0
  have HF := specStoreFault A n c l _ ha0 hn
  by_cases h0 : storeFaultM l = 0
  rotate_left
  · rw [show insertM l (x0, x1, x2, x3) = (storeFaultM l, false, []) from if_pos h0]
    have hne : (storeFaultM l != 0) = true := by rw [bne_iff_ne]; exact h0
    generalize storeFaultM l = sf at *
    clear h0
    go_enter Tryz.func106, Tryz.ntmps106
    go_wp2_with fail
    refine (HF).mono ?_
    rintro e w1 ⟨rfl, hb1⟩
    have hB1 := hB0.trans (hb1.mono hB0.size)
    have bx1 := bx0.below hb1 bx0.lt
    have r1 := r0.below hb1 r0.lt
    have ha1 := ha0.lift hb1
    obtain ⟨b1_0, b1_1, b1_2, b1_3, _, _, _, _⟩ := bx1.four
    obtain ⟨c0, c1, c2, _, _, _⟩ := r1.three
    go_wp2_with fail
    refine bodyPost_ret (v := .agg #[.int .i64 sf, .bool false, .slice none 0 0]) (by simp [results, Tryz.results106, go_sem, c0, c1, c2]) rfl ?_
    exact ⟨_, _, _, rfl, Ow.nil, (((hB1.setCell (by simp) _).setCell (by simp) _).setCell (by simp) _)⟩
  have h160 := storeFault_zero h0
  rw [h0] at HF
  rcases faultM_or (x0, x1, x2, x3) with hf | hf
  rotate_left
  · rw [show insertM l (x0, x1, x2, x3) = (3, false, []) by unfold insertM; rw [if_neg (by simp [h0]), if_pos (by simp [hf]), hf]]
    have XF := specSampleFault x0 x1 x2 x3
    rw [hf] at XF
    clear hf h0
    go_enter Tryz.func106, Tryz.ntmps106
    go_wp2_with fail
    refine (HF).mono ?_
    rintro e w1 ⟨rfl, hb1⟩
    have hB1 := hB0.trans (hb1.mono hB0.size)
    have bx1 := bx0.below hb1 bx0.lt
    have r1 := r0.below hb1 r0.lt
    have ha1 := ha0.lift hb1
    obtain ⟨b1_0, b1_1, b1_2, b1_3, _, _, _, _⟩ := bx1.four
    go_wp2_with fail
    refine (XF _).mono ?_
    rintro e w2 ⟨rfl, hb2⟩
    have hB2 := hB1.trans (hb2.mono hB1.size)
    have bx2 := bx1.below hb2 bx1.lt
    have r2 := r1.below hb2 r1.lt
    have ha2 := ha1.lift hb2
    obtain ⟨b2_0, b2_1, b2_2, b2_3, _, _, _, _⟩ := bx2.four
    obtain ⟨c0, c1, c2, _, _, _⟩ := r2.three
    go_wp2_with fail
    refine bodyPost_ret (v := .agg #[.int .i64 3, .bool false, .slice none 0 0]) (by simp [results, Tryz.results106, go_sem, c0, c1, c2]) rfl ?_
    exact ⟨_, _, _, rfl, Ow.nil, (((hB2.setCell (by simp) _).setCell (by simp) _).setCell (by simp) _)⟩
  have XF := specSampleFault x0 x1 x2 x3
  rw [hf] at XF
  have HL := fun W (h1 : Rd eS W W.heap.size A l) h2 h3 => l3Find A n c l w.heap.size 0 x0 x1 x2 x3 W h1 hn (by unfold maxLen; omega) h2 h3
  rcases findI_or l (x0, x1, x2, x3) with hi | ⟨k, hi, hk⟩
  · rw [hi] at HL
    by_cases hfull : 160 ≤ n
    · rw [show insertM l (x0, x1, x2, x3) = (7, false, []) by unfold insertM; rw [if_neg (by simp [h0]), if_neg (by simp [hf]), if_neg (by rw [hi]; omega), if_pos (by omega)]]
      have hfi : (160 : Int) ≤ (n : Int) := by omega
      clear hf h0 hi
      go_enter Tryz.func106, Tryz.ntmps106
      go_wp2_with fail
      refine (HF).mono ?_
      rintro e w1 ⟨rfl, hb1⟩
      have hB1 := hB0.trans (hb1.mono hB0.size)
      have bx1 := bx0.below hb1 bx0.lt
      have r1 := r0.below hb1 r0.lt
      have ha1 := ha0.lift hb1
      obtain ⟨b1_0, b1_1, b1_2, b1_3, _, _, _, _⟩ := bx1.four
      go_wp2_with fail
      refine (XF _).mono ?_
      rintro e w2 ⟨rfl, hb2⟩
      have hB2 := hB1.trans (hb2.mono hB1.size)
      have bx2 := bx1.below hb2 bx1.lt
      have r2 := r1.below hb2 r1.lt
      have ha2 := ha1.lift hb2
      obtain ⟨b2_0, b2_1, b2_2, b2_3, _, _, _, _⟩ := bx2.four
      go_wp2_with fail
      refine (HL _ ha2 ⟨bx2.cell 0, bx2.cell 1, bx2.cell 2, bx2.cell 3⟩ bx2.lt).mono ?_
      rintro e w3 ⟨rfl, hb3⟩
      have hB3 := hB2.trans (hb3.mono hB2.size)
      have bx3 := bx2.below hb3 bx2.lt
      have r3 := r2.below hb3 r2.lt
      have ha3 := ha2.lift hb3
      obtain ⟨b3_0, b3_1, b3_2, b3_3, _, _, _, _⟩ := bx3.four
      obtain ⟨c0, c1, c2, _, _, _⟩ := r3.three
      go_wp2_with fail
      refine bodyPost_ret (v := .agg #[.int .i64 7, .bool false, .slice none 0 0]) (by simp [results, Tryz.results106, go_sem, c0, c1, c2]) rfl ?_
      exact ⟨_, _, _, rfl, Ow.nil, (((hB3.setCell (by simp) _).setCell (by simp) _).setCell (by simp) _)⟩
    · rw [show insertM l (x0, x1, x2, x3) = (0, true, insM l (x0, x1, x2, x3)) by unfold insertM; rw [if_neg (by simp [h0]), if_neg (by simp [hf]), if_neg (by rw [hi]; omega), if_neg (by omega)]]
      have hfi : ¬ (160 : Int) ≤ (n : Int) := by omega
      clear hf h0 hi
      go_enter Tryz.func106, Tryz.ntmps106
      go_wp2_with fail
      refine (HF).mono ?_
      rintro e w1 ⟨rfl, hb1⟩
      have hB1 := hB0.trans (hb1.mono hB0.size)
      have bx1 := bx0.below hb1 bx0.lt
      have r1 := r0.below hb1 r0.lt
      have ha1 := ha0.lift hb1
      obtain ⟨b1_0, b1_1, b1_2, b1_3, _, _, _, _⟩ := bx1.four
      go_wp2_with fail
      refine (XF _).mono ?_
      rintro e w2 ⟨rfl, hb2⟩
      have hB2 := hB1.trans (hb2.mono hB1.size)
      have bx2 := bx1.below hb2 bx1.lt
      have r2 := r1.below hb2 r1.lt
      have ha2 := ha1.lift hb2
      obtain ⟨b2_0, b2_1, b2_2, b2_3, _, _, _, _⟩ := bx2.four
      go_wp2_with fail
      refine (HL _ ha2 ⟨bx2.cell 0, bx2.cell 1, bx2.cell 2, bx2.cell 3⟩ bx2.lt).mono ?_
      rintro e w3 ⟨rfl, hb3⟩
      have hB3 := hB2.trans (hb3.mono hB2.size)
      have bx3 := bx2.below hb3 bx2.lt
      have r3 := r2.below hb3 r2.lt
      have ha3 := ha2.lift hb3
      obtain ⟨b3_0, b3_1, b3_2, b3_3, _, _, _, _⟩ := bx3.four
      go_wp2_with fail
      refine (l3Insert A n c l x0 x1 x2 x3 _ ha3 hn hm).mono ?_
      rintro e w4 ⟨A4, c4, rfl, ow4, hb4⟩
      have hB4 := hB3.trans (hb4.mono hB3.size)
      have bx4 := bx3.below hb4 bx3.lt
      have r4 := r3.below hb4 r3.lt
      have ha4 := ha3.lift hb4
      obtain ⟨b4_0, b4_1, b4_2, b4_3, _, _, _, _⟩ := bx4.four
      obtain ⟨c0, c1, c2, _, _, _⟩ := r4.three
      go_wp2_with fail
      refine bodyPost_ret (v := .agg #[.int .i64 0, .bool true, .slice A4 (n + 1) c4]) (by simp [results, Tryz.results106, go_sem, c0, c1, c2]) rfl ?_
      exact ⟨_, _, _, rfl, ((((ow4.under (p := ⟨w.heap.size + 1, 0, none⟩) r3.lt _).under (p := ⟨w.heap.size + 1, 1, none⟩) r3.lt _).under (p := ⟨w.heap.size + 1, 2, none⟩) r3.lt _).from_ hB3.size), (((hB4.setCell (by simp) _).setCell (by simp) _).setCell (by simp) _)⟩
  · rw [hi] at HL
    rw [show insertM l (x0, x1, x2, x3) = (0, false, l) by unfold insertM; rw [if_neg (by simp [h0]), if_neg (by simp [hf]), if_pos (by rw [hi]; omega)]]
    have hk0 : (0 : Int) ≤ (k : Int) := by omega
    clear hf h0 hi
    go_enter Tryz.func106, Tryz.ntmps106
    go_wp2_with fail
    refine (HF).mono ?_
    rintro e w1 ⟨rfl, hb1⟩
    have hB1 := hB0.trans (hb1.mono hB0.size)
    have bx1 := bx0.below hb1 bx0.lt
    have r1 := r0.below hb1 r0.lt
    have ha1 := ha0.lift hb1
    obtain ⟨b1_0, b1_1, b1_2, b1_3, _, _, _, _⟩ := bx1.four
    go_wp2_with fail
    refine (XF _).mono ?_
    rintro e w2 ⟨rfl, hb2⟩
    have hB2 := hB1.trans (hb2.mono hB1.size)
    have bx2 := bx1.below hb2 bx1.lt
    have r2 := r1.below hb2 r1.lt
    have ha2 := ha1.lift hb2
    obtain ⟨b2_0, b2_1, b2_2, b2_3, _, _, _, _⟩ := bx2.four
    go_wp2_with fail
    refine (HL _ ha2 ⟨bx2.cell 0, bx2.cell 1, bx2.cell 2, bx2.cell 3⟩ bx2.lt).mono ?_
    rintro e w3 ⟨rfl, hb3⟩
    have hB3 := hB2.trans (hb3.mono hB2.size)
    have bx3 := bx2.below hb3 bx2.lt
    have r3 := r2.below hb3 r2.lt
    have ha3 := ha2.lift hb3
    obtain ⟨b3_0, b3_1, b3_2, b3_3, _, _, _, _⟩ := bx3.four
    go_wp2_with fail
    refine (l3Copy A n c l _ ha3 hn hm).mono ?_
    rintro e w4 ⟨A4, c4, rfl, ow4, hb4⟩
    have hB4 := hB3.trans (hb4.mono hB3.size)
    have bx4 := bx3.below hb4 bx3.lt
    have r4 := r3.below hb4 r3.lt
    have ha4 := ha3.lift hb4
    obtain ⟨b4_0, b4_1, b4_2, b4_3, _, _, _, _⟩ := bx4.four
    obtain ⟨c0, c1, c2, _, _, _⟩ := r4.three
    go_wp2_with fail
    refine bodyPost_ret (v := .agg #[.int .i64 0, .bool false, .slice A4 n c4]) (by simp [results, Tryz.results106, go_sem, c0, c1, c2]) rfl ?_
    exact ⟨_, _, _, rfl, ((((ow4.under (p := ⟨w.heap.size + 1, 0, none⟩) r3.lt _).under (p := ⟨w.heap.size + 1, 1, none⟩) r3.lt _).under (p := ⟨w.heap.size + 1, 2, none⟩) r3.lt _).from_ hB3.size), (((hB4.setCell (by simp) _).setCell (by simp) _).setCell (by simp) _)⟩

end Go.Proofs.YtmaillakhhdkfaaGreatDoor
/-
  A region that draws its order, step by step: what may come is asked at each step; two that may come are walked both.
-/
namespace Go.Proofs.YtmaillakhhdkfaaGreatDoor
set_option maxRecDepth 20000
open Go.RowKit

section
variable {P : Program} {md : Region.Mode} {Q : Exit → Act → World → Prop} {l : List Oper} {S : World → Prop} {fuel : Nat} {listed : Array Bool} {a : Act} {w : World}

theorem any_start {id : Nat} (S : World → Prop) (hm : P.follows .mixedOrders = true) (hS : S w.drew) (h : S w.drew → wpAnyH P .any l.toArray Q S l.length (Array.replicate l.length false) a w.drew) : (Code.region id l.toArray true).wp P Q a w := by
  refine wp_region_held (S := S) hm ?_
  simpa using h hS
theorem any_pure (k : Nat) {o : Oper} {v : Value} (hoa : l[k]? = some o) (hB : (Region.noSelect l.toArray && ((Region.ready md l.toArray listed).contains k && Region.free md l.toArray listed k)) = true)
    (hQ : ∀ c a (d : Nat) v w, Q (.panic c) (Act.put a (some d) v) w → Q (.panic c) a w) (hw : Region.wanted o (yielded l.toArray a.tmps) = true) (hv : ∀ x, S x → (execOp a.eval o).run P x = .ok (.value v) x) (hS : S w)
    (h : wpAnyH P md l.toArray Q S fuel (listed.setIfInBounds k true) (a.put o.dst v) w) : wpAnyH P md l.toArray Q S (fuel + 1) listed a w := by
  simp only [Bool.and_eq_true] at hB
  obtain ⟨h1, h2, h3⟩ := hB
  refine wpAnyH_take (by simpa using hoa) h1 h3 h2 (fun c a w => ?_) (.inl ⟨hw, hv⟩) hS h
  cases hd : o.dst with
  | none => exact fun h => h
  | some d => exact hQ c a d v w
theorem any_op {k : Nat} {o : Oper} (hoa : l[k]? = some o) (hw : Region.wanted o (yielded l.toArray a.tmps) = true)
    (h : o.wp P a w (fun a' w' => ∃ S' : World → Prop, (∀ x, S' x → S x) ∧ S' w' ∧ wpAnyH P md l.toArray Q S' fuel (listed.setIfInBounds k true) a' w') Q) :
    wpOp P l.toArray Q k (fun a' w' => S w' ∧ wpAnyH P md l.toArray Q S fuel (listed.setIfInBounds k true) a' w') a w := by
  have h1 : wpOp P l.toArray Q k (fun a' w' => ∃ S' : World → Prop, (∀ x, S' x → S x) ∧ S' w' ∧ wpAnyH P md l.toArray Q S' fuel (listed.setIfInBounds k true) a' w') a w := by
    unfold wpOp
    rw [show l.toArray[k]? = some o by simpa using hoa]
    simp only
    rw [if_pos hw]
    exact .inl h
  exact wpOp_mono (fun a' w' ⟨S', h1, h2, h3⟩ => ⟨h1 _ h2, held_mono h1 _ _ _ _ h3⟩) h1
theorem any_one (k : Nat) {o : Oper} (hoa : l[k]? = some o) (hB : (Region.ready md l.toArray listed == [k]) = true) (hw : Region.wanted o (yielded l.toArray a.tmps) = true)
    (h : o.wp P a w (fun a' w' => ∃ S' : World → Prop, (∀ x, S' x → S x) ∧ S' w' ∧ wpAnyH P md l.toArray Q S' fuel (listed.setIfInBounds k true) a' w') Q) : wpAnyH P md l.toArray Q S (fuel + 1) listed a w := by
  refine wpAnyH_all (rs := [k]) (by simpa using hB) (by simp) fun i hi => ?_
  obtain rfl : i = k := by simpa using hi
  exact any_op hoa hw h
theorem any_two (i j : Nat) {o o' : Oper} (hoa : l[i]? = some o) (hob : l[j]? = some o') (hB : (Region.ready md l.toArray listed == [i, j]) = true) (hw : Region.wanted o (yielded l.toArray a.tmps) = true) (hw' : Region.wanted o' (yielded l.toArray a.tmps) = true)
    (h : o.wp P a w (fun a' w' => ∃ S' : World → Prop, (∀ x, S' x → S x) ∧ S' w' ∧ wpAnyH P md l.toArray Q S' fuel (listed.setIfInBounds i true) a' w') Q)
    (h' : o'.wp P a w (fun a' w' => ∃ S' : World → Prop, (∀ x, S' x → S x) ∧ S' w' ∧ wpAnyH P md l.toArray Q S' fuel (listed.setIfInBounds j true) a' w') Q) : wpAnyH P md l.toArray Q S (fuel + 1) listed a w := by
  refine wpAnyH_all (rs := [i, j]) (by simpa using hB) (by simp) fun k hk => ?_
  rcases (show k = i ∨ k = j by simpa using hk) with rfl | rfl
  · exact any_op hoa hw h
  · exact any_op hob hw' h'
theorem any_done (hB : (Region.ready md l.toArray listed).isEmpty = true) (h : Q .normal a w) : wpAnyH P md l.toArray Q S 0 listed a w := wpAnyH_done (by simpa using hB) h 0
theorem At.newAt' {w : World} {g : Nat} {t : TypeId} {cs : Array Value} (h : w.heap.size = g) : At (w.alloc (.cells cs t)) g t cs := by
  subst h
  exact At.new w t cs
end
end Go.Proofs.YtmaillakhhdkfaaGreatDoor
/-
  Rows of samples that are drawn.
-/
namespace Go.Proofs.YtmaillakhhdkfaaGreatDoor
set_option maxRecDepth 20000
open Go.RowKit
set_option linter.unusedSimpArgs false

def DrawLRel (base g : Nat) (A : Option Addr) (m c k : Nat) (l : List UInt8) (n : Nat) (w : World) (vn out : Value) (wr : World) : Prop :=
  ∃ (j : Nat) (A' : Option Addr) (L c' : Nat) (xs : List Smp), j ≤ n ∧ vn = .int .i64 ((n : Int) - (j : Int)) ∧ out = .slice A' L c' ∧ L ≤ j ∧ Ow eS wr w.heap.size A' L c' xs ∧ Src wr base g A m c (k + 1 + 4 * j) l ∧ Within g (g + 1) w wr

set_option maxHeartbeats 1600000 in
theorem l3Draw (w : World) (base g : Nat) (A : Option Addr) (m c k : Nat) (l : List UInt8) (h : Src w base g A m c k l) (hk : k < 700000000) :
    Calls Tryz.prog 52 #[.pointer (some ⟨g, 0, none⟩)] w fun e w' => ∃ (k' : Nat) (A' : Option Addr) (L c' : Nat) (xs : List Smp), e = .returned (.slice A' L c') ∧ L ≤ 12 ∧ Ow eS w' w.heap.size A' L c' xs ∧ k' ≤ k + 60 ∧ Src w' base g A m c k' l ∧ Within g (g + 1) w w' := by
  have hgl := h.at_.lt
  go_enter Tryz.func52, Tryz.ntmps52
  go_wp2_with fail
  refine (l1Next _ base g A m c k l 12 (h.alloc _) (by omega) (by omega)).mono ?_
  rintro e w1 ⟨r, rfl, hr, -, s1, hw1, -⟩
  obtain ⟨hr0, hr1⟩ := hr (by omega)
  obtain ⟨n, rfl⟩ := Int.eq_ofNat_of_zero_le hr0
  have hn : n < 12 := by omega
  have hwi0 := ((Within.refl g (g + 1) w).alloc (.cells #[] 25)).trans hw1
  have how00 : Ow eS (w.alloc (.cells #[] 25)) w.heap.size (some ⟨w.heap.size, 0, none⟩) 0 0 [] := Ow.lit (E := eS) w [] #[] 0 (Nat.le_refl _) (by unfold maxLen; omega) rfl rfl
  have how0 := how00.within hw1 how00.lt (.inr hgl)
  clear how00
  clear hr hr0 hr1
  go_wp2_with fail
  have g1 := s1.at_.lt
  go_loopw [3, 4] (fun out vn wr => DrawLRel base g A m c k l n w vn out wr) (fun _ vn _ => (intOf vn).toNat)
  case atStart => exact ⟨0, _, 0, 0, [], Nat.zero_le _, by simp, rfl, Nat.le_refl _, how0, s1, hwi0⟩
  case round =>
    obtain ⟨j, A1, L, c1, xs, hj, rfl, rfl, hL, how, hsrc, hwi⟩ := hrel
    have Hs := Lib.hid hsrc
    by_cases hlt : j < n
    · go_wp2_with fail
      refine (l2Draw _ base g A m c _ l hsrc (by omega)).mono ?_
      rintro e w2 ⟨n0, n1, n2, n3, rfl, -, -, -, -, s2, hw2⟩
      have ow2 := how.within hw2 how.lt (.inr hgl)
      have g2 := s2.at_.lt
      have wi2 := hwi.trans hw2
      have hz2 := wi2.size
      generalize ((n3 : Int) - 1000) = y3 at *
      generalize (n0 : Int) = y0 at *
      generalize (n1 : Int) = y1 at *
      generalize (n2 : Int) = y2 at *
      have hat := At.new w2 25 #[.int .i64 y0, .int .i64 y1, .int .i64 y2, .int .i64 y3]
      have cA : S4 (w2.alloc (.cells #[.int .i64 y0, .int .i64 y1, .int .i64 y2, .int .i64 y3] 25)) w2.heap.size 0 y0 y1 y2 y3 := by
        obtain ⟨h0, h1, h2, h3, _⟩ := hat.four
        exact ⟨h0, h1, h2, h3⟩
      have wi3 := wi2.alloc (.cells #[.int .i64 y0, .int .i64 y1, .int .i64 y2, .int .i64 y3] 25)
      have s3 := s2.alloc (.cells #[.int .i64 y0, .int .i64 y1, .int .i64 y2, .int .i64 y3] 25)
      have ow3 := ow2.alloc (.cells #[.int .i64 y0, .int .i64 y1, .int .i64 y2, .int .i64 y3] 25)
      have hl3 := ow3.len okS
      have hfi := l3Find A1 L c1 xs w2.heap.size 0 y0 y1 y2 y3 _ (ow3.rd okS) hl3 (by unfold maxLen; omega) cA hat.lt
      rcases findI_or xs (y0, y1, y2, y3) with hi | ⟨j', hi, _⟩
      · rw [hi] at hfi
        clear hi
        go_wp2_with fail
        refine hfi.mono ?_
        rintro e w4 ⟨rfl, hb4⟩
        have ow4 := ow3.below hb4 (Nat.le_refl _)
        have wi4 := wi3.trans (Within.of_below hb4)
        have s4 := s3.below hb4 s3.at_.lt
        obtain ⟨_, _, _, _, _, _, _, _⟩ := (hat.below hb4 hat.lt).four
        go_wp2_with fail
        refine (l3Insert A1 L c1 xs y0 y1 y2 y3 _ (ow4.rd okS) hl3 (by omega)).mono ?_
        rintro e w5 ⟨A5, c5, rfl, ow5, hb5⟩
        have wi5 := wi4.trans (Within.of_below hb5)
        have s5 := s4.below hb5 s4.at_.lt
        go_wp2
        refine ⟨⟨j + 1, A5, L + 1, c5, _, by omega, by go_num, rfl, by omega, ow5.from_ wi4.size, ?_, wi5⟩, by simp [intOf]; omega⟩
        rw [show k + 1 + 4 * (j + 1) = k + 1 + 4 * j + 4 by omega]
        exact s5
      · have hj' : ¬ (j' : Int) < 0 := by omega
        rw [hi] at hfi
        clear hi
        go_wp2_with fail
        refine hfi.mono ?_
        rintro e w4 ⟨rfl, hb4⟩
        have ow4 := ow3.below hb4 (Nat.le_refl _)
        have wi4 := wi3.trans (Within.of_below hb4)
        have s4 := s3.below hb4 s3.at_.lt
        go_wp2
        refine ⟨⟨j + 1, A1, L, c1, xs, by omega, by go_num, rfl, by omega, ow4, ?_, wi4⟩, by simp [intOf]; omega⟩
        rw [show k + 1 + 4 * (j + 1) = k + 1 + 4 * j + 4 by omega]
        exact s4
    · obtain rfl : n = j := by omega
      go_wp2
      go_ret
      exact ⟨_, A1, L, c1, xs, rfl, by omega, how, by omega, Hs.out, hwi⟩
end Go.Proofs.YtmaillakhhdkfaaGreatDoor
/-
  Rows of samples that are drawn, some of them no store.
-/
namespace Go.Proofs.YtmaillakhhdkfaaGreatDoor
set_option maxRecDepth 20000
open Go.RowKit
set_option linter.unusedSimpArgs false

def DrawBRel (base g : Nat) (A : Option Addr) (m c k : Nat) (l : List UInt8) (n : Nat) (w : World) (vn out : Value) (wr : World) : Prop :=
  ∃ (j : Nat) (A' : Option Addr) (c' : Nat) (xs : List Smp), j ≤ n ∧ vn = .int .i64 ((n : Int) - (j : Int)) ∧ out = .slice A' j c' ∧ Ow eS wr w.heap.size A' j c' xs ∧ Src wr base g A m c k l ∧ Within g (g + 1) w wr

set_option maxHeartbeats 1600000 in
theorem l3Bent (w : World) (base g : Nat) (A : Option Addr) (m c k : Nat) (l : List UInt8) (h : Src w base g A m c k l) (hk : k < 600000000) :
    Calls Tryz.prog 90 #[.pointer (some ⟨g, 0, none⟩)] w fun e w' => ∃ (k' : Nat) (A' : Option Addr) (L c' : Nat) (xs : List Smp), e = .returned (.slice A' L c') ∧ L ≤ 200 ∧ Ow eS w' w.heap.size A' L c' xs ∧ k' ≤ k + 100 ∧ Src w' base g A m c k' l ∧ Within g (g + 1) w w' := by
  have hgl := h.at_.lt
  go_enter Tryz.func90, Tryz.ntmps90
  go_wp2_with fail
  refine (l3Draw w base g A m c k l h (by omega)).mono ?_
  rintro e w1 ⟨k1, A1, L1, c1, xs, rfl, hL, ow1, hk1, s1, wi1⟩
  have g1 := s1.at_.lt
  go_wp2_with fail
  refine (l1Next _ base g A m c _ l 14 s1 (by omega) (by omega)).mono ?_
  rintro e w2 ⟨r, rfl, hr, -, s2, hw2, -⟩
  obtain ⟨hr0, hr1⟩ := hr (by omega)
  have ow2 := ow1.within hw2 ow1.lt (.inr hgl)
  have wi2 := wi1.trans hw2
  have hl2 := ow2.len okS
  have g2 := s2.at_.lt
  clear hr ow1
  rcases (show r = 0 ∨ r = 1 ∨ r = 2 ∨ 3 ≤ r by omega) with rfl | rfl | rfl | hr3
  · go_wp2_with fail
    refine (l2Bent _ base g A m c _ l s2 (by omega)).mono ?_
    rintro e w3 ⟨a0, a1, a2, a3, rfl, ⟨k3, hk3, s3⟩, hw3⟩
    have ow3 := ow2.within hw3 ow2.lt (.inr hgl)
    have wi3 := wi2.trans hw3
    have g3 := s3.at_.lt
    go_wp2_with (at_builtin; refine wpList_append_ow okS _ rfl (.tmp 11) (.tmp 14) _ rfl w.heap.size info_smp Tryz.underlying36 rfl A1 L1 c1 xs rfl (ow3.alloc _) _ 1 1 _ [(a0, a1, a2, a3)] rfl ((ow_smp _ a0 a1 a2 a3).rd okS) rfl (by unfold maxLen; omega) (by omega) ((wi3.alloc _).size) ?_; intro A5 c5 w5 ow5 hg5 _)
    have hr5 : ∀ x, A1.map (·.block) = some x → w.heap.size ≤ x := fun x hx => (ow3.lt x hx).1
    go_wp2
    go_ret
    exact ⟨k3, A5, L1 + 1, c5, rfl, by omega, ⟨_, ow5⟩, by omega, (s3.alloc _).grown hg5 fun x hx => Nat.lt_of_lt_of_le hgl (hr5 x hx), (wi3.alloc _).push hg5 hr5⟩
  · go_wp2_with (at_builtin; refine wpList_append_ow okS _ rfl (.tmp 18) (.tmp 19) _ rfl w.heap.size info_smp Tryz.underlying36 rfl A1 L1 c1 xs rfl ow2 A1 L1 c1 _ xs rfl (ow2.rd okS) hl2 (by unfold maxLen; omega) (by omega) wi2.size ?_; intro A5 c5 w5 ow5 hg5 _)
    have hr5 : ∀ x, A1.map (·.block) = some x → w.heap.size ≤ x := fun x hx => (ow2.lt x hx).1
    go_wp2
    go_ret
    exact ⟨_, A5, L1 + L1, c5, rfl, by omega, ⟨_, ow5⟩, by omega, s2.grown hg5 fun x hx => Nat.lt_of_lt_of_le hgl (hr5 x hx), wi2.push hg5 hr5⟩
  · go_wp2_with fail
    have s3 := s2.alloc (.cells #[] 25)
    have wi3 := wi2.alloc (.cells #[] 25)
    have ow3 : Ow eS (w2.alloc (.cells #[] 25)) w.heap.size (some ⟨w2.heap.size, 0, none⟩) 0 0 [] := Ow.lit (E := eS) w2 [] #[] 0 wi2.size (by unfold maxLen; omega) rfl rfl
    refine (l1Pick _ _ _ A m c _ l (w2.heap.size + 1) #[.int .i64 100, .int .i64 159, .int .i64 160, .int .i64 161] [100, 159, 160, 161] 4 4 (s3.alloc _) (by omega) (At.newAt (by simp)) (by simp [intCells]) (by omega) rfl (by omega) (by omega)).mono ?_
    rintro e w4 ⟨v, hv, rfl, s4, hw4, -⟩
    have wi4 := (wi3.alloc _).trans hw4
    have ow3' := ow3.alloc (.cells #[.int .i64 100, .int .i64 159, .int .i64 160, .int .i64 161] 2)
    have ow4 := ow3'.within hw4 ow3'.lt (.inr hgl)
    clear ow3 ow3'
    obtain ⟨n, rfl, hn⟩ := pick_nat 161 hv rfl
    have g4 := s4.at_.lt
    clear hv
    go_wp2_with fail
    go_loopw [3, 4] (fun out vn wr => DrawBRel base g A m c (k1 + 1 + 1) l n w vn out wr) (fun _ vn _ => (intOf vn).toNat)
    case atStart => exact ⟨0, _, 0, [], Nat.zero_le _, by simp, rfl, ow4, s4, wi4⟩
    case round =>
      obtain ⟨j, A3, c3, ys, hj, rfl, rfl, how, hsrc, hwi⟩ := hrel
      have Hs := Lib.hid hsrc
      have Hw := Lib.hid hwi
      have hr5 : ∀ x, A3.map (·.block) = some x → w.heap.size ≤ x := fun x hx => (how.lt x hx).1
      by_cases hlt : j < n
      · go_wp2_with (at_builtin; refine wpList_append_ow okS _ rfl (.tmp 31) (.tmp 35) _ rfl w.heap.size info_smp Tryz.underlying36 rfl A3 j c3 ys rfl (how.alloc _) _ 1 1 _ [(3, 0, (j : Int), 0)] rfl ((ow_smp _ 3 0 j 0).rd okS) rfl (by unfold maxLen; omega) (by omega) ((Hw.out.alloc _).size) ?_; intro A5 c5 w5 ow5 hg5 _)
        exact ⟨⟨j + 1, A5, c5, _, by omega, by go_num, rfl, ow5, (Hs.out.alloc _).grown hg5 fun x hx => Nat.lt_of_lt_of_le hgl (hr5 x hx), (Hw.out.alloc _).push hg5 hr5⟩, by simp [intOf]; omega⟩
      · obtain rfl : n = j := by omega
        go_wp2
        go_ret
        exact ⟨_, A3, n, c3, ys, rfl, by omega, how, by omega, Hs.out, Hw.out⟩
  · have b0 : (r == 0) = false := by simp; omega
    have b1 : (r == 1) = false := by simp; omega
    have b2 : (r == 2) = false := by simp; omega
    go_wp2_with fail
    go_ret
    exact ⟨_, A1, L1, c1, xs, rfl, by omega, ow2, by omega, s2, wi2⟩
end Go.Proofs.YtmaillakhhdkfaaGreatDoor
/-
  What the laws of stores draw.
-/
namespace Go.Proofs.YtmaillakhhdkfaaGreatDoor
set_option maxRecDepth 20000
open Go.RowKit
set_option linter.unusedSimpArgs false

end Go.Proofs.YtmaillakhhdkfaaGreatDoor
/-
  Rows of records: how they lie in memory.
-/
namespace Go.Proofs.YtmaillakhhdkfaaGreatDoor
set_option maxRecDepth 20000
open Go.RowKit
set_option linter.unusedSimpArgs false

/-- A record: its kind, its node, its sample, its number. -/
abbrev Rcd := Int × Int × Smp × Int
abbrev zeroR : Rcd := (0, 0, (0, 0, 0, 0), 0)
section
variable {w w' : World} {base hi n c : Nat} {A : Option Addr} {l : List Rcd}
end
end Go.Proofs.YtmaillakhhdkfaaGreatDoor
/-
  One record: the law's own copying and comparing of it.
-/
namespace Go.Proofs.YtmaillakhhdkfaaGreatDoor
set_option maxRecDepth 20000
open Go.RowKit
set_option linter.unusedSimpArgs false
set_option linter.unusedVariables false

end Go.Proofs.YtmaillakhhdkfaaGreatDoor
/-
  A sample's bytes where the sample lies in a record: the model's.
-/
namespace Go.Proofs.YtmaillakhhdkfaaGreatDoor
set_option maxRecDepth 20000
open Go.RowKit

set_option maxHeartbeats 2000000 in
theorem l2EncodeR (g n0 n1 n2 n3 : Nat) (b0 b1 b6 : Int) (w : World) (hx : At w g 27 #[.int .i64 b0, .int .i64 b1, .int .i64 n0, .int .i64 n1, .int .i64 n2, .int .i64 ((n3 : Int) - 1000), .int .i64 b6]) (h0 : n0 ≤ 9) (h1 : n1 ≤ 999) (h2 : n2 ≤ 9999) (h3 : n3 ≤ 2000) :
    Calls Tryz.prog 85 #[.pointer (some ⟨g, 2, none⟩)] w fun e w' => ∃ A c, e = .returned (.slice A 7 c) ∧ Ow eB w' w.heap.size A 7 c (encL n0 n1 n2 n3) ∧ Below w.heap.size w w' := by
  have hg := hx.lt
  go_enter Tryz.func85, Tryz.ntmps85
  go_wp2
  refine wp_region_fork2 [(0, false), (1, false), (2, false), (3, false), (4, false), (6, false), (7, false), (8, false), (9, false)] [(10, true), (11, true), (12, false)] [(5, true), (11, true), (12, false)] 5 10 (fun u => At u g 27 #[.int .i64 b0, .int .i64 b1, .int .i64 n0, .int .i64 n1, .int .i64 n2, .int .i64 ((n3 : Int) - 1000), .int .i64 b6]) (by kernel_rfl) (by kernel_rfl) (fun _ _ _ _ _ h => h) hx.drew ?_
  simp only [mixOps, List.map_cons, List.map_nil, List.getElem?_cons_succ, List.getElem?_cons_zero, Option.getD_some]
  repeat (first
    | (refine mixR_skip (by rfl) ?_
       (try simp only [Act.put, List.setIfInBounds_toArray, List.set_cons_zero, List.set_cons_succ]))
    | (refine mixR_pure (v := ?_) (by rfl) (fun u hu => ?_) ?_
       rotate_left
       · obtain ⟨_, _, _, _, _, _, _⟩ := hu.seven
         go_simp
         (with_reducible rfl)
       (try simp only [Act.put, List.setIfInBounds_toArray, List.set_cons_zero, List.set_cons_succ])))
  have hx0 := hx.drew
  refine mixR_nil ⟨?_, ?_⟩
  · refine mixR_call (by rfl) (fun K hK => ?_)
    go_simp
    have hx1 := (hx.alloc (.cells #[.int .u8 (IntKind.u8.wrap (n0 : Int))] 5)).drew
    refine hK _ _ _ (fun _ h => h) hx1 ?_
    (try simp only [Act.put, List.setIfInBounds_toArray, List.set_cons_zero, List.set_cons_succ])
    have hB1 : Below w.heap.size w ((w.alloc (.cells #[.int .u8 (IntKind.u8.wrap (n0 : Int))] 5)).drew) := ((Below.refl _ _).alloc (Nat.le_refl _) _).drew
    have ob1 := ow_byte w (UInt8.ofNat n0) (IntKind.u8.wrap (n0 : Int)) (by rw [byte_small1 (by omega)]; exact IntWalk.u8_in _ (by omega))
    refine mixR_call (by rfl) (fun K hK => ?_)
    go_simp
    refine (l1Pack n1 2 _ (by omega) (by omega)).mono ?_
    rintro e w2 ⟨A1, c1, rfl, oa2, hb2⟩
    have hB2 := hB1.trans (hb2.mono hB1.size)
    have hx2 := hx1.below hb2 hx1.lt
    have ob2 := ob1.below hb2 (Nat.le_refl _)
    refine hK _ _ _ (fun _ h => h) hx2 ?_
    (try simp only [Act.put, List.setIfInBounds_toArray, List.set_cons_zero, List.set_cons_succ])
    refine mixR_call (by rfl) (fun K hK => ?_)
    refine wp_append_ow okB _ (.tmp 9) (.tmp 14) _ rfl w.heap.size info_u8 Tryz.underlying22 rfl _ 1 1 [UInt8.ofNat n0] rfl ob2 A1 2 c1 _ (packL n1 2) rfl (oa2.rd okB) (packL_len _ _) (by unfold maxLen; omega) (by omega) hB2.size ?_
    intro A2 c2 w3 ow3 hg3 _
    have hB3 : Below w.heap.size w w3 := hB2.grown hg3 hB2.size (fun g hg => (ob2.lt g hg).1)
    have hx3 := hx2.grown hg3 (fun e => by have := (ob2.lt _ e).1; omega)
    refine hK _ _ _ (fun _ h => h) hx3 ?_
    (try simp only [Act.put, List.setIfInBounds_toArray, List.set_cons_zero, List.set_cons_succ])
    refine mixR_pure (v := ?_) (by rfl) (fun u hu => ?_) ?_
    rotate_left
    · go_simp
      (with_reducible rfl)
    (try simp only [Act.put, List.setIfInBounds_toArray, List.set_cons_zero, List.set_cons_succ])
    refine mixR_nil ?_
    clear hx0
    obtain ⟨_, _, _, _, y2, y3, _⟩ := hx3.seven
    go_wp2_with fail
    refine (l1Pack n2 2 _ (by omega) (by omega)).mono ?_
    rintro e w4 ⟨A4, c4, rfl, o4, hb4⟩
    have hB4 := hB3.trans (hb4.mono hB3.size)
    have hx4 := hx3.below hb4 hx3.lt
    have ow4 := ow3.below hb4 (Nat.le_refl _)
    clear y2 y3
    obtain ⟨_, _, _, _, y2, y3, _⟩ := hx4.seven
    go_wp2_with (at_builtin; refine wpList_append_ow okB _ rfl (.tmp 16) (.tmp 21) _ rfl w.heap.size info_u8 Tryz.underlying22 rfl A2 (1 + 2) c2 ([UInt8.ofNat n0] ++ packL n1 2) rfl ow4 A4 2 c4 _ (packL n2 2) rfl (o4.rd okB) (packL_len _ _) (by unfold maxLen; omega) (by omega) hB4.size ?_; intro A5 c5 w5 ow5 hg5 _; have hB5 := hB4.grown hg5 hB4.size (fun g hg => (ow4.lt g hg).1); have hx5 := hx4.grown hg5 (fun e => by have := (ow4.lt _ e).1; omega); clear y2 y3; obtain ⟨_, _, _, _, y2, y3, _⟩ := hx5.seven)
    refine (l1Pack n3 2 _ (by omega) (by omega)).mono ?_
    rintro e w6 ⟨A6, c6, rfl, o6, hb6⟩
    have hB6 := hB5.trans (hb6.mono hB5.size)
    have ow6 : Ow eB w6 w.heap.size A5 5 c5 ([UInt8.ofNat n0] ++ packL n1 2 ++ packL n2 2) := ow5.below hb6 (Nat.le_refl _)
    go_wp2_with (at_builtin; refine wpList_append_ow okB _ rfl (.tmp 23) (.tmp 29) _ rfl w.heap.size info_u8 Tryz.underlying22 rfl A5 5 c5 ([UInt8.ofNat n0] ++ packL n1 2 ++ packL n2 2) rfl ow6 A6 2 c6 _ (packL n3 2) rfl (o6.rd okB) (packL_len _ _) (by unfold maxLen; omega) (by omega) hB6.size ?_; intro A7 c7 w7 ow7 hg7 _; have hB7 := hB6.grown hg7 hB6.size (fun g hg => (ow6.lt g hg).1))
    go_ret
    exact ⟨A7, c7, rfl, ow7, hB7⟩
  · refine mixR_call (by rfl) (fun K hK => ?_)
    go_simp
    have hB0 : Below w.heap.size w w.drew := (Below.refl _ _).drew
    refine (l1Pack n1 2 _ (by omega) (by omega)).mono ?_
    rintro e w1 ⟨A1, c1, rfl, oa1, hb1⟩
    have hB1 := hB0.trans (hb1.mono hB0.size)
    have hx1 := hx0.below hb1 hx0.lt
    refine hK _ _ _ (fun _ h => h) hx1 ?_
    (try simp only [Act.put, List.setIfInBounds_toArray, List.set_cons_zero, List.set_cons_succ])
    refine mixR_call (by rfl) (fun K hK => ?_)
    go_simp
    have hx2 := (hx1.alloc (.cells #[.int .u8 (IntKind.u8.wrap (n0 : Int))] 5))
    have oa2 := oa1.alloc (.cells #[.int .u8 (IntKind.u8.wrap (n0 : Int))] 5)
    have hB2 := hB1.alloc hB1.size (.cells #[.int .u8 (IntKind.u8.wrap (n0 : Int))] 5)
    have ob2 := (ow_byte w1 (UInt8.ofNat n0) (IntKind.u8.wrap (n0 : Int)) (by rw [byte_small1 (by omega)]; exact IntWalk.u8_in _ (by omega))).from_ hB1.size
    refine hK _ _ _ (fun _ h => h) hx2 ?_
    (try simp only [Act.put, List.setIfInBounds_toArray, List.set_cons_zero, List.set_cons_succ])
    refine mixR_call (by rfl) (fun K hK => ?_)
    refine wp_append_ow okB _ (.tmp 9) (.tmp 14) _ rfl w.heap.size info_u8 Tryz.underlying22 rfl _ 1 1 [UInt8.ofNat n0] rfl ob2 A1 2 c1 _ (packL n1 2) rfl (oa2.rd okB) (packL_len _ _) (by unfold maxLen; omega) (by omega) hB2.size ?_
    intro A2 c2 w3 ow3 hg3 _
    have hB3 : Below w.heap.size w w3 := hB2.grown hg3 hB2.size (fun g hg => (ob2.lt g hg).1)
    have hx3 := hx2.grown hg3 (fun e => by have := (ob2.lt _ e).1; omega)
    refine hK _ _ _ (fun _ h => h) hx3 ?_
    (try simp only [Act.put, List.setIfInBounds_toArray, List.set_cons_zero, List.set_cons_succ])
    refine mixR_pure (v := ?_) (by rfl) (fun u hu => ?_) ?_
    rotate_left
    · go_simp
      (with_reducible rfl)
    (try simp only [Act.put, List.setIfInBounds_toArray, List.set_cons_zero, List.set_cons_succ])
    refine mixR_nil ?_
    clear hx0
    obtain ⟨_, _, _, _, y2, y3, _⟩ := hx3.seven
    go_wp2_with fail
    refine (l1Pack n2 2 _ (by omega) (by omega)).mono ?_
    rintro e w4 ⟨A4, c4, rfl, o4, hb4⟩
    have hB4 := hB3.trans (hb4.mono hB3.size)
    have hx4 := hx3.below hb4 hx3.lt
    have ow4 := ow3.below hb4 (Nat.le_refl _)
    clear y2 y3
    obtain ⟨_, _, _, _, y2, y3, _⟩ := hx4.seven
    go_wp2_with (at_builtin; refine wpList_append_ow okB _ rfl (.tmp 16) (.tmp 21) _ rfl w.heap.size info_u8 Tryz.underlying22 rfl A2 (1 + 2) c2 ([UInt8.ofNat n0] ++ packL n1 2) rfl ow4 A4 2 c4 _ (packL n2 2) rfl (o4.rd okB) (packL_len _ _) (by unfold maxLen; omega) (by omega) hB4.size ?_; intro A5 c5 w5 ow5 hg5 _; have hB5 := hB4.grown hg5 hB4.size (fun g hg => (ow4.lt g hg).1); have hx5 := hx4.grown hg5 (fun e => by have := (ow4.lt _ e).1; omega); clear y2 y3; obtain ⟨_, _, _, _, y2, y3, _⟩ := hx5.seven)
    refine (l1Pack n3 2 _ (by omega) (by omega)).mono ?_
    rintro e w6 ⟨A6, c6, rfl, o6, hb6⟩
    have hB6 := hB5.trans (hb6.mono hB5.size)
    have ow6 : Ow eB w6 w.heap.size A5 5 c5 ([UInt8.ofNat n0] ++ packL n1 2 ++ packL n2 2) := ow5.below hb6 (Nat.le_refl _)
    go_wp2_with (at_builtin; refine wpList_append_ow okB _ rfl (.tmp 23) (.tmp 29) _ rfl w.heap.size info_u8 Tryz.underlying22 rfl A5 5 c5 ([UInt8.ofNat n0] ++ packL n1 2 ++ packL n2 2) rfl ow6 A6 2 c6 _ (packL n3 2) rfl (o6.rd okB) (packL_len _ _) (by unfold maxLen; omega) (by omega) hB6.size ?_; intro A7 c7 w7 ow7 hg7 _; have hB7 := hB6.grown hg7 hB6.size (fun g hg => (ow6.lt g hg).1))
    go_ret
    exact ⟨A7, c7, rfl, ow7, hB7⟩
end Go.Proofs.YtmaillakhhdkfaaGreatDoor
/-
  What is asked of records, of the pure answers: their form, their faults, their bytes.
-/
namespace Go.Proofs.YtmaillakhhdkfaaGreatDoor
set_option maxRecDepth 20000
open Go.RowKit
set_option linter.unusedSimpArgs false
set_option linter.unusedVariables false

/-- What a record does not need is zero. -/
def formM (r : Rcd) (a b c : Bool) : Bool := (a || decide (r.2.1 = 0)) && ((b || decide (r.2.2.1 = (0, 0, 0, 0))) && (c || decide (r.2.2.2 = 0)))
def recFormM (r : Rcd) : Bool := if r.1 = 1 then formM r false true false else if r.1 = 2 then formM r true true false else if r.1 = 3 then formM r true false true else if r.1 = 4 then formM r false false true else false
def mostM (r : Rcd) : Int := if r.1 = 4 then 60000 else 9999
def rrangeM (r : Rcd) (m : Int) : Int := if (inB (r.2.1, 0, 3) && inB (r.2.2.2, 0, m)) = true then faultM r.2.2.1 else 3
def recFaultM (r : Rcd) : Int := if recFormM r = true then rrangeM r (mostM r) else 1
theorem recFault_form {r : Rcd} (h : recFormM r = false) : recFaultM r = 1 := by unfold recFaultM; rw [if_neg (by simp [h])]
theorem recFault_range {r : Rcd} (h : recFormM r = true) : recFaultM r = rrangeM r (mostM r) := by unfold recFaultM; rw [if_pos h]
/-- A store, hints, a life. -/
abbrev Sta := List Smp × List Hnt × Int
def stateFaultM (s : Sta) : Int := if storeFaultM s.1 ≠ 0 then storeFaultM s.1 else if hintsFaultM s.2.1 ≠ 0 then hintsFaultM s.2.1 else if inB (s.2.2, 0, 60000) = true then 0 else 3
end Go.Proofs.YtmaillakhhdkfaaGreatDoor
/-
  The model's faults of a record.
-/
namespace Go.Proofs.YtmaillakhhdkfaaGreatDoor
set_option maxRecDepth 20000
open Go.RowKit
set_option linter.unusedSimpArgs false
set_option linter.unusedVariables false

theorem eqlZ (a2 a3 a4 a5 : Int) (u : World) : (binOp .eql 25 (.agg #[.int .i64 a2, .int .i64 a3, .int .i64 a4, .int .i64 a5]) (.agg #[.int .i64 0, .int .i64 0, .int .i64 0, .int .i64 0])).run Tryz.prog u = .ok (.bool (decide ((a2, a3, a4, a5) = ((0 : Int), (0 : Int), (0 : Int), (0 : Int))))) u := by
  go_simp
  (by_cases h0 : a2 = 0; rotate_left; simp [h0]; by_cases h1 : a3 = 0; rotate_left; simp [h0, h1]; by_cases h2 : a4 = 0; rotate_left; simp [h0, h1, h2]; by_cases h3 : a5 = 0; rotate_left; simp [h0, h1, h2, h3]; simp [h0, h1, h2, h3])

set_option maxHeartbeats 4000000 in
theorem l5Form (g : Nat) (a0 a1 a2 a3 a4 a5 a6 : Int) (nd sm nm : Bool) (w : World) (hx : At w g 27 #[.int .i64 a0, .int .i64 a1, .int .i64 a2, .int .i64 a3, .int .i64 a4, .int .i64 a5, .int .i64 a6]) :
    Calls Tryz.prog 102 #[.pointer (some ⟨g, 0, none⟩), .bool nd, .bool sm, .bool nm] w fun e w' => e = .returned (.bool (formM (a0, a1, (a2, a3, a4, a5), a6) nd sm nm)) ∧ w' = w := by
  obtain ⟨x0, x1, x2, x3, x4, x5, x6⟩ := hx.seven
  have Z := eqlZ a2 a3 a4 a5
  have e1 : (a1 == 0) = decide (a1 = 0) := rfl
  have e6 : (a6 == 0) = decide (a6 = 0) := rfl
  rcases h1 : decide (a1 = 0) <;> rcases h2 : decide ((a2, a3, a4, a5) = ((0 : Int), (0 : Int), (0 : Int), (0 : Int))) <;> rcases h6 : decide (a6 = 0) <;> rw [h2] at Z <;> rw [h1] at e1 <;> rw [h6] at e6 <;>
    (have Hr := Lib.hid (show ∀ a b c, formM (a0, a1, (a2, a3, a4, a5), a6) a b c = ((a || decide (a1 = 0)) && ((b || decide ((a2, a3, a4, a5) = ((0 : Int), (0 : Int), (0 : Int), (0 : Int)))) && (c || decide (a6 = 0)))) from fun _ _ _ => rfl)
     rw [h1, h2, h6] at Hr
     clear h1 h2 h6
     rcases nd <;> rcases sm <;> rcases nm <;>
      (go_enter Tryz.func102, Tryz.ntmps102
       go_wp2
       go_ret
       exact ⟨by rw [Hr.out]; rfl, rfl⟩))

set_option maxHeartbeats 4000000 in
theorem l5Range (g : Nat) (a0 a1 a2 a3 a4 a5 a6 m : Int) (w : World) (hx : At w g 27 #[.int .i64 a0, .int .i64 a1, .int .i64 a2, .int .i64 a3, .int .i64 a4, .int .i64 a5, .int .i64 a6]) :
    Calls Tryz.prog 103 #[.pointer (some ⟨g, 0, none⟩), .int .i64 m] w fun e w' => e = .returned (.int .i64 (rrangeM (a0, a1, (a2, a3, a4, a5), a6) m)) ∧ Below w.heap.size w w' := by
  obtain ⟨x0, x1, x2, x3, x4, x5, x6⟩ := hx.seven
  have Hr := Lib.hid (show rrangeM (a0, a1, (a2, a3, a4, a5), a6) m = if (inB (a1, 0, 3) && inB (a6, 0, m)) = true then faultM (a2, a3, a4, a5) else 3 from rfl)
  rcases h1 : inB (a1, 0, 3)
  · go_enter Tryz.func103, Tryz.ntmps103
    go_wp2_with (go_at_call 117; refine (l4Node a1 w).mono ?_; rintro e w1 ⟨rfl, rfl⟩; rw [h1])
    go_ret
    exact ⟨by rw [Hr.out, h1]; rfl, Below.refl _ _⟩
  rcases h2 : inB (a6, 0, m)
  · go_enter Tryz.func103, Tryz.ntmps103
    go_wp2_with (first | (go_at_call 117; refine (l4Node a1 w).mono ?_; rintro e w1 ⟨rfl, rfl⟩; rw [h1]) | (go_at_call 67; refine (l1In_any a6 0 m w).mono ?_; rintro e w1 ⟨rfl, rfl⟩; rw [h2]))
    go_ret
    exact ⟨by rw [Hr.out, h1, h2]; rfl, Below.refl _ _⟩
  · go_enter Tryz.func103, Tryz.ntmps103
    go_wp2_with (first | (go_at_call 117; refine (l4Node a1 w).mono ?_; rintro e w1 ⟨rfl, rfl⟩; rw [h1]) | (go_at_call 67; refine (l1In_any a6 0 m w).mono ?_; rintro e w1 ⟨rfl, rfl⟩; rw [h2]) | (go_at_call 115; refine (specSampleFault a2 a3 a4 a5 w).mono ?_; rintro e w1 ⟨rfl, hb1⟩))
    go_ret
    exact ⟨by rw [Hr.out, h1, h2]; rfl, hb1⟩

set_option maxHeartbeats 4000000 in
theorem specRecordFault (a0 a1 a2 a3 a4 a5 a6 : Int) (w : World) :
    Calls Tryz.prog 53 #[.agg #[.int .i64 a0, .int .i64 a1, .int .i64 a2, .int .i64 a3, .int .i64 a4, .int .i64 a5, .int .i64 a6]] w fun e w' => e = .returned (.int .i64 (recFaultM (a0, a1, (a2, a3, a4, a5), a6))) ∧ Below w.heap.size w w' := by
  have hB0 : Below w.heap.size w (w.alloc (.cells #[.int .i64 a0, .int .i64 a1, .int .i64 a2, .int .i64 a3, .int .i64 a4, .int .i64 a5, .int .i64 a6] 27)) := (Below.refl _ _).alloc (Nat.le_refl _) _
  have r0 := At.new w 27 #[.int .i64 a0, .int .i64 a1, .int .i64 a2, .int .i64 a3, .int .i64 a4, .int .i64 a5, .int .i64 a6]
  obtain ⟨c0, c1, c2, c3, c4, c5, c6⟩ := r0.seven
  have LF := fun a b c => l5Form w.heap.size a0 a1 a2 a3 a4 a5 a6 a b c _ r0
  have LR := fun m => l5Range w.heap.size a0 a1 a2 a3 a4 a5 a6 m _ r0
  by_cases k1 : a0 = 1
  rotate_left
  by_cases k2 : a0 = 2
  rotate_left
  by_cases k3 : a0 = 3
  rotate_left
  by_cases k4 : a0 = 4
  rotate_left
  · have b1 : (a0 == 1) = false := by simpa using k1
    have b2 : (a0 == 2) = false := by simpa using k2
    have b3 : (a0 == 3) = false := by simpa using k3
    have b4 : (a0 == 4) = false := by simpa using k4
    have Hr := Lib.hid (recFault_form (r := (a0, a1, (a2, a3, a4, a5), a6)) (by unfold recFormM; rw [if_neg k1, if_neg k2, if_neg k3, if_neg k4]))
    clear k1 k2 k3 k4
    go_enter Tryz.func53, Tryz.ntmps53
    go_wp2
    go_ret
    exact ⟨by rw [Hr.out]; try rfl, hB0⟩
  · subst k1
    have hform : recFormM (1, a1, (a2, a3, a4, a5), a6) = formM (1, a1, (a2, a3, a4, a5), a6) false true false := by unfold recFormM; rw [if_pos rfl]
    have hmost : mostM (1, a1, (a2, a3, a4, a5), a6) = 9999 := by unfold mostM; rfl
    rcases hf : formM (1, a1, (a2, a3, a4, a5), a6) false true false
    · have Hr := Lib.hid (recFault_form (hform.trans hf))
      have Hf := Lib.hid hf
      clear hf hform hmost
      go_enter Tryz.func53, Tryz.ntmps53
      go_wp2_with (go_at_call 102; refine (LF false true false).mono ?_; rintro e w1 ⟨rfl, rfl⟩; rw [Hf.out])
      go_ret
      exact ⟨by rw [Hr.out]; try rfl, hB0⟩
    · have Hr := Lib.hid (recFault_range (hform.trans hf))
      rw [hmost] at Hr
      have Hf := Lib.hid hf
      clear hf hform hmost
      go_enter Tryz.func53, Tryz.ntmps53
      go_wp2_with (first | (go_at_call 102; refine (LF false true false).mono ?_; rintro e w1 ⟨rfl, rfl⟩; rw [Hf.out]) | (go_at_call 103; refine (LR 9999).mono ?_; rintro e w2 ⟨rfl, hb2⟩))
      go_ret
      exact ⟨by rw [Hr.out]; try rfl, hB0.trans (hb2.mono hB0.size)⟩
  · subst k2
    clear k1
    have hform : recFormM (2, a1, (a2, a3, a4, a5), a6) = formM (2, a1, (a2, a3, a4, a5), a6) true true false := by unfold recFormM; rw [if_neg (show ¬ ((2 : Int) = 1) by decide), if_pos rfl]
    have hmost : mostM (2, a1, (a2, a3, a4, a5), a6) = 9999 := by unfold mostM; rfl
    rcases hf : formM (2, a1, (a2, a3, a4, a5), a6) true true false
    · have Hr := Lib.hid (recFault_form (hform.trans hf))
      have Hf := Lib.hid hf
      clear hf hform hmost
      go_enter Tryz.func53, Tryz.ntmps53
      go_wp2_with (go_at_call 102; refine (LF true true false).mono ?_; rintro e w1 ⟨rfl, rfl⟩; rw [Hf.out])
      go_ret
      exact ⟨by rw [Hr.out]; try rfl, hB0⟩
    · have Hr := Lib.hid (recFault_range (hform.trans hf))
      rw [hmost] at Hr
      have Hf := Lib.hid hf
      clear hf hform hmost
      go_enter Tryz.func53, Tryz.ntmps53
      go_wp2_with (first | (go_at_call 102; refine (LF true true false).mono ?_; rintro e w1 ⟨rfl, rfl⟩; rw [Hf.out]) | (go_at_call 103; refine (LR 9999).mono ?_; rintro e w2 ⟨rfl, hb2⟩))
      go_ret
      exact ⟨by rw [Hr.out]; try rfl, hB0.trans (hb2.mono hB0.size)⟩
  · subst k3
    clear k1 k2
    have hform : recFormM (3, a1, (a2, a3, a4, a5), a6) = formM (3, a1, (a2, a3, a4, a5), a6) true false true := by unfold recFormM; rw [if_neg (show ¬ ((3 : Int) = 1) by decide), if_neg (show ¬ ((3 : Int) = 2) by decide), if_pos rfl]
    have hmost : mostM (3, a1, (a2, a3, a4, a5), a6) = 9999 := by unfold mostM; rfl
    rcases hf : formM (3, a1, (a2, a3, a4, a5), a6) true false true
    · have Hr := Lib.hid (recFault_form (hform.trans hf))
      have Hf := Lib.hid hf
      clear hf hform hmost
      go_enter Tryz.func53, Tryz.ntmps53
      go_wp2_with (go_at_call 102; refine (LF true false true).mono ?_; rintro e w1 ⟨rfl, rfl⟩; rw [Hf.out])
      go_ret
      exact ⟨by rw [Hr.out]; try rfl, hB0⟩
    · have Hr := Lib.hid (recFault_range (hform.trans hf))
      rw [hmost] at Hr
      have Hf := Lib.hid hf
      clear hf hform hmost
      go_enter Tryz.func53, Tryz.ntmps53
      go_wp2_with (first | (go_at_call 102; refine (LF true false true).mono ?_; rintro e w1 ⟨rfl, rfl⟩; rw [Hf.out]) | (go_at_call 103; refine (LR 9999).mono ?_; rintro e w2 ⟨rfl, hb2⟩))
      go_ret
      exact ⟨by rw [Hr.out]; try rfl, hB0.trans (hb2.mono hB0.size)⟩
  · subst k4
    clear k1 k2 k3
    have hform : recFormM (4, a1, (a2, a3, a4, a5), a6) = formM (4, a1, (a2, a3, a4, a5), a6) false false true := by unfold recFormM; rw [if_neg (show ¬ ((4 : Int) = 1) by decide), if_neg (show ¬ ((4 : Int) = 2) by decide), if_neg (show ¬ ((4 : Int) = 3) by decide), if_pos rfl]
    have hmost : mostM (4, a1, (a2, a3, a4, a5), a6) = 60000 := by unfold mostM; rfl
    rcases hf : formM (4, a1, (a2, a3, a4, a5), a6) false false true
    · have Hr := Lib.hid (recFault_form (hform.trans hf))
      have Hf := Lib.hid hf
      clear hf hform hmost
      go_enter Tryz.func53, Tryz.ntmps53
      go_wp2_with (go_at_call 102; refine (LF false false true).mono ?_; rintro e w1 ⟨rfl, rfl⟩; rw [Hf.out])
      go_ret
      exact ⟨by rw [Hr.out]; try rfl, hB0⟩
    · have Hr := Lib.hid (recFault_range (hform.trans hf))
      rw [hmost] at Hr
      have Hf := Lib.hid hf
      clear hf hform hmost
      go_enter Tryz.func53, Tryz.ntmps53
      go_wp2_with (first | (go_at_call 102; refine (LF false false true).mono ?_; rintro e w1 ⟨rfl, rfl⟩; rw [Hf.out]) | (go_at_call 103; refine (LR 60000).mono ?_; rintro e w2 ⟨rfl, hb2⟩))
      go_ret
      exact ⟨by rw [Hr.out]; try rfl, hB0.trans (hb2.mono hB0.size)⟩
end Go.Proofs.YtmaillakhhdkfaaGreatDoor
/-
  Bytes in an array's block: marked and read as the law does it.
-/
namespace Go.Proofs.YtmaillakhhdkfaaGreatDoor
set_option maxRecDepth 20000
open Go.RowKit

/-- Bytes in a block that is an array of seven. -/
def eA : Enc UInt8 := ⟨177, 1, fun b => [.int .u8 (b.toNat : Int)]⟩
theorem okA : EncOk eA := ⟨fun _ => rfl, fun a u hu => by simp only [eA, List.mem_singleton] at hu; subst hu; rfl, Nat.one_pos⟩
theorem Rd.ofA {w : World} {hi : Nat} {A : Option Addr} {l : List UInt8} (h : Rd eA w hi A l) : Rd eB w hi A l := h

section
variable {w w' : World} {base hi n c : Nat} {A : Option Addr} {l : List UInt8}
end

end Go.Proofs.YtmaillakhhdkfaaGreatDoor
/-
  A sample's bytes: the program's.
-/
namespace Go.Proofs.YtmaillakhhdkfaaGreatDoor
set_option maxRecDepth 20000
open Go.RowKit
set_option linter.unusedSimpArgs false

/-- copy as one step of a region: as 'step_copy_splice'. -/
theorem copy_wp {P : Program} {o : Oper} {a : Act} {w : World} {K : Act → World → Prop} {Q : Exit → Act → World → Prop} (d s : Operand) (dT sT : TypeId)
    (ho : o.op = .call { callee := .builtin .copy, args := #[d, s], argTypes := #[dT, sT] }) (elem : TypeId) (hu : P.underlying dT = some (.slice elem)) (hsz : (P.info? elem).map (·.size) = some 1)
    (dp sp : Option Addr) (dLen dCap sLen sCap : Nat) (hd : a.eval d = .slice dp dLen dCap) (hs : a.eval s = .slice sp sLen sCap)
    (g off : Nat) (cur : List Value) (t : TypeId) (hg : At w g t cur.toArray) (cs : List Value) (hn : cs.length = Nat.min sLen dLen)
    (hpos : 0 < cs.length → dp = some ⟨g, off, none⟩ ∧ ∃ ad, sp = some ad ∧ ∀ j v, cs[j]? = some v → w.cell? (ad.add j) = some v)
    (hfit : off + cs.length ≤ cur.length) (h1 : ∀ v ∈ cs, v.oneCell' = true) (B : Nat) (w0 : World) (hb : Below B w0 w) (hBg : B ≤ g)
    (h : ∀ w', At w' g t (splice cur off cs).toArray → Below B w0 w' → (∀ g', g' ≠ g → w'.heap[g']? = w.heap[g']?) → K (a.put o.dst (goInt cs.length)) w') : o.wp P a w K Q := by
  by_cases h0 : cs.length = 0
  · obtain rfl : cs = [] := List.eq_nil_of_length_eq_zero h0
    have hrun := run_copy_none (P := P) w dT sT o.type elem dp sp dLen dCap sLen sCap hu hsz (by simpa using hn.symm)
    unfold Oper.wp
    simp [execOp, ho, resolve, invoke, builtin, hd, hs, hrun, Result.andThen]
    exact h w (by simpa [splice] using hg) hb (fun _ _ => rfl)
  · obtain ⟨rfl, ad, rfl, hsrc⟩ := hpos (by omega)
    have hrun := run_copy_row (P := P) w dT sT o.type elem g off dLen dCap ad sLen sCap cur.toArray t cs hu hsz hg hn hsrc (by simpa using hfit) h1
    unfold Oper.wp
    simp [execOp, ho, resolve, invoke, builtin, hd, hs, hrun, Result.andThen]
    exact h _ (show _ = _ by simpa [splice] using setRow_heap w g _ _ t _ hg) (below_setRow hb hBg _) (fun g' hne => setRow_other w g g' _ hne)

theorem Rd.src {w : World} {hi g o : Nat} {l : List UInt8} (h : Rd eB w hi (some ⟨g, o, none⟩) l) : ∀ (j : Nat) (v : Value), (eB.row l)[j]? = some v → w.cell? ((⟨g, o, none⟩ : Addr).add j) = some v := by
  intro j v hj
  have hl : j < l.length := by
    have := getElem?_some_lt hj
    rw [okB.row_len] at this
    simpa [eB] using this
  obtain ⟨g', o', e, _, hc⟩ := h (by intro e; subst e; simp at hl)
  obtain ⟨rfl, rfl⟩ : g = g' ∧ o = o' := by simpa using Option.some.inj e
  have h1 := okB.row_at l j 0 l[j] (List.getElem?_eq_getElem hl) Nat.one_pos
  rw [show j * eB.size + 0 = j by simp [eB]] at h1
  rw [h1] at hj
  have := hc j 0 _ v (List.getElem?_eq_getElem hl) hj
  rw [addr_add]
  simpa [eB] using this

theorem cell_same {w w' : World} {g o : Nat} (h : w'.heap[g]? = w.heap[g]?) : w'.cell? ⟨g, o, none⟩ = w.cell? ⟨g, o, none⟩ := by
  unfold World.cell?
  simp only [h]
theorem fldB1' (z : Int) (A : Option Addr) (k c : Nat) (u : World) : (Instr.field 30 (.agg #[.int .i64 z, .slice A k c]) 1).run Tryz.prog u = .ok (.slice A k c) u := by kernel_rfl
theorem u8_size : (Tryz.prog.info? 5).map (·.size) = some 1 := by kernel_rfl

theorem slAt0 (g : Nat) (u : World) : (Instr.sliceAt 177 (.pointer (some ⟨g, 0, none⟩)) (some (.int .i64 0)) (some (.int .i64 1)) none).run Tryz.prog u = .ok (.slice (some ⟨g, 0, none⟩) 1 7) u := by kernel_rfl
theorem slAt1 (g : Nat) (u : World) : (Instr.sliceAt 177 (.pointer (some ⟨g, 0, none⟩)) (some (.int .i64 1)) (some (.int .i64 3)) none).run Tryz.prog u = .ok (.slice (some ⟨g, 1, none⟩) 2 6) u := by kernel_rfl
theorem slAt2 (g : Nat) (u : World) : (Instr.sliceAt 177 (.pointer (some ⟨g, 0, none⟩)) (some (.int .i64 3)) (some (.int .i64 5)) none).run Tryz.prog u = .ok (.slice (some ⟨g, 3, none⟩) 2 4) u := by kernel_rfl
theorem slAt3 (g : Nat) (u : World) : (Instr.sliceAt 177 (.pointer (some ⟨g, 0, none⟩)) (some (.int .i64 5)) (some (.int .i64 7)) none).run Tryz.prog u = .ok (.slice (some ⟨g, 5, none⟩) 2 2) u := by kernel_rfl
theorem slAll (g : Nat) (u : World) : (Instr.sliceAt 177 (.pointer (some ⟨g, 0, none⟩)) none none none).run Tryz.prog u = .ok (.slice (some ⟨g, 0, none⟩) 7 7) u := by kernel_rfl
def encRow (n0 n1 n2 n3 : Nat) : Nat → List Value
  | 0 => [.int .u8 0, .int .u8 0, .int .u8 0, .int .u8 0, .int .u8 0, .int .u8 0, .int .u8 0]
  | 1 => [.int .u8 ((UInt8.ofNat n0).toNat : Int), .int .u8 0, .int .u8 0, .int .u8 0, .int .u8 0, .int .u8 0, .int .u8 0]
  | 2 => [.int .u8 ((UInt8.ofNat n0).toNat : Int), .int .u8 ((UInt8.ofNat n1).toNat : Int), .int .u8 ((UInt8.ofNat (n1 / 256)).toNat : Int), .int .u8 0, .int .u8 0, .int .u8 0, .int .u8 0]
  | 3 => [.int .u8 ((UInt8.ofNat n0).toNat : Int), .int .u8 ((UInt8.ofNat n1).toNat : Int), .int .u8 ((UInt8.ofNat (n1 / 256)).toNat : Int), .int .u8 ((UInt8.ofNat n2).toNat : Int), .int .u8 ((UInt8.ofNat (n2 / 256)).toNat : Int), .int .u8 0, .int .u8 0]
  | _ => [.int .u8 ((UInt8.ofNat n0).toNat : Int), .int .u8 ((UInt8.ofNat n1).toNat : Int), .int .u8 ((UInt8.ofNat (n1 / 256)).toNat : Int), .int .u8 ((UInt8.ofNat n2).toNat : Int), .int .u8 ((UInt8.ofNat (n2 / 256)).toNat : Int), .int .u8 ((UInt8.ofNat n3).toNat : Int), .int .u8 ((UInt8.ofNat (n3 / 256)).toNat : Int)]

/-- A code and bytes that lie in an array's block of the call's own. -/
def RetBA (r : Int × List UInt8) (w : World) (e : Ending) (w' : World) : Prop :=
  ∃ A n c, e = .returned (.agg #[.int .i64 r.1, .slice A n c]) ∧ Ow eA w' w.heap.size A n c r.2 ∧ Below w.heap.size w w'

def EncRel (w : World) (gp gN gR : Nat) (n0 n1 n2 n3 : Nat) (i : Value) (wr : World) : Prop :=
  ∃ k : Nat, k ≤ 4 ∧ i = .int .i64 k ∧ At wr gp 177 (encRow n0 n1 n2 n3 k).toArray ∧ At wr gN 151 #[.int .i64 (n0 : Int), .int .i64 (n1 : Int), .int .i64 (n2 : Int), .int .i64 ((n3 : Int) - 1000)] ∧ At wr gR 30 #[.int .i64 0, .slice none 0 0] ∧ Below w.heap.size w wr

theorem packs {n : Nat} (h : n ≤ 9999) (w : World) : Calls Tryz.prog 36 #[.int .i64 (n : Int), .int .i64 2] w fun e w' => RetBR (0, [UInt8.ofNat n, UInt8.ofNat (n / 256)]) w e w' := by
  have h1 := implPackWord (n : Int) 2 w
  have h2 : packM (n : Int) 2 = (0, packL n 2) := by simpa using packM_nat (m := n) (s := 2) (by omega) (by omega) (by omega)
  rw [h2, pack2] at h1
  exact h1
theorem packs1 {n : Nat} (h : n ≤ 9) (w : World) : Calls Tryz.prog 36 #[.int .i64 (n : Int), .int .i64 1] w fun e w' => RetBR (0, [UInt8.ofNat n]) w e w' := by
  have h1 := implPackWord (n : Int) 1 w
  have h2 : packM (n : Int) 1 = (0, packL n 1) := by simpa using packM_nat (m := n) (s := 1) (by omega) (by omega) (by omega)
  rw [h2, pack1] at h1
  exact h1

set_option maxHeartbeats 4000000 in
theorem implEncodeSample_ok (n0 n1 n2 n3 : Nat) (w : World) (hF : Flds w) (hf : faultM ((n0 : Int), (n1 : Int), (n2 : Int), ((n3 : Int) - 1000)) = 0) (k0 : n0 ≤ 9) (k1 : n1 ≤ 999) (k2 : n2 ≤ 9999) (k3 : n3 ≤ 2000) :
    Calls Tryz.prog 83 #[.agg #[.int .i64 (n0 : Int), .int .i64 (n1 : Int), .int .i64 (n2 : Int), .int .i64 ((n3 : Int) - 1000)]] w fun e w' => RetBA (0, encL n0 n1 n2 n3) w e w' := by
  have hB0 : Below w.heap.size w ((w.alloc (.cells #[.int .i64 (n0 : Int), .int .i64 (n1 : Int), .int .i64 (n2 : Int), .int .i64 ((n3 : Int) - 1000)] 25)).alloc (.cells #[.int .i64 0, .slice none 0 0] 30)) := ((Below.refl _ _).alloc (Nat.le_refl _) _).alloc (by simp) _
  have x0 := (At.new w 25 #[.int .i64 (n0 : Int), .int .i64 (n1 : Int), .int .i64 (n2 : Int), .int .i64 ((n3 : Int) - 1000)]).alloc (.cells #[.int .i64 0, .slice none 0 0] 30)
  have r0 := At.new (w.alloc (.cells #[.int .i64 (n0 : Int), .int .i64 (n1 : Int), .int .i64 (n2 : Int), .int .i64 ((n3 : Int) - 1000)] 25)) 30 #[.int .i64 0, .slice none 0 0]
  rw [show (w.alloc (.cells #[.int .i64 (n0 : Int), .int .i64 (n1 : Int), .int .i64 (n2 : Int), .int .i64 ((n3 : Int) - 1000)] 25)).heap.size = w.heap.size + 1 by simp] at r0
  have hq := implSampleFault (n0 : Int) (n1 : Int) (n2 : Int) ((n3 : Int) - 1000)
  rw [hf] at hq
  clear hf
  go_enter Tryz.func83, Tryz.ntmps83
  go_wp2_with fail
  refine (hq _ (hF.below hB0)).mono ?_
  rintro e w1 ⟨rfl, hb1⟩
  clear hq
  have hB1 := hB0.trans (hb1.mono hB0.size)
  have x1 := x0.below hb1 x0.lt
  have r1 := r0.below hb1 r0.lt
  obtain ⟨y0, y1, y2, y3, _, _, _, _⟩ := x1.four
  have l1 := x1.lt
  have hp := At.new w1 177 #[.int .u8 0, .int .u8 0, .int .u8 0, .int .u8 0, .int .u8 0, .int .u8 0, .int .u8 0]
  have r2 := r1.alloc (.cells #[.int .u8 0, .int .u8 0, .int .u8 0, .int .u8 0, .int .u8 0, .int .u8 0, .int .u8 0] 177)
  have hB2 := hB1.alloc hB1.size (.cells #[.int .u8 0, .int .u8 0, .int .u8 0, .int .u8 0, .int .u8 0, .int .u8 0, .int .u8 0] 177)
  go_wp2_with fail
  refine (numbersOf _ _ _ _ _).mono ?_
  rintro e w3 ⟨rfl, hb3⟩
  have hB3 := hB2.trans (hb3.mono hB2.size)
  have p3 := hp.below hb3 hp.lt
  have r3 := r2.below hb3 r2.lt
  have hz3 := (hF.below hB3).pos
  obtain ⟨c0, c1, c2, c3, c4, c5, c6, c7, c8, c9, c10, c11, c12, c13, c14, c15⟩ := (hF.below hB3).all
  have hN := At.new w3 151 #[.int .i64 (n0 : Int), .int .i64 (n1 : Int), .int .i64 (n2 : Int), .int .i64 ((n3 : Int) - 1000)]
  have p4 := p3.alloc (.cells #[.int .i64 (n0 : Int), .int .i64 (n1 : Int), .int .i64 (n2 : Int), .int .i64 ((n3 : Int) - 1000)] 151)
  have r4 := r3.alloc (.cells #[.int .i64 (n0 : Int), .int .i64 (n1 : Int), .int .i64 (n2 : Int), .int .i64 ((n3 : Int) - 1000)] 151)
  have hB4 := hB3.alloc hB3.size (.cells #[.int .i64 (n0 : Int), .int .i64 (n1 : Int), .int .i64 (n2 : Int), .int .i64 ((n3 : Int) - 1000)] 151)
  go_wp2_with fail
  clear c0 c1 c2 c3 c4 c5 c6 c7 c8 c9 c10 c11 c12 c13 c14 c15 y0 y1 y2 y3
  have Lp : w.heap.size ≤ w1.heap.size := hB1.size
  have Lr := r1.lt
  have Ln := p3.lt
  go_loopw [17] (fun i wr => EncRel w w1.heap.size w3.heap.size (w.heap.size + 1) n0 n1 n2 n3 i wr) (fun i _ => 4 - (intOf i).toNat)
  case atStart => exact ⟨0, by omega, rfl, p4, hN, r4, hB4⟩
  case round =>
    obtain ⟨k, hk, rfl, hP, hN', hR, hbel⟩ := hrel
    have lP := hP.lt
    have lN := hN'.lt
    have lR := hR.lt
    have hsz := hbel.size
    obtain ⟨m0, m1, m2, m3, _, _, _, _⟩ := hN'.four
    rcases (show k = 0 ∨ k = 1 ∨ k = 2 ∨ k = 3 ∨ k = 4 by omega) with rfl | rfl | rfl | rfl | rfl
    · have hidx := fldAt0 wr
      have hsl := slAt0 w1.heap.size
      have hw1 : IntKind.i64.wrap 1 = 1 := by decide
      have hw2 : IntKind.i64.wrap (n0 : Int) = (n0 : Int) := IntWalk.i64_in _ (by omega)
      go_wp2
      refine wp_region_mix [(0, false), (1, false), (2, false), (3, false), (4, false), (5, false), (6, false), (7, false), (8, false), (9, false), (10, false), (11, false), (12, false), (13, false), (14, false), (15, false), (16, true), (17, false), (18, true)] (fun u => u.cell? ⟨w3.heap.size, 0, none⟩ = some (.int .i64 (n0 : Int)) ∧ u.cell? ⟨wr.heap.size, 0, none⟩ = some (.int .i64 0) ∧ u.cell? ⟨wr.heap.size, 1, none⟩ = some (.int .i64 1) ∧ u.cell? ⟨wr.heap.size, 2, none⟩ = some (.int .i64 0)) (by kernel_rfl) (by kernel_rfl) (fun _ _ _ _ _ h => h) (by go_simp) ?_
      simp only [mixOps, List.map_cons, List.map_nil, List.getElem?_cons_succ, List.getElem?_cons_zero, Option.getD_some]
      repeat (first
        | (refine mix_skip (by rfl) ?_
           (try simp only [Act.put, List.setIfInBounds_toArray, List.set_cons_zero, List.set_cons_succ]))
        | (refine mix_pure (v := ?_) (by rfl) (fun u hu => ?_) ?_
           rotate_left
           · obtain ⟨_, _, _, _⟩ := hu
             go_simp
             (with_reducible rfl)
           (try simp only [Act.put, List.setIfInBounds_toArray, List.set_cons_zero, List.set_cons_succ])))
      refine mix_call (by rfl) (fun K hK => ?_)
      go_simp
      refine (packs1 (n := n0) (by omega) _).mono ?_
      rintro e w5 ⟨A5, j5, c5, rfl, o5, hb5⟩
      obtain rfl : 1 = j5 := o5.len okB
      obtain ⟨g5, rfl, gl5, gh5⟩ := o5.form (by omega)
      have fB5 := fldB1' 0 (some ⟨g5, 0, none⟩) 1 c5
      refine hK _ _ _ (fun _ h => h) ⟨(hb5.cell (p := ⟨w3.heap.size, 0, none⟩) (by simp; omega)).trans (by go_simp), (hb5.cell (p := ⟨wr.heap.size, 0, none⟩) (by simp)).trans (by go_simp), (hb5.cell (p := ⟨wr.heap.size, 1, none⟩) (by simp)).trans (by go_simp), (hb5.cell (p := ⟨wr.heap.size, 2, none⟩) (by simp)).trans (by go_simp)⟩ ?_
      (try simp only [Act.put, List.setIfInBounds_toArray, List.set_cons_zero, List.set_cons_succ])
      refine mix_pure (v := ?_) (by rfl) (fun u hu => ?_) ?_
      rotate_left
      · go_simp
        (with_reducible rfl)
      (try simp only [Act.put, List.setIfInBounds_toArray, List.set_cons_zero, List.set_cons_succ])
      have F5 := (hbel.alloc hbel.size (.cells #[.int .i64 0, .int .i64 1, .int .i64 0, .int .i64 9] 154)).drew
      have hB5 := F5.trans (hb5.mono F5.size)
      have P5 := ((hP.alloc (.cells #[.int .i64 0, .int .i64 1, .int .i64 0, .int .i64 9] 154)).drew).below hb5 (by simp; omega)
      have N5 := ((hN'.alloc (.cells #[.int .i64 0, .int .i64 1, .int .i64 0, .int .i64 9] 154)).drew).below hb5 (by simp; omega)
      have R5 := ((hR.alloc (.cells #[.int .i64 0, .int .i64 1, .int .i64 0, .int .i64 9] 154)).drew).below hb5 (by simp; omega)
      have L5 : wr.heap.size < w5.heap.size := by have := hb5.size; simp at this; omega
      have S0 : w5.cell? ⟨wr.heap.size, 0, none⟩ = some (.int .i64 0) := (hb5.cell (p := ⟨wr.heap.size, 0, none⟩) (by simp)).trans (by go_simp)
      have S1 : w5.cell? ⟨wr.heap.size, 1, none⟩ = some (.int .i64 1) := (hb5.cell (p := ⟨wr.heap.size, 1, none⟩) (by simp)).trans (by go_simp)
      have S2 : w5.cell? ⟨wr.heap.size, 2, none⟩ = some (.int .i64 0) := (hb5.cell (p := ⟨wr.heap.size, 2, none⟩) (by simp)).trans (by go_simp)
      refine mix_call (by rfl) (fun K hK => ?_)
      refine copy_wp (.tmp 28) (.tmp 38) 22 22 rfl 5 Tryz.underlying22 u8_size _ _ _ _ _ _ rfl rfl w1.heap.size 0 (encRow n0 n1 n2 n3 0) 177 P5 (eB.row [UInt8.ofNat n0]) rfl (fun _ => ⟨rfl, _, rfl, Rd.src (o5.rd okB)⟩) (by show 0 + 1 ≤ 7; omega) (okB.row_one _) w.heap.size w hB5 Lp ?_
      intro w6 P6 hB6 hoth
      have N6 : At w6 w3.heap.size 151 #[.int .i64 (n0 : Int), .int .i64 (n1 : Int), .int .i64 (n2 : Int), .int .i64 ((n3 : Int) - 1000)] := (hoth _ (by omega)).trans N5
      have R6 : At w6 (w.heap.size + 1) 30 #[.int .i64 0, .slice none 0 0] := (hoth _ (by omega)).trans R5
      refine hK _ _ _ (fun _ h => h) ⟨(N6.cell 0).trans rfl, (cell_same (hoth _ (by omega))).trans S0, (cell_same (hoth _ (by omega))).trans S1, (cell_same (hoth _ (by omega))).trans S2⟩ ?_
      (try simp only [Act.put, List.setIfInBounds_toArray, List.set_cons_zero, List.set_cons_succ])
      refine mix_nil ?_
      go_wp2
      exact ⟨⟨0 + 1, by omega, by go_num, P6, N6, R6, hB6⟩, by simp [intOf]⟩
    · have hidx := fldAt1 wr
      have hsl := slAt1 w1.heap.size
      have hw1 : IntKind.i64.wrap 3 = 3 := by decide
      have hw2 : IntKind.i64.wrap (n1 : Int) = (n1 : Int) := IntWalk.i64_in _ (by omega)
      go_wp2
      refine wp_region_mix [(0, false), (1, false), (2, false), (3, false), (4, false), (5, false), (6, false), (7, false), (8, false), (9, false), (10, false), (11, false), (12, false), (13, false), (14, false), (15, false), (16, true), (17, false), (18, true)] (fun u => u.cell? ⟨w3.heap.size, 1, none⟩ = some (.int .i64 (n1 : Int)) ∧ u.cell? ⟨wr.heap.size, 0, none⟩ = some (.int .i64 1) ∧ u.cell? ⟨wr.heap.size, 1, none⟩ = some (.int .i64 2) ∧ u.cell? ⟨wr.heap.size, 2, none⟩ = some (.int .i64 0)) (by kernel_rfl) (by kernel_rfl) (fun _ _ _ _ _ h => h) (by go_simp) ?_
      simp only [mixOps, List.map_cons, List.map_nil, List.getElem?_cons_succ, List.getElem?_cons_zero, Option.getD_some]
      repeat (first
        | (refine mix_skip (by rfl) ?_
           (try simp only [Act.put, List.setIfInBounds_toArray, List.set_cons_zero, List.set_cons_succ]))
        | (refine mix_pure (v := ?_) (by rfl) (fun u hu => ?_) ?_
           rotate_left
           · obtain ⟨_, _, _, _⟩ := hu
             go_simp
             (with_reducible rfl)
           (try simp only [Act.put, List.setIfInBounds_toArray, List.set_cons_zero, List.set_cons_succ])))
      refine mix_call (by rfl) (fun K hK => ?_)
      go_simp
      refine (packs (n := n1) (by omega) _).mono ?_
      rintro e w5 ⟨A5, j5, c5, rfl, o5, hb5⟩
      obtain rfl : 2 = j5 := o5.len okB
      obtain ⟨g5, rfl, gl5, gh5⟩ := o5.form (by omega)
      have fB5 := fldB1' 0 (some ⟨g5, 0, none⟩) 2 c5
      refine hK _ _ _ (fun _ h => h) ⟨(hb5.cell (p := ⟨w3.heap.size, 1, none⟩) (by simp; omega)).trans (by go_simp), (hb5.cell (p := ⟨wr.heap.size, 0, none⟩) (by simp)).trans (by go_simp), (hb5.cell (p := ⟨wr.heap.size, 1, none⟩) (by simp)).trans (by go_simp), (hb5.cell (p := ⟨wr.heap.size, 2, none⟩) (by simp)).trans (by go_simp)⟩ ?_
      (try simp only [Act.put, List.setIfInBounds_toArray, List.set_cons_zero, List.set_cons_succ])
      refine mix_pure (v := ?_) (by rfl) (fun u hu => ?_) ?_
      rotate_left
      · go_simp
        (with_reducible rfl)
      (try simp only [Act.put, List.setIfInBounds_toArray, List.set_cons_zero, List.set_cons_succ])
      have F5 := (hbel.alloc hbel.size (.cells #[.int .i64 1, .int .i64 2, .int .i64 0, .int .i64 999] 154)).drew
      have hB5 := F5.trans (hb5.mono F5.size)
      have P5 := ((hP.alloc (.cells #[.int .i64 1, .int .i64 2, .int .i64 0, .int .i64 999] 154)).drew).below hb5 (by simp; omega)
      have N5 := ((hN'.alloc (.cells #[.int .i64 1, .int .i64 2, .int .i64 0, .int .i64 999] 154)).drew).below hb5 (by simp; omega)
      have R5 := ((hR.alloc (.cells #[.int .i64 1, .int .i64 2, .int .i64 0, .int .i64 999] 154)).drew).below hb5 (by simp; omega)
      have L5 : wr.heap.size < w5.heap.size := by have := hb5.size; simp at this; omega
      have S0 : w5.cell? ⟨wr.heap.size, 0, none⟩ = some (.int .i64 1) := (hb5.cell (p := ⟨wr.heap.size, 0, none⟩) (by simp)).trans (by go_simp)
      have S1 : w5.cell? ⟨wr.heap.size, 1, none⟩ = some (.int .i64 2) := (hb5.cell (p := ⟨wr.heap.size, 1, none⟩) (by simp)).trans (by go_simp)
      have S2 : w5.cell? ⟨wr.heap.size, 2, none⟩ = some (.int .i64 0) := (hb5.cell (p := ⟨wr.heap.size, 2, none⟩) (by simp)).trans (by go_simp)
      refine mix_call (by rfl) (fun K hK => ?_)
      refine copy_wp (.tmp 28) (.tmp 38) 22 22 rfl 5 Tryz.underlying22 u8_size _ _ _ _ _ _ rfl rfl w1.heap.size 1 (encRow n0 n1 n2 n3 1) 177 P5 (eB.row [UInt8.ofNat n1, UInt8.ofNat (n1 / 256)]) rfl (fun _ => ⟨rfl, _, rfl, Rd.src (o5.rd okB)⟩) (by show 1 + 2 ≤ 7; omega) (okB.row_one _) w.heap.size w hB5 Lp ?_
      intro w6 P6 hB6 hoth
      have N6 : At w6 w3.heap.size 151 #[.int .i64 (n0 : Int), .int .i64 (n1 : Int), .int .i64 (n2 : Int), .int .i64 ((n3 : Int) - 1000)] := (hoth _ (by omega)).trans N5
      have R6 : At w6 (w.heap.size + 1) 30 #[.int .i64 0, .slice none 0 0] := (hoth _ (by omega)).trans R5
      refine hK _ _ _ (fun _ h => h) ⟨(N6.cell 1).trans rfl, (cell_same (hoth _ (by omega))).trans S0, (cell_same (hoth _ (by omega))).trans S1, (cell_same (hoth _ (by omega))).trans S2⟩ ?_
      (try simp only [Act.put, List.setIfInBounds_toArray, List.set_cons_zero, List.set_cons_succ])
      refine mix_nil ?_
      go_wp2
      exact ⟨⟨1 + 1, by omega, by go_num, P6, N6, R6, hB6⟩, by simp [intOf]⟩
    · have hidx := fldAt2 wr
      have hsl := slAt2 w1.heap.size
      have hw1 : IntKind.i64.wrap 5 = 5 := by decide
      have hw2 : IntKind.i64.wrap (n2 : Int) = (n2 : Int) := IntWalk.i64_in _ (by omega)
      go_wp2
      refine wp_region_mix [(0, false), (1, false), (2, false), (3, false), (4, false), (5, false), (6, false), (7, false), (8, false), (9, false), (10, false), (11, false), (12, false), (13, false), (14, false), (15, false), (16, true), (17, false), (18, true)] (fun u => u.cell? ⟨w3.heap.size, 2, none⟩ = some (.int .i64 (n2 : Int)) ∧ u.cell? ⟨wr.heap.size, 0, none⟩ = some (.int .i64 3) ∧ u.cell? ⟨wr.heap.size, 1, none⟩ = some (.int .i64 2) ∧ u.cell? ⟨wr.heap.size, 2, none⟩ = some (.int .i64 0)) (by kernel_rfl) (by kernel_rfl) (fun _ _ _ _ _ h => h) (by go_simp) ?_
      simp only [mixOps, List.map_cons, List.map_nil, List.getElem?_cons_succ, List.getElem?_cons_zero, Option.getD_some]
      repeat (first
        | (refine mix_skip (by rfl) ?_
           (try simp only [Act.put, List.setIfInBounds_toArray, List.set_cons_zero, List.set_cons_succ]))
        | (refine mix_pure (v := ?_) (by rfl) (fun u hu => ?_) ?_
           rotate_left
           · obtain ⟨_, _, _, _⟩ := hu
             go_simp
             (with_reducible rfl)
           (try simp only [Act.put, List.setIfInBounds_toArray, List.set_cons_zero, List.set_cons_succ])))
      refine mix_call (by rfl) (fun K hK => ?_)
      go_simp
      refine (packs (n := n2) (by omega) _).mono ?_
      rintro e w5 ⟨A5, j5, c5, rfl, o5, hb5⟩
      obtain rfl : 2 = j5 := o5.len okB
      obtain ⟨g5, rfl, gl5, gh5⟩ := o5.form (by omega)
      have fB5 := fldB1' 0 (some ⟨g5, 0, none⟩) 2 c5
      refine hK _ _ _ (fun _ h => h) ⟨(hb5.cell (p := ⟨w3.heap.size, 2, none⟩) (by simp; omega)).trans (by go_simp), (hb5.cell (p := ⟨wr.heap.size, 0, none⟩) (by simp)).trans (by go_simp), (hb5.cell (p := ⟨wr.heap.size, 1, none⟩) (by simp)).trans (by go_simp), (hb5.cell (p := ⟨wr.heap.size, 2, none⟩) (by simp)).trans (by go_simp)⟩ ?_
      (try simp only [Act.put, List.setIfInBounds_toArray, List.set_cons_zero, List.set_cons_succ])
      refine mix_pure (v := ?_) (by rfl) (fun u hu => ?_) ?_
      rotate_left
      · go_simp
        (with_reducible rfl)
      (try simp only [Act.put, List.setIfInBounds_toArray, List.set_cons_zero, List.set_cons_succ])
      have F5 := (hbel.alloc hbel.size (.cells #[.int .i64 3, .int .i64 2, .int .i64 0, .int .i64 9999] 154)).drew
      have hB5 := F5.trans (hb5.mono F5.size)
      have P5 := ((hP.alloc (.cells #[.int .i64 3, .int .i64 2, .int .i64 0, .int .i64 9999] 154)).drew).below hb5 (by simp; omega)
      have N5 := ((hN'.alloc (.cells #[.int .i64 3, .int .i64 2, .int .i64 0, .int .i64 9999] 154)).drew).below hb5 (by simp; omega)
      have R5 := ((hR.alloc (.cells #[.int .i64 3, .int .i64 2, .int .i64 0, .int .i64 9999] 154)).drew).below hb5 (by simp; omega)
      have L5 : wr.heap.size < w5.heap.size := by have := hb5.size; simp at this; omega
      have S0 : w5.cell? ⟨wr.heap.size, 0, none⟩ = some (.int .i64 3) := (hb5.cell (p := ⟨wr.heap.size, 0, none⟩) (by simp)).trans (by go_simp)
      have S1 : w5.cell? ⟨wr.heap.size, 1, none⟩ = some (.int .i64 2) := (hb5.cell (p := ⟨wr.heap.size, 1, none⟩) (by simp)).trans (by go_simp)
      have S2 : w5.cell? ⟨wr.heap.size, 2, none⟩ = some (.int .i64 0) := (hb5.cell (p := ⟨wr.heap.size, 2, none⟩) (by simp)).trans (by go_simp)
      refine mix_call (by rfl) (fun K hK => ?_)
      refine copy_wp (.tmp 28) (.tmp 38) 22 22 rfl 5 Tryz.underlying22 u8_size _ _ _ _ _ _ rfl rfl w1.heap.size 3 (encRow n0 n1 n2 n3 2) 177 P5 (eB.row [UInt8.ofNat n2, UInt8.ofNat (n2 / 256)]) rfl (fun _ => ⟨rfl, _, rfl, Rd.src (o5.rd okB)⟩) (by show 3 + 2 ≤ 7; omega) (okB.row_one _) w.heap.size w hB5 Lp ?_
      intro w6 P6 hB6 hoth
      have N6 : At w6 w3.heap.size 151 #[.int .i64 (n0 : Int), .int .i64 (n1 : Int), .int .i64 (n2 : Int), .int .i64 ((n3 : Int) - 1000)] := (hoth _ (by omega)).trans N5
      have R6 : At w6 (w.heap.size + 1) 30 #[.int .i64 0, .slice none 0 0] := (hoth _ (by omega)).trans R5
      refine hK _ _ _ (fun _ h => h) ⟨(N6.cell 2).trans rfl, (cell_same (hoth _ (by omega))).trans S0, (cell_same (hoth _ (by omega))).trans S1, (cell_same (hoth _ (by omega))).trans S2⟩ ?_
      (try simp only [Act.put, List.setIfInBounds_toArray, List.set_cons_zero, List.set_cons_succ])
      refine mix_nil ?_
      go_wp2
      exact ⟨⟨2 + 1, by omega, by go_num, P6, N6, R6, hB6⟩, by simp [intOf]⟩
    · have hidx := fldAt3 wr
      have hsl := slAt3 w1.heap.size
      have hw1 : IntKind.i64.wrap 7 = 7 := by decide
      have hw2 : IntKind.i64.wrap (n3 : Int) = (n3 : Int) := IntWalk.i64_in _ (by omega)
      go_wp2
      refine wp_region_mix [(0, false), (1, false), (2, false), (3, false), (4, false), (5, false), (6, false), (7, false), (8, false), (9, false), (10, false), (11, false), (12, false), (13, false), (14, false), (15, false), (16, true), (17, false), (18, true)] (fun u => u.cell? ⟨w3.heap.size, 3, none⟩ = some (.int .i64 ((n3 : Int) - 1000)) ∧ u.cell? ⟨wr.heap.size, 0, none⟩ = some (.int .i64 5) ∧ u.cell? ⟨wr.heap.size, 1, none⟩ = some (.int .i64 2) ∧ u.cell? ⟨wr.heap.size, 2, none⟩ = some (.int .i64 (-1000))) (by kernel_rfl) (by kernel_rfl) (fun _ _ _ _ _ h => h) (by go_simp) ?_
      simp only [mixOps, List.map_cons, List.map_nil, List.getElem?_cons_succ, List.getElem?_cons_zero, Option.getD_some]
      repeat (first
        | (refine mix_skip (by rfl) ?_
           (try simp only [Act.put, List.setIfInBounds_toArray, List.set_cons_zero, List.set_cons_succ]))
        | (refine mix_pure (v := ?_) (by rfl) (fun u hu => ?_) ?_
           rotate_left
           · obtain ⟨_, _, _, _⟩ := hu
             go_simp
             (with_reducible rfl)
           (try simp only [Act.put, List.setIfInBounds_toArray, List.set_cons_zero, List.set_cons_succ])))
      refine mix_call (by rfl) (fun K hK => ?_)
      go_simp
      refine (packs (n := n3) (by omega) _).mono ?_
      rintro e w5 ⟨A5, j5, c5, rfl, o5, hb5⟩
      obtain rfl : 2 = j5 := o5.len okB
      obtain ⟨g5, rfl, gl5, gh5⟩ := o5.form (by omega)
      have fB5 := fldB1' 0 (some ⟨g5, 0, none⟩) 2 c5
      refine hK _ _ _ (fun _ h => h) ⟨(hb5.cell (p := ⟨w3.heap.size, 3, none⟩) (by simp; omega)).trans (by go_simp), (hb5.cell (p := ⟨wr.heap.size, 0, none⟩) (by simp)).trans (by go_simp), (hb5.cell (p := ⟨wr.heap.size, 1, none⟩) (by simp)).trans (by go_simp), (hb5.cell (p := ⟨wr.heap.size, 2, none⟩) (by simp)).trans (by go_simp)⟩ ?_
      (try simp only [Act.put, List.setIfInBounds_toArray, List.set_cons_zero, List.set_cons_succ])
      refine mix_pure (v := ?_) (by rfl) (fun u hu => ?_) ?_
      rotate_left
      · go_simp
        (with_reducible rfl)
      (try simp only [Act.put, List.setIfInBounds_toArray, List.set_cons_zero, List.set_cons_succ])
      have F5 := (hbel.alloc hbel.size (.cells #[.int .i64 5, .int .i64 2, .int .i64 (-1000), .int .i64 1000] 154)).drew
      have hB5 := F5.trans (hb5.mono F5.size)
      have P5 := ((hP.alloc (.cells #[.int .i64 5, .int .i64 2, .int .i64 (-1000), .int .i64 1000] 154)).drew).below hb5 (by simp; omega)
      have N5 := ((hN'.alloc (.cells #[.int .i64 5, .int .i64 2, .int .i64 (-1000), .int .i64 1000] 154)).drew).below hb5 (by simp; omega)
      have R5 := ((hR.alloc (.cells #[.int .i64 5, .int .i64 2, .int .i64 (-1000), .int .i64 1000] 154)).drew).below hb5 (by simp; omega)
      have L5 : wr.heap.size < w5.heap.size := by have := hb5.size; simp at this; omega
      have S0 : w5.cell? ⟨wr.heap.size, 0, none⟩ = some (.int .i64 5) := (hb5.cell (p := ⟨wr.heap.size, 0, none⟩) (by simp)).trans (by go_simp)
      have S1 : w5.cell? ⟨wr.heap.size, 1, none⟩ = some (.int .i64 2) := (hb5.cell (p := ⟨wr.heap.size, 1, none⟩) (by simp)).trans (by go_simp)
      have S2 : w5.cell? ⟨wr.heap.size, 2, none⟩ = some (.int .i64 (-1000)) := (hb5.cell (p := ⟨wr.heap.size, 2, none⟩) (by simp)).trans (by go_simp)
      refine mix_call (by rfl) (fun K hK => ?_)
      refine copy_wp (.tmp 28) (.tmp 38) 22 22 rfl 5 Tryz.underlying22 u8_size _ _ _ _ _ _ rfl rfl w1.heap.size 5 (encRow n0 n1 n2 n3 3) 177 P5 (eB.row [UInt8.ofNat n3, UInt8.ofNat (n3 / 256)]) rfl (fun _ => ⟨rfl, _, rfl, Rd.src (o5.rd okB)⟩) (by show 5 + 2 ≤ 7; omega) (okB.row_one _) w.heap.size w hB5 Lp ?_
      intro w6 P6 hB6 hoth
      have N6 : At w6 w3.heap.size 151 #[.int .i64 (n0 : Int), .int .i64 (n1 : Int), .int .i64 (n2 : Int), .int .i64 ((n3 : Int) - 1000)] := (hoth _ (by omega)).trans N5
      have R6 : At w6 (w.heap.size + 1) 30 #[.int .i64 0, .slice none 0 0] := (hoth _ (by omega)).trans R5
      refine hK _ _ _ (fun _ h => h) ⟨(N6.cell 3).trans rfl, (cell_same (hoth _ (by omega))).trans S0, (cell_same (hoth _ (by omega))).trans S1, (cell_same (hoth _ (by omega))).trans S2⟩ ?_
      (try simp only [Act.put, List.setIfInBounds_toArray, List.set_cons_zero, List.set_cons_succ])
      refine mix_nil ?_
      go_wp2
      exact ⟨⟨3 + 1, by omega, by go_num, P6, N6, R6, hB6⟩, by simp [intOf]⟩
    · have hsl := slAll w1.heap.size
      obtain ⟨q0, q1, f0, f1⟩ := hR.two
      have L0 : ¬ w.heap.size + 1 = w1.heap.size := by omega
      go_wp2
      refine bodyPost_ret (v := .agg #[.int .i64 0, .slice (some ⟨w1.heap.size, 0, none⟩) 7 7]) (by simp [results, Tryz.results83, go_sem, q0, q1]) rfl ?_
      refine ⟨_, 7, 7, rfl, ?_, (hbel.setCell (by simp) _).setCell (by simp) _⟩
      have P7 := (hP.far (p := ⟨w.heap.size + 1, 0, none⟩) (fun e => L0 e.symm) (.int .i64 0)).far (p := ⟨w.heap.size + 1, 1, none⟩) (fun e => L0 e.symm) (.slice (some ⟨w1.heap.size, 0, none⟩) 7 7)
      rw [encL_eq]
      exact ⟨rfl, .inr ⟨_, 7, _, rfl, Lp, P7, by omega, by unfold maxLen; omega, rfl, rfl⟩⟩

/-- A code and bytes that lie in an array's block. -/
theorem implEncodeSample (a0 a1 a2 a3 : Int) (w : World) (hF : Flds w) :
    Calls Tryz.prog 83 #[.agg #[.int .i64 a0, .int .i64 a1, .int .i64 a2, .int .i64 a3]] w fun e w' => RetBA (encodeM (a0, a1, a2, a3)) w e w' := by
  rcases faultM_or (a0, a1, a2, a3) with h | h
  · obtain ⟨n0, n1, n2, n3, rfl, rfl, rfl, rfl, k0, k1, k2, k3⟩ := faultM_nat h
    rw [encodeM_nat h]
    exact implEncodeSample_ok n0 n1 n2 n3 w hF h k0 k1 k2 k3
  · have hB0 : Below w.heap.size w ((w.alloc (.cells #[.int .i64 a0, .int .i64 a1, .int .i64 a2, .int .i64 a3] 25)).alloc (.cells #[.int .i64 0, .slice none 0 0] 30)) := ((Below.refl _ _).alloc (Nat.le_refl _) _).alloc (by simp) _
    have r0 := At.new (w.alloc (.cells #[.int .i64 a0, .int .i64 a1, .int .i64 a2, .int .i64 a3] 25)) 30 #[.int .i64 0, .slice none 0 0]
    rw [show (w.alloc (.cells #[.int .i64 a0, .int .i64 a1, .int .i64 a2, .int .i64 a3] 25)).heap.size = w.heap.size + 1 by simp] at r0
    have hq := implSampleFault a0 a1 a2 a3 _ (hF.below hB0)
    rw [h] at hq
    rw [encodeM_no h]
    clear h
    go_enter Tryz.func83, Tryz.ntmps83
    go_wp2_with fail
    refine hq.mono ?_
    rintro e w1 ⟨rfl, hb1⟩
    have hB1 := hB0.trans (hb1.mono hB0.size)
    have r1 := r0.below hb1 r0.lt
    obtain ⟨c0, c1, f0, f1⟩ := r1.two
    go_wp2_with fail
    refine bodyPost_ret (v := .agg #[.int .i64 3, .slice none 0 0]) (by simp [results, Tryz.results83, go_sem, c0, c1]) rfl ?_
    exact ⟨none, 0, 0, rfl, Ow.nil, (hB1.setCell (by simp) _).setCell (by simp) _⟩
end Go.Proofs.YtmaillakhhdkfaaGreatDoor
namespace Go.Proofs.YtmaillakhhdkfaaGreatDoor
set_option maxRecDepth 20000
open Go.RowKit

/-- The number of some bytes, the lowest one first. -/
def readV : List UInt8 → Nat
  | [] => 0
  | b :: l => readV l * 256 + b.toNat
theorem readV_lt (l : List UInt8) : readV l < 256 ^ l.length := by
  induction l with
  | nil => simp [readV]
  | cons b l ih =>
    have hb := b.toNat_lt
    rw [readV, List.length_cons, Nat.pow_succ]
    omega
def readAt (l : List UInt8) (p s i : Nat) : Nat := readV ((l.drop (p + i)).take (s - i))
theorem readAt_step {l : List UInt8} {p s j : Nat} {x : UInt8} (hj : j < s) (hx : l[p + j]? = some x) : readAt l p s j = readAt l p s (j + 1) * 256 + x.toNat := by
  unfold readAt
  have h : (l.drop (p + j)).take (s - j) = x :: (l.drop (p + (j + 1))).take (s - (j + 1)) := by
    have hl := getElem?_some_lt hx
    rw [List.drop_eq_getElem_cons hl, show s - j = (s - (j + 1)) + 1 by omega, List.take_succ_cons, show p + j + 1 = p + (j + 1) by omega]
    rw [List.getElem?_eq_getElem hl] at hx
    rw [Option.some.inj hx]
  rw [h, readV]
theorem readAt_end (l : List UInt8) (p s : Nat) : readAt l p s s = 0 := by simp [readAt, readV]
theorem readAt_lt (l : List UInt8) (p s i : Nat) (hs : s ≤ 4) : readAt l p s i < 4294967296 := by
  refine Nat.lt_of_lt_of_le (readV_lt _) ?_
  refine Nat.le_trans (Nat.pow_le_pow_right (by omega) (show ((l.drop (p + i)).take (s - i)).length ≤ 4 by rw [List.length_take]; omega)) (by omega)
theorem readAt_lt' (l : List UInt8) (p s j : Nat) (hs : s ≤ 4) : readAt l p s (j + 1) < 16777216 := by
  refine Nat.lt_of_lt_of_le (readV_lt _) ?_
  refine Nat.le_trans (Nat.pow_le_pow_right (by omega) (show ((l.drop (p + (j + 1))).take (s - (j + 1))).length ≤ 3 by rw [List.length_take]; omega)) (by omega)

/-- What ReadWord answers. -/
def readM (l : List UInt8) (a s : Int) : Int × Int :=
  if 1 ≤ s ∧ s ≤ 4 ∧ 0 ≤ a ∧ a ≤ (l.length : Int) - s then (0, (readAt l a.toNat s.toNat 0 : Nat)) else (3, 0)
theorem readM_bad {l : List UInt8} {a s : Int} (h : ¬ (1 ≤ s ∧ s ≤ 4 ∧ 0 ≤ a ∧ a ≤ (l.length : Int) - s)) : readM l a s = (3, 0) := if_neg h
theorem readM_nat {l : List UInt8} {p s : Nat} (h : 1 ≤ s ∧ s ≤ 4 ∧ p + s ≤ l.length) : readM l p s = (0, ((readAt l p s 0 : Nat) : Int)) := by
  unfold readM
  rw [if_pos (by omega), Int.toNat_natCast, Int.toNat_natCast]

set_option maxHeartbeats 400000 in
theorem l1Read (A : Option Addr) (n c p s : Nat) (l : List UInt8) (w : World) (ha : Rd eB w w.heap.size A l) (hn : l.length = n) (hs : s ≤ 4) (hp : p + s ≤ n) (hm : n ≤ maxLen) :
    Calls Tryz.prog 105 #[.slice A n c, .int .i64 p, .int .i64 s] w fun e w' => e = .returned (.int .i64 (readAt l p s 0 : Nat)) ∧ w = w' := by
  have Hn := Lib.hid hn
  clear hn
  unfold maxLen at hm
  go_enter Tryz.func105, Tryz.ntmps105
  go_wp2
  go_loop [7, 8] (fun vq vi => ∃ i q : Nat, i ≤ s ∧ vi = .int .i64 ((i : Int) - 1) ∧ vq = .int .i64 q ∧ Hid (q = readAt l p s i)) (fun _ vi => (intOf vi + 1).toNat)
  case atStart => exact ⟨s, 0, Nat.le_refl _, rfl, rfl, Lib.hid (readAt_end l p s).symm⟩
  case round =>
    obtain ⟨i, q, hi, rfl, rfl, Hq⟩ := hrel
    match i, hi, Hq with
    | 0, hi, Hq =>
      go_wp2
      go_ret
      exact ⟨by rw [Hq.out]; rfl, rfl⟩
    | j + 1, hi, Hq =>
      obtain ⟨g, o, x, rfl, hg, hx, ca⟩ := ha.byte (k := p + j) (by rw [Hn.out]; omega)
      have hx8 := x.toNat_lt
      have Hst := Lib.hid (readAt_step (s := s) (by omega) hx)
      have hql : q < 16777216 := by rw [Hq.out]; exact readAt_lt' l p s j hs
      clear hx
      rw [show (((j + 1 : Nat) : Int) - 1) = (j : Int) by omega]
      go_wp2
      exact ⟨⟨j, q * 256 + x.toNat, by omega, rfl, by go_num, Lib.hid (by rw [Hst.out, ← Hq.out])⟩, by simp [intOf]⟩

/-! ### impl.ReadWord -/
set_option maxHeartbeats 400000 in
theorem implReadWord_size (A : Option Addr) (n c : Nat) (l : List UInt8) (a s : Int) (w : World) (h : ¬ (1 ≤ s ∧ s ≤ 4)) :
    Calls Tryz.prog 87 #[.slice A n c, .int .i64 a, .int .i64 s] w fun e w' => RetIR (readM l a s) w e w' := by
  have Hf := Lib.hid (readM_bad (l := l) (a := a) (s := s) (by omega))
  have hin : inB (s, 1, 4) = false := by simp only [inB, Bool.and_eq_false_iff, decide_eq_false_iff_not]; omega
  go_enter Tryz.func87, Tryz.ntmps87
  go_wp2_with (go_at_call 82; refine (isWordSize_any _ _).mono ?_; rintro e w1 ⟨rfl, hb1⟩; have a1 := (At.new w _ _).below hb1 (by simp); obtain ⟨r0, r1, f0, f1⟩ := a1.two)
  have hB1 : Below w.heap.size w w1 := ((Below.refl _ _).alloc (Nat.le_refl _) _).trans (hb1.mono (by simp))
  refine bodyPost_ret (v := .agg #[.int .i64 3, .int .i64 0]) (by simp [results, Tryz.results87, go_sem, r0, r1]) rfl ?_
  rw [Hf.out]
  exact ⟨rfl, (hB1.setCell (Nat.le_refl _) _).setCell (Nat.le_refl _) _⟩

set_option maxHeartbeats 400000 in
theorem implReadWord_no (A : Option Addr) (n c : Nat) (l : List UInt8) (a s : Int) (w : World) (hn : l.length = n) (hm : n ≤ maxLen) (hs1 : 1 ≤ s) (hs4 : s ≤ 4) (h : ¬ (0 ≤ a ∧ a ≤ (n : Int) - s)) :
    Calls Tryz.prog 87 #[.slice A n c, .int .i64 a, .int .i64 s] w fun e w' => RetIR (readM l a s) w e w' := by
  have Hf := Lib.hid (readM_bad (l := l) (a := a) (s := s) (by rw [hn]; omega))
  clear hn
  unfold maxLen at hm
  have hin : inB (s, 1, 4) = true := by simp only [inB, Bool.and_eq_true, decide_eq_true_eq]; omega
  have hno : [(a, (0 : Int), (n : Int) - s)].all inB = false := by simp [inB]; omega
  go_enter Tryz.func87, Tryz.ntmps87
  go_wp2_with (go_at_call 82; refine (isWordSize_any _ _).mono ?_; rintro e w1 ⟨rfl, hb1⟩; have a1 := (At.new w _ _).below hb1 (by simp))
  have z1 := a1.lt
  have hB1 : Below w.heap.size w w1 := ((Below.refl _ _).alloc (Nat.le_refl _) _).trans (hb1.mono (by simp))
  refine (areWithin_any _ _ _ [(a, 0, (n : Int) - s)] _ (bnds_one (by simp)) (by simp) rfl (by simp)).mono ?_
  rintro e w2 ⟨rfl, hb2⟩
  have a2 := (a1.alloc _).below hb2 (by simp; omega)
  have hB2 : Below w.heap.size w w2 := (hB1.alloc (by omega) _).trans (hb2.mono (by simp; omega))
  obtain ⟨r0, r1, f0, f1⟩ := a2.two
  go_wp2
  refine bodyPost_ret (v := .agg #[.int .i64 3, .int .i64 0]) (by simp [results, Tryz.results87, go_sem, r0, r1]) rfl ?_
  rw [Hf.out]
  exact ⟨rfl, (hB2.setCell (Nat.le_refl _) _).setCell (Nat.le_refl _) _⟩
/-- 'n<<8 | b': the byte stands in the room that the shift leaves. -/
theorem shl_or (q b : Nat) (hq : q < 16777216) (hb : b < 256) : bits .or .i64 ((q : Int) * 256) (b : Int) = ((q * 256 + b : Nat) : Int) := by
  have h1 : ((q : Int) * 256) = ((q * 256 : Nat) : Int) := by omega
  have h2 : q * 256 ||| b = q * 256 + b := by
    have := Nat.two_pow_add_eq_or_of_lt (i := 8) (by simpa using hb) q
    rw [Nat.mul_comm]
    simpa using this.symm
  rw [h1]
  show IntKind.i64.wrap ((BitVec.ofInt 64 ((q * 256 : Nat) : Int) ||| BitVec.ofInt 64 ((b : Nat) : Int)).toNat : Int) = _
  have o1 : (BitVec.ofInt 64 ((q * 256 : Nat) : Int)).toNat = q * 256 := by rw [BitVec.ofInt_natCast, BitVec.toNat_ofNat]; exact Nat.mod_eq_of_lt (by omega)
  have o2 : (BitVec.ofInt 64 ((b : Nat) : Int)).toNat = b := by rw [BitVec.ofInt_natCast, BitVec.toNat_ofNat]; exact Nat.mod_eq_of_lt (by omega)
  rw [BitVec.toNat_or, o1, o2, h2, IntKind.wrap_i64]
  omega

set_option maxHeartbeats 800000 in
theorem implReadWord_yes (A : Option Addr) (n c p s : Nat) (l : List UInt8) (w : World) (ha : Rd eB w w.heap.size A l) (hn : l.length = n) (hm : n ≤ maxLen) (hs1 : 1 ≤ s) (hs4 : s ≤ 4) (h1 : p + s ≤ n) :
    Calls Tryz.prog 87 #[.slice A n c, .int .i64 p, .int .i64 s] w fun e w' => RetIR (readM l p s) w e w' := by
  have Hf := Lib.hid (readM_nat (l := l) (p := p) (s := s) ⟨hs1, hs4, by omega⟩)
  have Hn := Lib.hid hn
  clear hn
  unfold maxLen at hm
  have hin : inB ((s : Int), 1, 4) = true := by simp only [inB, Bool.and_eq_true, decide_eq_true_eq]; omega
  have hno : [((p : Int), (0 : Int), (n : Int) - s)].all inB = true := by simp [inB]; omega
  go_enter Tryz.func87, Tryz.ntmps87
  go_wp2_with (go_at_call 82; refine (isWordSize_any _ _).mono ?_; rintro e w1 ⟨rfl, hb1⟩; have a1 := (At.new w _ _).below hb1 (by simp))
  have z1 := a1.lt
  have hB1 : Below w.heap.size w w1 := ((Below.refl _ _).alloc (Nat.le_refl _) _).trans (hb1.mono (by simp))
  refine (areWithin_any _ _ _ [((p : Int), 0, (n : Int) - s)] _ (bnds_one (by simp)) (by simp) rfl (by simp)).mono ?_
  rintro e w2 ⟨rfl, hb2⟩
  have a2 := (a1.alloc _).below hb2 (by simp; omega)
  have hB2 : Below w.heap.size w w2 := (hB1.alloc (by omega) _).trans (hb2.mono (by simp; omega))
  have ha2 := ha.lift hB2
  obtain ⟨r0, r1, f0, f1⟩ := a2.two
  go_wp2
  go_loop [7, 8] (fun vq vi => ∃ i q : Nat, i ≤ s ∧ vi = .int .i64 ((i : Int) - 1) ∧ vq = .int .i64 q ∧ Hid (q = readAt l p s i)) (fun _ vi => (intOf vi + 1).toNat)
  case atStart => exact ⟨s, 0, Nat.le_refl _, rfl, rfl, Lib.hid (readAt_end l p s).symm⟩
  case round =>
    obtain ⟨i, q, hi, rfl, rfl, Hq⟩ := hrel
    match i, hi, Hq with
    | 0, hi, Hq =>
      go_wp2
      refine bodyPost_ret (v := .agg #[.int .i64 0, .int .i64 (q : Nat)]) (by simp [results, Tryz.results87, go_sem, r0, r1]) rfl ?_
      rw [Hf.out, ← Hq.out]
      exact ⟨rfl, (hB2.setCell (Nat.le_refl _) _).setCell (Nat.le_refl _) _⟩
    | j + 1, hi, Hq =>
      obtain ⟨g, o, x, rfl, hg, hx, ca⟩ := ha2.byte (k := p + j) (by rw [Hn.out]; omega)
      have hx8 := x.toNat_lt
      have Hst := Lib.hid (readAt_step (s := s) (by omega) hx)
      have hql : q < 16777216 := by rw [Hq.out]; exact readAt_lt' l p s j hs4
      have hor := shl_or q x.toNat hql hx8
      clear hx
      rw [show (((j + 1 : Nat) : Int) - 1) = (j : Int) by omega]
      go_wp2
      exact ⟨⟨j, q * 256 + x.toNat, by omega, rfl, by go_num, Lib.hid (by rw [Hst.out, ← Hq.out])⟩, by simp [intOf]⟩

theorem implReadWord (A : Option Addr) (n c : Nat) (l : List UInt8) (a s : Int) (w : World) (ha : Rd eB w w.heap.size A l) (hn : l.length = n) (hm : n ≤ maxLen) :
    Calls Tryz.prog 87 #[.slice A n c, .int .i64 a, .int .i64 s] w fun e w' => RetIR (readM l a s) w e w' := by
  by_cases h : 1 ≤ s ∧ s ≤ 4
  · by_cases h0 : 0 ≤ a ∧ a ≤ (n : Int) - s
    · obtain ⟨p, rfl⟩ := Int.eq_ofNat_of_zero_le h0.1
      obtain ⟨t, rfl⟩ := Int.eq_ofNat_of_zero_le (show 0 ≤ s by omega)
      exact implReadWord_yes A n c p t l w ha hn hm (by omega) (by omega) (by omega)
    · exact implReadWord_no A n c l a s w hn hm h.1 h.2 h0
  · exact implReadWord_size A n c l a s w h
end Go.Proofs.YtmaillakhhdkfaaGreatDoor
/-
  A sample out of its bytes: the model's, and what the law compares.
-/
namespace Go.Proofs.YtmaillakhhdkfaaGreatDoor
set_option maxRecDepth 20000
open Go.RowKit
set_option linter.unusedSimpArgs false

/-- The sample of so many bytes, right or not. -/
def unpM (l : List UInt8) : Smp := (((readAt l 0 1 0 : Nat) : Int), ((readAt l 1 2 0 : Nat) : Int), ((readAt l 3 2 0 : Nat) : Int), ((readAt l 5 2 0 : Nat) : Int) - 1000)
def decodeM (l : List UInt8) : Int × Smp := if l.length = 7 then (if faultM (unpM l) = 0 then (0, unpM l) else (5, (0, 0, 0, 0))) else (2, (0, 0, 0, 0))
theorem read_one {l : List UInt8} {x : UInt8} (h : l[0]? = some x) : readAt l 0 1 0 = x.toNat := by
  have := readAt_step (l := l) (p := 0) (s := 1) (j := 0) (by omega) h
  rw [this, readAt_end]
  omega

set_option maxHeartbeats 2000000 in
theorem l2Decode (A : Option Addr) (c : Nat) (l : List UInt8) (w : World) (ha : Rd eB w w.heap.size A l) (hn : l.length = 7) :
    Calls Tryz.prog 104 #[.slice A 7 c] w fun e w' => RetS (unpM l) w e w' := by
  obtain ⟨g, o, x, rfl, hg, hx, cx⟩ := ha.byte (k := 0) (by omega)
  have cx0 : w.cell? ⟨g, o, none⟩ = some (.int .u8 (x.toNat : Int)) := by simpa using cx
  have Hu := Lib.hid (show unpM l = ((x.toNat : Int), ((readAt l 1 2 0 : Nat) : Int), ((readAt l 3 2 0 : Nat) : Int), ((readAt l 5 2 0 : Nat) : Int) - 1000) by rw [unpM, read_one hx])
  have hxb : x.toNat < 256 := x.toNat_lt
  have b3 : readAt l 5 2 0 < 4294967296 := readAt_lt l 5 2 0 (by omega)
  have R1 := fun W (hW : Below w.heap.size w W) => l1Read (some ⟨g, o, none⟩) 7 c 1 2 l W (ha.lift hW) hn (by omega) (by omega) (by unfold maxLen; omega)
  have R2 := fun W (hW : Below w.heap.size w W) => l1Read (some ⟨g, o, none⟩) 7 c 3 2 l W (ha.lift hW) hn (by omega) (by omega) (by unfold maxLen; omega)
  have R3 := fun W (hW : Below w.heap.size w W) => l1Read (some ⟨g, o, none⟩) 7 c 5 2 l W (ha.lift hW) hn (by omega) (by omega) (by unfold maxLen; omega)
  rw [Hu.out]
  generalize readAt l 1 2 0 = v1 at *
  generalize readAt l 3 2 0 = v2 at *
  generalize readAt l 5 2 0 = v3 at *
  clear hn hx cx Hu ha
  generalize x.toNat = x0 at *
  have r0 := At.new w 25 #[.int .i64 0, .int .i64 0, .int .i64 0, .int .i64 0]
  have hB0 : Below w.heap.size w ((w.alloc (.cells #[.int .i64 0, .int .i64 0, .int .i64 0, .int .i64 0] 25)).drew) := ((Below.refl _ _).alloc (Nat.le_refl _) _).drew
  have hw0 : IntKind.i64.wrap (x0 : Int) = (x0 : Int) := IntWalk.i64_in _ (by omega)
  have hw3 : IntKind.i64.wrap ((v3 : Int) - 1000) = (v3 : Int) - 1000 := IntWalk.i64_in _ (by omega)
  have p7 : (0 : Int) < 7 := by omega
  go_enter Tryz.func104, Tryz.ntmps104
  go_wp2
  refine wp_region_mix [(0, false), (1, false), (2, false), (3, false), (4, false), (6, false), (8, false), (5, true), (7, true), (9, true), (10, false), (11, false), (12, true)] (fun u => u.cell? ⟨g, o, none⟩ = some (.int .u8 (x0 : Int))) (by kernel_rfl) (by kernel_rfl) (fun _ _ _ _ _ h => h) (by go_simp) ?_
  simp only [mixOps, List.map_cons, List.map_nil, List.getElem?_cons_succ, List.getElem?_cons_zero, Option.getD_some]
  repeat (first
    | (refine mix_skip (by rfl) ?_
       (try simp only [Act.put, List.setIfInBounds_toArray, List.set_cons_zero, List.set_cons_succ]))
    | (refine mix_pure (v := ?_) (by rfl) (fun u hu => ?_) ?_
       rotate_left
       · (try dsimp only at hu)
         go_simp
         (with_reducible rfl)
       (try simp only [Act.put, List.setIfInBounds_toArray, List.set_cons_zero, List.set_cons_succ])))
  refine mix_call (by rfl) (fun K hK => ?_)
  go_simp
  refine (R1 _ hB0).mono ?_
  rintro e w1 ⟨rfl, rfl⟩
  refine hK _ _ _ (fun _ h => h) (by go_simp) ?_
  (try simp only [Act.put, List.setIfInBounds_toArray, List.set_cons_zero, List.set_cons_succ])
  refine mix_call (by rfl) (fun K hK => ?_)
  go_simp
  refine (R2 _ hB0).mono ?_
  rintro e w1 ⟨rfl, rfl⟩
  refine hK _ _ _ (fun _ h => h) (by go_simp) ?_
  (try simp only [Act.put, List.setIfInBounds_toArray, List.set_cons_zero, List.set_cons_succ])
  refine mix_call (by rfl) (fun K hK => ?_)
  go_simp
  refine (R3 _ hB0).mono ?_
  rintro e w1 ⟨rfl, rfl⟩
  refine hK _ _ _ (fun _ h => h) (by go_simp) ?_
  (try simp only [Act.put, List.setIfInBounds_toArray, List.set_cons_zero, List.set_cons_succ])
  repeat (first
    | (refine mix_pure (v := ?_) (by rfl) (fun u hu => ?_) ?_
       rotate_left
       · go_simp
         (with_reducible rfl)
       (try simp only [Act.put, List.setIfInBounds_toArray, List.set_cons_zero, List.set_cons_succ])))
  refine mix_call (by rfl) (fun K hK => ?_)
  go_simp
  refine hK _ _ _ (fun _ h => h) (by go_simp) ?_
  (try simp only [Act.put, List.setIfInBounds_toArray, List.set_cons_zero, List.set_cons_succ])
  refine mix_nil ?_
  go_wp2
  refine bodyPost_ret (v := .agg #[.int .i64 x0, .int .i64 v1, .int .i64 v2, .int .i64 ((v3 : Int) - 1000)]) (by simp [results, Tryz.results104, go_sem]) rfl ?_
  exact ⟨rfl, ((Below.refl _ _).alloc (Nat.le_refl _) _).drew⟩

theorem decodeM_len {l : List UInt8} (h : l.length ≠ 7) : decodeM l = (2, (0, 0, 0, 0)) := if_neg h
theorem decodeM_no {l : List UInt8} {x : Smp} (h : l.length = 7) (hx : unpM l = x) (hf : faultM x = 3) : decodeM l = (5, (0, 0, 0, 0)) := by
  unfold decodeM
  rw [if_pos h, hx, hf]
  rfl
theorem decodeM_yes {l : List UInt8} {x : Smp} (h : l.length = 7) (hx : unpM l = x) (hf : faultM x = 0) : decodeM l = (0, x) := by
  unfold decodeM
  rw [if_pos h, hx, hf]
  rfl

end Go.Proofs.YtmaillakhhdkfaaGreatDoor
