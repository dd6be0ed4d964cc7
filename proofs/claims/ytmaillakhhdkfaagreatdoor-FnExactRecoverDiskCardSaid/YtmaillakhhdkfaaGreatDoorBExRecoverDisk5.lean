/-
  Texts of one proof, joined: each has its own namespace.
-/
import Derived.Test.YtmaillakhhdkfaaGreatDoorBExRecoverDisk4
import Derived.Test.YtmaillakhhdkfaaGreatDoorBExRecoverDisk0
import Derived.Test.YtmaillakhhdkfaaGreatDoorBExRecoverDisk1
import Derived.Test.YtmaillakhhdkfaaGreatDoorBExRecoverDisk2
import Derived.Test.YtmaillakhhdkfaaGreatDoorBExRecoverDisk3
/-
  A sample put at its place: the model's.
-/
namespace Go.Proofs.YtmaillakhhdkfaaGreatDoor
set_option maxRecDepth 20000
open Go.RowKit
set_option linter.unusedSimpArgs false

def frontOf (l : List Smp) (x : Smp) (i : Nat) : Bool := match l[i]? with | some a => aheadM x a | none => false
theorem frontOf_at {l : List Smp} {x a : Smp} {i : Nat} (h : l[i]? = some a) : frontOf l x i = aheadM x a := by
  unfold frontOf
  rw [h]
def spotM (l : List Smp) (x : Smp) : Option Nat := (List.range l.length).find? (frontOf l x)
/-- The store with the sample at its place. -/
def insM (l : List Smp) (x : Smp) : List Smp := match spotM l x with | some p => l.take p ++ x :: l.drop p | none => l ++ [x]
theorem insM_at {l : List Smp} {x : Smp} {p : Nat} (hp : p < l.length) (h : frontOf l x p = true) (hal : ∀ j, j < p → frontOf l x j = false) : insM l x = l.take p ++ x :: l.drop p := by
  have : spotM l x = some p := by
    unfold spotM
    rw [List.find?_range_eq_some]
    exact ⟨h, by simpa using hp, fun j hj => by simp [hal j hj]⟩
  unfold insM
  rw [this]
theorem insM_end {l : List Smp} {x : Smp} {n : Nat} (hn : l.length = n) (hal : ∀ j, j < n → frontOf l x j = false) : insM l x = l ++ [x] := by
  have : spotM l x = none := by
    unfold spotM
    rw [List.find?_range_eq_none]
    exact fun j hj => by simp [hal j (by omega)]
  unfold insM
  rw [this]
theorem insM_len (l : List Smp) (x : Smp) : (insM l x).length = l.length + 1 := by
  unfold insM
  rcases h : spotM l x with _ | p
  · simp
  · simp only [List.length_append, List.length_take, List.length_cons, List.length_drop]
    unfold spotM at h
    rw [List.find?_range_eq_some] at h
    have := h.2.1
    simp at this
    omega

/-- What k rounds have laid. -/
def PartI (l : List Smp) (x : Smp) (k : Nat) (d : Bool) (out : List Smp) : Prop :=
  (d = false ∧ (∀ j, j < k → frontOf l x j = false) ∧ out = l.take k) ∨ (d = true ∧ ∃ p, p < k ∧ frontOf l x p = true ∧ (∀ j, j < p → frontOf l x j = false) ∧ out = l.take p ++ x :: (l.take k).drop p)
theorem take_next {l : List Smp} {k : Nat} {a : Smp} (h : l[k]? = some a) : l.take (k + 1) = l.take k ++ [a] := by
  have hl := getElem?_some_lt h
  rw [List.take_succ_eq_append_getElem hl]
  rw [List.getElem?_eq_getElem hl] at h
  rw [Option.some.inj h]
theorem partI_done {l : List Smp} {x a : Smp} {k : Nat} {out : List Smp} (h : PartI l x k true out) (hk : l[k]? = some a) : PartI l x (k + 1) true (out ++ [a]) := by
  rcases h with ⟨h, _⟩ | ⟨_, p, hp, h1, h2, rfl⟩
  · cases h
  · refine .inr ⟨rfl, p, by omega, h1, h2, ?_⟩
    rw [take_next hk, List.drop_append_of_le_length (by rw [List.length_take]; have := getElem?_some_lt hk; omega)]
    simp
theorem partI_not {l : List Smp} {x a : Smp} {k : Nat} {out : List Smp} (h : PartI l x k false out) (hk : l[k]? = some a) (hf : frontOf l x k = false) : PartI l x (k + 1) false (out ++ [a]) := by
  rcases h with ⟨_, h1, rfl⟩ | ⟨h, _⟩
  · refine .inl ⟨rfl, fun j hj => ?_, (take_next hk).symm⟩
    rcases Nat.lt_or_ge j k with h | h
    · exact h1 j h
    · obtain rfl : j = k := by omega
      exact hf
  · cases h
theorem partI_now {l : List Smp} {x a : Smp} {k : Nat} {out : List Smp} (h : PartI l x k false out) (hk : l[k]? = some a) (hf : frontOf l x k = true) : PartI l x (k + 1) true (out ++ [x] ++ [a]) := by
  rcases h with ⟨_, h1, rfl⟩ | ⟨h, _⟩
  · refine .inr ⟨rfl, k, by omega, hf, h1, ?_⟩
    rw [take_next hk, List.drop_append_of_le_length (by rw [List.length_take]; have := getElem?_some_lt hk; omega), List.drop_of_length_le (by rw [List.length_take]; omega)]
    simp
  · cases h
theorem partI_end {l : List Smp} {x : Smp} {n : Nat} {out : List Smp} (hn : l.length = n) (h : PartI l x n true out) : out = insM l x := by
  rcases h with ⟨h, _⟩ | ⟨_, p, hp, h1, h2, rfl⟩
  · cases h
  · rw [insM_at (by omega) h1 h2, show l.take n = l from List.take_of_length_le (by omega)]
theorem partI_last {l : List Smp} {x : Smp} {n : Nat} {out : List Smp} (hn : l.length = n) (h : PartI l x n false out) : out ++ [x] = insM l x := by
  rcases h with ⟨_, h1, rfl⟩ | ⟨h, _⟩
  · rw [insM_end hn h1, List.take_of_length_le (by omega)]
  · cases h

def InsRel (w : World) (l : List Smp) (x0 x1 x2 x3 : Int) (n : Nat) (o d i : Value) (wr : World) : Prop :=
  ∃ (k : Nat) (b : Bool) (A : Option Addr) (L c : Nat) (out : List Smp), k ≤ n ∧ i = .int .i64 k ∧ d = .bool b ∧ o = .slice A L c ∧ PartI l (x0, x1, x2, x3) k b out ∧ L ≤ 2 * k ∧ Ow eS wr (w.heap.size + 1) A L c out ∧ At wr w.heap.size 25 #[.int .i64 x0, .int .i64 x1, .int .i64 x2, .int .i64 x3] ∧ Below w.heap.size w wr
theorem ow_smp (w : World) (a0 a1 a2 a3 : Int) : Ow eS (w.alloc (.cells #[.int .i64 a0, .int .i64 a1, .int .i64 a2, .int .i64 a3] 25)) w.heap.size (some ⟨w.heap.size, 0, none⟩) 1 1 [(a0, a1, a2, a3)] :=
  Ow.lit w [(a0, a1, a2, a3)] _ 1 (Nat.le_refl _) (by unfold maxLen; omega) rfl rfl

set_option maxHeartbeats 4000000 in
theorem l3Insert (A : Option Addr) (n c : Nat) (l : List Smp) (x0 x1 x2 x3 : Int) (w : World) (ha : Rd eS w w.heap.size A l) (hn : l.length = n) (hm : n ≤ 1048576) :
    Calls Tryz.prog 101 #[.slice A n c, .agg #[.int .i64 x0, .int .i64 x1, .int .i64 x2, .int .i64 x3]] w fun e w' => ∃ A' c', e = .returned (.slice A' (n + 1) c') ∧ Ow eS w' w.heap.size A' (n + 1) c' (insM l (x0, x1, x2, x3)) ∧ Below w.heap.size w w' := by
  have Hn := Lib.hid hn
  clear hn
  have B1 := (Below.refl w.heap.size w).alloc (Nat.le_refl _) (.cells #[.int .i64 x0, .int .i64 x1, .int .i64 x2, .int .i64 x3] 25)
  have b1 := (At.new w 25 #[.int .i64 x0, .int .i64 x1, .int .i64 x2, .int .i64 x3]).alloc (.cells #[] 25)
  have e1 : (w.alloc (.cells #[.int .i64 x0, .int .i64 x1, .int .i64 x2, .int .i64 x3] 25)).heap.size = w.heap.size + 1 := by simp
  have o1 : Ow eS ((w.alloc (.cells #[.int .i64 x0, .int .i64 x1, .int .i64 x2, .int .i64 x3] 25)).alloc (.cells #[] 25)) (w.alloc (.cells #[.int .i64 x0, .int .i64 x1, .int .i64 x2, .int .i64 x3] 25)).heap.size (some ⟨(w.alloc (.cells #[.int .i64 x0, .int .i64 x1, .int .i64 x2, .int .i64 x3] 25)).heap.size, 0, none⟩) 0 0 [] := Ow.lit _ [] #[] 0 (Nat.le_refl _) (by unfold maxLen; omega) rfl rfl
  have B2 := B1.alloc B1.size (.cells #[] 25)
  rw [e1] at o1
  go_enter Tryz.func101, Tryz.ntmps101
  go_wp2
  go_loopw [5, 6, 7] (fun o d i wr => InsRel w l x0 x1 x2 x3 n o d i wr) (fun _ _ i _ => n - (intOf i).toNat)
  case atStart => exact ⟨0, false, _, 0, 0, [], Nat.zero_le _, rfl, rfl, rfl, .inl ⟨rfl, fun _ h => absurd h (by omega), by simp⟩, by omega, o1, b1, B2⟩
  case round =>
    obtain ⟨k, b, A1, L1, c1, out, hk, rfl, rfl, rfl, hp, hL, ow1, bx, hbel⟩ := hrel
    have HP := Lib.hid hp
    clear hp
    have lbx := bx.lt
    obtain ⟨q0, q1, q2, q3, _, _, _, _⟩ := bx.four
    by_cases hlt : k < n
    · obtain ⟨g, o, a0, a1, a2, a3, rfl, hg, hx, ca⟩ := (ha.below hbel (Nat.le_refl _)).smp (k := k) (by rw [Hn.out]; exact hlt)
      have Hx := Lib.hid hx
      have Hf := Lib.hid (frontOf_at (x := (x0, x1, x2, x3)) hx)
      clear hx
      cases b
      · have hbd := hbel.drew
        have bs : S4 wr w.heap.size 0 x0 x1 x2 x3 := ⟨bx.cell 0, bx.cell 1, bx.cell 2, bx.cell 3⟩
        go_wp2
        refine wp_region_mix [(0, false), (1, false), (2, false), (3, false), (4, false), (5, false), (6, false), (7, false), (8, true), (9, false)] (fun u => S4 u w.heap.size 0 x0 x1 x2 x3 ∧ S4 u g (o + k * 4) a0 a1 a2 a3) (by kernel_rfl) (by kernel_rfl) (fun _ _ _ _ _ h => h) ⟨bs.drew, ca.drew⟩ ?_
        simp only [mixOps, List.map_cons, List.map_nil, List.getElem?_cons_succ, List.getElem?_cons_zero, Option.getD_some]
        repeat (first
          | (refine mix_skip (by rfl) ?_
             (try simp only [Act.put, List.setIfInBounds_toArray, List.set_cons_zero, List.set_cons_succ]))
          | (refine mix_pure (v := ?_) (by rfl) (fun u hu => ?_) ?_
             rotate_left
             · obtain ⟨⟨_, _, _, _⟩, _, _, _, _⟩ := hu
               go_simp
               (with_reducible rfl)
             (try simp only [Act.put, List.setIfInBounds_toArray, List.set_cons_zero, List.set_cons_succ])))
        refine mix_call (by rfl) (fun K hK => ?_)
        go_simp
        refine (specIsAhead x0 x1 x2 x3 a0 a1 a2 a3 _).mono ?_
        rintro e w2 ⟨rfl, hb2⟩
        have hB2 := hbd.trans (hb2.mono hbd.size)
        have bx2 := bx.drew.below hb2 lbx
        have ow2 := (ow1.drewN 1).below hb2 (Nat.le_refl _)
        have ca2 := ca.drew.below hb2 (Nat.lt_of_lt_of_le hg hbd.size)
        refine hK _ _ _ (fun _ h => h) ⟨bs.drew.below hb2 lbx, ca2⟩ ?_
        (try simp only [Act.put, List.setIfInBounds_toArray, List.set_cons_zero, List.set_cons_succ])
        rw [← Hf.out]
        clear q0 q1 q2 q3
        obtain ⟨q0, q1, q2, q3, _, _, _, _⟩ := bx2.four
        have hlo := ow1.len okS
        rcases hs : frontOf l (x0, x1, x2, x3) k
        · have Hs := Lib.hid hs
          clear hs
          refine mix_pure (v := ?_) (by rfl) (fun u hu => ?_) ?_
          rotate_left
          · go_simp
            (with_reducible rfl)
          (try simp only [Act.put, List.setIfInBounds_toArray, List.set_cons_zero, List.set_cons_succ])
          refine mix_nil ?_
          obtain ⟨_, _, _, _⟩ := ca2
          go_wp2_with (at_builtin; refine wpList_append_ow okS _ rfl (.tmp 29) (.tmp 34) _ rfl (w.heap.size + 1) info_smp Tryz.underlying36 rfl A1 L1 c1 out rfl (ow2.alloc _) _ 1 1 _ [(a0, a1, a2, a3)] rfl ((ow_smp _ a0 a1 a2 a3).rd okS) rfl (by unfold maxLen; omega) (by omega) (by have := hB2.size; simp; omega) ?_; intro A5 c5 w5 ow5 hg5 _; have hB5 := (hB2.alloc hB2.size _).grown hg5 (hB2.alloc hB2.size _).size (fun g hg => by have := (ow2.lt g hg).1; omega); have bx5 := (bx2.alloc _).grown hg5 (fun e => by have := (ow2.lt _ e).1; omega))
          exact ⟨⟨k + 1, false, A5, L1 + 1, c5, out ++ [(a0, a1, a2, a3)], by omega, by go_num, rfl, rfl, partI_not HP.out Hx.out Hs.out, by omega, ow5, bx5, hB5⟩, by simp [intOf]; omega⟩
        · have Hs := Lib.hid hs
          clear hs
          refine mix_pure (v := ?_) (by rfl) (fun u hu => ?_) ?_
          rotate_left
          · go_simp
            (with_reducible rfl)
          (try simp only [Act.put, List.setIfInBounds_toArray, List.set_cons_zero, List.set_cons_succ])
          refine mix_nil ?_
          go_wp2_with (first
            | (at_builtin; refine wpList_append_ow okS _ rfl (.tmp 25) (.tmp 27) _ rfl (w.heap.size + 1) info_smp Tryz.underlying36 rfl A1 L1 c1 out rfl (ow2.alloc _) _ 1 1 _ [(x0, x1, x2, x3)] rfl ((ow_smp _ x0 x1 x2 x3).rd okS) rfl (by unfold maxLen; omega) (by omega) (by have := hB2.size; simp; omega) ?_; intro A5 c5 w5 ow5 hg5 _; have hB5 := (hB2.alloc hB2.size _).grown hg5 (hB2.alloc hB2.size _).size (fun g hg => by have := (ow2.lt g hg).1; omega); have bx5 := (bx2.alloc _).grown hg5 (fun e => by have := (ow2.lt _ e).1; omega); obtain ⟨_, _, _, _⟩ := (ha.below hB5 (Nat.le_refl _)).smp_is Hx.out)
            | (at_builtin; refine wpList_append_ow okS _ rfl (.tmp 29) (.tmp 34) _ rfl (w.heap.size + 1) info_smp Tryz.underlying36 rfl A5 (L1 + 1) c5 (out ++ [(x0, x1, x2, x3)]) rfl (ow5.alloc _) _ 1 1 _ [(a0, a1, a2, a3)] rfl ((ow_smp _ a0 a1 a2 a3).rd okS) rfl (by unfold maxLen; omega) (by omega) (by have := hB5.size; simp; omega) ?_; intro A6 c6 w6 ow6 hg6 _; have hB6 := (hB5.alloc hB5.size _).grown hg6 (hB5.alloc hB5.size _).size (fun g hg => by have := (ow5.lt g hg).1; omega); have bx6 := (bx5.alloc _).grown hg6 (fun e => by have := (ow5.lt _ e).1; omega)))
          exact ⟨⟨k + 1, true, A6, L1 + 1 + 1, c6, out ++ [(x0, x1, x2, x3)] ++ [(a0, a1, a2, a3)], by omega, by go_num, rfl, rfl, partI_now HP.out Hx.out Hs.out, by omega, ow6, bx6, hB6⟩, by simp [intOf]; omega⟩
      · obtain ⟨_, _, _, _⟩ := ca
        have hlo := ow1.len okS
        go_wp2
        go_quiet (fail)
        go_wp2_with (at_builtin; refine wpList_append_ow okS _ rfl (.tmp 29) (.tmp 34) _ rfl (w.heap.size + 1) info_smp Tryz.underlying36 rfl A1 L1 c1 out rfl ((ow1.drewN _).alloc _) _ 1 1 _ [(a0, a1, a2, a3)] rfl ((ow_smp _ a0 a1 a2 a3).rd okS) rfl (by unfold maxLen; omega) (by omega) (by have := hbel.size; simp; omega) ?_; intro A5 c5 w5 ow5 hg5 _; have hB5 := ((bdrewN hbel _).alloc (bdrewN hbel _).size _).grown hg5 ((bdrewN hbel _).alloc (bdrewN hbel _).size _).size (fun g hg => by have := (ow1.lt g hg).1; omega); have bx5 := ((bx.drewN _).alloc _).grown hg5 (fun e => by have := (ow1.lt _ e).1; omega))
        exact ⟨⟨k + 1, true, A5, L1 + 1, c5, out ++ [(a0, a1, a2, a3)], by omega, by go_num, rfl, rfl, partI_done HP.out Hx.out, by omega, ow5, bx5, hB5⟩, by simp [intOf]; omega⟩
    · obtain rfl : n = k := by omega
      have hlo := ow1.len okS
      cases b
      · go_wp2_with (at_builtin; refine wpList_append_ow okS _ rfl (.tmp 38) (.tmp 40) _ rfl (w.heap.size + 1) info_smp Tryz.underlying36 rfl A1 L1 c1 out rfl (ow1.alloc _) _ 1 1 _ [(x0, x1, x2, x3)] rfl ((ow_smp _ x0 x1 x2 x3).rd okS) rfl (by unfold maxLen; omega) (by omega) (by have := hbel.size; simp; omega) ?_; intro A5 c5 w5 ow5 hg5 _; have hB5 := (hbel.alloc hbel.size _).grown hg5 (hbel.alloc hbel.size _).size (fun g hg => by have := (ow1.lt g hg).1; omega); have bx5 := (bx.alloc _).grown hg5 (fun e => by have := (ow1.lt _ e).1; omega))
        have hq := partI_last Hn.out HP.out
        rw [hq] at ow5
        have hL1 : L1 + 1 = n + 1 := by rw [← ow5.len okS, insM_len, Hn.out]
        go_ret
        rw [hL1] at ow5
        exact ⟨_, _, by simp; omega, ow5.from_ (by omega), hB5⟩
      · have hq := partI_end Hn.out HP.out
        have hL1 : L1 = n + 1 := by rw [← hlo, hq, insM_len, Hn.out]
        subst hL1
        subst hq
        go_wp2
        go_ret
        exact ⟨_, _, rfl, ow1.from_ (by omega), hbel⟩
end Go.Proofs.YtmaillakhhdkfaaGreatDoor
/-
  Rows of samples marked and held, as the law does it.
-/
namespace Go.Proofs.YtmaillakhhdkfaaGreatDoor
set_option maxRecDepth 20000
open Go.RowKit
set_option linter.unusedSimpArgs false

def markS (k i : Nat) : Smp := ((k : Int) + 4 * i, (k : Int) + 4 * i + 1, (k : Int) + 4 * i + 2, (k : Int) + 4 * i + 3)
/-- What a mark lays: four numbers a sample. -/
def marksS (k n : Nat) : List Smp := (List.range n).map (markS k)
theorem marksS_len (k n : Nat) : (marksS k n).length = n := by simp [marksS]
theorem marksS_at {k n i : Nat} (h : i < n) : (marksS k n)[i]? = some (markS k i) := by simp [marksS, h]

set_option maxHeartbeats 2000000 in
theorem markSampleS (A : Option Addr) (n c base : Nat) (l : List Smp) (k : Nat) (w : World) (ha : Ow eS w base A n c l) (hm : n ≤ 4294967296) (hk : k ≤ 4294967296) :
    Calls Tryz.prog 127 #[.slice A n c, .int .i64 k] w fun e w' => e = .returned (.int .i64 ((k : Int) + 4 * n)) ∧ Ow eS w' base A n c (marksS k n) ∧ w.grownBy w' (A.map (·.block)) := by
  have Hn := Lib.hid (ha.len okS)
  go_enter Tryz.func127, Tryz.ntmps127
  go_wp2
  go_loopw [1, 5] (fun vk i wr => MarkRel eS (markS k) 4 w base A n c l k vk i wr) (fun _ i _ => n - (intOf i).toNat)
  case atStart => exact markRel_start _ _ _ ha
  case round =>
    obtain ⟨j, hj, rfl, rfl, hown, hgr⟩ := hrel
    rw [show (k : Int) + ((4 : Nat) : Int) * (j : Int) = (k : Int) + 4 * (j : Int) by omega]
    by_cases hlt : j < n
    · obtain ⟨g, rfl, hg, _⟩ := hown.form (by omega)
      obtain ⟨⟨a0, a1, a2, a3⟩, hz⟩ := markRel_at (markS k) l n j hlt Hn.out
      obtain ⟨d0, d1, d2, d3⟩ := hown.smpAt hz
      have f0 := hown.frozenAt (j * 4)
      have f1 := hown.frozenAt (j * 4 + 1)
      have f2 := hown.frozenAt (j * 4 + 2)
      have f3 := hown.frozenAt (j * 4 + 3)
      have hs := hown.smpSet (k := j) (getElem?_some_lt hz) ((k : Int) + 4 * j) ((k : Int) + 4 * j + 1) ((k : Int) + 4 * j + 2) ((k : Int) + 4 * j + 3)
      have Hset := Lib.hid (laid_set (markS k) l n j hlt Hn.out)
      have Hgr := Lib.hid (grown_trans hgr hs.2)
      have Hst := Lib.hid hs.1
      clear hgr hs hz
      go_wp2
      exact ⟨⟨j + 1, by omega, by go_num, congrArg _ (by omega), by rw [← Hset.out]; exact Hst.out, Hgr.out⟩, by simp [intOf]; omega⟩
    · have hall := markRel_end hown (by omega) Hn.out
      obtain rfl : n = j := by omega
      clear hown
      go_wp2
      go_ret
      exact ⟨rfl, hall, hgr⟩
theorem markSampleS1 (A : Option Addr) (n c base : Nat) (l : List Smp) (w : World) (ha : Ow eS w base A n c l) (hm : n ≤ 4294967296) :
    Calls Tryz.prog 127 #[.slice A n c, .int .i64 1] w fun e w' => e = .returned (.int .i64 (1 + 4 * (n : Int))) ∧ Ow eS w' base A n c (marksS 1 n) ∧ w.grownBy w' (A.map (·.block)) :=
  markSampleS A n c base l 1 w ha hm (by omega)

theorem markSampleSK (A : Option Addr) (n c base : Nat) (l : List Smp) (k : Nat) (z : Int) (w : World) (hz : z = (k : Int)) (ha : Ow eS w base A n c l) (hm : n ≤ 4294967296) (hk : k ≤ 4294967296) :
    Calls Tryz.prog 127 #[.slice A n c, .int .i64 z] w fun e w' => e = .returned (.int .i64 (z + 4 * (n : Int))) ∧ Ow eS w' base A n c (marksS k n) ∧ w.grownBy w' (A.map (·.block)) := by
  subst hz
  exact markSampleS A n c base l k w ha hm hk

set_option maxHeartbeats 2000000 in
theorem heldSampleS (A : Option Addr) (n c : Nat) (k : Nat) (w : World) (ha : Rd eS w w.heap.size A (marksS k n)) (hm : n ≤ 4294967296) (hk : k ≤ 4294967296) :
    Calls Tryz.prog 129 #[.slice A n c, .int .i64 k] w fun e w' => e = .returned (.int .i64 ((k : Int) + 4 * n)) ∧ Below w.heap.size w w' := by
  go_enter Tryz.func129, Tryz.ntmps129
  go_wp2
  go_loopw [1, 5] (fun vk i wr => HeldRel w n 4 k vk i wr) (fun _ i _ => n - (intOf i).toNat)
  case atStart => exact heldRel_start _ _ _ _
  case round =>
    obtain ⟨j, hj, rfl, rfl, hbel⟩ := hrel
    rw [show (k : Int) + ((4 : Nat) : Int) * (j : Int) = (k : Int) + 4 * (j : Int) by omega]
    by_cases hlt : j < n
    · obtain ⟨g, o, a0, a1, a2, a3, rfl, hg, hx, c0, c1, c2, c3⟩ := (ha.below hbel (Nat.le_refl _)).smp (k := j) (by rw [marksS_len]; exact hlt)
      rw [marksS_at hlt] at hx
      simp only [markS, Option.some.injEq, Prod.mk.injEq] at hx
      obtain ⟨rfl, rfl, rfl, rfl⟩ := hx
      go_wp2
      exact ⟨⟨j + 1, by omega, by go_num, congrArg _ (by omega), hbel⟩, by simp [intOf]; omega⟩
    · obtain rfl : n = j := by omega
      go_wp2
      go_ret
      exact ⟨rfl, hbel⟩
theorem heldSampleS1 (A : Option Addr) (n c : Nat) (w : World) (ha : Rd eS w w.heap.size A (marksS 1 n)) (hm : n ≤ 4294967296) :
    Calls Tryz.prog 129 #[.slice A n c, .int .i64 1] w fun e w' => e = .returned (.int .i64 (1 + 4 * (n : Int))) ∧ Below w.heap.size w w' :=
  heldSampleS A n c 1 w ha hm (by omega)
end Go.Proofs.YtmaillakhhdkfaaGreatDoor
/-
  Answers that hold samples: compared, marked and held as the law does it.
-/
namespace Go.Proofs.YtmaillakhhdkfaaGreatDoor
set_option maxRecDepth 20000
open Go.RowKit
set_option linter.unusedSimpArgs false

/-- A code and samples of the call's own. -/
def RetSs (r : Int × List Smp) (w : World) (e : Ending) (w' : World) : Prop :=
  ∃ A n c, e = .returned (.agg #[.int .i64 r.1, .slice A n c]) ∧ Ow eS w' w.heap.size A n c r.2 ∧ Below w.heap.size w w'
/-- A code, whether it is new, and samples of the call's own. -/
def RetSt (r : Int × Bool × List Smp) (w : World) (e : Ending) (w' : World) : Prop :=
  ∃ A n c, e = .returned (.agg #[.int .i64 r.1, .bool r.2.1, .slice A n c]) ∧ Ow eS w' w.heap.size A n c r.2.2 ∧ Below w.heap.size w w'

end Go.Proofs.YtmaillakhhdkfaaGreatDoor
/-
  A sample put into a store, and one looked for: the model's.
-/
namespace Go.Proofs.YtmaillakhhdkfaaGreatDoor
set_option maxRecDepth 20000
open Go.RowKit
set_option linter.unusedSimpArgs false

theorem findI_or (l : List Smp) (x : Smp) : findI l x = -1 ∨ ∃ k : Nat, findI l x = (k : Int) ∧ k < l.length := by
  unfold findI
  rcases h : findM l x with _ | i
  · exact .inl rfl
  · refine .inr ⟨i, rfl, ?_⟩
    unfold findM at h
    rw [List.find?_range_eq_some] at h
    simpa using h.2.1
theorem storeFault_zero {l : List Smp} (h : storeFaultM l = 0) : l.length ≤ 160 := by
  unfold storeFaultM at h
  by_cases hb : 160 < l.length
  · rw [if_pos hb] at h
    cases h
  · omega
/-- What InsertSample answers. -/
def insertM (l : List Smp) (x : Smp) : Int × Bool × List Smp :=
  if storeFaultM l ≠ 0 then (storeFaultM l, false, []) else if faultM x ≠ 0 then (faultM x, false, []) else if 0 ≤ findI l x then (0, false, l) else if 160 ≤ l.length then (7, false, []) else (0, true, insM l x)
/-- What FindSample answers. -/
def lookM (l : List Smp) (x : Smp) : Int × Smp :=
  if storeFaultM l ≠ 0 then (storeFaultM l, (0, 0, 0, 0)) else match findM l x with | some i => (0, (l[i]?).getD (0, 0, 0, 0)) | none => (4, (0, 0, 0, 0))

set_option maxRecDepth 100000 in
set_option maxHeartbeats 2000000 in
theorem specInsertSample (A : Option Addr) (n c : Nat) (l : List Smp) (x0 x1 x2 x3 : Int) (w : World) (ha : Rd eS w w.heap.size A l) (hn : l.length = n) (hm : n ≤ 1048576) :
    Calls Tryz.prog 106 #[.slice A n c, .agg #[.int .i64 x0, .int .i64 x1, .int .i64 x2, .int .i64 x3]] w fun e w' => RetSt (insertM l (x0, x1, x2, x3)) w e w' := by
  have hB0 : Below w.heap.size w ((w.alloc (.cells #[.int .i64 x0, .int .i64 x1, .int .i64 x2, .int .i64 x3] 25)).alloc (.cells #[.int .i64 0, .bool false, .slice none 0 0] 135)) := ((Below.refl _ _).alloc (Nat.le_refl _) _).alloc (by simp) _
  have bx0 := (At.new w 25 #[.int .i64 x0, .int .i64 x1, .int .i64 x2, .int .i64 x3]).alloc (.cells #[.int .i64 0, .bool false, .slice none 0 0] 135)
  have e1 : (w.alloc (.cells #[.int .i64 x0, .int .i64 x1, .int .i64 x2, .int .i64 x3] 25)).heap.size = w.heap.size + 1 := by simp
  have r0 := At.new (w.alloc (.cells #[.int .i64 x0, .int .i64 x1, .int .i64 x2, .int .i64 x3] 25)) 135 #[.int .i64 0, .bool false, .slice none 0 0]
  rw [e1] at r0
  have ha0 := ha.lift hB0
  have HF := specStoreFault A n c l _ ha0 hn
  by_cases h0 : storeFaultM l = 0
  rotate_left
  · rw [show insertM l (x0, x1, x2, x3) = (storeFaultM l, false, []) from if_pos h0]
    have hne : (storeFaultM l != 0) = true := by rw [bne_iff_ne]; exact h0
    generalize storeFaultM l = sf at *
    clear h0
    go_enter Tryz.func106, Tryz.ntmps106
    go_wp2_with fail
    refine (HF).mono ?_
    rintro e w1 ⟨rfl, hb1⟩
    have hB1 := hB0.trans (hb1.mono hB0.size)
    have bx1 := bx0.below hb1 bx0.lt
    have r1 := r0.below hb1 r0.lt
    have ha1 := ha0.lift hb1
    obtain ⟨b1_0, b1_1, b1_2, b1_3, _, _, _, _⟩ := bx1.four
    obtain ⟨c0, c1, c2, _, _, _⟩ := r1.three
    go_wp2_with fail
    refine bodyPost_ret (v := .agg #[.int .i64 sf, .bool false, .slice none 0 0]) (by simp [results, Tryz.results106, go_sem, c0, c1, c2]) rfl ?_
    exact ⟨_, _, _, rfl, Ow.nil, (((hB1.setCell (by simp) _).setCell (by simp) _).setCell (by simp) _)⟩
  have h160 := storeFault_zero h0
  rw [h0] at HF
  rcases faultM_or (x0, x1, x2, x3) with hf | hf
  rotate_left
  · rw [show insertM l (x0, x1, x2, x3) = (3, false, []) by unfold insertM; rw [if_neg (by simp [h0]), if_pos (by simp [hf]), hf]]
    have XF := specSampleFault x0 x1 x2 x3
    rw [hf] at XF
    clear hf h0
    go_enter Tryz.func106, Tryz.ntmps106
    go_wp2_with fail
    refine (HF).mono ?_
    rintro e w1 ⟨rfl, hb1⟩
    have hB1 := hB0.trans (hb1.mono hB0.size)
    have bx1 := bx0.below hb1 bx0.lt
    have r1 := r0.below hb1 r0.lt
    have ha1 := ha0.lift hb1
    obtain ⟨b1_0, b1_1, b1_2, b1_3, _, _, _, _⟩ := bx1.four
    go_wp2_with fail
    refine (XF _).mono ?_
    rintro e w2 ⟨rfl, hb2⟩
    have hB2 := hB1.trans (hb2.mono hB1.size)
    have bx2 := bx1.below hb2 bx1.lt
    have r2 := r1.below hb2 r1.lt
    have ha2 := ha1.lift hb2
    obtain ⟨b2_0, b2_1, b2_2, b2_3, _, _, _, _⟩ := bx2.four
    obtain ⟨c0, c1, c2, _, _, _⟩ := r2.three
    go_wp2_with fail
    refine bodyPost_ret (v := .agg #[.int .i64 3, .bool false, .slice none 0 0]) (by simp [results, Tryz.results106, go_sem, c0, c1, c2]) rfl ?_
    exact ⟨_, _, _, rfl, Ow.nil, (((hB2.setCell (by simp) _).setCell (by simp) _).setCell (by simp) _)⟩
  have XF := specSampleFault x0 x1 x2 x3
  rw [hf] at XF
  have HL := fun W (h1 : Rd eS W W.heap.size A l) h2 h3 => l3Find A n c l w.heap.size 0 x0 x1 x2 x3 W h1 hn (by unfold maxLen; omega) h2 h3
  rcases findI_or l (x0, x1, x2, x3) with hi | ⟨k, hi, hk⟩
  · rw [hi] at HL
    by_cases hfull : 160 ≤ n
    · rw [show insertM l (x0, x1, x2, x3) = (7, false, []) by unfold insertM; rw [if_neg (by simp [h0]), if_neg (by simp [hf]), if_neg (by rw [hi]; omega), if_pos (by omega)]]
      have hfi : (160 : Int) ≤ (n : Int) := by omega
      clear hf h0 hi
      go_enter Tryz.func106, Tryz.ntmps106
      go_wp2_with fail
      refine (HF).mono ?_
      rintro e w1 ⟨rfl, hb1⟩
      have hB1 := hB0.trans (hb1.mono hB0.size)
      have bx1 := bx0.below hb1 bx0.lt
      have r1 := r0.below hb1 r0.lt
      have ha1 := ha0.lift hb1
      obtain ⟨b1_0, b1_1, b1_2, b1_3, _, _, _, _⟩ := bx1.four
      go_wp2_with fail
      refine (XF _).mono ?_
      rintro e w2 ⟨rfl, hb2⟩
      have hB2 := hB1.trans (hb2.mono hB1.size)
      have bx2 := bx1.below hb2 bx1.lt
      have r2 := r1.below hb2 r1.lt
      have ha2 := ha1.lift hb2
      obtain ⟨b2_0, b2_1, b2_2, b2_3, _, _, _, _⟩ := bx2.four
      go_wp2_with fail
      refine (HL _ ha2 ⟨bx2.cell 0, bx2.cell 1, bx2.cell 2, bx2.cell 3⟩ bx2.lt).mono ?_
      rintro e w3 ⟨rfl, hb3⟩
      have hB3 := hB2.trans (hb3.mono hB2.size)
      have bx3 := bx2.below hb3 bx2.lt
      have r3 := r2.below hb3 r2.lt
      have ha3 := ha2.lift hb3
      obtain ⟨b3_0, b3_1, b3_2, b3_3, _, _, _, _⟩ := bx3.four
      obtain ⟨c0, c1, c2, _, _, _⟩ := r3.three
      go_wp2_with fail
      refine bodyPost_ret (v := .agg #[.int .i64 7, .bool false, .slice none 0 0]) (by simp [results, Tryz.results106, go_sem, c0, c1, c2]) rfl ?_
      exact ⟨_, _, _, rfl, Ow.nil, (((hB3.setCell (by simp) _).setCell (by simp) _).setCell (by simp) _)⟩
    · rw [show insertM l (x0, x1, x2, x3) = (0, true, insM l (x0, x1, x2, x3)) by unfold insertM; rw [if_neg (by simp [h0]), if_neg (by simp [hf]), if_neg (by rw [hi]; omega), if_neg (by omega)]]
      have hfi : ¬ (160 : Int) ≤ (n : Int) := by omega
      clear hf h0 hi
      go_enter Tryz.func106, Tryz.ntmps106
      go_wp2_with fail
      refine (HF).mono ?_
      rintro e w1 ⟨rfl, hb1⟩
      have hB1 := hB0.trans (hb1.mono hB0.size)
      have bx1 := bx0.below hb1 bx0.lt
      have r1 := r0.below hb1 r0.lt
      have ha1 := ha0.lift hb1
      obtain ⟨b1_0, b1_1, b1_2, b1_3, _, _, _, _⟩ := bx1.four
      go_wp2_with fail
      refine (XF _).mono ?_
      rintro e w2 ⟨rfl, hb2⟩
      have hB2 := hB1.trans (hb2.mono hB1.size)
      have bx2 := bx1.below hb2 bx1.lt
      have r2 := r1.below hb2 r1.lt
      have ha2 := ha1.lift hb2
      obtain ⟨b2_0, b2_1, b2_2, b2_3, _, _, _, _⟩ := bx2.four
      go_wp2_with fail
      refine (HL _ ha2 ⟨bx2.cell 0, bx2.cell 1, bx2.cell 2, bx2.cell 3⟩ bx2.lt).mono ?_
      rintro e w3 ⟨rfl, hb3⟩
      have hB3 := hB2.trans (hb3.mono hB2.size)
      have bx3 := bx2.below hb3 bx2.lt
      have r3 := r2.below hb3 r2.lt
      have ha3 := ha2.lift hb3
      obtain ⟨b3_0, b3_1, b3_2, b3_3, _, _, _, _⟩ := bx3.four
      go_wp2_with fail
      refine (l3Insert A n c l x0 x1 x2 x3 _ ha3 hn hm).mono ?_
      rintro e w4 ⟨A4, c4, rfl, ow4, hb4⟩
      have hB4 := hB3.trans (hb4.mono hB3.size)
      have bx4 := bx3.below hb4 bx3.lt
      have r4 := r3.below hb4 r3.lt
      have ha4 := ha3.lift hb4
      obtain ⟨b4_0, b4_1, b4_2, b4_3, _, _, _, _⟩ := bx4.four
      obtain ⟨c0, c1, c2, _, _, _⟩ := r4.three
      go_wp2_with fail
      refine bodyPost_ret (v := .agg #[.int .i64 0, .bool true, .slice A4 (n + 1) c4]) (by simp [results, Tryz.results106, go_sem, c0, c1, c2]) rfl ?_
      exact ⟨_, _, _, rfl, ((((ow4.under (p := ⟨w.heap.size + 1, 0, none⟩) r3.lt _).under (p := ⟨w.heap.size + 1, 1, none⟩) r3.lt _).under (p := ⟨w.heap.size + 1, 2, none⟩) r3.lt _).from_ hB3.size), (((hB4.setCell (by simp) _).setCell (by simp) _).setCell (by simp) _)⟩
  · rw [hi] at HL
    rw [show insertM l (x0, x1, x2, x3) = (0, false, l) by unfold insertM; rw [if_neg (by simp [h0]), if_neg (by simp [hf]), if_pos (by rw [hi]; omega)]]
    have hk0 : (0 : Int) ≤ (k : Int) := by omega
    clear hf h0 hi
    go_enter Tryz.func106, Tryz.ntmps106
    go_wp2_with fail
    refine (HF).mono ?_
    rintro e w1 ⟨rfl, hb1⟩
    have hB1 := hB0.trans (hb1.mono hB0.size)
    have bx1 := bx0.below hb1 bx0.lt
    have r1 := r0.below hb1 r0.lt
    have ha1 := ha0.lift hb1
    obtain ⟨b1_0, b1_1, b1_2, b1_3, _, _, _, _⟩ := bx1.four
    go_wp2_with fail
    refine (XF _).mono ?_
    rintro e w2 ⟨rfl, hb2⟩
    have hB2 := hB1.trans (hb2.mono hB1.size)
    have bx2 := bx1.below hb2 bx1.lt
    have r2 := r1.below hb2 r1.lt
    have ha2 := ha1.lift hb2
    obtain ⟨b2_0, b2_1, b2_2, b2_3, _, _, _, _⟩ := bx2.four
    go_wp2_with fail
    refine (HL _ ha2 ⟨bx2.cell 0, bx2.cell 1, bx2.cell 2, bx2.cell 3⟩ bx2.lt).mono ?_
    rintro e w3 ⟨rfl, hb3⟩
    have hB3 := hB2.trans (hb3.mono hB2.size)
    have bx3 := bx2.below hb3 bx2.lt
    have r3 := r2.below hb3 r2.lt
    have ha3 := ha2.lift hb3
    obtain ⟨b3_0, b3_1, b3_2, b3_3, _, _, _, _⟩ := bx3.four
    go_wp2_with fail
    refine (l3Copy A n c l _ ha3 hn hm).mono ?_
    rintro e w4 ⟨A4, c4, rfl, ow4, hb4⟩
    have hB4 := hB3.trans (hb4.mono hB3.size)
    have bx4 := bx3.below hb4 bx3.lt
    have r4 := r3.below hb4 r3.lt
    have ha4 := ha3.lift hb4
    obtain ⟨b4_0, b4_1, b4_2, b4_3, _, _, _, _⟩ := bx4.four
    obtain ⟨c0, c1, c2, _, _, _⟩ := r4.three
    go_wp2_with fail
    refine bodyPost_ret (v := .agg #[.int .i64 0, .bool false, .slice A4 n c4]) (by simp [results, Tryz.results106, go_sem, c0, c1, c2]) rfl ?_
    exact ⟨_, _, _, rfl, ((((ow4.under (p := ⟨w.heap.size + 1, 0, none⟩) r3.lt _).under (p := ⟨w.heap.size + 1, 1, none⟩) r3.lt _).under (p := ⟨w.heap.size + 1, 2, none⟩) r3.lt _).from_ hB3.size), (((hB4.setCell (by simp) _).setCell (by simp) _).setCell (by simp) _)⟩

theorem findI_find {l : List Smp} {x : Smp} {k : Nat} (h : findI l x = (k : Int)) : findM l x = some k := by
  unfold findI at h
  rcases hf : findM l x with _ | i
  · rw [hf] at h
    simp only at h
    omega
  · rw [hf] at h
    simp only at h
    rw [show i = k by omega]
theorem findI_miss {l : List Smp} {x : Smp} (h : findI l x = -1) : findM l x = none := by
  unfold findI at h
  rcases hf : findM l x with _ | i
  · rfl
  · rw [hf] at h
    simp only at h
    omega

end Go.Proofs.YtmaillakhhdkfaaGreatDoor
/-
  What is asked for of a store, and two merged: the model's.
-/
namespace Go.Proofs.YtmaillakhhdkfaaGreatDoor
set_option maxRecDepth 20000
open Go.RowKit
set_option linter.unusedSimpArgs false

def wantM (s f t : Int) (x : Smp) : Bool := decide (x.1 = s) && inB (x.2.1, f, t)
def queryM (l : List Smp) (s f t : Int) : List Smp := l.filter (wantM s f t)
theorem query_next {l : List Smp} {k : Nat} {a : Smp} (s f t : Int) (h : l[k]? = some a) : queryM (l.take (k + 1)) s f t = queryM (l.take k) s f t ++ (if wantM s f t a then [a] else []) := by
  unfold queryM
  rw [take_next h, List.filter_append]
  congr 1
  simp [List.filter_cons]
/-- What QueryStore answers. -/
def queryStoreM (l : List Smp) (s f t : Int) : Int × List Smp := if storeFaultM l ≠ 0 then (storeFaultM l, []) else if inB (s, 0, 9) = false then (3, []) else (0, queryM l s f t)

def QueryRel (w : World) (l : List Smp) (s f t : Int) (n : Nat) (o i : Value) (wr : World) : Prop :=
  ∃ (k : Nat) (A : Option Addr) (L c : Nat), k ≤ n ∧ i = .int .i64 k ∧ o = .slice A L c ∧ L ≤ k ∧ Ow eS wr w.heap.size A L c (queryM (l.take k) s f t) ∧ Below w.heap.size w wr

def mergeStep (a : List Smp) (out : List Smp) (x : Smp) : List Smp := if findI a x < 0 then insM out x else out
def mergeM (a b : List Smp) : List Smp := b.foldl (mergeStep a) a
theorem merge_next {b : List Smp} {k : Nat} {x : Smp} (a : List Smp) (h : b[k]? = some x) : (b.take (k + 1)).foldl (mergeStep a) a = mergeStep a ((b.take k).foldl (mergeStep a) a) x := by
  rw [take_next h, List.foldl_append]
  rfl
/-- What MergeLists answers. -/
def mergeListsM (a b : List Smp) : Int × List Smp := if storeFaultM a ≠ 0 then (storeFaultM a, []) else if storeFaultM b ≠ 0 then (storeFaultM b, []) else if 160 < (mergeM a b).length then (7, []) else (0, mergeM a b)
def MergeRel (w : World) (a b : List Smp) (n m : Nat) (o i : Value) (wr : World) : Prop :=
  ∃ (k : Nat) (A : Option Addr) (L c : Nat), k ≤ m ∧ i = .int .i64 k ∧ o = .slice A L c ∧ L ≤ n + k ∧ Ow eS wr w.heap.size A L c ((b.take k).foldl (mergeStep a) a) ∧ Below w.heap.size w wr

theorem queryStore_le (l : List Smp) (s f t : Int) : (queryStoreM l s f t).2.length ≤ l.length := by
  unfold queryStoreM queryM
  repeat (first | split | exact Nat.zero_le _ | exact List.length_filter_le _ _)
theorem mergeLists_le (a b : List Smp) : (mergeListsM a b).2.length ≤ 160 := by
  unfold mergeListsM
  repeat (first | split | exact Nat.zero_le _ | (simp only; omega))
end Go.Proofs.YtmaillakhhdkfaaGreatDoor
/-
  What stores are, of the pure answers: in order, right, each key once; what is put in and merged.
-/
namespace Go.Proofs.YtmaillakhhdkfaaGreatDoor
set_option maxRecDepth 20000

theorem keyOrd (a b : Smp) : (aheadM a b = true ∧ aheadM b a = false ∧ sameKeyM a b = false) ∨ (aheadM a b = false ∧ aheadM b a = true ∧ sameKeyM a b = false) ∨ (aheadM a b = false ∧ aheadM b a = false ∧ sameKeyM a b = true) := by
  obtain ⟨a0, a1, a2, a3⟩ := a
  obtain ⟨b0, b1, b2, b3⟩ := b
  unfold aheadM sameKeyM
  simp only
  rcases Int.lt_trichotomy a0 b0 with h | h | h
  · have h1 : ¬ a0 = b0 := by omega
    have h2 : ¬ b0 = a0 := by omega
    have h3 : ¬ b0 < a0 := by omega
    exact .inl ⟨by simp [h1, h], by simp [h2, h3], by simp [h1]⟩
  · subst h
    rcases Int.lt_trichotomy a1 b1 with h | h | h
    · have h1 : ¬ a1 = b1 := by omega
      have h2 : ¬ b1 = a1 := by omega
      exact .inl ⟨by simp [h], by simp [h2]; omega, by simp [h1]⟩
    · subst h
      rcases Int.lt_trichotomy a2 b2 with h | h | h
      · exact .inl ⟨by simp [h], by simp; omega, by simp; omega⟩
      · subst h
        exact .inr (.inr ⟨by simp, by simp, by simp⟩)
      · exact .inr (.inl ⟨by simp; omega, by simp [h], by simp; omega⟩)
    · have h1 : ¬ a1 = b1 := by omega
      exact .inr (.inl ⟨by simp [h1]; omega, by simp [h], by simp [h1]⟩)
  · have h1 : ¬ a0 = b0 := by omega
    have h2 : ¬ b0 = a0 := by omega
    exact .inr (.inl ⟨by simp [h1]; omega, by simp [h2, h], by simp [h1]⟩)

theorem ahead_iff (a b : Smp) : aheadM a b = true ↔ a.1 < b.1 ∨ (a.1 = b.1 ∧ (a.2.1 < b.2.1 ∨ (a.2.1 = b.2.1 ∧ a.2.2.1 < b.2.2.1))) := by
  unfold aheadM
  by_cases h : a.1 = b.1
  · simp [h]
  · simp [h]

theorem same_iff (a b : Smp) : sameKeyM a b = true ↔ a.1 = b.1 ∧ a.2.1 = b.2.1 ∧ a.2.2.1 = b.2.2.1 := by
  unfold sameKeyM
  simp

theorem ahead_trans {a b c : Smp} (h : aheadM a b = true) (k : aheadM b c = true) : aheadM a c = true := by
  rw [ahead_iff] at *
  omega

theorem ahead_keys {a b c : Smp} (h : sameKeyM a b = true) : aheadM a c = aheadM b c := by
  rw [Bool.eq_iff_iff, ahead_iff, ahead_iff]
  rw [same_iff] at h
  omega

theorem same_symm (a b : Smp) : sameKeyM a b = sameKeyM b a := by
  rw [Bool.eq_iff_iff, same_iff, same_iff]
  omega

theorem ahead_not_same {a b : Smp} (h : aheadM a b = true) : sameKeyM a b = false := by
  rcases keyOrd a b with ⟨_, _, k⟩ | ⟨k, _⟩ | ⟨k, _⟩
  · exact k
  · rw [h] at k; cases k
  · rw [h] at k; cases k

/-- A row in order: each ahead of each behind it. -/
def Asc (l : List Smp) : Prop := l.Pairwise fun a b => aheadM a b = true

theorem asc_of_steps : ∀ {l : List Smp}, (∀ j, j + 1 < l.length → stepM l j = true) → Asc l
  | [], _ => List.Pairwise.nil
  | a :: l, h => by
    have hl : Asc l := asc_of_steps fun j hj => by
      have := h (j + 1) (by simpa using hj)
      simpa [stepM] using this
    refine List.pairwise_cons.2 ⟨?_, hl⟩
    match l, h, hl with
    | [], _, _ => simp
    | b :: l, h, hl =>
      have h0 : aheadM a b = true := by simpa [stepM] using h 0 (by simp)
      intro y hy
      rcases List.mem_cons.1 hy with rfl | hy
      · exact h0
      · exact ahead_trans h0 ((List.pairwise_cons.1 hl).1 y hy)

theorem steps_of_asc {l : List Smp} (h : Asc l) (j : Nat) : stepM l j = true := by
  unfold stepM
  rcases ha : l[j]? with _ | a
  · simp
  rcases hb : l[j + 1]? with _ | b
  · simp
  simp only
  have h1 := getElem?_some_lt hb
  rw [List.getElem?_eq_getElem (by omega)] at ha hb
  cases ha
  cases hb
  exact List.pairwise_iff_getElem.1 h j (j + 1) (by omega) h1 (by omega)

def Right (l : List Smp) : Prop := ∀ x ∈ l, faultM x = 0

theorem storeFault_iff (l : List Smp) : storeFaultM l = 0 ↔ l.length ≤ 160 ∧ Right l ∧ Asc l := by
  unfold storeFaultM
  constructor
  · intro h
    split at h
    · cases h
    split at h
    · cases h
    split at h
    · cases h
    · rename_i h1 h2 h3
      refine ⟨by omega, fun x hx => ?_, asc_of_steps fun j hj => ?_⟩
      · have : rightM l = true := by simpa using h2
        unfold rightM at this
        rw [List.all_eq_true] at this
        simpa using this x hx
      · have : risesM l = true := by simpa using h3
        unfold risesM at this
        rw [List.all_eq_true] at this
        exact this j (by simp; omega)
  · rintro ⟨h1, h2, h3⟩
    have k2 : rightM l = true := by
      unfold rightM
      rw [List.all_eq_true]
      exact fun x hx => decide_eq_true (h2 x hx)
    have k3 : risesM l = true := by
      unfold risesM
      rw [List.all_eq_true]
      exact fun j _ => steps_of_asc h3 j
    rw [if_neg (by omega), k2, k3]
    simp

theorem findI_neg (l : List Smp) (x : Smp) : findI l x < 0 ↔ ∀ a ∈ l, sameKeyM a x = false := by
  unfold findI
  constructor
  · intro h a ha
    rcases hf : findM l x with _ | i
    · unfold findM at hf
      rw [List.find?_range_eq_none] at hf
      obtain ⟨k, hk⟩ := List.mem_iff_getElem?.1 ha
      have := hf k (getElem?_some_lt hk)
      rw [hitM_at hk] at this
      simpa using this
    · rw [hf] at h
      simp only at h
      omega
  · intro h
    have : findM l x = none := by
      unfold findM
      rw [List.find?_range_eq_none]
      intro j hj
      rw [hitM_at (List.getElem?_eq_getElem hj)]
      simp [h _ (List.getElem_mem hj)]
    rw [this]
    simp

theorem mem_insM (l : List Smp) (x y : Smp) : y ∈ insM l x ↔ y = x ∨ y ∈ l := by
  unfold insM
  split
  · rename_i p _
    rw [List.mem_append, List.mem_cons]
    constructor
    · rintro (h | h | h)
      · exact .inr (List.mem_of_mem_take h)
      · exact .inl h
      · exact .inr (List.mem_of_mem_drop h)
    · rintro (h | h)
      · exact .inr (.inl h)
      · rw [← List.take_append_drop p l, List.mem_append] at h
        rcases h with h | h
        · exact .inl h
        · exact .inr (.inr h)
  · simp [or_comm]

theorem asc_insM {l : List Smp} {x : Smp} (h : Asc l) (hx : ∀ a ∈ l, sameKeyM a x = false) : Asc (insM l x) := by
  have low : ∀ a ∈ l, aheadM x a = false → aheadM a x = true := fun a ha k => by
    rcases keyOrd x a with ⟨k1, _⟩ | ⟨_, k1, _⟩ | ⟨_, _, k1⟩
    · rw [k] at k1; cases k1
    · exact k1
    · rw [same_symm, hx a ha] at k1; cases k1
  unfold insM
  split
  · rename_i p hp
    unfold spotM at hp
    rw [List.find?_range_eq_some] at hp
    obtain ⟨hf, hlt, hal⟩ := hp
    have hlt : p < l.length := by simpa using hlt
    have hat : ∀ (j : Nat) (hj : j < l.length), frontOf l x j = aheadM x l[j] := fun j hj => frontOf_at (List.getElem?_eq_getElem hj)
    have hd : Asc (l.drop p) := List.Pairwise.sublist (List.drop_sublist p l) h
    have ht : Asc (l.take p) := List.Pairwise.sublist (List.take_sublist p l) h
    have hxp : aheadM x l[p] = true := by rw [← hat p hlt]; exact hf
    have hdc : l.drop p = l[p] :: l.drop (p + 1) := List.drop_eq_getElem_cons hlt
    have hxd : ∀ b ∈ l.drop p, aheadM x b = true := fun b hb => by
      rw [hdc] at hb hd
      rcases List.mem_cons.1 hb with rfl | hb
      · exact hxp
      · exact ahead_trans hxp ((List.pairwise_cons.1 hd).1 b hb)
    have htx : ∀ a ∈ l.take p, aheadM a x = true := fun a ha => by
      obtain ⟨j, hj, rfl⟩ := List.mem_take_iff_getElem.1 ha
      refine low _ (List.getElem_mem _) ?_
      have := hal j (by omega)
      rw [hat j (by omega)] at this
      simpa using this
    refine List.pairwise_append.2 ⟨ht, List.pairwise_cons.2 ⟨hxd, hd⟩, fun a ha b hb => ?_⟩
    rcases List.mem_cons.1 hb with rfl | hb
    · exact htx a ha
    · exact ahead_trans (htx a ha) (hxd b hb)
  · rename_i hp
    unfold spotM at hp
    rw [List.find?_range_eq_none] at hp
    refine List.pairwise_append.2 ⟨h, List.pairwise_singleton _ _, fun a ha b hb => ?_⟩
    rw [List.mem_singleton] at hb
    subst hb
    obtain ⟨j, hj, rfl⟩ := List.mem_iff_getElem.1 ha
    refine low _ ha ?_
    have := hp j hj
    rw [frontOf_at (List.getElem?_eq_getElem hj)] at this
    simpa using this

/-- What is merged: the first row, and what the second has besides, in order. -/
theorem merge_facts (a : List Smp) (ha : Asc a) (hr : Right a) : ∀ (b : List Smp), Asc b → Right b → ∀ out : List Smp, Asc out → Right out → (∀ y ∈ a, y ∈ out) → (∀ y ∈ out, (∃ z ∈ a, z = y) ∨ ∀ x ∈ b, aheadM y x = true) →
    Asc (b.foldl (mergeStep a) out) ∧ Right (b.foldl (mergeStep a) out) ∧ (∀ y ∈ out, y ∈ b.foldl (mergeStep a) out) ∧ (∀ x ∈ b, ∃ y ∈ b.foldl (mergeStep a) out, sameKeyM y x = true)
  | [], _, _, out, h1, h2, _, _ => ⟨h1, h2, fun _ h => h, fun _ h => by simp at h⟩
  | x :: b, hb, hbr, out, h1, h2, h3, h4 => by
    obtain ⟨hx, hb'⟩ := List.pairwise_cons.1 hb
    have hbr' : Right b := fun y hy => hbr y (List.mem_cons_of_mem _ hy)
    rw [List.foldl_cons]
    by_cases hf : findI a x < 0
    · have hs : mergeStep a out x = insM out x := if_pos hf
      rw [hs]
      have hno : ∀ y ∈ out, sameKeyM y x = false := fun y hy => by
        rcases h4 y hy with ⟨z, hz, rfl⟩ | h
        · exact (findI_neg a x).1 hf z hz
        · exact ahead_not_same (h x List.mem_cons_self)
      obtain ⟨k1, k2, k3, k4⟩ := merge_facts a ha hr b hb' hbr' (insM out x) (asc_insM h1 hno)
        (fun y hy => by
          rcases (mem_insM out x y).1 hy with rfl | hy
          · exact hbr y List.mem_cons_self
          · exact h2 y hy)
        (fun y hy => (mem_insM out x y).2 (.inr (h3 y hy)))
        (fun y hy => by
          rcases (mem_insM out x y).1 hy with rfl | hy
          · exact .inr hx
          · rcases h4 y hy with h | h
            · exact .inl h
            · exact .inr fun z hz => h z (List.mem_cons_of_mem _ hz))
      refine ⟨k1, k2, fun y hy => k3 y ((mem_insM out x y).2 (.inr hy)), fun z hz => ?_⟩
      rcases List.mem_cons.1 hz with rfl | hz
      · exact ⟨z, k3 z ((mem_insM out z z).2 (.inl rfl)), (same_iff z z).2 ⟨rfl, rfl, rfl⟩⟩
      · exact k4 z hz
    · have hs : mergeStep a out x = out := if_neg hf
      rw [hs]
      obtain ⟨k1, k2, k3, k4⟩ := merge_facts a ha hr b hb' hbr' out h1 h2 h3 (fun y hy => by
        rcases h4 y hy with h | h
        · exact .inl h
        · exact .inr fun z hz => h z (List.mem_cons_of_mem _ hz))
      refine ⟨k1, k2, k3, fun z hz => ?_⟩
      rcases List.mem_cons.1 hz with rfl | hz
      · obtain ⟨y, hy, he⟩ : ∃ y ∈ a, sameKeyM y z = true := by
          refine Classical.byContradiction fun hc => hf ((findI_neg a z).2 fun y hy => ?_)
          rcases he : sameKeyM y z with _ | _
          · rfl
          · exact absurd ⟨y, hy, he⟩ hc
        exact ⟨y, k3 y (h3 y hy), he⟩
      · exact k4 z hz

/-- A row that has every key already: nothing comes in. -/
theorem merge_none (a : List Smp) : ∀ (b : List Smp) (out : List Smp), (∀ x ∈ b, ∃ y ∈ a, sameKeyM y x = true) → b.foldl (mergeStep a) out = out
  | [], _, _ => rfl
  | x :: b, out, h => by
    rw [List.foldl_cons]
    have hf : ¬ findI a x < 0 := fun hc => by
      obtain ⟨y, hy, he⟩ := h x List.mem_cons_self
      rw [(findI_neg a x).1 hc y hy] at he
      cases he
    rw [show mergeStep a out x = out from if_neg hf]
    exact merge_none a b out fun z hz => h z (List.mem_cons_of_mem _ hz)

/-- What MergeLists answers with no fault: all of both, a right store, and merged again it stays. -/
theorem merge_said {a b m : List Smp} (h : mergeListsM a b = (0, m)) :
    storeFaultM m = 0 ∧ (∀ x ∈ a, x ∈ m) ∧ (∀ x ∈ b, ¬ findI m x < 0) ∧ mergeListsM m b = (0, m) ∧ mergeListsM m a = (0, m) := by
  unfold mergeListsM at h
  by_cases fa : storeFaultM a = 0
  · rw [if_neg (by simpa using fa)] at h
    by_cases fb : storeFaultM b = 0
    · rw [if_neg (by simpa using fb)] at h
      by_cases hl : 160 < (mergeM a b).length
      · rw [if_pos hl] at h
        simp at h
      · rw [if_neg hl] at h
        obtain rfl : mergeM a b = m := (Prod.mk.inj h).2
        obtain ⟨_, ra, sa⟩ := (storeFault_iff a).1 fa
        obtain ⟨_, rb, sb⟩ := (storeFault_iff b).1 fb
        obtain ⟨k1, k2, k3, k4⟩ := merge_facts a sa ra b sb rb a sa ra (fun _ h => h) (fun y hy => .inl ⟨y, hy, rfl⟩)
        have fm : storeFaultM (mergeM a b) = 0 := (storeFault_iff _).2 ⟨by omega, k2, k1⟩
        have nb : mergeM (mergeM a b) b = mergeM a b := merge_none _ b _ k4
        have na : mergeM (mergeM a b) a = mergeM a b := merge_none _ a _ fun x hx => ⟨x, k3 x hx, (same_iff x x).2 ⟨rfl, rfl, rfl⟩⟩
        refine ⟨fm, k3, fun x hx hc => ?_, ?_, ?_⟩
        · obtain ⟨y, hy, he⟩ := k4 x hx
          rw [(findI_neg _ x).1 hc y hy] at he
          cases he
        · unfold mergeListsM
          rw [if_neg (by simpa using fm), if_neg (by simpa using fb), nb, if_neg hl]
        · unfold mergeListsM
          rw [if_neg (by simpa using fm), if_neg (by simpa using fa), na, if_neg hl]
    · rw [if_pos fb] at h
      exact absurd (Prod.mk.inj h).1 fb
  · rw [if_pos fa] at h
    exact absurd (Prod.mk.inj h).1 fa
theorem findM_hit {l : List Smp} {x : Smp} (h : ¬ findI l x < 0) : ∃ (i : Nat) (a : Smp), findM l x = some i ∧ l[i]? = some a ∧ a ∈ l ∧ sameKeyM a x = true := by
  unfold findI at h
  rcases hf : findM l x with _ | i
  · rw [hf] at h
    simp at h
  · have h1 := hf
    unfold findM at h1
    rw [List.find?_range_eq_some] at h1
    obtain ⟨hh, hlt, _⟩ := h1
    have hlt : i < l.length := by simpa using hlt
    refine ⟨i, l[i], rfl, List.getElem?_eq_getElem hlt, List.getElem_mem hlt, ?_⟩
    rw [← hitM_at (List.getElem?_eq_getElem hlt)]
    exact hh

/-- In a row in order a key is there once. -/
theorem asc_one {l : List Smp} (h : Asc l) {a b : Smp} (ha : a ∈ l) (hb : b ∈ l) (hk : sameKeyM a b = true) : a = b := by
  obtain ⟨i, hi, rfl⟩ := List.mem_iff_getElem.1 ha
  obtain ⟨j, hj, rfl⟩ := List.mem_iff_getElem.1 hb
  rcases Nat.lt_trichotomy i j with h1 | h1 | h1
  · have := ahead_not_same (List.pairwise_iff_getElem.1 h i j hi hj h1)
    rw [hk] at this; cases this
  · subst h1; rfl
  · have := ahead_not_same (List.pairwise_iff_getElem.1 h j i hj hi h1)
    rw [same_symm, hk] at this; cases this

/-- What InsertSample answers with no fault: a right store that has the sample's key, put in again it stays, and a new one is found as it is. -/
theorem insert_said {l st : List Smp} {x : Smp} {new : Bool} (h : insertM l x = (0, new, st)) :
    storeFaultM st = 0 ∧ insertM st x = (0, false, st) ∧ (lookM st x).1 = 0 ∧ (new = true → (lookM st x).2 = x) := by
  have core : storeFaultM st = 0 → faultM x = 0 → ¬ findI st x < 0 → (new = true → x ∈ st) → storeFaultM st = 0 ∧ insertM st x = (0, false, st) ∧ (lookM st x).1 = 0 ∧ (new = true → (lookM st x).2 = x) := by
    intro fs fx hf hn
    obtain ⟨i, a, hi, ha, hal, hk⟩ := findM_hit hf
    refine ⟨fs, ?_, ?_, fun hnew => ?_⟩
    · unfold insertM
      rw [if_neg (by simpa using fs), if_neg (by simpa using fx), if_pos (by omega)]
    · unfold lookM
      rw [if_neg (by simpa using fs), hi]
    · unfold lookM
      rw [if_neg (by simpa using fs), hi]
      simp only [ha, Option.getD_some]
      exact asc_one ((storeFault_iff st).1 fs).2.2 hal (hn hnew) hk
  unfold insertM at h
  by_cases fl : storeFaultM l = 0
  · rw [if_neg (by simpa using fl)] at h
    by_cases fx : faultM x = 0
    · rw [if_neg (by simpa using fx)] at h
      by_cases hf : 0 ≤ findI l x
      · rw [if_pos hf] at h
        have e := Prod.mk.inj h
        have e2 := Prod.mk.inj e.2
        obtain rfl := e2.2
        exact core fl fx (by omega) (fun hn => by rw [← e2.1] at hn; cases hn)
      · rw [if_neg hf] at h
        by_cases hl : 160 ≤ l.length
        · rw [if_pos hl] at h
          simp at h
        · rw [if_neg hl] at h
          have e2 := Prod.mk.inj (Prod.mk.inj h).2
          obtain rfl := e2.2
          have hno := (findI_neg l x).1 (by omega)
          obtain ⟨_, rl, sl⟩ := (storeFault_iff l).1 fl
          have hx : x ∈ insM l x := (mem_insM l x x).2 (.inl rfl)
          refine core ((storeFault_iff _).2 ⟨by rw [insM_len]; omega, fun y hy => ?_, asc_insM sl hno⟩) fx (fun hc => ?_) (fun _ => hx)
          · rcases (mem_insM l x y).1 hy with rfl | hy
            · exact fx
            · exact rl y hy
          · have := (findI_neg _ x).1 hc x hx
            rw [(same_iff x x).2 ⟨rfl, rfl, rfl⟩] at this
            cases this
    · rw [if_pos fx] at h
      exact absurd (Prod.mk.inj h).1 fx
  · rw [if_pos fl] at h
    exact absurd (Prod.mk.inj h).1 fl

theorem find_said {m : List Smp} {x : Smp} (hs : storeFaultM m = 0) (h : ¬ findI m x < 0) : (lookM m x).1 = 0 := by
  obtain ⟨i, a, hi, _⟩ := findM_hit h
  unfold lookM
  rw [if_neg (by simpa using hs), hi]

/-- What is told stands where the count of those in front says. -/
theorem query_at {l : List Smp} {k : Nat} {a : Smp} (s f t : Int) (h : l[k]? = some a) (hw : wantM s f t a = true) : (queryM l s f t)[(queryM (l.take k) s f t).length]? = some a := by
  have hk := getElem?_some_lt h
  have hd : l = l.take k ++ a :: l.drop (k + 1) := by
    rw [List.getElem?_eq_getElem hk] at h
    cases h
    rw [← List.drop_eq_getElem_cons hk, List.take_append_drop]
  conv => lhs; arg 1; rw [hd]
  unfold queryM
  rw [List.filter_append, List.filter_cons, if_pos hw, List.getElem?_append_right (Nat.le_refl _)]
  simp
end Go.Proofs.YtmaillakhhdkfaaGreatDoor
/-
  What the law of hints says, of the pure answers.
-/
namespace Go.Proofs.YtmaillakhhdkfaaGreatDoor
set_option maxRecDepth 20000
open Go.RowKit
set_option linter.unusedSimpArgs false
set_option linter.unusedVariables false

theorem findH_none_iff {l : List Hnt} {p i : Int} : findH l p i = none ↔ ∀ a ∈ l, ¬ (a.1 = p ∧ idH a = i) := by
  constructor
  · intro h a ha hp
    unfold findH at h
    rw [List.find?_range_eq_none] at h
    obtain ⟨j, hj⟩ := List.mem_iff_getElem?.1 ha
    have := h j (getElem?_some_lt hj)
    rw [hitH_at hj] at this
    simp [hp.1, hp.2] at this
  · intro h
    refine findH_none fun j hj => ?_
    have hx : l[j]? = some l[j] := List.getElem?_eq_getElem hj
    rw [hitH_at hx]
    have := h _ (List.mem_of_getElem? hx)
    simp only [Bool.and_eq_false_iff, decide_eq_false_iff_not]
    by_cases h1 : l[j].1 = p
    · exact .inr fun h2 => this ⟨h1, h2⟩
    · exact .inl h1
theorem findHI_neg {l : List Hnt} {p i : Int} (h : ¬ 0 ≤ findHI l p i) : findH l p i = none := by
  rcases findHI_or l p i with ⟨_, h2⟩ | ⟨k, h1, _, _⟩
  · exact h2
  · omega
theorem findH_last {l : List Hnt} {h : Hnt} (hn : findH l h.1 (idH h) = none) : findH (l ++ [h]) h.1 (idH h) = some l.length := by
  refine findH_some (by simp) ?_ fun j hj => ?_
  · rw [hitH_at (a := h) (by simp)]
    simp
  · have hx : l[j]? = some l[j] := List.getElem?_eq_getElem hj
    rw [hitH_at (a := l[j]) (by rw [List.getElem?_append_left hj, hx])]
    have := findH_none_iff.1 hn _ (List.mem_of_getElem? hx)
    simp only [Bool.and_eq_false_iff, decide_eq_false_iff_not]
    by_cases h1 : l[j].1 = h.1
    · exact .inr fun h2 => this ⟨h1, h2⟩
    · exact .inl h1
/-- What is added is there, and gone again when it is done. -/
theorem add_said {h al : List Hnt} {p x1 x2 x3 x4 : Int} (k : addM h p (x1, x2, x3, x4) = (0, al)) : hintsFaultM al = 0 ∧ doneM al p x3 = (0, h) ∧ (addM al p (x1, x2, x3, x4)).1 = 6 := by
  unfold addM at k
  by_cases h0 : hintsFaultM h = 0
  rotate_left
  · rw [if_pos h0] at k
    exact absurd (Prod.mk.inj k).1 h0
  rw [if_neg (by simp [h0])] at k
  by_cases hf : faultM (x1, x2, x3, x4) = 0
  rotate_left
  · rw [if_pos hf] at k
    exact absurd (Prod.mk.inj k).1 (by decide)
  rw [if_neg (by simp [hf])] at k
  rcases hp : inB (p, 0, 3)
  · rw [if_pos hp] at k
    exact absurd (Prod.mk.inj k).1 (by decide)
  rw [if_neg (by simp [hp])] at k
  by_cases hi : 0 ≤ findHI h p x3
  · rw [if_pos hi] at k
    exact absurd (Prod.mk.inj k).1 (by decide)
  rw [if_neg hi] at k
  by_cases h8 : 8 ≤ h.length
  · rw [if_pos h8] at k
    exact absurd (Prod.mk.inj k).1 (by decide)
  rw [if_neg h8] at k
  obtain rfl := (Prod.mk.inj k).2
  have hn := findHI_neg hi
  obtain ⟨g1, g2, g3⟩ := (hintsFault_iff h).1 h0
  have hfn : hfaultM (p, (x1, x2, x3, x4), 0, 0) = 0 := hfault_yes hf (by unfold rangeH; rw [hp]; simp [inB])
  have hz : hintsFaultM (h ++ [(p, (x1, x2, x3, x4), 0, 0)]) = 0 := by
    refine (hintsFault_iff _).2 ⟨by simp; omega, fun y hy => ?_, dis_append.2 ⟨g3, fun y hy => ?_⟩⟩
    · rcases List.mem_append.1 hy with hy | hy
      · exact g2 y hy
      · obtain rfl := List.mem_singleton.1 hy
        exact hfn
    · have := findH_none_iff.1 hn y hy
      rcases hs : sameH y (p, (x1, x2, x3, x4), 0, 0)
      · rfl
      · exact absurd ((sameH_iff _ _).1 hs) this
  have hl := findH_last (h := (p, (x1, x2, x3, x4), 0, 0)) hn
  refine ⟨hz, ?_, ?_⟩
  · unfold doneM
    rw [if_neg (by simp [hz]), show findH (h ++ [(p, (x1, x2, x3, x4), 0, 0)]) p x3 = some h.length from hl]
    simp
  · unfold addM
    rw [if_neg (by simp [hz]), if_neg (by simp [hf]), if_neg (by simp [hp]), if_pos]
    unfold findHI
    rw [show findH (h ++ [(p, (x1, x2, x3, x4), 0, 0)]) p x3 = some h.length from hl]
    show (0 : Int) ≤ (h.length : Int)
    omega
/-- What is done is gone. -/
theorem done_said {g dl : List Hnt} {p i : Int} (k : doneM g p i = (0, dl)) : dl.length + 1 = g.length ∧ (doneM dl p i).1 = 4 := by
  unfold doneM at k
  by_cases h0 : hintsFaultM g = 0
  rotate_left
  · rw [if_pos h0] at k
    exact absurd (Prod.mk.inj k).1 h0
  rw [if_neg (by simp [h0])] at k
  rcases hf : findH g p i with _ | j
  · rw [hf] at k
    exact absurd (Prod.mk.inj k).1 (by decide)
  rw [hf] at k
  simp only [Prod.mk.injEq, true_and] at k
  obtain ⟨hlt, hh, hal⟩ := findH_is hf
  obtain ⟨g1, g2, g3⟩ := (hintsFault_iff g).1 h0
  have he : dl = g.eraseIdx j := by rw [List.eraseIdx_eq_take_drop_succ]; exact k.symm
  have hlen : dl.length + 1 = g.length := by
    rw [he, List.length_eraseIdx_of_lt hlt]
    omega
  have hsub : dl.Sublist g := by rw [he]; exact List.eraseIdx_sublist _ _
  have hz : hintsFaultM dl = 0 := (hintsFault_iff dl).2 ⟨by omega, fun y hy => g2 y (hsub.subset hy), g3.sublist hsub⟩
  refine ⟨hlen, ?_⟩
  have hn : findH dl p i = none := by
    refine findH_none_iff.2 fun y hy hp => ?_
    rw [he] at hy
    obtain ⟨m, hne, hm⟩ := List.mem_eraseIdx_iff_getElem?.1 hy
    have hj : g[j]? = some g[j] := List.getElem?_eq_getElem hlt
    have hjp : g[j].1 = p ∧ idH g[j] = i := by
      rw [hitH_at hj] at hh
      simpa using hh
    have hml := getElem?_some_lt hm
    have hsame : sameH g[m] g[j] = true := by
      rw [List.getElem?_eq_getElem hml] at hm
      rw [Option.some.inj hm, sameH_iff]
      exact ⟨hp.1.trans hjp.1.symm, hp.2.trans hjp.2.symm⟩
    rcases Nat.lt_or_ge m j with h | h
    · have := (List.pairwise_iff_getElem.1 g3) m j hml hlt h
      rw [hsame] at this
      cases this
    · have := (List.pairwise_iff_getElem.1 g3) j m hlt hml (by omega)
      rw [sameH_comm, hsame] at this
      cases this
  unfold doneM
  rw [if_neg (by simp [hz]), hn]
/-- What was sent is due later, not later than it may, and stays. -/
theorem sent_said {l sl : List Hnt} {p i now : Int} (k : sentM l p i now = (0, sl)) : sl.length = l.length ∧ hintsFaultM sl = 0 ∧ (0 ≤ now ∧ now ≤ 100000) ∧
    ∀ (j : Nat) (a : Hnt), l[j]? = some a → ∃ b, sl[j]? = some b ∧ ((a.1 = p ∧ idH a = i) → now < b.2.2.2 ∧ b.2.2.2 ≤ now + 16 ∧ a.2.2.1 ≤ b.2.2.1) ∧ (¬ (a.1 = p ∧ idH a = i) → b = a) := by
  unfold sentM at k
  by_cases h0 : hintsFaultM l = 0
  rotate_left
  · rw [if_pos h0] at k
    exact absurd (Prod.mk.inj k).1 h0
  rw [if_neg (by simp [h0])] at k
  rcases hb : inB (now, 0, 100000)
  · rw [if_pos hb] at k
    exact absurd (Prod.mk.inj k).1 (by decide)
  rw [if_neg (by simp [hb])] at k
  have hnow : 0 ≤ now ∧ now ≤ 100000 := by simpa [inB] using hb
  rcases hf : findH l p i with _ | m
  · rw [hf] at k
    exact absurd (Prod.mk.inj k).1 (by decide)
  rw [hf] at k
  simp only [Prod.mk.injEq, true_and] at k
  obtain ⟨hlt, hh, hal⟩ := findH_is hf
  obtain ⟨g1, g2, g3⟩ := (hintsFault_iff l).1 h0
  have hm : l[m]? = some l[m] := List.getElem?_eq_getElem hlt
  rw [hm, Option.getD_some] at k
  have hmp : l[m].1 = p ∧ idH l[m] = i := by
    rw [hitH_at hm] at hh
    simpa using hh
  have hr := (hfault_zero (g2 _ (List.mem_of_getElem? hm))).2
  have hf1 := (hfault_zero (g2 _ (List.mem_of_getElem? hm))).1
  have ht : 0 ≤ l[m].2.2.1 ∧ l[m].2.2.1 ≤ 4 := by unfold rangeH at hr; simp [inB] at hr; omega
  have hq := pw_le (j := l[m].2.2.1.toNat) (by omega)
  have hsame : sameH (sentH now l[m]) l[m] = true := (sameH_iff _ _).2 ⟨rfl, rfl⟩
  have hsl : sl.length = l.length := by rw [← k]; simp
  have hat : ∀ j, sl[j]? = if m = j then some (sentH now l[m]) else l[j]? := fun j => by
    rw [← k, List.getElem?_set]
    by_cases hj : m = j
    · subst hj
      rw [if_pos rfl, if_pos rfl, if_pos hlt]
    · rw [if_neg hj, if_neg hj]
  refine ⟨hsl, ?_, hnow, fun j a ha => ?_⟩
  · refine (hintsFault_iff sl).2 ⟨by omega, fun y hy => ?_, ?_⟩
    · obtain ⟨j, hj⟩ := List.mem_iff_getElem?.1 hy
      rw [hat] at hj
      split at hj
      · obtain rfl := Option.some.inj hj
        refine hfault_yes hf1 ?_
        unfold rangeH at hr ⊢
        simp only [inB, Bool.and_eq_true, decide_eq_true_eq] at hr ⊢
        simp only [sentH]
        refine ⟨hr.1, ⟨?_, ?_⟩, ?_, ?_⟩ <;> (try split) <;> omega
      · exact g2 y (List.mem_of_getElem? hj)
    · refine List.pairwise_iff_getElem.2 fun i1 i2 hi1 hi2 h12 => ?_
      have e1 := hat i1
      have e2 := hat i2
      rw [List.getElem?_eq_getElem hi1] at e1
      rw [List.getElem?_eq_getElem hi2] at e2
      have h1 : i1 < l.length := by omega
      have h2 : i2 < l.length := by omega
      have hp := (List.pairwise_iff_getElem.1 g3) i1 i2 h1 h2 h12
      by_cases hm1 : m = i1
      · subst hm1
        rw [if_pos rfl] at e1
        rw [if_neg (by omega), List.getElem?_eq_getElem h2] at e2
        rw [Option.some.inj e1, Option.some.inj e2, sameH_trans hsame]
        exact hp
      · rw [if_neg hm1, List.getElem?_eq_getElem h1] at e1
        by_cases hm2 : m = i2
        · subst hm2
          rw [if_pos rfl] at e2
          rw [Option.some.inj e1, Option.some.inj e2, sameH_comm, sameH_trans hsame, sameH_comm]
          exact hp
        · rw [if_neg hm2, List.getElem?_eq_getElem h2] at e2
          rw [Option.some.inj e1, Option.some.inj e2]
          exact hp
  · by_cases hj : m = j
    · subst hj
      obtain rfl : l[m] = a := by rw [hm] at ha; exact Option.some.inj ha
      refine ⟨sentH now l[m], by rw [hat, if_pos rfl], fun _ => ?_, fun hno => absurd hmp hno⟩
      simp only [sentH]
      refine ⟨by omega, by omega, ?_⟩
      split <;> omega
    · refine ⟨a, by rw [hat, if_neg hj]; exact ha, fun hp => ?_, fun _ => rfl⟩
      exfalso
      have hjl := getElem?_some_lt ha
      have hsm : sameH l[j] l[m] = true := by
        rw [List.getElem?_eq_getElem hjl] at ha
        rw [Option.some.inj ha, sameH_iff]
        exact ⟨hp.1.trans hmp.1.symm, hp.2.trans hmp.2.symm⟩
      rcases Nat.lt_or_ge j m with h | h
      · have := (List.pairwise_iff_getElem.1 g3) j m hjl hlt h
        rw [hsm] at this
        cases this
      · have := (List.pairwise_iff_getElem.1 g3) m j hlt hjl (by omega)
        rw [sameH_comm, hsm] at this
        cases this
theorem addM_small {h al : List Hnt} {p : Int} {x : Smp} {pc : Int} {n : Nat} (k : addM h p x = (pc, al)) (hn : h.length = n) (h16 : n ≤ 16) : al.length ≤ 17 := by
  have := addM_le h p x
  rw [k] at this
  simp only at this
  omega
theorem doneM_small {h al : List Hnt} {p i : Int} {pc : Int} {n : Nat} (k : doneM h p i = (pc, al)) (hn : h.length = n) (h16 : n ≤ 16) : al.length ≤ 17 := by
  have := doneM_le h p i
  rw [k] at this
  simp only at this
  omega
theorem sentM_small {h al : List Hnt} {p i t : Int} {pc : Int} {n : Nat} (k : sentM h p i t = (pc, al)) (hn : h.length = n) (h16 : n ≤ 16) : al.length ≤ 17 := by
  have := sentM_le h p i t
  rw [k] at this
  simp only at this
  omega
theorem dueM_small {h al : List Hnt} {t : Int} {pc : Int} {n : Nat} (k : dueM h t = (pc, al)) (hn : h.length = n) (h16 : n ≤ 16) : al.length ≤ 17 := by
  have := dueM_le h t
  rw [k] at this
  simp only at this
  omega
end Go.Proofs.YtmaillakhhdkfaaGreatDoor
/-
  What a record does to a state, and what a disk says, of the pure answers.
-/
namespace Go.Proofs.YtmaillakhhdkfaaGreatDoor
set_option maxRecDepth 20000
open Go.RowKit
set_option linter.unusedSimpArgs false
set_option linter.unusedVariables false

abbrev zeroSta : Sta := ([], [], 0)
/-- A right record that is put to a state: the code, and the state behind it. -/
def stepR (s : Sta) (r : Rcd) : Int × Sta :=
  if r.1 = 1 then (if (insertM s.1 r.2.2.1).1 = 0 then (0, ((insertM s.1 r.2.2.1).2.2, s.2.1, s.2.2)) else ((insertM s.1 r.2.2.1).1, s))
  else if r.1 = 2 then (if (addM s.2.1 r.2.1 r.2.2.1).1 = 0 then (0, (s.1, (addM s.2.1 r.2.1 r.2.2.1).2, s.2.2)) else ((addM s.2.1 r.2.1 r.2.2.1).1, s))
  else if r.1 = 3 then (if (doneM s.2.1 r.2.1 r.2.2.2).1 = 0 then (0, (s.1, (doneM s.2.1 r.2.1 r.2.2.2).2, s.2.2)) else ((doneM s.2.1 r.2.1 r.2.2.2).1, s))
  else if r.2.2.2 < s.2.2 then (8, s) else (0, (s.1, s.2.1, r.2.2.2))
/-- What ApplyRecord answers. -/
def applyM (s : Sta) (r : Rcd) : Int × Sta :=
  if stateFaultM s ≠ 0 then (stateFaultM s, zeroSta) else if recFaultM r ≠ 0 then (recFaultM r, zeroSta) else if (stepR s r).1 = 0 then (0, (stepR s r).2) else ((stepR s r).1, zeroSta)

theorem stateFault_iff (s : Sta) : stateFaultM s = 0 ↔ storeFaultM s.1 = 0 ∧ hintsFaultM s.2.1 = 0 ∧ inB (s.2.2, 0, 60000) = true := by
  unfold stateFaultM
  constructor
  · intro h
    by_cases h1 : storeFaultM s.1 = 0
    · rw [if_neg (by simp [h1])] at h
      by_cases h2 : hintsFaultM s.2.1 = 0
      · rw [if_neg (by simp [h2])] at h
        by_cases h3 : inB (s.2.2, 0, 60000) = true
        · exact ⟨h1, h2, h3⟩
        · rw [if_neg h3] at h; cases h
      · rw [if_pos h2] at h; exact absurd h h2
    · rw [if_pos h1] at h; exact absurd h h1
  · rintro ⟨h1, h2, h3⟩
    rw [if_neg (by simp [h1]), if_neg (by simp [h2]), if_pos h3]
theorem zero_state : stateFaultM zeroSta = 0 := by decide
theorem done_right {g dl : List Hnt} {p i : Int} (k : doneM g p i = (0, dl)) : hintsFaultM dl = 0 := by
  unfold doneM at k
  by_cases h0 : hintsFaultM g = 0
  rotate_left
  · rw [if_pos h0] at k
    exact absurd (Prod.mk.inj k).1 h0
  rw [if_neg (by simp [h0])] at k
  rcases hf : findH g p i with _ | j
  · rw [hf] at k
    exact absurd (Prod.mk.inj k).1 (by decide)
  rw [hf] at k
  simp only [Prod.mk.injEq, true_and] at k
  obtain ⟨hlt, hh, hal⟩ := findH_is hf
  obtain ⟨g1, g2, g3⟩ := (hintsFault_iff g).1 h0
  have he : dl = g.eraseIdx j := by rw [List.eraseIdx_eq_take_drop_succ]; exact k.symm
  have hsub : dl.Sublist g := by rw [he]; exact List.eraseIdx_sublist _ _
  have := hsub.length_le
  exact (hintsFault_iff dl).2 ⟨by omega, fun y hy => g2 y (hsub.subset hy), g3.sublist hsub⟩
theorem range_four {k p p' : Int} {x : Smp} (h : recFaultM (k, p, x, p') = 0) (h1 : k ≠ 1) (h2 : k ≠ 2) (h3 : k ≠ 3) : inB (p', 0, 60000) = true := by
  by_cases h4 : k = 4
  · subst h4
    have hf : recFormM (4, p, x, p') = true := by
      rcases hf : recFormM (4, p, x, p')
      · rw [recFault_form hf] at h; cases h
      · rfl
    rw [recFault_range hf] at h
    unfold rrangeM mostM at h
    rcases hb : inB (p', 0, 60000)
    · simp [hb] at h
    · rfl
  · have hf : recFormM (k, p, x, p') = false := by unfold recFormM; rw [if_neg h1, if_neg h2, if_neg h3, if_neg h4]
    rw [recFault_form hf] at h; cases h
/-- A right record leaves a right state right. -/
theorem step_right {s : Sta} {r : Rcd} (hs : stateFaultM s = 0) (hr : recFaultM r = 0) (h : (stepR s r).1 = 0) : stateFaultM (stepR s r).2 = 0 := by
  obtain ⟨h1, h2, h3⟩ := (stateFault_iff s).1 hs
  unfold stepR at h ⊢
  by_cases k1 : r.1 = 1
  · rw [if_pos k1] at h ⊢
    by_cases hc : (insertM s.1 r.2.2.1).1 = 0
    · rw [if_pos hc] at h ⊢
      rcases hi : insertM s.1 r.2.2.1 with ⟨c, n, st⟩
      rw [hi] at hc
      obtain rfl : c = 0 := hc
      exact (stateFault_iff _).2 ⟨(insert_said hi).1, h2, h3⟩
    · rw [if_neg hc] at h; exact absurd h hc
  rw [if_neg k1] at h ⊢
  by_cases k2 : r.1 = 2
  · rw [if_pos k2] at h ⊢
    by_cases hc : (addM s.2.1 r.2.1 r.2.2.1).1 = 0
    · rw [if_pos hc] at h ⊢
      rcases hi : addM s.2.1 r.2.1 r.2.2.1 with ⟨c, st⟩
      rw [hi] at hc
      obtain rfl : c = 0 := hc
      exact (stateFault_iff _).2 ⟨h1, (add_said hi).1, h3⟩
    · rw [if_neg hc] at h; exact absurd h hc
  rw [if_neg k2] at h ⊢
  by_cases k3 : r.1 = 3
  · rw [if_pos k3] at h ⊢
    by_cases hc : (doneM s.2.1 r.2.1 r.2.2.2).1 = 0
    · rw [if_pos hc] at h ⊢
      rcases hi : doneM s.2.1 r.2.1 r.2.2.2 with ⟨c, st⟩
      rw [hi] at hc
      obtain rfl : c = 0 := hc
      exact (stateFault_iff _).2 ⟨h1, done_right hi, h3⟩
    · rw [if_neg hc] at h; exact absurd h hc
  rw [if_neg k3] at h ⊢
  by_cases k4 : r.2.2.2 < s.2.2
  · rw [if_pos k4] at h; cases h
  · rw [if_neg k4]
    exact (stateFault_iff _).2 ⟨h1, h2, range_four hr k1 k2 k3⟩
/-- The program's way, at a right state and a right record. -/
theorem apply_right {s : Sta} {r : Rcd} (hs : stateFaultM s = 0) (hr : recFaultM r = 0) : applyM s r = if (stepR s r).1 = 0 then (0, (stepR s r).2) else ((stepR s r).1, zeroSta) := by
  unfold applyM; rw [if_neg (by simp [hs]), if_neg (by simp [hr])]
theorem apply_code {s : Sta} {r : Rcd} (hs : stateFaultM s = 0) (hr : recFaultM r = 0) : (applyM s r).1 = (stepR s r).1 := by
  rw [apply_right hs hr]
  by_cases h : (stepR s r).1 = 0
  · rw [if_pos h, h]
  · rw [if_neg h]
end Go.Proofs.YtmaillakhhdkfaaGreatDoor
/-
  The model's AddHint.
-/
namespace Go.Proofs.YtmaillakhhdkfaaGreatDoor
set_option maxRecDepth 20000
open Go.RowKit
set_option linter.unusedSimpArgs false
set_option linter.unusedVariables false

set_option maxRecDepth 100000 in
set_option maxHeartbeats 4000000 in
theorem specAddHint (A : Option Addr) (n c : Nat) (l : List Hnt) (p x0 x1 x2 x3 : Int) (w : World) (ha : Rd eH w w.heap.size A l) (hn : l.length = n) :
    Calls Tryz.prog 107 #[.slice A n c, .int .i64 p, .agg #[.int .i64 x0, .int .i64 x1, .int .i64 x2, .int .i64 x3]] w (RetHs (addM l p (x0, x1, x2, x3)) w) := by
  have hB0 : Below w.heap.size w ((w.alloc (.cells #[.int .i64 x0, .int .i64 x1, .int .i64 x2, .int .i64 x3] 25)).alloc (.cells #[.int .i64 0, .slice none 0 0] 138)) := ((Below.refl _ _).alloc (Nat.le_refl _) _).alloc (by simp) _
  have bx0 := (At.new w 25 #[.int .i64 x0, .int .i64 x1, .int .i64 x2, .int .i64 x3]).alloc (.cells #[.int .i64 0, .slice none 0 0] 138)
  have e1 : (w.alloc (.cells #[.int .i64 x0, .int .i64 x1, .int .i64 x2, .int .i64 x3] 25)).heap.size = w.heap.size + 1 := by simp
  have r0 := At.new (w.alloc (.cells #[.int .i64 x0, .int .i64 x1, .int .i64 x2, .int .i64 x3] 25)) 138 #[.int .i64 0, .slice none 0 0]
  rw [e1] at r0
  have ha0 := ha.lift hB0
  have HF := specHintsFault A n c l _ ha0 hn
  by_cases h0 : hintsFaultM l = 0
  rotate_left
  · rw [show (addM l p (x0, x1, x2, x3)) = (hintsFaultM l, []) from if_pos h0]
    have hne : (hintsFaultM l != 0) = true := by rw [bne_iff_ne]; exact h0
    generalize hintsFaultM l = sf at *
    clear h0
    go_enter Tryz.func107, Tryz.ntmps107
    go_wp2_with fail
    refine (HF).mono ?_
    rintro e w1 ⟨rfl, hb1⟩
    have hB1 := hB0.trans (hb1.mono hB0.size)
    have r1 := r0.below hb1 r0.lt
    have ha1 := ha0.lift hb1
    have bx1 := bx0.below hb1 bx0.lt
    obtain ⟨b1_0, b1_1, b1_2, b1_3, _, _, _, _⟩ := bx1.four
    obtain ⟨c0, c1, _, _⟩ := r1.two
    go_wp2_with fail
    refine bodyPost_ret (v := .agg #[.int .i64 sf, .slice none 0 0]) (by simp [results, Tryz.results107, go_sem, c0, c1]) rfl ?_
    exact ⟨_, _, _, rfl, Ow.nil, (hB1.setCell (by simp) _).setCell (by simp) _⟩
  obtain ⟨h8, hall, hdis⟩ := (hintsFault_iff l).1 h0
  rw [h0] at HF
  rcases faultM_or (x0, x1, x2, x3) with hf | hf
  rotate_left
  · rw [show (addM l p (x0, x1, x2, x3)) = (3, []) by unfold addM; rw [if_neg (by simp [h0]), if_pos (by simp [hf])]]
    have XF := specSampleFault x0 x1 x2 x3
    rw [hf] at XF
    clear hf h0
    go_enter Tryz.func107, Tryz.ntmps107
    go_wp2_with fail
    refine (HF).mono ?_
    rintro e w1 ⟨rfl, hb1⟩
    have hB1 := hB0.trans (hb1.mono hB0.size)
    have r1 := r0.below hb1 r0.lt
    have ha1 := ha0.lift hb1
    have bx1 := bx0.below hb1 bx0.lt
    obtain ⟨b1_0, b1_1, b1_2, b1_3, _, _, _, _⟩ := bx1.four
    go_wp2_with fail
    refine (XF _).mono ?_
    rintro e w2 ⟨rfl, hb2⟩
    have hB2 := hB1.trans (hb2.mono hB1.size)
    have r2 := r1.below hb2 r1.lt
    have ha2 := ha1.lift hb2
    have bx2 := bx1.below hb2 bx1.lt
    obtain ⟨b2_0, b2_1, b2_2, b2_3, _, _, _, _⟩ := bx2.four
    obtain ⟨c0, c1, _, _⟩ := r2.two
    go_wp2_with fail
    refine bodyPost_ret (v := .agg #[.int .i64 3, .slice none 0 0]) (by simp [results, Tryz.results107, go_sem, c0, c1]) rfl ?_
    exact ⟨_, _, _, rfl, Ow.nil, (hB2.setCell (by simp) _).setCell (by simp) _⟩
  have XF := specSampleFault x0 x1 x2 x3
  rw [hf] at XF
  rcases hp : inB (p, 0, 3)
  · rw [show (addM l p (x0, x1, x2, x3)) = (3, []) by unfold addM; rw [if_neg (by simp [h0]), if_neg (by simp [hf]), if_pos hp]]
    clear hf h0
    go_enter Tryz.func107, Tryz.ntmps107
    go_wp2_with fail
    refine (HF).mono ?_
    rintro e w1 ⟨rfl, hb1⟩
    have hB1 := hB0.trans (hb1.mono hB0.size)
    have r1 := r0.below hb1 r0.lt
    have ha1 := ha0.lift hb1
    have bx1 := bx0.below hb1 bx0.lt
    obtain ⟨b1_0, b1_1, b1_2, b1_3, _, _, _, _⟩ := bx1.four
    go_wp2_with fail
    refine (XF _).mono ?_
    rintro e w2 ⟨rfl, hb2⟩
    have hB2 := hB1.trans (hb2.mono hB1.size)
    have r2 := r1.below hb2 r1.lt
    have ha2 := ha1.lift hb2
    have bx2 := bx1.below hb2 bx1.lt
    obtain ⟨b2_0, b2_1, b2_2, b2_3, _, _, _, _⟩ := bx2.four
    go_wp2_with fail
    refine (l4Node p _).mono ?_
    rintro e w99 ⟨rfl, rfl⟩
    obtain ⟨c0, c1, _, _⟩ := r2.two
    go_wp2_with fail
    refine bodyPost_ret (v := .agg #[.int .i64 3, .slice none 0 0]) (by simp [results, Tryz.results107, go_sem, c0, c1]) rfl ?_
    exact ⟨_, _, _, rfl, Ow.nil, (hB2.setCell (by simp) _).setCell (by simp) _⟩
  have HL := fun W (h1 : Rd eH W W.heap.size A l) => l4Find A n c l p x2 W h1 hn (by unfold maxLen; omega)
  rcases findHI_or l p x2 with ⟨hi, -⟩ | ⟨k, hi, -, hk⟩
  rotate_left
  · rw [hi] at HL
    rw [show (addM l p (x0, x1, x2, x3)) = (6, []) by unfold addM; rw [if_neg (by simp [h0]), if_neg (by simp [hf]), if_neg (by simp [hp]), if_pos (by rw [hi]; omega)]]
    have hk0 : (0 : Int) ≤ (k : Int) := by omega
    clear hf h0 hi
    go_enter Tryz.func107, Tryz.ntmps107
    go_wp2_with fail
    refine (HF).mono ?_
    rintro e w1 ⟨rfl, hb1⟩
    have hB1 := hB0.trans (hb1.mono hB0.size)
    have r1 := r0.below hb1 r0.lt
    have ha1 := ha0.lift hb1
    have bx1 := bx0.below hb1 bx0.lt
    obtain ⟨b1_0, b1_1, b1_2, b1_3, _, _, _, _⟩ := bx1.four
    go_wp2_with fail
    refine (XF _).mono ?_
    rintro e w2 ⟨rfl, hb2⟩
    have hB2 := hB1.trans (hb2.mono hB1.size)
    have r2 := r1.below hb2 r1.lt
    have ha2 := ha1.lift hb2
    have bx2 := bx1.below hb2 bx1.lt
    obtain ⟨b2_0, b2_1, b2_2, b2_3, _, _, _, _⟩ := bx2.four
    go_wp2_with fail
    refine (l4Node p _).mono ?_
    rintro e w99 ⟨rfl, rfl⟩
    go_wp2_with fail
    refine (HL _ ha2).mono ?_
    rintro e w99 ⟨rfl, rfl⟩
    obtain ⟨c0, c1, _, _⟩ := r2.two
    go_wp2_with fail
    refine bodyPost_ret (v := .agg #[.int .i64 6, .slice none 0 0]) (by simp [results, Tryz.results107, go_sem, c0, c1]) rfl ?_
    exact ⟨_, _, _, rfl, Ow.nil, (hB2.setCell (by simp) _).setCell (by simp) _⟩
  rw [hi] at HL
  by_cases hfull : 8 ≤ n
  · rw [show (addM l p (x0, x1, x2, x3)) = (7, []) by unfold addM; rw [if_neg (by simp [h0]), if_neg (by simp [hf]), if_neg (by simp [hp]), if_neg (by rw [hi]; omega), if_pos (by omega)]]
    have hfi : (8 : Int) ≤ (n : Int) := by omega
    clear hf h0 hi
    go_enter Tryz.func107, Tryz.ntmps107
    go_wp2_with fail
    refine (HF).mono ?_
    rintro e w1 ⟨rfl, hb1⟩
    have hB1 := hB0.trans (hb1.mono hB0.size)
    have r1 := r0.below hb1 r0.lt
    have ha1 := ha0.lift hb1
    have bx1 := bx0.below hb1 bx0.lt
    obtain ⟨b1_0, b1_1, b1_2, b1_3, _, _, _, _⟩ := bx1.four
    go_wp2_with fail
    refine (XF _).mono ?_
    rintro e w2 ⟨rfl, hb2⟩
    have hB2 := hB1.trans (hb2.mono hB1.size)
    have r2 := r1.below hb2 r1.lt
    have ha2 := ha1.lift hb2
    have bx2 := bx1.below hb2 bx1.lt
    obtain ⟨b2_0, b2_1, b2_2, b2_3, _, _, _, _⟩ := bx2.four
    go_wp2_with fail
    refine (l4Node p _).mono ?_
    rintro e w99 ⟨rfl, rfl⟩
    go_wp2_with fail
    refine (HL _ ha2).mono ?_
    rintro e w99 ⟨rfl, rfl⟩
    obtain ⟨c0, c1, _, _⟩ := r2.two
    go_wp2_with fail
    refine bodyPost_ret (v := .agg #[.int .i64 7, .slice none 0 0]) (by simp [results, Tryz.results107, go_sem, c0, c1]) rfl ?_
    exact ⟨_, _, _, rfl, Ow.nil, (hB2.setCell (by simp) _).setCell (by simp) _⟩
  · rw [show (addM l p (x0, x1, x2, x3)) = (0, l ++ [(p, (x0, x1, x2, x3), 0, 0)]) by unfold addM; rw [if_neg (by simp [h0]), if_neg (by simp [hf]), if_neg (by simp [hp]), if_neg (by rw [hi]; omega), if_neg (by omega)]]
    have hfi : ¬ (8 : Int) ≤ (n : Int) := by omega
    clear hf h0 hi
    go_enter Tryz.func107, Tryz.ntmps107
    go_wp2_with fail
    refine (HF).mono ?_
    rintro e w1 ⟨rfl, hb1⟩
    have hB1 := hB0.trans (hb1.mono hB0.size)
    have r1 := r0.below hb1 r0.lt
    have ha1 := ha0.lift hb1
    have bx1 := bx0.below hb1 bx0.lt
    obtain ⟨b1_0, b1_1, b1_2, b1_3, _, _, _, _⟩ := bx1.four
    go_wp2_with fail
    refine (XF _).mono ?_
    rintro e w2 ⟨rfl, hb2⟩
    have hB2 := hB1.trans (hb2.mono hB1.size)
    have r2 := r1.below hb2 r1.lt
    have ha2 := ha1.lift hb2
    have bx2 := bx1.below hb2 bx1.lt
    obtain ⟨b2_0, b2_1, b2_2, b2_3, _, _, _, _⟩ := bx2.four
    go_wp2_with fail
    refine (l4Node p _).mono ?_
    rintro e w99 ⟨rfl, rfl⟩
    go_wp2_with fail
    refine (HL _ ha2).mono ?_
    rintro e w99 ⟨rfl, rfl⟩
    go_wp2
    have hbd := hB2.drew
    have bxd := bx2.drew
    have rd := r2.drew
    have had := ha2.drewN 1
    clear b1_0 b1_1 b1_2 b1_3 b2_0 b2_1 b2_2 b2_3
    refine wp_region_fork2 [(0, false), (2, false), (3, false), (4, false)] [(5, true), (6, true), (7, false), (8, true)] [(1, true), (6, true), (7, false), (8, true)] 1 5 (fun u => At u w.heap.size 25 #[.int .i64 x0, .int .i64 x1, .int .i64 x2, .int .i64 x3]) (by kernel_rfl) (by kernel_rfl) (fun _ _ _ _ _ h => h) bxd ?_
    simp only [mixOps, List.map_cons, List.map_nil, List.getElem?_cons_succ, List.getElem?_cons_zero, Option.getD_some]
    iterate 4 (
      refine mixR_pure (v := ?_) (by rfl) (fun u hu => ?_) ?_
      rotate_left
      · obtain ⟨_, _, _, _, _, _, _, _⟩ := hu.four
        go_simp
        (with_reducible rfl)
      (try simp only [Act.put, List.setIfInBounds_toArray, List.set_cons_zero, List.set_cons_succ]))
    refine mixR_nil ⟨?_, ?_⟩
    · refine mixR_call (by rfl) (fun K hK => ?_)
      go_simp
      refine (l4Copy A n c l _ had hn (by omega)).mono ?_
      rintro e w3 ⟨A3, c3, rfl, o3, hb3⟩
      have o3 : Ow eH w3 w2.heap.size A3 n c3 l := o3
      have hB3 := hbd.trans (hb3.mono hbd.size)
      have bx3 := bxd.below hb3 bxd.lt
      have r3 := rd.below hb3 rd.lt
      refine hK _ _ _ (fun _ h => h) bx3 ?_
      (try simp only [Act.put, List.setIfInBounds_toArray, List.set_cons_zero, List.set_cons_succ])
      refine mixR_call (by rfl) (fun K hK => ?_)
      go_simp
      have hB4 := hB3.alloc hB3.size (.cells #[.int .i64 p, .int .i64 x0, .int .i64 x1, .int .i64 x2, .int .i64 x3, .int .i64 0, .int .i64 0] 75)
      have bx4 := bx3.alloc (.cells #[.int .i64 p, .int .i64 x0, .int .i64 x1, .int .i64 x2, .int .i64 x3, .int .i64 0, .int .i64 0] 75)
      have r4 := r3.alloc (.cells #[.int .i64 p, .int .i64 x0, .int .i64 x1, .int .i64 x2, .int .i64 x3, .int .i64 0, .int .i64 0] 75)
      have o4 := o3.alloc (.cells #[.int .i64 p, .int .i64 x0, .int .i64 x1, .int .i64 x2, .int .i64 x3, .int .i64 0, .int .i64 0] 75)
      have ob4 := rd_lit okH w3 75 [(p, (x0, x1, x2, x3), 0, 0)] #[.int .i64 p, .int .i64 x0, .int .i64 x1, .int .i64 x2, .int .i64 x3, .int .i64 0, .int .i64 0] rfl
      have hs4 : w2.heap.size ≤ (w3.alloc (.cells #[.int .i64 p, .int .i64 x0, .int .i64 x1, .int .i64 x2, .int .i64 x3, .int .i64 0, .int .i64 0] 75)).heap.size := by have := hb3.size; simp at this ⊢; omega
      refine hK _ _ _ (fun _ h => h) bx4 ?_
      (try simp only [Act.put, List.setIfInBounds_toArray, List.set_cons_zero, List.set_cons_succ])
      refine mixR_call (by rfl) (fun K hK => ?_)
      refine wp_append_ow okH _ (.tmp 37) (.tmp 41) _ rfl w2.heap.size info_hnt Tryz.underlying37 rfl A3 n c3 l rfl o4 _ 1 1 _ [(p, (x0, x1, x2, x3), 0, 0)] rfl ob4 rfl (by unfold maxLen; omega) (by omega) hs4 ?_
      intro A5 c5 w5 ow5 hg5 _
      have hB5 := hB4.grown hg5 hB4.size (fun g hg => by have := (o4.lt g hg).1; have := hB2.size; omega)
      have bx5 := bx4.grown hg5 (fun e => by have := (o4.lt _ e).1; have := bx2.lt; omega)
      have r5 := r4.grown hg5 (fun e => by have := (o4.lt _ e).1; have := r2.lt; omega)
      refine hK _ _ _ (fun _ h => h) bx5 ?_
      (try simp only [Act.put, List.setIfInBounds_toArray, List.set_cons_zero, List.set_cons_succ])
      refine mixR_pure (v := ?_) (by rfl) (fun u hu => ?_) ?_
      rotate_left
      · go_simp
        (with_reducible rfl)
      (try simp only [Act.put, List.setIfInBounds_toArray, List.set_cons_zero, List.set_cons_succ])
      obtain ⟨c0, c1, f0, f1⟩ := r5.two
      refine mixR_call (by rfl) (fun K hK => ?_)
      go_simp
      have r6 := r5.set 0 (.int .i64 0)
      have r7 := r6.set 1 (.slice A5 (n + 1) c5)
      refine hK _ _ _ (fun _ h => h) ((bx5.far (p := ⟨w.heap.size + 1, 0, none⟩) (by simp) _).far (p := ⟨w.heap.size + 1, 1, none⟩) (by simp) _) ?_
      (try simp only [Act.put, List.setIfInBounds_toArray, List.set_cons_zero, List.set_cons_succ])
      refine mixR_nil ?_
      go_wp2
      refine bodyPost_ret (v := .agg #[.int .i64 0, .slice A5 (n + 1) c5]) (by simp [results, Tryz.results107, go_sem, c0, c1]) rfl ?_
      exact ⟨_, _, _, rfl, (((ow5.under (p := ⟨w.heap.size + 1, 0, none⟩) r2.lt _).under (p := ⟨w.heap.size + 1, 1, none⟩) r2.lt _).from_ hB2.size), (hB5.setCell (by simp) _).setCell (by simp) _⟩
    · refine mixR_call (by rfl) (fun K hK => ?_)
      go_simp
      have hB3 := hB2.alloc hB2.size (.cells #[.int .i64 p, .int .i64 x0, .int .i64 x1, .int .i64 x2, .int .i64 x3, .int .i64 0, .int .i64 0] 75)
      have bx3 := (bx2.alloc (.cells #[.int .i64 p, .int .i64 x0, .int .i64 x1, .int .i64 x2, .int .i64 x3, .int .i64 0, .int .i64 0] 75)).drew
      have r3 := (r2.alloc (.cells #[.int .i64 p, .int .i64 x0, .int .i64 x1, .int .i64 x2, .int .i64 x3, .int .i64 0, .int .i64 0] 75)).drew
      have ha3 := ha2.lift ((Below.refl w2.heap.size w2).alloc (Nat.le_refl _) (.cells #[.int .i64 p, .int .i64 x0, .int .i64 x1, .int .i64 x2, .int .i64 x3, .int .i64 0, .int .i64 0] 75))
      have ob3 := rd_lit okH w2 75 [(p, (x0, x1, x2, x3), 0, 0)] #[.int .i64 p, .int .i64 x0, .int .i64 x1, .int .i64 x2, .int .i64 x3, .int .i64 0, .int .i64 0] rfl
      refine hK _ _ _ (fun _ h => h) bx3 ?_
      (try simp only [Act.put, List.setIfInBounds_toArray, List.set_cons_zero, List.set_cons_succ])
      refine mixR_call (by rfl) (fun K hK => ?_)
      go_simp
      refine (l4Copy A n c l _ (ha3.drewN 1) hn (by omega)).mono ?_
      rintro e w4 ⟨A3, c3, rfl, o3, hb4⟩
      have hB4 := hB3.drew.trans (hb4.mono hB3.size)
      have bx4 := bx3.below hb4 bx3.lt
      have r4 := r3.below hb4 r3.lt
      have o4 : Ow eH w4 w2.heap.size A3 n c3 l := o3.from_ (by simp)
      have ob4 := (ob3.drewN 1).below hb4 (by simp)
      have hs4 : w2.heap.size ≤ w4.heap.size := by have := hb4.size; simp at this; omega
      refine hK _ _ _ (fun _ h => h) bx4 ?_
      (try simp only [Act.put, List.setIfInBounds_toArray, List.set_cons_zero, List.set_cons_succ])
      refine mixR_call (by rfl) (fun K hK => ?_)
      refine wp_append_ow okH _ (.tmp 37) (.tmp 41) _ rfl w2.heap.size info_hnt Tryz.underlying37 rfl A3 n c3 l rfl o4 _ 1 1 _ [(p, (x0, x1, x2, x3), 0, 0)] rfl ob4 rfl (by unfold maxLen; omega) (by omega) hs4 ?_
      intro A5 c5 w5 ow5 hg5 _
      have hB5 := hB4.grown hg5 hB4.size (fun g hg => by have := (o4.lt g hg).1; have := hB2.size; omega)
      have bx5 := bx4.grown hg5 (fun e => by have := (o4.lt _ e).1; have := bx2.lt; omega)
      have r5 := r4.grown hg5 (fun e => by have := (o4.lt _ e).1; have := r2.lt; omega)
      refine hK _ _ _ (fun _ h => h) bx5 ?_
      (try simp only [Act.put, List.setIfInBounds_toArray, List.set_cons_zero, List.set_cons_succ])
      refine mixR_pure (v := ?_) (by rfl) (fun u hu => ?_) ?_
      rotate_left
      · go_simp
        (with_reducible rfl)
      (try simp only [Act.put, List.setIfInBounds_toArray, List.set_cons_zero, List.set_cons_succ])
      obtain ⟨c0, c1, f0, f1⟩ := r5.two
      refine mixR_call (by rfl) (fun K hK => ?_)
      go_simp
      have r6 := r5.set 0 (.int .i64 0)
      have r7 := r6.set 1 (.slice A5 (n + 1) c5)
      refine hK _ _ _ (fun _ h => h) ((bx5.far (p := ⟨w.heap.size + 1, 0, none⟩) (by simp) _).far (p := ⟨w.heap.size + 1, 1, none⟩) (by simp) _) ?_
      (try simp only [Act.put, List.setIfInBounds_toArray, List.set_cons_zero, List.set_cons_succ])
      refine mixR_nil ?_
      go_wp2
      refine bodyPost_ret (v := .agg #[.int .i64 0, .slice A5 (n + 1) c5]) (by simp [results, Tryz.results107, go_sem, c0, c1]) rfl ?_
      exact ⟨_, _, _, rfl, (((ow5.under (p := ⟨w.heap.size + 1, 0, none⟩) r2.lt _).under (p := ⟨w.heap.size + 1, 1, none⟩) r2.lt _).from_ hB2.size), (hB5.setCell (by simp) _).setCell (by simp) _⟩
end Go.Proofs.YtmaillakhhdkfaaGreatDoor
/-
  The model's DoneHint.
-/
namespace Go.Proofs.YtmaillakhhdkfaaGreatDoor
set_option maxRecDepth 20000
open Go.RowKit
set_option linter.unusedSimpArgs false
set_option linter.unusedVariables false

set_option maxRecDepth 100000 in
set_option maxHeartbeats 4000000 in
theorem specDoneHint (A : Option Addr) (n c : Nat) (l : List Hnt) (p i : Int) (w : World) (ha : Rd eH w w.heap.size A l) (hn : l.length = n) (hc : n ≤ c) :
    Calls Tryz.prog 108 #[.slice A n c, .int .i64 p, .int .i64 i] w (RetHs (doneM l p i) w) := by
  have hB0 : Below w.heap.size w (w.alloc (.cells #[.int .i64 0, .slice none 0 0] 138)) := (Below.refl _ _).alloc (Nat.le_refl _) _
  have r0 := At.new w 138 #[.int .i64 0, .slice none 0 0]
  have ha0 := ha.lift hB0
  have HF := specHintsFault A n c l _ ha0 hn
  by_cases h0 : hintsFaultM l = 0
  rotate_left
  · rw [show (doneM l p i) = (hintsFaultM l, []) from if_pos h0]
    have hne : (hintsFaultM l != 0) = true := by rw [bne_iff_ne]; exact h0
    generalize hintsFaultM l = sf at *
    clear h0
    go_enter Tryz.func108, Tryz.ntmps108
    go_wp2_with fail
    refine (HF).mono ?_
    rintro e w1 ⟨rfl, hb1⟩
    have hB1 := hB0.trans (hb1.mono hB0.size)
    have r1 := r0.below hb1 r0.lt
    have ha1 := ha0.lift hb1
    obtain ⟨c0, c1, _, _⟩ := r1.two
    go_wp2_with fail
    refine bodyPost_ret (v := .agg #[.int .i64 sf, .slice none 0 0]) (by simp [results, Tryz.results108, go_sem, c0, c1]) rfl ?_
    exact ⟨_, _, _, rfl, Ow.nil, (hB1.setCell (by simp) _).setCell (by simp) _⟩
  obtain ⟨h8, hall, hdis⟩ := (hintsFault_iff l).1 h0
  rw [h0] at HF
  have HL := fun W (h1 : Rd eH W W.heap.size A l) => l4Find A n c l p i W h1 hn (by unfold maxLen; omega)
  rcases findHI_or l p i with ⟨hi, hj⟩ | ⟨k, hi, hj, hk⟩
  · rw [hi] at HL
    rw [show (doneM l p i) = (4, []) by unfold doneM; rw [if_neg (by simp [h0]), hj]]
    clear h0 hi hj
    go_enter Tryz.func108, Tryz.ntmps108
    go_wp2_with fail
    refine (HF).mono ?_
    rintro e w1 ⟨rfl, hb1⟩
    have hB1 := hB0.trans (hb1.mono hB0.size)
    have r1 := r0.below hb1 r0.lt
    have ha1 := ha0.lift hb1
    go_wp2_with fail
    refine (HL _ ha1).mono ?_
    rintro e w99 ⟨rfl, rfl⟩
    obtain ⟨c0, c1, _, _⟩ := r1.two
    go_wp2_with fail
    refine bodyPost_ret (v := .agg #[.int .i64 4, .slice none 0 0]) (by simp [results, Tryz.results108, go_sem, c0, c1]) rfl ?_
    exact ⟨_, _, _, rfl, Ow.nil, (hB1.setCell (by simp) _).setCell (by simp) _⟩
  rw [hi] at HL
  rw [show (doneM l p i) = (0, l.take k ++ l.drop (k + 1)) by unfold doneM; rw [if_neg (by simp [h0]), hj]]
  obtain ⟨g, o, rfl, -⟩ := ha0.add hk
  by_cases hcc : c = k + 1
  · subst hcc
    have hX : ∀ W : World, Rd eH W W.heap.size (some ⟨g, o, none⟩) l → Rd eH W W.heap.size (some ⟨g, o, none⟩) (l.drop (k + 1)) := fun W h => by
      rw [List.drop_of_length_le (by omega)]
      exact Rd.nil
    have htl : (l.take k).length = k := by rw [List.length_take]; omega
    have hdl : (l.drop (k + 1)).length = 0 := by rw [List.length_drop]; omega
    have HX := Lib.hid hX
    have Htl := Lib.hid htl
    have Hdl := Lib.hid hdl
    have hk0 : ¬ (k : Int) < 0 := by omega
    have hk1 : (0 : Int) ≤ (k : Int) := by omega
    have hkc : k ≤ (k + 1) := by omega
    have hwr : IntKind.i64.wrap ((k : Int) + 1) = (k : Int) + 1 := IntWalk.i64_in _ (by omega)
    have htn : ((k : Int) + 1).toNat = k + 1 := by omega
    have hm : k + 0 ≤ 8 := by omega
    clear h0 hi hj hX htl hdl
    go_enter Tryz.func108, Tryz.ntmps108
    go_wp2_with fail
    refine (HF).mono ?_
    rintro e w1 ⟨rfl, hb1⟩
    have hB1 := hB0.trans (hb1.mono hB0.size)
    have r1 := r0.below hb1 r0.lt
    have ha1 := ha0.lift hb1
    go_wp2_with fail
    refine (HL _ ha1).mono ?_
    rintro e w99 ⟨rfl, rfl⟩
    go_wp2
    have hbd := hB1.drew
    have rd := r1.drew
    have had := ha1.drewN 1
    have i1 : (k : Int) ≤ (k : Int) + 1 := by omega
    have i2 : (k : Int) + 1 ≤ (n : Int) := by omega
    have i3 : (0 : Int) ≤ (k : Int) + 1 := by omega
    refine wp_region_mix [(0, false), (1, false), (2, false), (4, false), (5, false), (6, false), (7, false), (3, true), (8, true), (9, false), (10, true)] (fun _ => True) (by kernel_rfl) (by kernel_rfl) (fun _ _ _ _ _ h => h) trivial ?_
    simp only [mixOps, List.map_cons, List.map_nil, List.getElem?_cons_succ, List.getElem?_cons_zero, Option.getD_some]
    iterate 7 (
      refine mix_pure (v := ?_) (by rfl) (fun u hu => ?_) ?_
      rotate_left
      · skip
        go_simp
        (with_reducible rfl)
      (try simp only [Act.put, List.setIfInBounds_toArray, List.set_cons_zero, List.set_cons_succ]))
    refine mix_call (by rfl) (fun K hK => ?_)
    go_simp
    refine (l4Copy (some ⟨g, o, none⟩) k _ (l.take k) _ (had.take k) Htl.out (by omega)).mono ?_
    rintro e w3 ⟨A3, c3, rfl, o3, hb3⟩
    have o3 : Ow eH w3 w1.heap.size A3 k c3 (l.take k) := o3
    have hB3 := hbd.trans (hb3.mono hbd.size)
    have r3 := rd.below hb3 rd.lt
    have hX3 := HX.out _ (had.lift hb3)
    have hs3 : w1.heap.size ≤ w3.heap.size := hb3.size
    refine hK _ _ _ (fun _ h => h) trivial ?_
    (try simp only [Act.put, List.setIfInBounds_toArray, List.set_cons_zero, List.set_cons_succ])
    refine mix_call (by rfl) (fun K hK => ?_)
    refine wp_append_ow okH _ (.tmp 25) (.tmp 29) _ rfl w1.heap.size info_hnt Tryz.underlying37 rfl A3 k c3 (l.take k) rfl o3 _ 0 _ _ (l.drop (k + 1)) rfl hX3 Hdl.out (by unfold maxLen; omega) (by omega) hs3 ?_
    intro A5 c5 w5 ow5 hg5 _
    have hB5 := hB3.grown hg5 hB3.size (fun g hg => by have := (o3.lt g hg).1; have := hB1.size; omega)
    have r5 := r3.grown hg5 (fun e => by have := (o3.lt _ e).1; have := r1.lt; omega)
    refine hK _ _ _ (fun _ h => h) trivial ?_
    (try simp only [Act.put, List.setIfInBounds_toArray, List.set_cons_zero, List.set_cons_succ])
    iterate 1 (
      refine mix_pure (v := ?_) (by rfl) (fun u hu => ?_) ?_
      rotate_left
      · skip
        go_simp
        (with_reducible rfl)
      (try simp only [Act.put, List.setIfInBounds_toArray, List.set_cons_zero, List.set_cons_succ]))
    obtain ⟨c0, c1, f0, f1⟩ := r5.two
    refine mix_call (by rfl) (fun K hK => ?_)
    go_simp
    refine hK _ _ _ (fun _ h => h) trivial ?_
    (try simp only [Act.put, List.setIfInBounds_toArray, List.set_cons_zero, List.set_cons_succ])
    refine mix_nil ?_
    go_wp2
    refine bodyPost_ret (v := .agg #[.int .i64 0, .slice A5 (k + 0) c5]) (by simp [results, Tryz.results108, go_sem, c0, c1]) rfl ?_
    exact ⟨_, _, _, rfl, (((ow5.under (p := ⟨w.heap.size, 0, none⟩) r1.lt _).under (p := ⟨w.heap.size, 1, none⟩) r1.lt _).from_ hB1.size), (hB5.setCell (Nat.le_refl _) _).setCell (Nat.le_refl _) _⟩
  · have hX : ∀ W : World, Rd eH W W.heap.size (some ⟨g, o, none⟩) l → Rd eH W W.heap.size (some ⟨g, o + (k + 1) * 7, none⟩) (l.drop (k + 1)) := fun W h => by
      rcases Nat.lt_or_ge (k + 1) l.length with hl | hl
      · obtain ⟨g', o', e, hr⟩ := h.add hl
        obtain ⟨rfl, rfl⟩ : g = g' ∧ o = o' := by simpa using Option.some.inj e
        exact hr
      · rw [List.drop_of_length_le hl]
        exact Rd.nil
    have htl : (l.take k).length = k := by rw [List.length_take]; omega
    have hdl : (l.drop (k + 1)).length = (n - (k + 1)) := by rw [List.length_drop]; omega
    have HX := Lib.hid hX
    have Htl := Lib.hid htl
    have Hdl := Lib.hid hdl
    have hk0 : ¬ (k : Int) < 0 := by omega
    have hk1 : (0 : Int) ≤ (k : Int) := by omega
    have hkc : k ≤ c := by omega
    have hwr : IntKind.i64.wrap ((k : Int) + 1) = (k : Int) + 1 := IntWalk.i64_in _ (by omega)
    have htn : ((k : Int) + 1).toNat = k + 1 := by omega
    have hm : k + (n - (k + 1)) ≤ 8 := by omega
    clear h0 hi hj hX htl hdl
    go_enter Tryz.func108, Tryz.ntmps108
    go_wp2_with fail
    refine (HF).mono ?_
    rintro e w1 ⟨rfl, hb1⟩
    have hB1 := hB0.trans (hb1.mono hB0.size)
    have r1 := r0.below hb1 r0.lt
    have ha1 := ha0.lift hb1
    go_wp2_with fail
    refine (HL _ ha1).mono ?_
    rintro e w99 ⟨rfl, rfl⟩
    go_wp2
    have hbd := hB1.drew
    have rd := r1.drew
    have had := ha1.drewN 1
    have i1 : (k : Int) ≤ (c : Int) := by omega
    have i2 : (k : Int) + 1 ≤ (n : Int) := by omega
    have i3 : (0 : Int) ≤ (k : Int) + 1 := by omega
    refine wp_region_mix [(0, false), (1, false), (2, false), (4, false), (5, false), (6, false), (7, false), (3, true), (8, true), (9, false), (10, true)] (fun _ => True) (by kernel_rfl) (by kernel_rfl) (fun _ _ _ _ _ h => h) trivial ?_
    simp only [mixOps, List.map_cons, List.map_nil, List.getElem?_cons_succ, List.getElem?_cons_zero, Option.getD_some]
    iterate 7 (
      refine mix_pure (v := ?_) (by rfl) (fun u hu => ?_) ?_
      rotate_left
      · skip
        go_simp
        (with_reducible rfl)
      (try simp only [Act.put, List.setIfInBounds_toArray, List.set_cons_zero, List.set_cons_succ]))
    refine mix_call (by rfl) (fun K hK => ?_)
    go_simp
    refine (l4Copy (some ⟨g, o, none⟩) k _ (l.take k) _ (had.take k) Htl.out (by omega)).mono ?_
    rintro e w3 ⟨A3, c3, rfl, o3, hb3⟩
    have o3 : Ow eH w3 w1.heap.size A3 k c3 (l.take k) := o3
    have hB3 := hbd.trans (hb3.mono hbd.size)
    have r3 := rd.below hb3 rd.lt
    have hX3 := HX.out _ (had.lift hb3)
    have hs3 : w1.heap.size ≤ w3.heap.size := hb3.size
    refine hK _ _ _ (fun _ h => h) trivial ?_
    (try simp only [Act.put, List.setIfInBounds_toArray, List.set_cons_zero, List.set_cons_succ])
    refine mix_call (by rfl) (fun K hK => ?_)
    refine wp_append_ow okH _ (.tmp 25) (.tmp 29) _ rfl w1.heap.size info_hnt Tryz.underlying37 rfl A3 k c3 (l.take k) rfl o3 _ (n - (k + 1)) _ _ (l.drop (k + 1)) rfl hX3 Hdl.out (by unfold maxLen; omega) (by omega) hs3 ?_
    intro A5 c5 w5 ow5 hg5 _
    have hB5 := hB3.grown hg5 hB3.size (fun g hg => by have := (o3.lt g hg).1; have := hB1.size; omega)
    have r5 := r3.grown hg5 (fun e => by have := (o3.lt _ e).1; have := r1.lt; omega)
    refine hK _ _ _ (fun _ h => h) trivial ?_
    (try simp only [Act.put, List.setIfInBounds_toArray, List.set_cons_zero, List.set_cons_succ])
    iterate 1 (
      refine mix_pure (v := ?_) (by rfl) (fun u hu => ?_) ?_
      rotate_left
      · skip
        go_simp
        (with_reducible rfl)
      (try simp only [Act.put, List.setIfInBounds_toArray, List.set_cons_zero, List.set_cons_succ]))
    obtain ⟨c0, c1, f0, f1⟩ := r5.two
    refine mix_call (by rfl) (fun K hK => ?_)
    go_simp
    refine hK _ _ _ (fun _ h => h) trivial ?_
    (try simp only [Act.put, List.setIfInBounds_toArray, List.set_cons_zero, List.set_cons_succ])
    refine mix_nil ?_
    go_wp2
    refine bodyPost_ret (v := .agg #[.int .i64 0, .slice A5 (k + (n - (k + 1))) c5]) (by simp [results, Tryz.results108, go_sem, c0, c1]) rfl ?_
    exact ⟨_, _, _, rfl, (((ow5.under (p := ⟨w.heap.size, 0, none⟩) r1.lt _).under (p := ⟨w.heap.size, 1, none⟩) r1.lt _).from_ hB1.size), (hB5.setCell (Nat.le_refl _) _).setCell (Nat.le_refl _) _⟩
end Go.Proofs.YtmaillakhhdkfaaGreatDoor
/-
  Two blocks that are known whole; a state copied: the model's.
-/
namespace Go.Proofs.YtmaillakhhdkfaaGreatDoor
set_option maxRecDepth 20000
open Go.RowKit
set_option linter.unusedSimpArgs false
set_option linter.unusedVariables false
attribute [local irreducible] mixW

/-- Two blocks that are known whole. -/
def At2 (w : World) (g : Nat) (t : TypeId) (cs : Array Value) (g' : Nat) (t' : TypeId) (cs' : Array Value) : Prop := At w g t cs ∧ At w g' t' cs'
section
variable {w w' : World} {g g' : Nat} {t t' : TypeId} {cs cs' : Array Value}
theorem At2.lt (h : At2 w g t cs g' t' cs') : g < w.heap.size ∧ g' < w.heap.size := ⟨h.1.lt, h.2.lt⟩
theorem At2.drew (h : At2 w g t cs g' t' cs') : At2 w.drew g t cs g' t' cs' := ⟨h.1.drew, h.2.drew⟩
theorem At2.below {B : Nat} (h : At2 w g t cs g' t' cs') (hb : Below B w w') (hl : g < B ∧ g' < B) : At2 w' g t cs g' t' cs' := ⟨h.1.below hb hl.1, h.2.below hb hl.2⟩
theorem At2.alloc (h : At2 w g t cs g' t' cs') (o : Obj) : At2 (w.alloc o) g t cs g' t' cs' := ⟨h.1.alloc o, h.2.alloc o⟩
theorem At2.far (h : At2 w g t cs g' t' cs') {p : Addr} (hp : g ≠ p.block ∧ g' ≠ p.block) (u : Value) : At2 (w.setCell p u) g t cs g' t' cs' := ⟨h.1.far hp.1 u, h.2.far hp.2 u⟩
end
/-- A row of the call's own lies in no block of another type. -/
theorem Ow.apart {α : Type} {E : Enc α} {w : World} {base n c : Nat} {A : Option Addr} {l : List α} {g : Nat} {t : TypeId} {cs : Array Value} (h : Ow E w base A n c l) (hne : E.tid ≠ t) (hx : At w g t cs) (i : Nat) (u : Value) : Ow E (w.setCell ⟨g, i, none⟩ u) base A n c l := by
  refine h.grown (grown_setCell w ⟨g, i, none⟩ u) (fun k hk e => ?_)
  obtain rfl : g = k := by simpa using e
  rcases h.2 with ⟨h0, _⟩ | ⟨g', cap, cur, hv, hb, hgg, rest⟩
  · simp only [Value.slice.injEq] at h0
    rw [h0.1] at hk
    simp at hk
  · simp only [Value.slice.injEq] at hv
    rw [hv.1] at hk
    obtain rfl : g' = g := by simpa using hk
    unfold At at hx
    rw [hx] at hgg
    simp only [Option.some.injEq, Obj.cells.injEq] at hgg
    exact hne hgg.2.1.symm
theorem grown_any {w w' : World} (h : w.grownBy w' none) (r : Option Nat) : w.grownBy w' r := ⟨h.os, h.tape, h.output, h.size, fun k hk _ => h.block k hk (by simp)⟩

set_option maxHeartbeats 4000000 in
theorem l5Copy (g : Nat) (A B : Option Addr) (n c m d : Nat) (l : List Smp) (h : List Hnt) (x : Int) (w : World) (hx : At w g 39 #[.slice A n c, .slice B m d, .int .i64 x]) (ha : Rd eS w w.heap.size A l) (hb : Rd eH w w.heap.size B h) (hn : l.length = n) (hm : h.length = m) (hn1 : n ≤ 1048576) (hm1 : m ≤ 1048576) :
    Calls Tryz.prog 50 #[.pointer (some ⟨g, 0, none⟩)] w fun e w' => ∃ A' c' B' d', e = .returned (.agg #[.slice A' n c', .slice B' m d', .int .i64 x]) ∧ Ow eS w' w.heap.size A' n c' l ∧ Ow eH w' w.heap.size B' m d' h ∧ Below w.heap.size w w' := by
  have hg := hx.lt
  have hB0 : Below w.heap.size w (w.alloc (.cells #[.slice none 0 0, .slice none 0 0, .int .i64 0] 39)).drew := ((Below.refl _ _).alloc (Nat.le_refl _) _).drew
  have x0 : At (w.alloc (.cells #[.slice none 0 0, .slice none 0 0, .int .i64 0] 39)).drew g 39 #[.slice A n c, .slice B m d, .int .i64 x] := (hx.alloc _).drew
  have z0 : At (w.alloc (.cells #[.slice none 0 0, .slice none 0 0, .int .i64 0] 39)).drew w.heap.size 39 #[.slice none 0 0, .slice none 0 0, .int .i64 0] := (At.new w 39 #[.slice none 0 0, .slice none 0 0, .int .i64 0]).drew
  have ha0 := ha.lift hB0
  have hb0 := hb.lift hB0
  go_enter Tryz.func50, Tryz.ntmps50
  go_wp2
  refine wp_region_mix [(0, false), (1, false), (2, false), (3, false), (5, false), (6, false), (7, false), (8, false), (10, false), (11, false), (12, false), (13, false), (4, true), (9, true), (14, false), (15, true)] (fun u => At u g 39 #[.slice A n c, .slice B m d, .int .i64 x]) (by kernel_rfl) (by kernel_rfl) (fun _ _ _ _ _ h => h) x0 ?_
  simp only [mixOps, List.map_cons, List.map_nil, List.getElem?_cons_succ, List.getElem?_cons_zero, Option.getD_some]
  repeat (first
    | (refine mix_skip (by rfl) ?_
       (try simp only [Act.put, List.setIfInBounds_toArray, List.set_cons_zero, List.set_cons_succ]))
    | (refine mix_pure (v := ?_) (by rfl) (fun u hu => ?_) ?_
       rotate_left
       · obtain ⟨_, _, _, _, _, _⟩ := hu.three
         go_simp
         (with_reducible rfl)
       (try simp only [Act.put, List.setIfInBounds_toArray, List.set_cons_zero, List.set_cons_succ])))
  generalize (w.alloc (.cells #[.slice none 0 0, .slice none 0 0, .int .i64 0] 39)).drew = v0 at *
  refine mix_call (by rfl) (fun K hK => ?_)
  go_simp
  refine (l3Copy A n c l _ ha0 hn hn1).mono ?_
  rintro e w1 ⟨A1, c1, rfl, o1, hb1⟩
  have hB1 := hB0.trans (hb1.mono hB0.size)
  have x1 := x0.below hb1 x0.lt
  have z1 := z0.below hb1 z0.lt
  refine hK _ _ (fun u => At u g 39 #[.slice A n c, .slice B m d, .int .i64 x]) (fun _ h => h) x1 ?_
  clear hK K
  (try simp only [Act.put, List.setIfInBounds_toArray, List.set_cons_zero, List.set_cons_succ])
  refine mix_call (by rfl) (fun K hK => ?_)
  go_simp
  refine (l4Copy B m d h _ (hb0.lift hb1) hm hm1).mono ?_
  rintro e w2 ⟨B1, d1, rfl, o2, hb2⟩
  have hB2 := hB1.trans (hb2.mono hB1.size)
  have x2 := x1.below hb2 x1.lt
  have z2 := z1.below hb2 z1.lt
  have lz := z0.lt
  have lz1 := z1.lt
  have oa := o1.below hb2 (Nat.le_refl _)
  refine hK _ _ (fun u => At u g 39 #[.slice A n c, .slice B m d, .int .i64 x]) (fun _ h => h) x2 ?_
  clear hK K
  (try simp only [Act.put, List.setIfInBounds_toArray, List.set_cons_zero, List.set_cons_succ])
  refine mix_pure (v := ?_) (by rfl) (fun u hu => ?_) ?_
  rotate_left
  · go_simp
    (with_reducible rfl)
  (try simp only [Act.put, List.setIfInBounds_toArray, List.set_cons_zero, List.set_cons_succ])
  obtain ⟨p0, p1, p2, f0, f1, f2⟩ := z2.three
  refine mix_call (by rfl) (fun K hK => ?_)
  go_simp
  refine hK _ _ (fun u => At u g 39 #[.slice A n c, .slice B m d, .int .i64 x]) (fun _ h => h) (((x2.far (p := ⟨w.heap.size, 0, none⟩) (by simp; omega) _).far (p := ⟨w.heap.size, 1, none⟩) (by simp; omega) _).far (p := ⟨w.heap.size, 2, none⟩) (by simp; omega) _) ?_
  clear hK K
  (try simp only [Act.put, List.setIfInBounds_toArray, List.set_cons_zero, List.set_cons_succ])
  refine mix_nil ?_
  go_wp2
  refine bodyPost_ret (v := .agg #[.slice A1 n c1, .slice B1 m d1, .int .i64 x]) (by simp [results, Tryz.results50, go_sem, p0, p1, p2]) rfl ?_
  exact ⟨A1, c1, B1, d1, rfl, (((oa.under (p := ⟨w.heap.size, 0, none⟩) lz _).under (p := ⟨w.heap.size, 1, none⟩) lz _).under (p := ⟨w.heap.size, 2, none⟩) lz _).from_ hB0.size, (((o2.under (p := ⟨w.heap.size, 0, none⟩) lz1 _).under (p := ⟨w.heap.size, 1, none⟩) lz1 _).under (p := ⟨w.heap.size, 2, none⟩) lz1 _).from_ hB1.size, ((hB2.setCell (by simp) _).setCell (by simp) _).setCell (by simp) _⟩
end Go.Proofs.YtmaillakhhdkfaaGreatDoor
