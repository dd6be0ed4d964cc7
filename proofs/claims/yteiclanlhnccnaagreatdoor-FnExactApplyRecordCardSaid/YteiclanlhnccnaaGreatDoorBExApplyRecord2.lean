/-
  Texts of one proof, joined: each has its own namespace.
-/
import Derived.Test.YteiclanlhnccnaaGreatDoorBExApplyRecord0
import Derived.Test.YteiclanlhnccnaaGreatDoorBExApplyRecord1
/-
  Rows of samples: how they lie in memory; the law's own copying, comparing and marking of them.
-/
namespace Go.Proofs.YteiclanlhnccnaaGreatDoor
set_option maxRecDepth 20000
open Go.RowKit
set_option linter.unusedSimpArgs false

def smpCells (x : Smp) : List Value := [.int .i64 x.1, .int .i64 x.2.1, .int .i64 x.2.2.1, .int .i64 x.2.2.2]
/-- Samples. -/
def eS : Enc Smp := ⟨25, 4, smpCells⟩
theorem okS : EncOk eS := ⟨fun _ => rfl, fun a u hu => by simp only [eS, smpCells, List.mem_cons, List.not_mem_nil, or_false] at hu; rcases hu with rfl | rfl | rfl | rfl <;> rfl, by decide⟩
/-- The law's own samples. -/
def eL : Enc Smp := ⟨61, 4, smpCells⟩
theorem okL : EncOk eL := ⟨fun _ => rfl, fun a u hu => by simp only [eL, smpCells, List.mem_cons, List.not_mem_nil, or_false] at hu; rcases hu with rfl | rfl | rfl | rfl <;> rfl, by decide⟩
theorem info_smp : (Tryz.prog.info? 25).map (fun i => (i.zero, i.size, i.bytes)) = some (some (.agg #[.int .i64 0, .int .i64 0, .int .i64 0, .int .i64 0]), 4, 32) := by kernel_rfl

/-- Four cells. -/
def S4 (u : World) (g p : Nat) (a0 a1 a2 a3 : Int) : Prop :=
  u.cell? ⟨g, p, none⟩ = some (.int .i64 a0) ∧ u.cell? ⟨g, p + 1, none⟩ = some (.int .i64 a1) ∧ u.cell? ⟨g, p + 2, none⟩ = some (.int .i64 a2) ∧ u.cell? ⟨g, p + 3, none⟩ = some (.int .i64 a3)
theorem S4.below {B : Nat} {w w' : World} {g p : Nat} {a0 a1 a2 a3 : Int} (h : S4 w g p a0 a1 a2 a3) (hb : Below B w w') (hg : g < B) : S4 w' g p a0 a1 a2 a3 :=
  ⟨(hb.cell (p := ⟨g, p, none⟩) hg).trans h.1, (hb.cell (p := ⟨g, p + 1, none⟩) hg).trans h.2.1, (hb.cell (p := ⟨g, p + 2, none⟩) hg).trans h.2.2.1, (hb.cell (p := ⟨g, p + 3, none⟩) hg).trans h.2.2.2⟩
theorem S4.drew {w : World} {g p : Nat} {a0 a1 a2 a3 : Int} (h : S4 w g p a0 a1 a2 a3) : S4 w.drew g p a0 a1 a2 a3 := h

section
variable {w w' : World} {base hi n c : Nat} {A : Option Addr} {l : List Smp}
theorem Rd.smp (h : Rd eS w hi A l) {k : Nat} (hk : k < l.length) : ∃ g o a0 a1 a2 a3, A = some ⟨g, o, none⟩ ∧ g < hi ∧ l[k]? = some (a0, a1, a2, a3) ∧ S4 w g (o + k * 4) a0 a1 a2 a3 := by
  obtain ⟨g, o, ⟨a0, a1, a2, a3⟩, e, hg, ha, hc⟩ := h.at_ hk
  exact ⟨g, o, a0, a1, a2, a3, e, hg, ha, hc 0 _ rfl, hc 1 _ rfl, hc 2 _ rfl, hc 3 _ rfl⟩
theorem Rd.smp_is {g o k : Nat} {a0 a1 a2 a3 : Int} (h : Rd eS w hi (some ⟨g, o, none⟩) l) (hk : l[k]? = some (a0, a1, a2, a3)) : S4 w g (o + k * 4) a0 a1 a2 a3 := by
  obtain ⟨g', o', e, _, hc⟩ := h (by intro e; subst e; simp at hk)
  obtain ⟨rfl, rfl⟩ : g = g' ∧ o = o' := by simpa using Option.some.inj e
  exact ⟨hc k 0 _ _ hk rfl, hc k 1 _ _ hk rfl, hc k 2 _ _ hk rfl, hc k 3 _ _ hk rfl⟩
theorem Rd.smpL (h : Rd eL w hi A l) {k : Nat} (hk : k < l.length) : ∃ g o a0 a1 a2 a3, A = some ⟨g, o, none⟩ ∧ g < hi ∧ l[k]? = some (a0, a1, a2, a3) ∧ S4 w g (o + k * 4) a0 a1 a2 a3 := h.smp hk
theorem Ow.smpAt {g : Nat} (h : Ow eS w base (some ⟨g, 0, none⟩) n c l) {k : Nat} {a0 a1 a2 a3 : Int} (hk : l[k]? = some (a0, a1, a2, a3)) : S4 w g (k * 4) a0 a1 a2 a3 :=
  ⟨h.cellAt okS hk (j := 0) rfl, h.cellAt okS hk (j := 1) rfl, h.cellAt okS hk (j := 2) rfl, h.cellAt okS hk (j := 3) rfl⟩
/-- One number of a sample. -/
theorem Ow.smpPut {g : Nat} (h : Ow eS w base (some ⟨g, 0, none⟩) n c l) {k j : Nat} {x y : Smp} {u : Value} (hk : l[k]? = some x) (hj : j < 4) (hc : smpCells y = (smpCells x).set j u) :
    Ow eS (w.setCell ⟨g, k * 4 + j, none⟩ u) base (some ⟨g, 0, none⟩) n c (l.set k y) ∧ w.grownBy (w.setCell ⟨g, k * 4 + j, none⟩ u) (some g) :=
  h.stored okS (k := k) (j := j) (a' := y) hk hj hc
/-- A whole sample. -/
theorem Ow.smpSet {g : Nat} (h : Ow eS w base (some ⟨g, 0, none⟩) n c l) {k : Nat} (hk : k < l.length) (b0 b1 b2 b3 : Int) :
    Ow eS ((((w.setCell ⟨g, k * 4, none⟩ (.int .i64 b0)).setCell ⟨g, k * 4 + 1, none⟩ (.int .i64 b1)).setCell ⟨g, k * 4 + 2, none⟩ (.int .i64 b2)).setCell ⟨g, k * 4 + 3, none⟩ (.int .i64 b3)) base (some ⟨g, 0, none⟩) n c (l.set k (b0, b1, b2, b3)) ∧
    w.grownBy ((((w.setCell ⟨g, k * 4, none⟩ (.int .i64 b0)).setCell ⟨g, k * 4 + 1, none⟩ (.int .i64 b1)).setCell ⟨g, k * 4 + 2, none⟩ (.int .i64 b2)).setCell ⟨g, k * 4 + 3, none⟩ (.int .i64 b3)) (some g) := by
  obtain ⟨⟨a0, a1, a2, a3⟩, ha⟩ : ∃ x, l[k]? = some x := ⟨l[k], List.getElem?_eq_getElem hk⟩
  have h0 := h.smpPut (j := 0) (y := (b0, a1, a2, a3)) ha (by omega) rfl
  have h1 := h0.1.smpPut (j := 1) (x := (b0, a1, a2, a3)) (y := (b0, b1, a2, a3)) (by rw [List.getElem?_set_self (by omega)]) (by omega) rfl
  rw [List.set_set] at h1
  have h2 := h1.1.smpPut (j := 2) (x := (b0, b1, a2, a3)) (y := (b0, b1, b2, a3)) (by rw [List.getElem?_set_self (by omega)]) (by omega) rfl
  rw [List.set_set] at h2
  have h3 := h2.1.smpPut (j := 3) (x := (b0, b1, b2, a3)) (y := (b0, b1, b2, b3)) (by rw [List.getElem?_set_self (by omega)]) (by omega) rfl
  rw [List.set_set] at h3
  exact ⟨h3.1, grown_trans (grown_trans (grown_trans h0.2 h1.2) h2.2) h3.2⟩
end

theorem eqSample (a0 a1 a2 a3 b0 b1 b2 b3 : Int) (w : World) :
    Calls Tryz.prog 141 #[.agg #[.int .i64 a0, .int .i64 a1, .int .i64 a2, .int .i64 a3], .agg #[.int .i64 b0, .int .i64 b1, .int .i64 b2, .int .i64 b3]] w fun e w' =>
      e = .returned (.bool (decide ((a0, a1, a2, a3) = (b0, b1, b2, b3)))) ∧ Below w.heap.size w w' := by
  by_cases h0 : a0 = b0
  rotate_left
  · have hn : (a0 != b0) = true := by rw [bne_iff_ne]; exact h0
    have Hf := Lib.hid (show decide ((a0, a1, a2, a3) = (b0, b1, b2, b3)) = false by simp [h0])
    clear h0
    go_enter Tryz.func141, Tryz.ntmps141
    go_wp2
    go_ret
    exact ⟨by rw [Hf.out]; rfl, ((Below.refl _ _).alloc (Nat.le_refl _) _).alloc (by simp) _⟩
  subst h0
  by_cases h1 : a1 = b1
  rotate_left
  · have hn : (a1 != b1) = true := by rw [bne_iff_ne]; exact h1
    have Hf := Lib.hid (show decide ((a0, a1, a2, a3) = (a0, b1, b2, b3)) = false by simp [h1])
    clear h1
    go_enter Tryz.func141, Tryz.ntmps141
    go_wp2
    go_ret
    exact ⟨by rw [Hf.out]; rfl, ((Below.refl _ _).alloc (Nat.le_refl _) _).alloc (by simp) _⟩
  subst h1
  by_cases h2 : a2 = b2
  rotate_left
  · have hn : (a2 != b2) = true := by rw [bne_iff_ne]; exact h2
    have Hf := Lib.hid (show decide ((a0, a1, a2, a3) = (a0, a1, b2, b3)) = false by simp [h2])
    clear h2
    go_enter Tryz.func141, Tryz.ntmps141
    go_wp2
    go_ret
    exact ⟨by rw [Hf.out]; rfl, ((Below.refl _ _).alloc (Nat.le_refl _) _).alloc (by simp) _⟩
  subst h2
  by_cases h3 : a3 = b3
  rotate_left
  · have hn : (a3 != b3) = true := by rw [bne_iff_ne]; exact h3
    have Hf := Lib.hid (show decide ((a0, a1, a2, a3) = (a0, a1, a2, b3)) = false by simp [h3])
    clear h3
    go_enter Tryz.func141, Tryz.ntmps141
    go_wp2
    go_ret
    exact ⟨by rw [Hf.out]; rfl, ((Below.refl _ _).alloc (Nat.le_refl _) _).alloc (by simp) _⟩
  subst h3
  go_enter Tryz.func141, Tryz.ntmps141
  go_wp2
  go_ret
  exact ⟨by simp, ((Below.refl _ _).alloc (Nat.le_refl _) _).alloc (by simp) _⟩

theorem szSampleS (A : Option Addr) (n c : Nat) (left : Int) (w : World) (h0 : 0 ≤ left) (hl : left ≤ 1048576) (hn : n ≤ maxLen) :
    Calls Tryz.prog 84 #[.slice A n c, .int .i64 left] w fun e w' => e = .returned (.int .i64 (if left < (n : Int) then -1 else left - n)) ∧ w' = w := by
  unfold maxLen at hn
  have hw : IntKind.i64.wrap (left - (n : Int)) = left - (n : Int) := IntWalk.i64_in _ (by omega)
  by_cases h : left < (n : Int)
  · rw [if_pos h]
    go_enter Tryz.func84, Tryz.ntmps84
    go_wp2
    go_ret
    exact ⟨rfl, rfl⟩
  · rw [if_neg h]
    go_enter Tryz.func84, Tryz.ntmps84
    go_wp2
    go_ret
    exact ⟨rfl, rfl⟩

theorem alike_all' {α : Type} {xs ys : List α} {n : Nat} (hx : xs.length = n) (hy : ys.length = n) (h : ∀ i, i < n → xs[i]? = ys[i]?) : xs = ys := by
  apply List.ext_getElem?
  intro i
  rcases Nat.lt_or_ge i n with h1 | h1
  · exact h i h1
  · rw [List.getElem?_eq_none (by omega), List.getElem?_eq_none (by omega)]
def EqRelS (xs ys : List Smp) (w : World) (n : Nat) (i : Value) (wr : World) : Prop :=
  ∃ k : Nat, k ≤ n ∧ i = .int .i64 k ∧ (∀ i, i < k → xs[i]? = ys[i]?) ∧ Below w.heap.size w wr

theorem eqSampleS_no (A B : Option Addr) (n m c d : Nat) (w : World) (h : n ≠ m) :
    Calls Tryz.prog 89 #[.slice A n c, .slice B m d] w fun e w' => e = .returned (.bool false) ∧ Below w.heap.size w w' := by
  have hb : ((n : Int) != (m : Int)) = true := by simp; omega
  go_enter Tryz.func89, Tryz.ntmps89
  go_wp2
  go_ret
  exact ⟨rfl, Below.refl _ _⟩

set_option maxHeartbeats 1000000 in
theorem eqSampleS_any (A B : Option Addr) (n c d : Nat) (xs ys : List Smp) (w : World) (ha : Rd eS w w.heap.size A xs) (hb : Rd eS w w.heap.size B ys) (hx : xs.length = n) (hy : ys.length = n) (hm : n ≤ maxLen) :
    Calls Tryz.prog 89 #[.slice A n c, .slice B n d] w fun e w' => e = .returned (.bool (decide (xs = ys))) ∧ Below w.heap.size w w' := by
  have h0 : ((n : Int) != (n : Int)) = false := by simp
  have Hx := Lib.hid hx
  have Hy := Lib.hid hy
  clear hx hy
  unfold maxLen at hm
  go_enter Tryz.func89, Tryz.ntmps89
  go_wp2
  go_loopw [5] (fun i wr => EqRelS xs ys w n i wr) (fun i _ => n - (intOf i).toNat)
  case atStart => exact ⟨0, Nat.zero_le _, rfl, fun _ h => absurd h (by omega), Below.refl _ _⟩
  case round =>
    obtain ⟨k, hk, rfl, hal, hbel⟩ := hrel
    have Hal := Lib.hid hal
    clear hal
    by_cases hlt : k < n
    · obtain ⟨g, o, a0, a1, a2, a3, rfl, hg, hxk, ca⟩ := (ha.below hbel (Nat.le_refl _)).smp (k := k) (by rw [Hx.out]; exact hlt)
      obtain ⟨g', o', b0, b1, b2, b3, rfl, hg', hyk, cb⟩ := (hb.below hbel (Nat.le_refl _)).smp (k := k) (by rw [Hy.out]; exact hlt)
      have Hxk := Lib.hid hxk
      have Hyk := Lib.hid hyk
      clear hxk hyk
      have hbd := hbel.drew
      go_wp2
      refine wp_region_mix [(0, false), (1, false), (2, false), (3, false), (4, false), (5, false), (6, false), (7, false), (8, true), (9, false)] (fun u => S4 u g (o + k * 4) a0 a1 a2 a3 ∧ S4 u g' (o' + k * 4) b0 b1 b2 b3) (by kernel_rfl) (by kernel_rfl) (fun _ _ _ _ _ h => h) ⟨ca.drew, cb.drew⟩ ?_
      simp only [mixOps, List.map_cons, List.map_nil, List.getElem?_cons_succ, List.getElem?_cons_zero, Option.getD_some]
      repeat (first
        | (refine mix_skip (by rfl) ?_
           (try simp only [Act.put, List.setIfInBounds_toArray, List.set_cons_zero, List.set_cons_succ]))
        | (refine mix_pure (v := ?_) (by rfl) (fun u hu => ?_) ?_
           rotate_left
           · obtain ⟨⟨_, _, _, _⟩, _, _, _, _⟩ := hu
             go_simp
             (with_reducible rfl)
           (try simp only [Act.put, List.setIfInBounds_toArray, List.set_cons_zero, List.set_cons_succ])))
      refine mix_call (by rfl) (fun K hK => ?_)
      go_simp
      refine (eqSample a0 a1 a2 a3 b0 b1 b2 b3 _).mono ?_
      rintro e w1 ⟨rfl, hb1⟩
      have hB1 := hbd.trans (hb1.mono hbd.size)
      have c1 := ca.drew.below hb1 (Nat.lt_of_lt_of_le hg hbd.size)
      have c2 := cb.drew.below hb1 (Nat.lt_of_lt_of_le hg' hbd.size)
      refine hK _ _ _ (fun _ h => h) ⟨c1, c2⟩ ?_
      (try simp only [Act.put, List.setIfInBounds_toArray, List.set_cons_zero, List.set_cons_succ])
      by_cases he : (a0, a1, a2, a3) = (b0, b1, b2, b3)
      · rw [show decide ((a0, a1, a2, a3) = (b0, b1, b2, b3)) = true by simpa using he]
        have He := Lib.hid he
        clear he
        refine mix_pure (v := ?_) (by rfl) (fun u hu => ?_) ?_
        rotate_left
        · go_simp
          (with_reducible rfl)
        (try simp only [Act.put, List.setIfInBounds_toArray, List.set_cons_zero, List.set_cons_succ])
        refine mix_nil ?_
        go_wp2
        refine ⟨⟨k + 1, by omega, by go_num, fun i hi => ?_, hB1⟩, by simp [intOf]; omega⟩
        rcases Nat.lt_or_ge i k with h | h
        · exact Hal.out i h
        · obtain rfl : i = k := by omega
          rw [Hxk.out, Hyk.out, He.out]
      · rw [show decide ((a0, a1, a2, a3) = (b0, b1, b2, b3)) = false by simpa using he]
        have hfin : decide (xs = ys) = false := by
          simp only [decide_eq_false_iff_not]
          rintro rfl
          exact he (Option.some.inj (Hxk.out.symm.trans Hyk.out))
        have Hf := Lib.hid hfin
        clear he hfin
        refine mix_pure (v := ?_) (by rfl) (fun u hu => ?_) ?_
        rotate_left
        · go_simp
          (with_reducible rfl)
        (try simp only [Act.put, List.setIfInBounds_toArray, List.set_cons_zero, List.set_cons_succ])
        refine mix_nil ?_
        go_wp2
        go_ret
        exact ⟨by rw [Hf.out]; rfl, hB1⟩
    · have hfin : decide (xs = ys) = true := by
        obtain rfl : k = n := by omega
        simp only [decide_eq_true_eq]
        exact alike_all' Hx.out Hy.out Hal.out
      have Hf := Lib.hid hfin
      clear hfin
      go_wp2
      go_ret
      exact ⟨by rw [Hf.out]; rfl, hbel⟩

/-- Two rows of samples compared, whatever their lengths. -/
theorem eqSampleS (A B : Option Addr) (n m c d : Nat) (xs ys : List Smp) (w : World) (ha : Rd eS w w.heap.size A xs) (hb : Rd eS w w.heap.size B ys) (hx : xs.length = n) (hy : ys.length = m) (hm : n ≤ maxLen) :
    Calls Tryz.prog 89 #[.slice A n c, .slice B m d] w fun e w' => e = .returned (.bool (decide (xs = ys))) ∧ Below w.heap.size w w' := by
  by_cases h : n = m
  · subst h
    exact eqSampleS_any A B n c d xs ys w ha hb hx hy hm
  · have hd : decide (xs = ys) = false := by
      simp only [decide_eq_false_iff_not]
      rintro rfl
      exact h (hx.symm.trans hy)
    rw [hd]
    exact eqSampleS_no A B n m c d w h

set_option maxHeartbeats 1000000 in
theorem toSampleS (A : Option Addr) (n c : Nat) (xs : List Smp) (w : World) (ha : Rd eL w w.heap.size A xs) (hx : xs.length = n) (hm : n ≤ 1048576) :
    Calls Tryz.prog 86 #[.slice A n c] w fun e w' => ∃ A' c', e = .returned (.slice A' n c') ∧ Ow eS w' w.heap.size A' n c' xs ∧ Below w.heap.size w w' := by
  have Hx := Lib.hid hx
  clear hx
  go_enter Tryz.func86, Tryz.ntmps86
  go_wp2_with (refine wpList_make_ow okS _ rfl _ _ _ rfl w.heap.size info_smp Tryz.underlying36 (0, 0, 0, 0) rfl .i64 .i64 n n n rfl rfl rfl rfl (by omega) (by unfold maxLen; omega) (Nat.le_refl _) ?_; intro w1 hown hg1)
  have hs1 : w.heap.size < w1.heap.size := (hown.lt w.heap.size rfl).2
  go_loopw [4] (fun i wr => ToRel eS (0, 0, 0, 0) w w.heap.size xs n i wr) (fun i _ => n - (intOf i).toNat)
  case atStart => exact toRel_start (0, 0, 0, 0) xs hown hg1
  case round =>
    obtain ⟨k, hk, rfl, hown, hbel⟩ := hrel
    by_cases hlt : k < n
    · obtain ⟨g, o, a0, a1, a2, a3, rfl, hg, hx, c0, c1, c2, c3⟩ := (ha.below hbel (Nat.le_refl _)).smpL (k := k) (by rw [Hx.out]; exact hlt)
      have Hset := Lib.hid (set_next (0, 0, 0, 0) xs n k (a0, a1, a2, a3) hlt Hx.out hx)
      have Hpa := Lib.hid (part_at (0, 0, 0, 0) xs n k hlt Hx.out)
      clear hx
      go_wp2_with fail
      refine (toSample a0 a1 a2 a3 _).mono ?_
      rintro e w2 ⟨rfl, hb2⟩
      have how2 := hown.below hb2 (Nat.le_refl _)
      have hB2 := hbel.trans (hb2.mono hbel.size)
      obtain ⟨d0, d1, d2, d3⟩ := how2.smpAt Hpa.out
      have f0 := how2.frozenAt (k * 4)
      have f1 := how2.frozenAt (k * 4 + 1)
      have f2 := how2.frozenAt (k * 4 + 2)
      have f3 := how2.frozenAt (k * 4 + 3)
      have Hst := Lib.hid (how2.smpSet (k := k) (getElem?_some_lt Hpa.out) a0 a1 a2 a3).1
      have HB := (((hB2.setCell (p := ⟨w.heap.size, k * 4, none⟩) (Nat.le_refl _) (.int .i64 a0)).setCell (p := ⟨w.heap.size, k * 4 + 1, none⟩) (Nat.le_refl _) (.int .i64 a1)).setCell (p := ⟨w.heap.size, k * 4 + 2, none⟩) (Nat.le_refl _) (.int .i64 a2)).setCell (p := ⟨w.heap.size, k * 4 + 3, none⟩) (Nat.le_refl _) (.int .i64 a3)
      go_wp2
      exact ⟨⟨k + 1, by omega, by go_num, by rw [← Hset.out]; exact Hst.out, HB⟩, by simp [intOf]; omega⟩
    · have hall := toRel_end hown (by omega) Hx.out
      clear hown
      go_wp2
      go_ret
      exact ⟨_, _, rfl, hall, hbel⟩
end Go.Proofs.YteiclanlhnccnaaGreatDoor
/-
  Rows of hints: how they lie in memory; the law's own copying and comparing of them.
-/
namespace Go.Proofs.YteiclanlhnccnaaGreatDoor
set_option maxRecDepth 20000
open Go.RowKit
set_option linter.unusedSimpArgs false

/-- A hint: its node, its sample, how often it was sent, when it is due. -/
abbrev Hnt := Int × Smp × Int × Int
def hntCells (x : Hnt) : List Value := [.int .i64 x.1, .int .i64 x.2.1.1, .int .i64 x.2.1.2.1, .int .i64 x.2.1.2.2.1, .int .i64 x.2.1.2.2.2, .int .i64 x.2.2.1, .int .i64 x.2.2.2]
theorem hnt_one (a : Hnt) (u : Value) (hu : u ∈ hntCells a) : u.oneCell' = true := by
  simp only [hntCells, List.mem_cons, List.not_mem_nil, or_false] at hu
  rcases hu with rfl | rfl | rfl | rfl | rfl | rfl | rfl <;> rfl
/-- Hints. -/
def eH : Enc Hnt := ⟨89, 7, hntCells⟩
theorem okH : EncOk eH := ⟨fun _ => rfl, hnt_one, by decide⟩
/-- The law's own hints. -/
def eM : Enc Hnt := ⟨196, 7, hntCells⟩
theorem okM : EncOk eM := ⟨fun _ => rfl, hnt_one, by decide⟩
abbrev zeroH : Hnt := (0, (0, 0, 0, 0), 0, 0)
theorem info_hnt : (Tryz.prog.info? 89).map (fun i => (i.zero, i.size, i.bytes)) = some (some (.agg #[.int .i64 0, .int .i64 0, .int .i64 0, .int .i64 0, .int .i64 0, .int .i64 0, .int .i64 0]), 7, 56) := by kernel_rfl

/-- Seven cells. -/
def S7 (u : World) (g p : Nat) (a0 a1 a2 a3 a4 a5 a6 : Int) : Prop :=
  u.cell? ⟨g, p, none⟩ = some (.int .i64 a0) ∧ u.cell? ⟨g, p + 1, none⟩ = some (.int .i64 a1) ∧ u.cell? ⟨g, p + 2, none⟩ = some (.int .i64 a2) ∧ u.cell? ⟨g, p + 3, none⟩ = some (.int .i64 a3) ∧ u.cell? ⟨g, p + 4, none⟩ = some (.int .i64 a4) ∧ u.cell? ⟨g, p + 5, none⟩ = some (.int .i64 a5) ∧ u.cell? ⟨g, p + 6, none⟩ = some (.int .i64 a6)
theorem S7.below {B : Nat} {w w' : World} {g p : Nat} {a0 a1 a2 a3 a4 a5 a6 : Int} (h : S7 w g p a0 a1 a2 a3 a4 a5 a6) (hb : Below B w w') (hg : g < B) : S7 w' g p a0 a1 a2 a3 a4 a5 a6 :=
  ⟨(hb.cell (p := ⟨g, p, none⟩) hg).trans h.1, (hb.cell (p := ⟨g, p + 1, none⟩) hg).trans h.2.1, (hb.cell (p := ⟨g, p + 2, none⟩) hg).trans h.2.2.1, (hb.cell (p := ⟨g, p + 3, none⟩) hg).trans h.2.2.2.1, (hb.cell (p := ⟨g, p + 4, none⟩) hg).trans h.2.2.2.2.1, (hb.cell (p := ⟨g, p + 5, none⟩) hg).trans h.2.2.2.2.2.1, (hb.cell (p := ⟨g, p + 6, none⟩) hg).trans h.2.2.2.2.2.2⟩
theorem S7.drew {w : World} {g p : Nat} {a0 a1 a2 a3 a4 a5 a6 : Int} (h : S7 w g p a0 a1 a2 a3 a4 a5 a6) : S7 w.drew g p a0 a1 a2 a3 a4 a5 a6 := h
theorem S7.grown {w w' : World} {row : Option Nat} {g p : Nat} {a0 a1 a2 a3 a4 a5 a6 : Int} (h : S7 w g p a0 a1 a2 a3 a4 a5 a6) (hg : w.grownBy w' row) (hne : some g ≠ row) : S7 w' g p a0 a1 a2 a3 a4 a5 a6 :=
  ⟨hg.cell h.1 hne, hg.cell h.2.1 hne, hg.cell h.2.2.1 hne, hg.cell h.2.2.2.1 hne, hg.cell h.2.2.2.2.1 hne, hg.cell h.2.2.2.2.2.1 hne, hg.cell h.2.2.2.2.2.2 hne⟩
theorem At.seven {w : World} {g : Nat} {t : TypeId} {a b c d e f h : Value} (k : At w g t #[a, b, c, d, e, f, h]) : w.cell? ⟨g, 0, none⟩ = some a ∧ w.cell? ⟨g, 1, none⟩ = some b ∧ w.cell? ⟨g, 2, none⟩ = some c ∧ w.cell? ⟨g, 3, none⟩ = some d ∧ w.cell? ⟨g, 4, none⟩ = some e ∧ w.cell? ⟨g, 5, none⟩ = some f ∧ w.cell? ⟨g, 6, none⟩ = some h :=
  ⟨k.cell 0, k.cell 1, k.cell 2, k.cell 3, k.cell 4, k.cell 5, k.cell 6⟩
theorem At.sevenF {w : World} {g : Nat} {t : TypeId} {a b c d e f h : Value} (k : At w g t #[a, b, c, d, e, f, h]) : w.frozen? ⟨g, 0, none⟩ = false ∧ w.frozen? ⟨g, 1, none⟩ = false ∧ w.frozen? ⟨g, 2, none⟩ = false ∧ w.frozen? ⟨g, 3, none⟩ = false ∧ w.frozen? ⟨g, 4, none⟩ = false ∧ w.frozen? ⟨g, 5, none⟩ = false ∧ w.frozen? ⟨g, 6, none⟩ = false :=
  ⟨k.frozen 0, k.frozen 1, k.frozen 2, k.frozen 3, k.frozen 4, k.frozen 5, k.frozen 6⟩

section
variable {w w' : World} {base hi n c : Nat} {A : Option Addr} {l : List Hnt}
theorem Rd.hnt (h : Rd eH w hi A l) {k : Nat} (hk : k < l.length) : ∃ g o a0 a1 a2 a3 a4 a5 a6, A = some ⟨g, o, none⟩ ∧ g < hi ∧ l[k]? = some (a0, (a1, a2, a3, a4), a5, a6) ∧ S7 w g (o + k * 7) a0 a1 a2 a3 a4 a5 a6 := by
  obtain ⟨g, o, ⟨a0, ⟨a1, a2, a3, a4⟩, a5, a6⟩, e, hg, ha, hc⟩ := h.at_ hk
  exact ⟨g, o, a0, a1, a2, a3, a4, a5, a6, e, hg, ha, hc 0 _ rfl, hc 1 _ rfl, hc 2 _ rfl, hc 3 _ rfl, hc 4 _ rfl, hc 5 _ rfl, hc 6 _ rfl⟩
theorem Rd.hnt_is {g o k : Nat} {a0 a1 a2 a3 a4 a5 a6 : Int} (h : Rd eH w hi (some ⟨g, o, none⟩) l) (hk : l[k]? = some (a0, (a1, a2, a3, a4), a5, a6)) : S7 w g (o + k * 7) a0 a1 a2 a3 a4 a5 a6 := by
  obtain ⟨g', o', e, _, hc⟩ := h (by intro e; subst e; simp at hk)
  obtain ⟨rfl, rfl⟩ : g = g' ∧ o = o' := by simpa using Option.some.inj e
  exact ⟨hc k 0 _ _ hk rfl, hc k 1 _ _ hk rfl, hc k 2 _ _ hk rfl, hc k 3 _ _ hk rfl, hc k 4 _ _ hk rfl, hc k 5 _ _ hk rfl, hc k 6 _ _ hk rfl⟩
theorem Rd.hntL (h : Rd eM w hi A l) {k : Nat} (hk : k < l.length) : ∃ g o a0 a1 a2 a3 a4 a5 a6, A = some ⟨g, o, none⟩ ∧ g < hi ∧ l[k]? = some (a0, (a1, a2, a3, a4), a5, a6) ∧ S7 w g (o + k * 7) a0 a1 a2 a3 a4 a5 a6 := h.hnt hk
theorem Ow.hntAt {g : Nat} (h : Ow eH w base (some ⟨g, 0, none⟩) n c l) {k : Nat} {a0 a1 a2 a3 a4 a5 a6 : Int} (hk : l[k]? = some (a0, (a1, a2, a3, a4), a5, a6)) : S7 w g (k * 7) a0 a1 a2 a3 a4 a5 a6 :=
  ⟨h.cellAt okH hk (j := 0) rfl, h.cellAt okH hk (j := 1) rfl, h.cellAt okH hk (j := 2) rfl, h.cellAt okH hk (j := 3) rfl, h.cellAt okH hk (j := 4) rfl, h.cellAt okH hk (j := 5) rfl, h.cellAt okH hk (j := 6) rfl⟩
/-- One number of a hint. -/
theorem Ow.hntPut {g : Nat} (h : Ow eH w base (some ⟨g, 0, none⟩) n c l) {k j : Nat} {x y : Hnt} {u : Value} (hk : l[k]? = some x) (hj : j < 7) (hc : hntCells y = (hntCells x).set j u) :
    Ow eH (w.setCell ⟨g, k * 7 + j, none⟩ u) base (some ⟨g, 0, none⟩) n c (l.set k y) ∧ w.grownBy (w.setCell ⟨g, k * 7 + j, none⟩ u) (some g) :=
  h.stored okH (k := k) (j := j) (a' := y) hk hj hc
/-- A whole hint. -/
theorem Ow.hntSet {g : Nat} (h : Ow eH w base (some ⟨g, 0, none⟩) n c l) {k : Nat} (hk : k < l.length) (b0 b1 b2 b3 b4 b5 b6 : Int) :
    Ow eH (((((((w.setCell ⟨g, k * 7, none⟩ (.int .i64 b0)).setCell ⟨g, k * 7 + 1, none⟩ (.int .i64 b1)).setCell ⟨g, k * 7 + 2, none⟩ (.int .i64 b2)).setCell ⟨g, k * 7 + 3, none⟩ (.int .i64 b3)).setCell ⟨g, k * 7 + 4, none⟩ (.int .i64 b4)).setCell ⟨g, k * 7 + 5, none⟩ (.int .i64 b5)).setCell ⟨g, k * 7 + 6, none⟩ (.int .i64 b6)) base (some ⟨g, 0, none⟩) n c (l.set k (b0, (b1, b2, b3, b4), b5, b6)) ∧
    w.grownBy (((((((w.setCell ⟨g, k * 7, none⟩ (.int .i64 b0)).setCell ⟨g, k * 7 + 1, none⟩ (.int .i64 b1)).setCell ⟨g, k * 7 + 2, none⟩ (.int .i64 b2)).setCell ⟨g, k * 7 + 3, none⟩ (.int .i64 b3)).setCell ⟨g, k * 7 + 4, none⟩ (.int .i64 b4)).setCell ⟨g, k * 7 + 5, none⟩ (.int .i64 b5)).setCell ⟨g, k * 7 + 6, none⟩ (.int .i64 b6)) (some g) := by
  obtain ⟨⟨a0, ⟨a1, a2, a3, a4⟩, a5, a6⟩, ha⟩ : ∃ x, l[k]? = some x := ⟨l[k], List.getElem?_eq_getElem hk⟩
  have h0 := h.hntPut (j := 0) (y := (b0, (a1, a2, a3, a4), a5, a6)) ha (by omega) rfl
  have h1 := h0.1.hntPut (j := 1) (x := (b0, (a1, a2, a3, a4), a5, a6)) (y := (b0, (b1, a2, a3, a4), a5, a6)) (by rw [List.getElem?_set_self (by omega)]) (by omega) rfl
  rw [List.set_set] at h1
  have h2 := h1.1.hntPut (j := 2) (x := (b0, (b1, a2, a3, a4), a5, a6)) (y := (b0, (b1, b2, a3, a4), a5, a6)) (by rw [List.getElem?_set_self (by omega)]) (by omega) rfl
  rw [List.set_set] at h2
  have h3 := h2.1.hntPut (j := 3) (x := (b0, (b1, b2, a3, a4), a5, a6)) (y := (b0, (b1, b2, b3, a4), a5, a6)) (by rw [List.getElem?_set_self (by omega)]) (by omega) rfl
  rw [List.set_set] at h3
  have h4 := h3.1.hntPut (j := 4) (x := (b0, (b1, b2, b3, a4), a5, a6)) (y := (b0, (b1, b2, b3, b4), a5, a6)) (by rw [List.getElem?_set_self (by omega)]) (by omega) rfl
  rw [List.set_set] at h4
  have h5 := h4.1.hntPut (j := 5) (x := (b0, (b1, b2, b3, b4), a5, a6)) (y := (b0, (b1, b2, b3, b4), b5, a6)) (by rw [List.getElem?_set_self (by omega)]) (by omega) rfl
  rw [List.set_set] at h5
  have h6 := h5.1.hntPut (j := 6) (x := (b0, (b1, b2, b3, b4), b5, a6)) (y := (b0, (b1, b2, b3, b4), b5, b6)) (by rw [List.getElem?_set_self (by omega)]) (by omega) rfl
  rw [List.set_set] at h6
  exact ⟨h6.1, grown_trans (grown_trans (grown_trans (grown_trans (grown_trans (grown_trans h0.2 h1.2) h2.2) h3.2) h4.2) h5.2) h6.2⟩
end

theorem eqHint (a0 a1 a2 a3 a4 a5 a6 b0 b1 b2 b3 b4 b5 b6 : Int) (w : World) :
    Calls Tryz.prog 142 #[.agg #[.int .i64 a0, .int .i64 a1, .int .i64 a2, .int .i64 a3, .int .i64 a4, .int .i64 a5, .int .i64 a6], .agg #[.int .i64 b0, .int .i64 b1, .int .i64 b2, .int .i64 b3, .int .i64 b4, .int .i64 b5, .int .i64 b6]] w fun e w' =>
      e = .returned (.bool (decide ((a0, (a1, a2, a3, a4), a5, a6) = (b0, (b1, b2, b3, b4), b5, b6)))) ∧ Below w.heap.size w w' := by
  have hb0 : Below w.heap.size w ((w.alloc (.cells #[.int .i64 a0, .int .i64 a1, .int .i64 a2, .int .i64 a3, .int .i64 a4, .int .i64 a5, .int .i64 a6] 89)).alloc (.cells #[.int .i64 b0, .int .i64 b1, .int .i64 b2, .int .i64 b3, .int .i64 b4, .int .i64 b5, .int .i64 b6] 89)) := ((Below.refl _ _).alloc (Nat.le_refl _) _).alloc (by simp) _
  have x1 : At ((w.alloc (.cells #[.int .i64 a0, .int .i64 a1, .int .i64 a2, .int .i64 a3, .int .i64 a4, .int .i64 a5, .int .i64 a6] 89)).alloc (.cells #[.int .i64 b0, .int .i64 b1, .int .i64 b2, .int .i64 b3, .int .i64 b4, .int .i64 b5, .int .i64 b6] 89)) w.heap.size 89 #[.int .i64 a0, .int .i64 a1, .int .i64 a2, .int .i64 a3, .int .i64 a4, .int .i64 a5, .int .i64 a6] := (At.new w 89 #[.int .i64 a0, .int .i64 a1, .int .i64 a2, .int .i64 a3, .int .i64 a4, .int .i64 a5, .int .i64 a6]).alloc _
  have x2 : At ((w.alloc (.cells #[.int .i64 a0, .int .i64 a1, .int .i64 a2, .int .i64 a3, .int .i64 a4, .int .i64 a5, .int .i64 a6] 89)).alloc (.cells #[.int .i64 b0, .int .i64 b1, .int .i64 b2, .int .i64 b3, .int .i64 b4, .int .i64 b5, .int .i64 b6] 89)) (w.heap.size + 1) 89 #[.int .i64 b0, .int .i64 b1, .int .i64 b2, .int .i64 b3, .int .i64 b4, .int .i64 b5, .int .i64 b6] := by
    have := At.new (w.alloc (.cells #[.int .i64 a0, .int .i64 a1, .int .i64 a2, .int .i64 a3, .int .i64 a4, .int .i64 a5, .int .i64 a6] 89)) 89 #[.int .i64 b0, .int .i64 b1, .int .i64 b2, .int .i64 b3, .int .i64 b4, .int .i64 b5, .int .i64 b6]
    simpa using this
  by_cases h0 : a0 = b0
  rotate_left
  · have hn : (a0 != b0) = true := by rw [bne_iff_ne]; exact h0
    have Hf := Lib.hid (show decide ((a0, (a1, a2, a3, a4), a5, a6) = (b0, (b1, b2, b3, b4), b5, b6)) = false by simp [h0])
    clear h0 x1 x2
    go_enter Tryz.func142, Tryz.ntmps142
    go_wp2
    go_ret
    exact ⟨by rw [Hf.out]; rfl, hb0⟩
  subst h0
  have hn0 : (a0 != a0) = false := by simp
  by_cases h1 : (a1, a2, a3, a4) = (b1, b2, b3, b4)
  rotate_left
  · have Hd := Lib.hid (show decide ((a1, a2, a3, a4) = (b1, b2, b3, b4)) = false by simpa using h1)
    have Hf := Lib.hid (show decide ((a0, (a1, a2, a3, a4), a5, a6) = (a0, (b1, b2, b3, b4), b5, b6)) = false by
      simp only [decide_eq_false_iff_not]
      intro e
      exact h1 (Prod.mk.inj (Prod.mk.inj e).2).1)
    clear h1
    go_enter Tryz.func142, Tryz.ntmps142
    go_wp2_with fail
    refine (eqSample a1 a2 a3 a4 b1 b2 b3 b4 _).mono ?_
    rintro e w1 ⟨rfl, hb1⟩
    rw [Hd.out]
    go_wp2
    go_ret
    exact ⟨by rw [Hf.out]; rfl, hb0.trans (hb1.mono hb0.size)⟩
  obtain ⟨rfl, rfl, rfl, rfl⟩ : a1 = b1 ∧ a2 = b2 ∧ a3 = b3 ∧ a4 = b4 := by simpa using h1
  clear h1
  by_cases h5 : a5 = b5
  rotate_left
  · have hn : (a5 != b5) = true := by rw [bne_iff_ne]; exact h5
    have Hf := Lib.hid (show decide ((a0, (a1, a2, a3, a4), a5, a6) = (a0, (a1, a2, a3, a4), b5, b6)) = false by simp [h5])
    clear h5
    go_enter Tryz.func142, Tryz.ntmps142
    go_wp2_with fail
    refine (eqSample a1 a2 a3 a4 a1 a2 a3 a4 _).mono ?_
    rintro e w1 ⟨he, hb1⟩
    obtain rfl : e = .returned (.bool true) := by rw [he]; simp
    clear he
    obtain ⟨p0, p1, p2, p3, p4, p5, p6⟩ := (x1.below hb1 x1.lt).seven
    obtain ⟨q0, q1, q2, q3, q4, q5, q6⟩ := (x2.below hb1 x2.lt).seven
    go_wp2
    go_ret
    exact ⟨by rw [Hf.out]; rfl, hb0.trans (hb1.mono hb0.size)⟩
  subst h5
  have hn5 : (a5 != a5) = false := by simp
  by_cases h6 : a6 = b6
  rotate_left
  · have hn : (a6 != b6) = true := by rw [bne_iff_ne]; exact h6
    have Hf := Lib.hid (show decide ((a0, (a1, a2, a3, a4), a5, a6) = (a0, (a1, a2, a3, a4), a5, b6)) = false by simp [h6])
    clear h6
    go_enter Tryz.func142, Tryz.ntmps142
    go_wp2_with fail
    refine (eqSample a1 a2 a3 a4 a1 a2 a3 a4 _).mono ?_
    rintro e w1 ⟨he, hb1⟩
    obtain rfl : e = .returned (.bool true) := by rw [he]; simp
    clear he
    obtain ⟨p0, p1, p2, p3, p4, p5, p6⟩ := (x1.below hb1 x1.lt).seven
    obtain ⟨q0, q1, q2, q3, q4, q5, q6⟩ := (x2.below hb1 x2.lt).seven
    go_wp2
    go_ret
    exact ⟨by rw [Hf.out]; rfl, hb0.trans (hb1.mono hb0.size)⟩
  subst h6
  have hn6 : (a6 != a6) = false := by simp
  go_enter Tryz.func142, Tryz.ntmps142
  go_wp2_with fail
  refine (eqSample a1 a2 a3 a4 a1 a2 a3 a4 _).mono ?_
  rintro e w1 ⟨he, hb1⟩
  obtain rfl : e = .returned (.bool true) := by rw [he]; simp
  clear he
  obtain ⟨p0, p1, p2, p3, p4, p5, p6⟩ := (x1.below hb1 x1.lt).seven
  obtain ⟨q0, q1, q2, q3, q4, q5, q6⟩ := (x2.below hb1 x2.lt).seven
  go_wp2
  go_ret
  exact ⟨by simp, hb0.trans (hb1.mono hb0.size)⟩

theorem szHintS (A : Option Addr) (n c : Nat) (left : Int) (w : World) (h0 : 0 ≤ left) (hl : left ≤ 1048576) (hn : n ≤ maxLen) :
    Calls Tryz.prog 85 #[.slice A n c, .int .i64 left] w fun e w' => e = .returned (.int .i64 (if left < (n : Int) then -1 else left - n)) ∧ w' = w := by
  unfold maxLen at hn
  have hw : IntKind.i64.wrap (left - (n : Int)) = left - (n : Int) := IntWalk.i64_in _ (by omega)
  by_cases h : left < (n : Int)
  · rw [if_pos h]
    go_enter Tryz.func85, Tryz.ntmps85
    go_wp2
    go_ret
    exact ⟨rfl, rfl⟩
  · rw [if_neg h]
    go_enter Tryz.func85, Tryz.ntmps85
    go_wp2
    go_ret
    exact ⟨rfl, rfl⟩

def EqRelH (xs ys : List Hnt) (w : World) (n : Nat) (i : Value) (wr : World) : Prop :=
  ∃ k : Nat, k ≤ n ∧ i = .int .i64 k ∧ (∀ i, i < k → xs[i]? = ys[i]?) ∧ Below w.heap.size w wr

theorem eqHintS_no (A B : Option Addr) (n m c d : Nat) (w : World) (h : n ≠ m) :
    Calls Tryz.prog 90 #[.slice A n c, .slice B m d] w fun e w' => e = .returned (.bool false) ∧ Below w.heap.size w w' := by
  have hb : ((n : Int) != (m : Int)) = true := by simp; omega
  go_enter Tryz.func90, Tryz.ntmps90
  go_wp2
  go_ret
  exact ⟨rfl, Below.refl _ _⟩

set_option maxHeartbeats 1000000 in
theorem eqHintS_any (A B : Option Addr) (n c d : Nat) (xs ys : List Hnt) (w : World) (ha : Rd eH w w.heap.size A xs) (hb : Rd eH w w.heap.size B ys) (hx : xs.length = n) (hy : ys.length = n) (hm : n ≤ maxLen) :
    Calls Tryz.prog 90 #[.slice A n c, .slice B n d] w fun e w' => e = .returned (.bool (decide (xs = ys))) ∧ Below w.heap.size w w' := by
  have h0 : ((n : Int) != (n : Int)) = false := by simp
  have Hx := Lib.hid hx
  have Hy := Lib.hid hy
  clear hx hy
  unfold maxLen at hm
  go_enter Tryz.func90, Tryz.ntmps90
  go_wp2
  go_loopw [5] (fun i wr => EqRelH xs ys w n i wr) (fun i _ => n - (intOf i).toNat)
  case atStart => exact ⟨0, Nat.zero_le _, rfl, fun _ h => absurd h (by omega), Below.refl _ _⟩
  case round =>
    obtain ⟨k, hk, rfl, hal, hbel⟩ := hrel
    have Hal := Lib.hid hal
    clear hal
    by_cases hlt : k < n
    · obtain ⟨g, o, a0, a1, a2, a3, a4, a5, a6, rfl, hg, hxk, ca⟩ := (ha.below hbel (Nat.le_refl _)).hnt (k := k) (by rw [Hx.out]; exact hlt)
      obtain ⟨g', o', b0, b1, b2, b3, b4, b5, b6, rfl, hg', hyk, cb⟩ := (hb.below hbel (Nat.le_refl _)).hnt (k := k) (by rw [Hy.out]; exact hlt)
      have Hxk := Lib.hid hxk
      have Hyk := Lib.hid hyk
      clear hxk hyk
      have hbd := hbel.drew
      go_wp2
      refine wp_region_mix [(0, false), (1, false), (2, false), (3, false), (4, false), (5, false), (6, false), (7, false), (8, true), (9, false)] (fun u => S7 u g (o + k * 7) a0 a1 a2 a3 a4 a5 a6 ∧ S7 u g' (o' + k * 7) b0 b1 b2 b3 b4 b5 b6) (by kernel_rfl) (by kernel_rfl) (fun _ _ _ _ _ h => h) ⟨ca.drew, cb.drew⟩ ?_
      simp only [mixOps, List.map_cons, List.map_nil, List.getElem?_cons_succ, List.getElem?_cons_zero, Option.getD_some]
      repeat (first
        | (refine mix_skip (by rfl) ?_
           (try simp only [Act.put, List.setIfInBounds_toArray, List.set_cons_zero, List.set_cons_succ]))
        | (refine mix_pure (v := ?_) (by rfl) (fun u hu => ?_) ?_
           rotate_left
           · obtain ⟨⟨_, _, _, _, _, _, _⟩, _, _, _, _, _, _, _⟩ := hu
             go_simp
             (with_reducible rfl)
           (try simp only [Act.put, List.setIfInBounds_toArray, List.set_cons_zero, List.set_cons_succ])))
      refine mix_call (by rfl) (fun K hK => ?_)
      go_simp
      refine (eqHint a0 a1 a2 a3 a4 a5 a6 b0 b1 b2 b3 b4 b5 b6 _).mono ?_
      rintro e w1 ⟨rfl, hb1⟩
      have hB1 := hbd.trans (hb1.mono hbd.size)
      have c1 := ca.drew.below hb1 (Nat.lt_of_lt_of_le hg hbd.size)
      have c2 := cb.drew.below hb1 (Nat.lt_of_lt_of_le hg' hbd.size)
      refine hK _ _ _ (fun _ h => h) ⟨c1, c2⟩ ?_
      (try simp only [Act.put, List.setIfInBounds_toArray, List.set_cons_zero, List.set_cons_succ])
      by_cases he : (a0, (a1, a2, a3, a4), a5, a6) = (b0, (b1, b2, b3, b4), b5, b6)
      · rw [show decide ((a0, (a1, a2, a3, a4), a5, a6) = (b0, (b1, b2, b3, b4), b5, b6)) = true by simpa using he]
        have He := Lib.hid he
        clear he
        refine mix_pure (v := ?_) (by rfl) (fun u hu => ?_) ?_
        rotate_left
        · go_simp
          (with_reducible rfl)
        (try simp only [Act.put, List.setIfInBounds_toArray, List.set_cons_zero, List.set_cons_succ])
        refine mix_nil ?_
        go_wp2
        refine ⟨⟨k + 1, by omega, by go_num, fun i hi => ?_, hB1⟩, by simp [intOf]; omega⟩
        rcases Nat.lt_or_ge i k with h | h
        · exact Hal.out i h
        · obtain rfl : i = k := by omega
          rw [Hxk.out, Hyk.out, He.out]
      · rw [show decide ((a0, (a1, a2, a3, a4), a5, a6) = (b0, (b1, b2, b3, b4), b5, b6)) = false from decide_eq_false he]
        have hfin : decide (xs = ys) = false := by
          simp only [decide_eq_false_iff_not]
          rintro rfl
          exact he (Option.some.inj (Hxk.out.symm.trans Hyk.out))
        have Hf := Lib.hid hfin
        clear he hfin
        refine mix_pure (v := ?_) (by rfl) (fun u hu => ?_) ?_
        rotate_left
        · go_simp
          (with_reducible rfl)
        (try simp only [Act.put, List.setIfInBounds_toArray, List.set_cons_zero, List.set_cons_succ])
        refine mix_nil ?_
        go_wp2
        go_ret
        exact ⟨by rw [Hf.out]; rfl, hB1⟩
    · have hfin : decide (xs = ys) = true := by
        obtain rfl : k = n := by omega
        simp only [decide_eq_true_eq]
        exact alike_all' Hx.out Hy.out Hal.out
      have Hf := Lib.hid hfin
      clear hfin
      go_wp2
      go_ret
      exact ⟨by rw [Hf.out]; rfl, hbel⟩

/-- Two rows of hints compared, whatever their lengths. -/
theorem eqHintS (A B : Option Addr) (n m c d : Nat) (xs ys : List Hnt) (w : World) (ha : Rd eH w w.heap.size A xs) (hb : Rd eH w w.heap.size B ys) (hx : xs.length = n) (hy : ys.length = m) (hm : n ≤ maxLen) :
    Calls Tryz.prog 90 #[.slice A n c, .slice B m d] w fun e w' => e = .returned (.bool (decide (xs = ys))) ∧ Below w.heap.size w w' := by
  by_cases h : n = m
  · subst h
    exact eqHintS_any A B n c d xs ys w ha hb hx hy hm
  · have hd : decide (xs = ys) = false := by
      simp only [decide_eq_false_iff_not]
      rintro rfl
      exact h (hx.symm.trans hy)
    rw [hd]
    exact eqHintS_no A B n m c d w h

set_option maxHeartbeats 1000000 in
theorem toHint (a0 a1 a2 a3 a4 a5 a6 : Int) (w : World) :
    Calls Tryz.prog 140 #[.agg #[.int .i64 a0, .int .i64 a1, .int .i64 a2, .int .i64 a3, .int .i64 a4, .int .i64 a5, .int .i64 a6]] w fun e w' => e = .returned (.agg #[.int .i64 a0, .int .i64 a1, .int .i64 a2, .int .i64 a3, .int .i64 a4, .int .i64 a5, .int .i64 a6]) ∧ Below w.heap.size w w' := by
  have hb4 : Below w.heap.size w (((w.alloc (.cells #[.int .i64 a0, .int .i64 a1, .int .i64 a2, .int .i64 a3, .int .i64 a4, .int .i64 a5, .int .i64 a6] 196)).alloc (.cells #[.int .i64 0, .int .i64 0, .int .i64 0, .int .i64 0, .int .i64 0, .int .i64 0, .int .i64 0] 89)).alloc (.cells #[.int .i64 a0, .int .i64 0, .int .i64 0, .int .i64 0, .int .i64 0, .int .i64 0, .int .i64 0] 89)) := (((Below.refl _ _).alloc (Nat.le_refl _) _).alloc (by simp) _).alloc (by simp; omega) _
  have x4 : At (((w.alloc (.cells #[.int .i64 a0, .int .i64 a1, .int .i64 a2, .int .i64 a3, .int .i64 a4, .int .i64 a5, .int .i64 a6] 196)).alloc (.cells #[.int .i64 0, .int .i64 0, .int .i64 0, .int .i64 0, .int .i64 0, .int .i64 0, .int .i64 0] 89)).alloc (.cells #[.int .i64 a0, .int .i64 0, .int .i64 0, .int .i64 0, .int .i64 0, .int .i64 0, .int .i64 0] 89)) w.heap.size 196 #[.int .i64 a0, .int .i64 a1, .int .i64 a2, .int .i64 a3, .int .i64 a4, .int .i64 a5, .int .i64 a6] := ((At.new w 196 #[.int .i64 a0, .int .i64 a1, .int .i64 a2, .int .i64 a3, .int .i64 a4, .int .i64 a5, .int .i64 a6]).alloc _).alloc _
  have r4 : At (((w.alloc (.cells #[.int .i64 a0, .int .i64 a1, .int .i64 a2, .int .i64 a3, .int .i64 a4, .int .i64 a5, .int .i64 a6] 196)).alloc (.cells #[.int .i64 0, .int .i64 0, .int .i64 0, .int .i64 0, .int .i64 0, .int .i64 0, .int .i64 0] 89)).alloc (.cells #[.int .i64 a0, .int .i64 0, .int .i64 0, .int .i64 0, .int .i64 0, .int .i64 0, .int .i64 0] 89)) (w.heap.size + 1) 89 #[.int .i64 0, .int .i64 0, .int .i64 0, .int .i64 0, .int .i64 0, .int .i64 0, .int .i64 0] := by
    have := (At.new (w.alloc (.cells #[.int .i64 a0, .int .i64 a1, .int .i64 a2, .int .i64 a3, .int .i64 a4, .int .i64 a5, .int .i64 a6] 196)) 89 #[.int .i64 0, .int .i64 0, .int .i64 0, .int .i64 0, .int .i64 0, .int .i64 0, .int .i64 0]).alloc (.cells #[.int .i64 a0, .int .i64 0, .int .i64 0, .int .i64 0, .int .i64 0, .int .i64 0, .int .i64 0] 89)
    simpa using this
  have o4 : At (((w.alloc (.cells #[.int .i64 a0, .int .i64 a1, .int .i64 a2, .int .i64 a3, .int .i64 a4, .int .i64 a5, .int .i64 a6] 196)).alloc (.cells #[.int .i64 0, .int .i64 0, .int .i64 0, .int .i64 0, .int .i64 0, .int .i64 0, .int .i64 0] 89)).alloc (.cells #[.int .i64 a0, .int .i64 0, .int .i64 0, .int .i64 0, .int .i64 0, .int .i64 0, .int .i64 0] 89)) (w.heap.size + 2) 89 #[.int .i64 a0, .int .i64 0, .int .i64 0, .int .i64 0, .int .i64 0, .int .i64 0, .int .i64 0] := by
    have := At.new ((w.alloc (.cells #[.int .i64 a0, .int .i64 a1, .int .i64 a2, .int .i64 a3, .int .i64 a4, .int .i64 a5, .int .i64 a6] 196)).alloc (.cells #[.int .i64 0, .int .i64 0, .int .i64 0, .int .i64 0, .int .i64 0, .int .i64 0, .int .i64 0] 89)) 89 #[.int .i64 a0, .int .i64 0, .int .i64 0, .int .i64 0, .int .i64 0, .int .i64 0, .int .i64 0]
    simpa using this
  go_enter Tryz.func140, Tryz.ntmps140
  go_wp2_with fail
  refine (toSample a1 a2 a3 a4 _).mono ?_
  rintro e w1 ⟨rfl, hb1⟩
  obtain ⟨p0, p1, p2, p3, p4, p5, p6⟩ := (x4.below hb1 x4.lt).seven
  have r5 := r4.below hb1 r4.lt
  have o5 := o4.below hb1 o4.lt
  obtain ⟨q0, q1, q2, q3, q4, q5, q6⟩ := r5.seven
  obtain ⟨qf0, qf1, qf2, qf3, qf4, qf5, qf6⟩ := r5.sevenF
  obtain ⟨s0, s1, s2, s3, s4, s5, s6⟩ := o5.seven
  obtain ⟨sf0, sf1, sf2, sf3, sf4, sf5, sf6⟩ := o5.sevenF
  have hb5 := hb4.trans (hb1.mono hb4.size)
  clear x4 r4 o4 r5 o5 hb4
  go_wp2
  refine bodyPost_ret (v := .agg #[.int .i64 a0, .int .i64 a1, .int .i64 a2, .int .i64 a3, .int .i64 a4, .int .i64 a5, .int .i64 a6]) (by simp [results, Tryz.results140, go_sem, q0, q1, q2, q3, q4, q5, q6]) rfl ?_
  refine ⟨rfl, ?_⟩
  repeat (refine Below.setCell ?_ (by simp <;> omega) _)
  exact hb5

set_option maxHeartbeats 1000000 in
theorem toHintS (A : Option Addr) (n c : Nat) (xs : List Hnt) (w : World) (ha : Rd eM w w.heap.size A xs) (hx : xs.length = n) (hm : n ≤ 1048576) :
    Calls Tryz.prog 87 #[.slice A n c] w fun e w' => ∃ A' c', e = .returned (.slice A' n c') ∧ Ow eH w' w.heap.size A' n c' xs ∧ Below w.heap.size w w' := by
  have Hx := Lib.hid hx
  clear hx
  go_enter Tryz.func87, Tryz.ntmps87
  go_wp2_with (refine wpList_make_ow okH _ rfl _ _ _ rfl w.heap.size info_hnt Tryz.underlying37 zeroH rfl .i64 .i64 n n n rfl rfl rfl rfl (by omega) (by unfold maxLen; omega) (Nat.le_refl _) ?_; intro w1 hown hg1)
  have hs1 : w.heap.size < w1.heap.size := (hown.lt w.heap.size rfl).2
  go_loopw [4] (fun i wr => ToRel eH zeroH w w.heap.size xs n i wr) (fun i _ => n - (intOf i).toNat)
  case atStart => exact toRel_start zeroH xs hown hg1
  case round =>
    obtain ⟨k, hk, rfl, hown, hbel⟩ := hrel
    by_cases hlt : k < n
    · obtain ⟨g, o, a0, a1, a2, a3, a4, a5, a6, rfl, hg, hx, c0, c1, c2, c3, c4, c5, c6⟩ := (ha.below hbel (Nat.le_refl _)).hntL (k := k) (by rw [Hx.out]; exact hlt)
      have Hset := Lib.hid (set_next zeroH xs n k (a0, (a1, a2, a3, a4), a5, a6) hlt Hx.out hx)
      have Hpa := Lib.hid (part_at zeroH xs n k hlt Hx.out)
      clear hx
      go_wp2_with fail
      refine (toHint a0 a1 a2 a3 a4 a5 a6 _).mono ?_
      rintro e w2 ⟨rfl, hb2⟩
      have how2 := hown.below hb2 (Nat.le_refl _)
      have hB2 := hbel.trans (hb2.mono hbel.size)
      obtain ⟨d0, d1, d2, d3, d4, d5, d6⟩ := how2.hntAt Hpa.out
      have f0 := how2.frozenAt (k * 7)
      have f1 := how2.frozenAt (k * 7 + 1)
      have f2 := how2.frozenAt (k * 7 + 2)
      have f3 := how2.frozenAt (k * 7 + 3)
      have f4 := how2.frozenAt (k * 7 + 4)
      have f5 := how2.frozenAt (k * 7 + 5)
      have f6 := how2.frozenAt (k * 7 + 6)
      have Hst := Lib.hid (how2.hntSet (k := k) (getElem?_some_lt Hpa.out) a0 a1 a2 a3 a4 a5 a6).1
      have HB := (((((((hB2.setCell (p := ⟨w.heap.size, k * 7, none⟩) (Nat.le_refl _) (.int .i64 a0)).setCell (p := ⟨w.heap.size, k * 7 + 1, none⟩) (Nat.le_refl _) (.int .i64 a1)).setCell (p := ⟨w.heap.size, k * 7 + 2, none⟩) (Nat.le_refl _) (.int .i64 a2)).setCell (p := ⟨w.heap.size, k * 7 + 3, none⟩) (Nat.le_refl _) (.int .i64 a3)).setCell (p := ⟨w.heap.size, k * 7 + 4, none⟩) (Nat.le_refl _) (.int .i64 a4)).setCell (p := ⟨w.heap.size, k * 7 + 5, none⟩) (Nat.le_refl _) (.int .i64 a5)).setCell (p := ⟨w.heap.size, k * 7 + 6, none⟩) (Nat.le_refl _) (.int .i64 a6))
      go_wp2
      exact ⟨⟨k + 1, by omega, by go_num, by rw [← Hset.out]; exact Hst.out, HB⟩, by simp [intOf]; omega⟩
    · have hall := toRel_end hown (by omega) Hx.out
      clear hown
      go_wp2
      go_ret
      exact ⟨_, _, rfl, hall, hbel⟩
end Go.Proofs.YteiclanlhnccnaaGreatDoor
/-
  Rows of records: how they lie in memory.
-/
namespace Go.Proofs.YteiclanlhnccnaaGreatDoor
set_option maxRecDepth 20000
open Go.RowKit
set_option linter.unusedSimpArgs false

/-- A record: its kind, its node, its sample, its number. -/
abbrev Rcd := Int × Int × Smp × Int
def rcdCells (x : Rcd) : List Value := [.int .i64 x.1, .int .i64 x.2.1, .int .i64 x.2.2.1.1, .int .i64 x.2.2.1.2.1, .int .i64 x.2.2.1.2.2.1, .int .i64 x.2.2.1.2.2.2, .int .i64 x.2.2.2]
theorem rcd_one (a : Rcd) (u : Value) (hu : u ∈ rcdCells a) : u.oneCell' = true := by
  simp only [rcdCells, List.mem_cons, List.not_mem_nil, or_false] at hu
  rcases hu with rfl | rfl | rfl | rfl | rfl | rfl | rfl <;> rfl
/-- Records. -/
def eR : Enc Rcd := ⟨27, 7, rcdCells⟩
theorem okR : EncOk eR := ⟨fun _ => rfl, rcd_one, by decide⟩
/-- The law's own records. -/
def eRL : Enc Rcd := ⟨63, 7, rcdCells⟩
theorem okRL : EncOk eRL := ⟨fun _ => rfl, rcd_one, by decide⟩
abbrev zeroR : Rcd := (0, 0, (0, 0, 0, 0), 0)
theorem info_rcd : (Tryz.prog.info? 27).map (fun i => (i.zero, i.size, i.bytes)) = some (some (.agg #[.int .i64 0, .int .i64 0, .int .i64 0, .int .i64 0, .int .i64 0, .int .i64 0, .int .i64 0]), 7, 56) := by kernel_rfl

section
variable {w w' : World} {base hi n c : Nat} {A : Option Addr} {l : List Rcd}
theorem Rd.rcd (h : Rd eR w hi A l) {k : Nat} (hk : k < l.length) : ∃ g o a0 a1 a2 a3 a4 a5 a6, A = some ⟨g, o, none⟩ ∧ g < hi ∧ l[k]? = some (a0, a1, (a2, a3, a4, a5), a6) ∧ S7 w g (o + k * 7) a0 a1 a2 a3 a4 a5 a6 := by
  obtain ⟨g, o, ⟨a0, a1, ⟨a2, a3, a4, a5⟩, a6⟩, e, hg, ha, hc⟩ := h.at_ hk
  exact ⟨g, o, a0, a1, a2, a3, a4, a5, a6, e, hg, ha, hc 0 _ rfl, hc 1 _ rfl, hc 2 _ rfl, hc 3 _ rfl, hc 4 _ rfl, hc 5 _ rfl, hc 6 _ rfl⟩
theorem Rd.rcd_is {g o k : Nat} {a0 a1 a2 a3 a4 a5 a6 : Int} (h : Rd eR w hi (some ⟨g, o, none⟩) l) (hk : l[k]? = some (a0, a1, (a2, a3, a4, a5), a6)) : S7 w g (o + k * 7) a0 a1 a2 a3 a4 a5 a6 := by
  obtain ⟨g', o', e, _, hc⟩ := h (by intro e; subst e; simp at hk)
  obtain ⟨rfl, rfl⟩ : g = g' ∧ o = o' := by simpa using Option.some.inj e
  exact ⟨hc k 0 _ _ hk rfl, hc k 1 _ _ hk rfl, hc k 2 _ _ hk rfl, hc k 3 _ _ hk rfl, hc k 4 _ _ hk rfl, hc k 5 _ _ hk rfl, hc k 6 _ _ hk rfl⟩
theorem Rd.rcdQ (h : Rd eRL w hi A l) {k : Nat} (hk : k < l.length) : ∃ g o a0 a1 a2 a3 a4 a5 a6, A = some ⟨g, o, none⟩ ∧ g < hi ∧ l[k]? = some (a0, a1, (a2, a3, a4, a5), a6) ∧ S7 w g (o + k * 7) a0 a1 a2 a3 a4 a5 a6 := h.rcd hk
theorem Ow.rcdAt {g : Nat} (h : Ow eR w base (some ⟨g, 0, none⟩) n c l) {k : Nat} {a0 a1 a2 a3 a4 a5 a6 : Int} (hk : l[k]? = some (a0, a1, (a2, a3, a4, a5), a6)) : S7 w g (k * 7) a0 a1 a2 a3 a4 a5 a6 :=
  ⟨h.cellAt okR hk (j := 0) rfl, h.cellAt okR hk (j := 1) rfl, h.cellAt okR hk (j := 2) rfl, h.cellAt okR hk (j := 3) rfl, h.cellAt okR hk (j := 4) rfl, h.cellAt okR hk (j := 5) rfl, h.cellAt okR hk (j := 6) rfl⟩
end
end Go.Proofs.YteiclanlhnccnaaGreatDoor
/-
  One record: the law's own copying and comparing of it.
-/
namespace Go.Proofs.YteiclanlhnccnaaGreatDoor
set_option maxRecDepth 20000
open Go.RowKit
set_option linter.unusedSimpArgs false
set_option linter.unusedVariables false

set_option maxHeartbeats 1000000 in
theorem toRecord (a0 a1 a2 a3 a4 a5 a6 : Int) (w : World) :
    Calls Tryz.prog 31 #[.agg #[.int .i64 a0, .int .i64 a1, .int .i64 a2, .int .i64 a3, .int .i64 a4, .int .i64 a5, .int .i64 a6]] w fun e w' => e = .returned (.agg #[.int .i64 a0, .int .i64 a1, .int .i64 a2, .int .i64 a3, .int .i64 a4, .int .i64 a5, .int .i64 a6]) ∧ Below w.heap.size w w' := by
  have hb4 : Below w.heap.size w (((w.alloc (.cells #[.int .i64 a0, .int .i64 a1, .int .i64 a2, .int .i64 a3, .int .i64 a4, .int .i64 a5, .int .i64 a6] 63)).alloc (.cells #[.int .i64 0, .int .i64 0, .int .i64 0, .int .i64 0, .int .i64 0, .int .i64 0, .int .i64 0] 27)).alloc (.cells #[.int .i64 a0, .int .i64 a1, .int .i64 0, .int .i64 0, .int .i64 0, .int .i64 0, .int .i64 0] 27)) := (((Below.refl _ _).alloc (Nat.le_refl _) _).alloc (by simp) _).alloc (by simp; omega) _
  have x4 : At (((w.alloc (.cells #[.int .i64 a0, .int .i64 a1, .int .i64 a2, .int .i64 a3, .int .i64 a4, .int .i64 a5, .int .i64 a6] 63)).alloc (.cells #[.int .i64 0, .int .i64 0, .int .i64 0, .int .i64 0, .int .i64 0, .int .i64 0, .int .i64 0] 27)).alloc (.cells #[.int .i64 a0, .int .i64 a1, .int .i64 0, .int .i64 0, .int .i64 0, .int .i64 0, .int .i64 0] 27)) w.heap.size 63 #[.int .i64 a0, .int .i64 a1, .int .i64 a2, .int .i64 a3, .int .i64 a4, .int .i64 a5, .int .i64 a6] := ((At.new w 63 #[.int .i64 a0, .int .i64 a1, .int .i64 a2, .int .i64 a3, .int .i64 a4, .int .i64 a5, .int .i64 a6]).alloc _).alloc _
  have r4 : At (((w.alloc (.cells #[.int .i64 a0, .int .i64 a1, .int .i64 a2, .int .i64 a3, .int .i64 a4, .int .i64 a5, .int .i64 a6] 63)).alloc (.cells #[.int .i64 0, .int .i64 0, .int .i64 0, .int .i64 0, .int .i64 0, .int .i64 0, .int .i64 0] 27)).alloc (.cells #[.int .i64 a0, .int .i64 a1, .int .i64 0, .int .i64 0, .int .i64 0, .int .i64 0, .int .i64 0] 27)) (w.heap.size + 1) 27 #[.int .i64 0, .int .i64 0, .int .i64 0, .int .i64 0, .int .i64 0, .int .i64 0, .int .i64 0] := by
    have := (At.new (w.alloc (.cells #[.int .i64 a0, .int .i64 a1, .int .i64 a2, .int .i64 a3, .int .i64 a4, .int .i64 a5, .int .i64 a6] 63)) 27 #[.int .i64 0, .int .i64 0, .int .i64 0, .int .i64 0, .int .i64 0, .int .i64 0, .int .i64 0]).alloc (.cells #[.int .i64 a0, .int .i64 a1, .int .i64 0, .int .i64 0, .int .i64 0, .int .i64 0, .int .i64 0] 27)
    simpa using this
  have o4 : At (((w.alloc (.cells #[.int .i64 a0, .int .i64 a1, .int .i64 a2, .int .i64 a3, .int .i64 a4, .int .i64 a5, .int .i64 a6] 63)).alloc (.cells #[.int .i64 0, .int .i64 0, .int .i64 0, .int .i64 0, .int .i64 0, .int .i64 0, .int .i64 0] 27)).alloc (.cells #[.int .i64 a0, .int .i64 a1, .int .i64 0, .int .i64 0, .int .i64 0, .int .i64 0, .int .i64 0] 27)) (w.heap.size + 2) 27 #[.int .i64 a0, .int .i64 a1, .int .i64 0, .int .i64 0, .int .i64 0, .int .i64 0, .int .i64 0] := by
    have := At.new ((w.alloc (.cells #[.int .i64 a0, .int .i64 a1, .int .i64 a2, .int .i64 a3, .int .i64 a4, .int .i64 a5, .int .i64 a6] 63)).alloc (.cells #[.int .i64 0, .int .i64 0, .int .i64 0, .int .i64 0, .int .i64 0, .int .i64 0, .int .i64 0] 27)) 27 #[.int .i64 a0, .int .i64 a1, .int .i64 0, .int .i64 0, .int .i64 0, .int .i64 0, .int .i64 0]
    simpa using this
  go_enter Tryz.func31, Tryz.ntmps31
  go_wp2_with fail
  refine (toSample a2 a3 a4 a5 _).mono ?_
  rintro e w1 ⟨rfl, hb1⟩
  obtain ⟨p0, p1, p2, p3, p4, p5, p6⟩ := (x4.below hb1 x4.lt).seven
  have r5 := r4.below hb1 r4.lt
  have o5 := o4.below hb1 o4.lt
  obtain ⟨q0, q1, q2, q3, q4, q5, q6⟩ := r5.seven
  obtain ⟨qf0, qf1, qf2, qf3, qf4, qf5, qf6⟩ := r5.sevenF
  obtain ⟨s0, s1, s2, s3, s4, s5, s6⟩ := o5.seven
  obtain ⟨sf0, sf1, sf2, sf3, sf4, sf5, sf6⟩ := o5.sevenF
  have hb5 := hb4.trans (hb1.mono hb4.size)
  clear x4 r4 o4 r5 o5 hb4
  go_wp2
  refine bodyPost_ret (v := .agg #[.int .i64 a0, .int .i64 a1, .int .i64 a2, .int .i64 a3, .int .i64 a4, .int .i64 a5, .int .i64 a6]) (by simp [results, Tryz.results31, go_sem, q0, q1, q2, q3, q4, q5, q6]) rfl ?_
  refine ⟨rfl, ?_⟩
  repeat (refine Below.setCell ?_ (by simp <;> omega) _)
  exact hb5

set_option maxHeartbeats 2000000 in
theorem eqRecord (a0 a1 a2 a3 a4 a5 a6 b0 b1 b2 b3 b4 b5 b6 : Int) (w : World) :
    Calls Tryz.prog 145 #[.agg #[.int .i64 a0, .int .i64 a1, .int .i64 a2, .int .i64 a3, .int .i64 a4, .int .i64 a5, .int .i64 a6], .agg #[.int .i64 b0, .int .i64 b1, .int .i64 b2, .int .i64 b3, .int .i64 b4, .int .i64 b5, .int .i64 b6]] w fun e w' => e = .returned (.bool (decide ((a0, a1, (a2, a3, a4, a5), a6) = (b0, b1, (b2, b3, b4, b5), b6)))) ∧ Below w.heap.size w w' := by
  have hb0 : Below w.heap.size w ((w.alloc (.cells #[.int .i64 a0, .int .i64 a1, .int .i64 a2, .int .i64 a3, .int .i64 a4, .int .i64 a5, .int .i64 a6] 27)).alloc (.cells #[.int .i64 b0, .int .i64 b1, .int .i64 b2, .int .i64 b3, .int .i64 b4, .int .i64 b5, .int .i64 b6] 27)) := ((Below.refl _ _).alloc (Nat.le_refl _) _).alloc (by simp) _
  have x1 := (At.new w 27 #[.int .i64 a0, .int .i64 a1, .int .i64 a2, .int .i64 a3, .int .i64 a4, .int .i64 a5, .int .i64 a6]).alloc (.cells #[.int .i64 b0, .int .i64 b1, .int .i64 b2, .int .i64 b3, .int .i64 b4, .int .i64 b5, .int .i64 b6] 27)
  have x2 : At ((w.alloc (.cells #[.int .i64 a0, .int .i64 a1, .int .i64 a2, .int .i64 a3, .int .i64 a4, .int .i64 a5, .int .i64 a6] 27)).alloc (.cells #[.int .i64 b0, .int .i64 b1, .int .i64 b2, .int .i64 b3, .int .i64 b4, .int .i64 b5, .int .i64 b6] 27)) (w.heap.size + 1) 27 #[.int .i64 b0, .int .i64 b1, .int .i64 b2, .int .i64 b3, .int .i64 b4, .int .i64 b5, .int .i64 b6] := by
    have := At.new (w.alloc (.cells #[.int .i64 a0, .int .i64 a1, .int .i64 a2, .int .i64 a3, .int .i64 a4, .int .i64 a5, .int .i64 a6] 27)) 27 #[.int .i64 b0, .int .i64 b1, .int .i64 b2, .int .i64 b3, .int .i64 b4, .int .i64 b5, .int .i64 b6]
    simpa using this
  by_cases h0 : a0 = b0
  rotate_left
  · have hn : (a0 != b0) = true := by rw [bne_iff_ne]; exact h0
    have Hf := Lib.hid (show decide ((a0, a1, (a2, a3, a4, a5), a6) = (b0, b1, (b2, b3, b4, b5), b6)) = false by simp [h0])
    clear h0 x1 x2
    go_enter Tryz.func145, Tryz.ntmps145
    go_wp2
    go_ret
    exact ⟨by rw [Hf.out]; rfl, hb0⟩
  subst h0
  have hn0 : (a0 != a0) = false := by simp
  by_cases h1 : a1 = b1
  rotate_left
  · have hn : (a1 != b1) = true := by rw [bne_iff_ne]; exact h1
    have Hf := Lib.hid (show decide ((a0, a1, (a2, a3, a4, a5), a6) = (a0, b1, (b2, b3, b4, b5), b6)) = false by simp [h1])
    clear h1 x1 x2
    go_enter Tryz.func145, Tryz.ntmps145
    go_wp2
    go_ret
    exact ⟨by rw [Hf.out]; rfl, hb0⟩
  subst h1
  have hn1 : (a1 != a1) = false := by simp
  by_cases h2 : (a2, a3, a4, a5) = (b2, b3, b4, b5)
  rotate_left
  · have Hd := Lib.hid (show decide ((a2, a3, a4, a5) = (b2, b3, b4, b5)) = false by simpa using h2)
    have Hf := Lib.hid (show decide ((a0, a1, (a2, a3, a4, a5), a6) = (a0, a1, (b2, b3, b4, b5), b6)) = false by
      simp only [decide_eq_false_iff_not]
      intro e
      exact h2 (Prod.mk.inj (Prod.mk.inj (Prod.mk.inj e).2).2).1)
    clear h2
    go_enter Tryz.func145, Tryz.ntmps145
    go_wp2_with fail
    refine (eqSample a2 a3 a4 a5 b2 b3 b4 b5 _).mono ?_
    rintro e w1 ⟨rfl, hb1⟩
    rw [Hd.out]
    go_wp2
    go_ret
    exact ⟨by rw [Hf.out]; rfl, hb0.trans (hb1.mono hb0.size)⟩
  obtain ⟨rfl, rfl, rfl, rfl⟩ : a2 = b2 ∧ a3 = b3 ∧ a4 = b4 ∧ a5 = b5 := by simpa using h2
  clear h2
  by_cases h6 : a6 = b6
  rotate_left
  · have hn : (a6 != b6) = true := by rw [bne_iff_ne]; exact h6
    have Hf := Lib.hid (show decide ((a0, a1, (a2, a3, a4, a5), a6) = (a0, a1, (a2, a3, a4, a5), b6)) = false by simp [h6])
    clear h6
    go_enter Tryz.func145, Tryz.ntmps145
    go_wp2_with fail
    refine (eqSample a2 a3 a4 a5 a2 a3 a4 a5 _).mono ?_
    rintro e w1 ⟨he, hb1⟩
    obtain rfl : e = .returned (.bool true) := by rw [he]; simp
    clear he
    obtain ⟨p0, p1, p2, p3, p4, p5, p6⟩ := (x1.below hb1 x1.lt).seven
    obtain ⟨q0, q1, q2, q3, q4, q5, q6⟩ := (x2.below hb1 x2.lt).seven
    go_wp2
    go_ret
    exact ⟨by rw [Hf.out]; rfl, hb0.trans (hb1.mono hb0.size)⟩
  subst h6
  have hn6 : (a6 != a6) = false := by simp
  go_enter Tryz.func145, Tryz.ntmps145
  go_wp2_with fail
  refine (eqSample a2 a3 a4 a5 a2 a3 a4 a5 _).mono ?_
  rintro e w1 ⟨he, hb1⟩
  obtain rfl : e = .returned (.bool true) := by rw [he]; simp
  clear he
  obtain ⟨p0, p1, p2, p3, p4, p5, p6⟩ := (x1.below hb1 x1.lt).seven
  obtain ⟨q0, q1, q2, q3, q4, q5, q6⟩ := (x2.below hb1 x2.lt).seven
  go_wp2
  go_ret
  exact ⟨by simp, hb0.trans (hb1.mono hb0.size)⟩
end Go.Proofs.YteiclanlhnccnaaGreatDoor
namespace Go.Proofs.YteiclanlhnccnaaGreatDoor
set_option maxRecDepth 20000
open Go.RowKit

/-- An answer of a code and a number. -/
def RetIR (r : Int × Int) (w : World) (e : Ending) (w' : World) : Prop :=
  e = .returned (.agg #[.int .i64 r.1, .int .i64 r.2]) ∧ Below w.heap.size w w'

end Go.Proofs.YteiclanlhnccnaaGreatDoor
/-
  How long one waits: two to the power of the tries: the model's and the program's.
-/
namespace Go.Proofs.YteiclanlhnccnaaGreatDoor
set_option maxRecDepth 20000
open Go.RowKit
set_option linter.unusedSimpArgs false

def pw (j : Nat) : Int := (2 : Int) ^ j
theorem pw_next (j : Nat) : pw (j + 1) = pw j * 2 := by unfold pw; rw [Int.pow_succ]
theorem pw_le {j : Nat} (h : j ≤ 4) : 1 ≤ pw j ∧ pw j ≤ 16 := by
  rcases (show j = 0 ∨ j = 1 ∨ j = 2 ∨ j = 3 ∨ j = 4 by omega) with rfl | rfl | rfl | rfl | rfl <;> decide
def backM (t : Int) : Int × Int := if inB (t, 0, 4) then (0, pw t.toNat) else (3, 0)
theorem backM_no {t : Int} (h : inB (t, 0, 4) = false) : backM t = (3, 0) := by unfold backM; rw [h]; rfl
theorem backM_yes {t : Int} (h : inB (t, 0, 4) = true) : backM t = (0, pw t.toNat) := by unfold backM; rw [h]; rfl

theorem pw_shl {n : Nat} (hn : n ≤ 4) : wrap64 ((2 : Int) ^ n) = pw n := by
  rcases (show n = 0 ∨ n = 1 ∨ n = 2 ∨ n = 3 ∨ n = 4 by omega) with rfl | rfl | rfl | rfl | rfl <;> first | decide +kernel | simp [pw, wrap64]

end Go.Proofs.YteiclanlhnccnaaGreatDoor
