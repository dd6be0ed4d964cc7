/-
  Texts of one proof, joined: each has its own namespace.
-/
import Derived.Test.YtkgbjlbhlhdhbaaDoorBFnStores0
import Derived.Test.YtkgbjlbhlhdhbaaDoorBFnStores2
import Derived.Test.YtkgbjlbhlhdhbaaDoorBFnStores1
import Derived.Laws.AppendOwn
/-
  Rows of samples: how they lie in memory; the law's own copying, comparing and marking of them.
-/
namespace Go.Proofs.YtkgbjlbhlhdhbaaDoor
set_option maxRecDepth 20000
open Go.RowKit
set_option linter.unusedSimpArgs false

def smpCells (x : Smp) : List Value := [.int .i64 x.1, .int .i64 x.2.1, .int .i64 x.2.2.1, .int .i64 x.2.2.2]
/-- Samples. -/
def eS : Enc Smp := ⟨26, 4, smpCells⟩
theorem okS : EncOk eS := ⟨fun _ => rfl, fun a u hu => by simp only [eS, smpCells, List.mem_cons, List.not_mem_nil, or_false] at hu; rcases hu with rfl | rfl | rfl | rfl <;> rfl, by decide⟩
/-- The law's own samples. -/
def eL : Enc Smp := ⟨50, 4, smpCells⟩
theorem okL : EncOk eL := ⟨fun _ => rfl, fun a u hu => by simp only [eL, smpCells, List.mem_cons, List.not_mem_nil, or_false] at hu; rcases hu with rfl | rfl | rfl | rfl <;> rfl, by decide⟩
theorem info_smp : (Tryd.prog.info? 26).map (fun i => (i.zero, i.size, i.bytes)) = some (some (.agg #[.int .i64 0, .int .i64 0, .int .i64 0, .int .i64 0]), 4, 32) := by kernel_rfl

/-- Four cells. -/
def S4 (u : World) (g p : Nat) (a0 a1 a2 a3 : Int) : Prop :=
  u.cell? ⟨g, p, none⟩ = some (.int .i64 a0) ∧ u.cell? ⟨g, p + 1, none⟩ = some (.int .i64 a1) ∧ u.cell? ⟨g, p + 2, none⟩ = some (.int .i64 a2) ∧ u.cell? ⟨g, p + 3, none⟩ = some (.int .i64 a3)
theorem S4.below {B : Nat} {w w' : World} {g p : Nat} {a0 a1 a2 a3 : Int} (h : S4 w g p a0 a1 a2 a3) (hb : Below B w w') (hg : g < B) : S4 w' g p a0 a1 a2 a3 :=
  ⟨(hb.cell (p := ⟨g, p, none⟩) hg).trans h.1, (hb.cell (p := ⟨g, p + 1, none⟩) hg).trans h.2.1, (hb.cell (p := ⟨g, p + 2, none⟩) hg).trans h.2.2.1, (hb.cell (p := ⟨g, p + 3, none⟩) hg).trans h.2.2.2⟩
theorem S4.drew {w : World} {g p : Nat} {a0 a1 a2 a3 : Int} (h : S4 w g p a0 a1 a2 a3) : S4 w.drew g p a0 a1 a2 a3 := h

section
variable {w w' : World} {base hi n c : Nat} {A : Option Addr} {l : List Smp}
theorem Rd.smp (h : Rd eS w hi A l) {k : Nat} (hk : k < l.length) : ∃ g o a0 a1 a2 a3, A = some ⟨g, o, none⟩ ∧ g < hi ∧ l[k]? = some (a0, a1, a2, a3) ∧ S4 w g (o + k * 4) a0 a1 a2 a3 := by
  obtain ⟨g, o, ⟨a0, a1, a2, a3⟩, e, hg, ha, hc⟩ := h.at_ hk
  exact ⟨g, o, a0, a1, a2, a3, e, hg, ha, hc 0 _ rfl, hc 1 _ rfl, hc 2 _ rfl, hc 3 _ rfl⟩
theorem Rd.smp_is {g o k : Nat} {a0 a1 a2 a3 : Int} (h : Rd eS w hi (some ⟨g, o, none⟩) l) (hk : l[k]? = some (a0, a1, a2, a3)) : S4 w g (o + k * 4) a0 a1 a2 a3 := by
  obtain ⟨g', o', e, _, hc⟩ := h (by intro e; subst e; simp at hk)
  obtain ⟨rfl, rfl⟩ : g = g' ∧ o = o' := by simpa using Option.some.inj e
  exact ⟨hc k 0 _ _ hk rfl, hc k 1 _ _ hk rfl, hc k 2 _ _ hk rfl, hc k 3 _ _ hk rfl⟩
theorem Rd.smpL (h : Rd eL w hi A l) {k : Nat} (hk : k < l.length) : ∃ g o a0 a1 a2 a3, A = some ⟨g, o, none⟩ ∧ g < hi ∧ l[k]? = some (a0, a1, a2, a3) ∧ S4 w g (o + k * 4) a0 a1 a2 a3 := h.smp hk
theorem Ow.smpAt {g : Nat} (h : Ow eS w base (some ⟨g, 0, none⟩) n c l) {k : Nat} {a0 a1 a2 a3 : Int} (hk : l[k]? = some (a0, a1, a2, a3)) : S4 w g (k * 4) a0 a1 a2 a3 :=
  ⟨h.cellAt okS hk (j := 0) rfl, h.cellAt okS hk (j := 1) rfl, h.cellAt okS hk (j := 2) rfl, h.cellAt okS hk (j := 3) rfl⟩
/-- One number of a sample. -/
theorem Ow.smpPut {g : Nat} (h : Ow eS w base (some ⟨g, 0, none⟩) n c l) {k j : Nat} {x y : Smp} {u : Value} (hk : l[k]? = some x) (hj : j < 4) (hc : smpCells y = (smpCells x).set j u) :
    Ow eS (w.setCell ⟨g, k * 4 + j, none⟩ u) base (some ⟨g, 0, none⟩) n c (l.set k y) ∧ w.grownBy (w.setCell ⟨g, k * 4 + j, none⟩ u) (some g) :=
  h.stored okS (k := k) (j := j) (a' := y) hk hj hc
/-- A whole sample. -/
theorem Ow.smpSet {g : Nat} (h : Ow eS w base (some ⟨g, 0, none⟩) n c l) {k : Nat} (hk : k < l.length) (b0 b1 b2 b3 : Int) :
    Ow eS ((((w.setCell ⟨g, k * 4, none⟩ (.int .i64 b0)).setCell ⟨g, k * 4 + 1, none⟩ (.int .i64 b1)).setCell ⟨g, k * 4 + 2, none⟩ (.int .i64 b2)).setCell ⟨g, k * 4 + 3, none⟩ (.int .i64 b3)) base (some ⟨g, 0, none⟩) n c (l.set k (b0, b1, b2, b3)) ∧
    w.grownBy ((((w.setCell ⟨g, k * 4, none⟩ (.int .i64 b0)).setCell ⟨g, k * 4 + 1, none⟩ (.int .i64 b1)).setCell ⟨g, k * 4 + 2, none⟩ (.int .i64 b2)).setCell ⟨g, k * 4 + 3, none⟩ (.int .i64 b3)) (some g) := by
  obtain ⟨⟨a0, a1, a2, a3⟩, ha⟩ : ∃ x, l[k]? = some x := ⟨l[k], List.getElem?_eq_getElem hk⟩
  have h0 := h.smpPut (j := 0) (y := (b0, a1, a2, a3)) ha (by omega) rfl
  have h1 := h0.1.smpPut (j := 1) (x := (b0, a1, a2, a3)) (y := (b0, b1, a2, a3)) (by rw [List.getElem?_set_self (by omega)]) (by omega) rfl
  rw [List.set_set] at h1
  have h2 := h1.1.smpPut (j := 2) (x := (b0, b1, a2, a3)) (y := (b0, b1, b2, a3)) (by rw [List.getElem?_set_self (by omega)]) (by omega) rfl
  rw [List.set_set] at h2
  have h3 := h2.1.smpPut (j := 3) (x := (b0, b1, b2, a3)) (y := (b0, b1, b2, b3)) (by rw [List.getElem?_set_self (by omega)]) (by omega) rfl
  rw [List.set_set] at h3
  exact ⟨h3.1, grown_trans (grown_trans (grown_trans h0.2 h1.2) h2.2) h3.2⟩
end

theorem eqSample (a0 a1 a2 a3 b0 b1 b2 b3 : Int) (w : World) :
    Calls Tryd.prog 68 #[.agg #[.int .i64 a0, .int .i64 a1, .int .i64 a2, .int .i64 a3], .agg #[.int .i64 b0, .int .i64 b1, .int .i64 b2, .int .i64 b3]] w fun e w' =>
      e = .returned (.bool (decide ((a0, a1, a2, a3) = (b0, b1, b2, b3)))) ∧ Below w.heap.size w w' := by
  by_cases h0 : a0 = b0
  rotate_left
  · have hn : (a0 != b0) = true := by rw [bne_iff_ne]; exact h0
    have Hf := Lib.hid (show decide ((a0, a1, a2, a3) = (b0, b1, b2, b3)) = false by simp [h0])
    clear h0
    go_enter Tryd.func68, Tryd.ntmps68
    go_wp2
    go_ret
    exact ⟨by rw [Hf.out]; rfl, ((Below.refl _ _).alloc (Nat.le_refl _) _).alloc (by simp) _⟩
  subst h0
  by_cases h1 : a1 = b1
  rotate_left
  · have hn : (a1 != b1) = true := by rw [bne_iff_ne]; exact h1
    have Hf := Lib.hid (show decide ((a0, a1, a2, a3) = (a0, b1, b2, b3)) = false by simp [h1])
    clear h1
    go_enter Tryd.func68, Tryd.ntmps68
    go_wp2
    go_ret
    exact ⟨by rw [Hf.out]; rfl, ((Below.refl _ _).alloc (Nat.le_refl _) _).alloc (by simp) _⟩
  subst h1
  by_cases h2 : a2 = b2
  rotate_left
  · have hn : (a2 != b2) = true := by rw [bne_iff_ne]; exact h2
    have Hf := Lib.hid (show decide ((a0, a1, a2, a3) = (a0, a1, b2, b3)) = false by simp [h2])
    clear h2
    go_enter Tryd.func68, Tryd.ntmps68
    go_wp2
    go_ret
    exact ⟨by rw [Hf.out]; rfl, ((Below.refl _ _).alloc (Nat.le_refl _) _).alloc (by simp) _⟩
  subst h2
  by_cases h3 : a3 = b3
  rotate_left
  · have hn : (a3 != b3) = true := by rw [bne_iff_ne]; exact h3
    have Hf := Lib.hid (show decide ((a0, a1, a2, a3) = (a0, a1, a2, b3)) = false by simp [h3])
    clear h3
    go_enter Tryd.func68, Tryd.ntmps68
    go_wp2
    go_ret
    exact ⟨by rw [Hf.out]; rfl, ((Below.refl _ _).alloc (Nat.le_refl _) _).alloc (by simp) _⟩
  subst h3
  go_enter Tryd.func68, Tryd.ntmps68
  go_wp2
  go_ret
  exact ⟨by simp, ((Below.refl _ _).alloc (Nat.le_refl _) _).alloc (by simp) _⟩

theorem szSampleS (A : Option Addr) (n c : Nat) (left : Int) (w : World) (h0 : 0 ≤ left) (hl : left ≤ 1048576) (hn : n ≤ maxLen) :
    Calls Tryd.prog 29 #[.slice A n c, .int .i64 left] w fun e w' => e = .returned (.int .i64 (if left < (n : Int) then -1 else left - n)) ∧ w' = w := by
  unfold maxLen at hn
  have hw : IntKind.i64.wrap (left - (n : Int)) = left - (n : Int) := IntWalk.i64_in _ (by omega)
  by_cases h : left < (n : Int)
  · rw [if_pos h]
    go_enter Tryd.func29, Tryd.ntmps29
    go_wp2
    go_ret
    exact ⟨rfl, rfl⟩
  · rw [if_neg h]
    go_enter Tryd.func29, Tryd.ntmps29
    go_wp2
    go_ret
    exact ⟨rfl, rfl⟩

theorem alike_all' {α : Type} {xs ys : List α} {n : Nat} (hx : xs.length = n) (hy : ys.length = n) (h : ∀ i, i < n → xs[i]? = ys[i]?) : xs = ys := by
  apply List.ext_getElem?
  intro i
  rcases Nat.lt_or_ge i n with h1 | h1
  · exact h i h1
  · rw [List.getElem?_eq_none (by omega), List.getElem?_eq_none (by omega)]
def EqRelS (xs ys : List Smp) (w : World) (n : Nat) (i : Value) (wr : World) : Prop :=
  ∃ k : Nat, k ≤ n ∧ i = .int .i64 k ∧ (∀ i, i < k → xs[i]? = ys[i]?) ∧ Below w.heap.size w wr

theorem eqSampleS_no (A B : Option Addr) (n m c d : Nat) (w : World) (h : n ≠ m) :
    Calls Tryd.prog 31 #[.slice A n c, .slice B m d] w fun e w' => e = .returned (.bool false) ∧ Below w.heap.size w w' := by
  have hb : ((n : Int) != (m : Int)) = true := by simp; omega
  go_enter Tryd.func31, Tryd.ntmps31
  go_wp2
  go_ret
  exact ⟨rfl, Below.refl _ _⟩

set_option maxHeartbeats 1000000 in
theorem eqSampleS_any (A B : Option Addr) (n c d : Nat) (xs ys : List Smp) (w : World) (ha : Rd eS w w.heap.size A xs) (hb : Rd eS w w.heap.size B ys) (hx : xs.length = n) (hy : ys.length = n) (hm : n ≤ maxLen) :
    Calls Tryd.prog 31 #[.slice A n c, .slice B n d] w fun e w' => e = .returned (.bool (decide (xs = ys))) ∧ Below w.heap.size w w' := by
  have h0 : ((n : Int) != (n : Int)) = false := by simp
  have Hx := Lib.hid hx
  have Hy := Lib.hid hy
  clear hx hy
  unfold maxLen at hm
  go_enter Tryd.func31, Tryd.ntmps31
  go_wp2
  go_loopw [5] (fun i wr => EqRelS xs ys w n i wr) (fun i _ => n - (intOf i).toNat)
  case atStart => exact ⟨0, Nat.zero_le _, rfl, fun _ h => absurd h (by omega), Below.refl _ _⟩
  case round =>
    obtain ⟨k, hk, rfl, hal, hbel⟩ := hrel
    have Hal := Lib.hid hal
    clear hal
    by_cases hlt : k < n
    · obtain ⟨g, o, a0, a1, a2, a3, rfl, hg, hxk, ca⟩ := (ha.below hbel (Nat.le_refl _)).smp (k := k) (by rw [Hx.out]; exact hlt)
      obtain ⟨g', o', b0, b1, b2, b3, rfl, hg', hyk, cb⟩ := (hb.below hbel (Nat.le_refl _)).smp (k := k) (by rw [Hy.out]; exact hlt)
      have Hxk := Lib.hid hxk
      have Hyk := Lib.hid hyk
      clear hxk hyk
      have hbd := hbel.drew
      go_wp2
      refine wp_region_mix [(0, false), (1, false), (2, false), (3, false), (4, false), (5, false), (6, false), (7, false), (8, true), (9, false)] (fun u => S4 u g (o + k * 4) a0 a1 a2 a3 ∧ S4 u g' (o' + k * 4) b0 b1 b2 b3) (by kernel_rfl) (by kernel_rfl) (fun _ _ _ _ _ h => h) ⟨ca.drew, cb.drew⟩ ?_
      simp only [mixOps, List.map_cons, List.map_nil, List.getElem?_cons_succ, List.getElem?_cons_zero, Option.getD_some]
      repeat (first
        | (refine mix_skip (by rfl) ?_
           (try simp only [Act.put, List.setIfInBounds_toArray, List.set_cons_zero, List.set_cons_succ]))
        | (refine mix_pure (v := ?_) (by rfl) (fun u hu => ?_) ?_
           rotate_left
           · obtain ⟨⟨_, _, _, _⟩, _, _, _, _⟩ := hu
             go_simp
             (with_reducible rfl)
           (try simp only [Act.put, List.setIfInBounds_toArray, List.set_cons_zero, List.set_cons_succ])))
      refine mix_call (by rfl) (fun K hK => ?_)
      go_simp
      refine (eqSample a0 a1 a2 a3 b0 b1 b2 b3 _).mono ?_
      rintro e w1 ⟨rfl, hb1⟩
      have hB1 := hbd.trans (hb1.mono hbd.size)
      have c1 := ca.drew.below hb1 (Nat.lt_of_lt_of_le hg hbd.size)
      have c2 := cb.drew.below hb1 (Nat.lt_of_lt_of_le hg' hbd.size)
      refine hK _ _ _ (fun _ h => h) ⟨c1, c2⟩ ?_
      (try simp only [Act.put, List.setIfInBounds_toArray, List.set_cons_zero, List.set_cons_succ])
      by_cases he : (a0, a1, a2, a3) = (b0, b1, b2, b3)
      · rw [show decide ((a0, a1, a2, a3) = (b0, b1, b2, b3)) = true by simpa using he]
        have He := Lib.hid he
        clear he
        refine mix_pure (v := ?_) (by rfl) (fun u hu => ?_) ?_
        rotate_left
        · go_simp
          (with_reducible rfl)
        (try simp only [Act.put, List.setIfInBounds_toArray, List.set_cons_zero, List.set_cons_succ])
        refine mix_nil ?_
        go_wp2
        refine ⟨⟨k + 1, by omega, by go_num, fun i hi => ?_, hB1⟩, by simp [intOf]; omega⟩
        rcases Nat.lt_or_ge i k with h | h
        · exact Hal.out i h
        · obtain rfl : i = k := by omega
          rw [Hxk.out, Hyk.out, He.out]
      · rw [show decide ((a0, a1, a2, a3) = (b0, b1, b2, b3)) = false by simpa using he]
        have hfin : decide (xs = ys) = false := by
          simp only [decide_eq_false_iff_not]
          rintro rfl
          exact he (Option.some.inj (Hxk.out.symm.trans Hyk.out))
        have Hf := Lib.hid hfin
        clear he hfin
        refine mix_pure (v := ?_) (by rfl) (fun u hu => ?_) ?_
        rotate_left
        · go_simp
          (with_reducible rfl)
        (try simp only [Act.put, List.setIfInBounds_toArray, List.set_cons_zero, List.set_cons_succ])
        refine mix_nil ?_
        go_wp2
        go_ret
        exact ⟨by rw [Hf.out]; rfl, hB1⟩
    · have hfin : decide (xs = ys) = true := by
        obtain rfl : k = n := by omega
        simp only [decide_eq_true_eq]
        exact alike_all' Hx.out Hy.out Hal.out
      have Hf := Lib.hid hfin
      clear hfin
      go_wp2
      go_ret
      exact ⟨by rw [Hf.out]; rfl, hbel⟩

/-- Two rows of samples compared, whatever their lengths. -/
theorem eqSampleS (A B : Option Addr) (n m c d : Nat) (xs ys : List Smp) (w : World) (ha : Rd eS w w.heap.size A xs) (hb : Rd eS w w.heap.size B ys) (hx : xs.length = n) (hy : ys.length = m) (hm : n ≤ maxLen) :
    Calls Tryd.prog 31 #[.slice A n c, .slice B m d] w fun e w' => e = .returned (.bool (decide (xs = ys))) ∧ Below w.heap.size w w' := by
  by_cases h : n = m
  · subst h
    exact eqSampleS_any A B n c d xs ys w ha hb hx hy hm
  · have hd : decide (xs = ys) = false := by
      simp only [decide_eq_false_iff_not]
      rintro rfl
      exact h (hx.symm.trans hy)
    rw [hd]
    exact eqSampleS_no A B n m c d w h

set_option maxHeartbeats 1000000 in
theorem toSampleS (A : Option Addr) (n c : Nat) (xs : List Smp) (w : World) (ha : Rd eL w w.heap.size A xs) (hx : xs.length = n) (hm : n ≤ 1048576) :
    Calls Tryd.prog 30 #[.slice A n c] w fun e w' => ∃ A' c', e = .returned (.slice A' n c') ∧ Ow eS w' w.heap.size A' n c' xs ∧ Below w.heap.size w w' := by
  have Hx := Lib.hid hx
  clear hx
  go_enter Tryd.func30, Tryd.ntmps30
  go_wp2_with (refine wpList_make_ow okS _ rfl _ _ _ rfl w.heap.size info_smp Tryd.underlying24 (0, 0, 0, 0) rfl .i64 .i64 n n n rfl rfl rfl rfl (by omega) (by unfold maxLen; omega) (Nat.le_refl _) ?_; intro w1 hown hg1)
  have hs1 : w.heap.size < w1.heap.size := (hown.lt w.heap.size rfl).2
  go_loopw [4] (fun i wr => ToRel eS (0, 0, 0, 0) w w.heap.size xs n i wr) (fun i _ => n - (intOf i).toNat)
  case atStart => exact toRel_start (0, 0, 0, 0) xs hown hg1
  case round =>
    obtain ⟨k, hk, rfl, hown, hbel⟩ := hrel
    by_cases hlt : k < n
    · obtain ⟨g, o, a0, a1, a2, a3, rfl, hg, hx, c0, c1, c2, c3⟩ := (ha.below hbel (Nat.le_refl _)).smpL (k := k) (by rw [Hx.out]; exact hlt)
      have Hset := Lib.hid (set_next (0, 0, 0, 0) xs n k (a0, a1, a2, a3) hlt Hx.out hx)
      have Hpa := Lib.hid (part_at (0, 0, 0, 0) xs n k hlt Hx.out)
      clear hx
      go_wp2_with fail
      refine (toSample a0 a1 a2 a3 _).mono ?_
      rintro e w2 ⟨rfl, hb2⟩
      have how2 := hown.below hb2 (Nat.le_refl _)
      have hB2 := hbel.trans (hb2.mono hbel.size)
      obtain ⟨d0, d1, d2, d3⟩ := how2.smpAt Hpa.out
      have f0 := how2.frozenAt (k * 4)
      have f1 := how2.frozenAt (k * 4 + 1)
      have f2 := how2.frozenAt (k * 4 + 2)
      have f3 := how2.frozenAt (k * 4 + 3)
      have Hst := Lib.hid (how2.smpSet (k := k) (getElem?_some_lt Hpa.out) a0 a1 a2 a3).1
      have HB := (((hB2.setCell (p := ⟨w.heap.size, k * 4, none⟩) (Nat.le_refl _) (.int .i64 a0)).setCell (p := ⟨w.heap.size, k * 4 + 1, none⟩) (Nat.le_refl _) (.int .i64 a1)).setCell (p := ⟨w.heap.size, k * 4 + 2, none⟩) (Nat.le_refl _) (.int .i64 a2)).setCell (p := ⟨w.heap.size, k * 4 + 3, none⟩) (Nat.le_refl _) (.int .i64 a3)
      go_wp2
      exact ⟨⟨k + 1, by omega, by go_num, by rw [← Hset.out]; exact Hst.out, HB⟩, by simp [intOf]; omega⟩
    · have hall := toRel_end hown (by omega) Hx.out
      clear hown
      go_wp2
      go_ret
      exact ⟨_, _, rfl, hall, hbel⟩
end Go.Proofs.YtkgbjlbhlhdhbaaDoor
/-
  A store's bounds and order: the model's StoreFault.
-/
namespace Go.Proofs.YtkgbjlbhlhdhbaaDoor
set_option maxRecDepth 20000
open Go.RowKit
set_option linter.unusedSimpArgs false

/-- The i-th is ahead of the next one. -/
def stepM (l : List Smp) (i : Nat) : Bool := match l[i]?, l[i + 1]? with | some a, some b => aheadM a b | _, _ => true
theorem stepM_at {l : List Smp} {i : Nat} {a b : Smp} (ha : l[i]? = some a) (hb : l[i + 1]? = some b) : stepM l i = aheadM a b := by
  unfold stepM
  rw [ha, hb]
def risesM (l : List Smp) : Bool := (List.range l.length).all (stepM l)
def rightM (l : List Smp) : Bool := l.all fun x => decide (faultM x = 0)
def storeFaultM (l : List Smp) : Int := if 160 < l.length then 2 else if rightM l = false then 3 else if risesM l = false then 1 else 0
theorem storeFault_many {l : List Smp} (h : 160 < l.length) : storeFaultM l = 2 := if_pos h
theorem storeFault_wrong {l : List Smp} {k : Nat} {x : Smp} (h : ¬ 160 < l.length) (hx : l[k]? = some x) (hf : faultM x = 3) : storeFaultM l = 3 := by
  have hr : rightM l = false := by
    unfold rightM
    rw [List.all_eq_false]
    exact ⟨x, List.mem_of_getElem? hx, by simp [hf]⟩
  unfold storeFaultM
  rw [if_neg h, if_pos hr]
theorem rightM_of {l : List Smp} {n : Nat} (hn : l.length = n) (hal : ∀ j x, j < n → l[j]? = some x → faultM x = 0) : rightM l = true := by
  unfold rightM
  rw [List.all_eq_true]
  intro x hx
  obtain ⟨j, hj⟩ := List.mem_iff_getElem?.1 hx
  exact decide_eq_true (hal j x (by have := getElem?_some_lt hj; omega) hj)
theorem storeFault_form {l : List Smp} {k : Nat} (h : ¬ 160 < l.length) (hr : rightM l = true) (hk : k < l.length) (hs : stepM l k = false) : storeFaultM l = 1 := by
  have hq : risesM l = false := by
    unfold risesM
    rw [List.all_eq_false]
    exact ⟨k, List.mem_range.2 hk, by simp [hs]⟩
  unfold storeFaultM
  rw [if_neg h, if_neg (by simp [hr]), if_pos hq]
theorem storeFault_ok {l : List Smp} {n : Nat} (hn : l.length = n) (h : ¬ 160 < l.length) (hr : rightM l = true) (hal : ∀ j, j + 1 < n → stepM l j = true) : storeFaultM l = 0 := by
  have hq : risesM l = true := by
    unfold risesM
    rw [List.all_eq_true]
    intro j hj
    have hj' := List.mem_range.1 hj
    rcases Nat.lt_or_ge (j + 1) n with h1 | h1
    · exact hal j h1
    · unfold stepM
      rw [List.getElem?_eq_none (l := l) (i := j + 1) (by omega)]
      cases l[j]? <;> rfl
  unfold storeFaultM
  rw [if_neg h, if_neg (by simp [hr]), if_neg (by simp [hq])]

def RightRel (w : World) (l : List Smp) (n : Nat) (i : Value) (wr : World) : Prop :=
  ∃ k : Nat, k ≤ n ∧ i = .int .i64 k ∧ (∀ j x, j < k → l[j]? = some x → faultM x = 0) ∧ Below w.heap.size w wr
def RiseRel (w : World) (l : List Smp) (n : Nat) (i : Value) (wr : World) : Prop :=
  ∃ k : Nat, (k + 1 ≤ n ∨ k = 0) ∧ i = .int .i64 ((k + 1 : Nat) : Int) ∧ (∀ j, j < k → stepM l j = true) ∧ Below w.heap.size w wr

set_option maxHeartbeats 2000000 in
theorem specStoreFault (A : Option Addr) (n c : Nat) (l : List Smp) (w : World) (ha : Rd eS w w.heap.size A l) (hn : l.length = n) :
    Calls Tryd.prog 24 #[.slice A n c] w fun e w' => e = .returned (.int .i64 (storeFaultM l)) ∧ Below w.heap.size w w' := by
  by_cases hbig : 160 < n
  · have hb : (160 : Int) < (n : Int) := by omega
    rw [storeFault_many (by omega)]
    go_enter Tryd.func24, Tryd.ntmps24
    go_wp2
    go_ret
    exact ⟨rfl, Below.refl _ _⟩
  have hb : (n : Int) ≤ 160 := by omega
  have Hbig := Lib.hid (show ¬ 160 < l.length by omega)
  have Hn := Lib.hid hn
  clear hn hbig
  go_enter Tryd.func24, Tryd.ntmps24
  go_wp2
  go_loopw [3] (fun i wr => RightRel w l n i wr) (fun i _ => n - (intOf i).toNat)
  case atStart => exact ⟨0, Nat.zero_le _, rfl, fun _ _ h => absurd h (by omega), Below.refl _ _⟩
  case round =>
    obtain ⟨k, hk, rfl, hal, hbel⟩ := hrel
    have Hal := Lib.hid hal
    clear hal
    by_cases hlt : k < n
    · obtain ⟨g, o, a0, a1, a2, a3, rfl, hg, hx, c0, c1, c2, c3⟩ := (ha.below hbel (Nat.le_refl _)).smp (k := k) (by rw [Hn.out]; exact hlt)
      rcases faultM_or (a0, a1, a2, a3) with hf | hf
      · have hq := specSampleFault a0 a1 a2 a3 wr
        rw [hf] at hq
        have Hx := Lib.hid hx
        have Hf := Lib.hid hf
        clear hx hf
        go_wp2_with fail
        refine hq.mono ?_
        rintro e w2 ⟨rfl, hb2⟩
        have hB2 := hbel.trans (hb2.mono hbel.size)
        go_wp2
        refine ⟨⟨k + 1, by omega, by go_num, fun j x hj hx => ?_, hB2⟩, by simp [intOf]; omega⟩
        rcases Nat.lt_or_ge j k with h | h
        · exact Hal.out j x h hx
        · obtain rfl : j = k := by omega
          obtain rfl := Option.some.inj (Hx.out.symm.trans hx)
          exact Hf.out
      · have hq := specSampleFault a0 a1 a2 a3 wr
        rw [hf] at hq
        have Hr := Lib.hid (storeFault_wrong Hbig.out hx hf)
        clear hx hf
        go_wp2_with fail
        refine hq.mono ?_
        rintro e w2 ⟨rfl, hb2⟩
        have hB2 := hbel.trans (hb2.mono hbel.size)
        go_wp2
        go_ret
        exact ⟨by rw [Hr.out]; rfl, hB2⟩
    · obtain rfl : n = k := by omega
      have Hright := Lib.hid (rightM_of Hn.out Hal.out)
      clear Hal
      go_wp2
      go_loopw [5] (fun i wr => RiseRel w l n i wr) (fun i _ => n - (intOf i).toNat)
      case atStart => exact ⟨0, .inr rfl, rfl, fun _ h => absurd h (by omega), hbel⟩
      case round =>
        obtain ⟨k, hk, rfl, hal, hbel⟩ := hrel
        have Hal := Lib.hid hal
        clear hal
        by_cases hlt : k + 1 < n
        · obtain ⟨g, o, a0, a1, a2, a3, rfl, hg, hx, ca⟩ := (ha.below hbel (Nat.le_refl _)).smp (k := k) (by rw [Hn.out]; omega)
          obtain ⟨g', o', b0, b1, b2, b3, e', hg', hy, cb⟩ := (ha.below hbel (Nat.le_refl _)).smp (k := k + 1) (by rw [Hn.out]; omega)
          obtain ⟨rfl, rfl⟩ : g = g' ∧ o = o' := by simpa using Option.some.inj e'
          have Hst := Lib.hid (stepM_at hx hy)
          clear hx hy e'
          have hbd := hbel.drew
          have hw : IntKind.i64.wrap (k : Int) = (k : Int) := IntWalk.i64_in _ (by omega)
          have i1 : (k : Int) < (n : Int) := by omega
          have i2 : (k : Int) + 1 < (n : Int) := by omega
          have i3 : (0 : Int) ≤ (k : Int) + 1 := by omega
          have i4 : ((k : Int) + 1).toNat = k + 1 := by omega
          go_wp2
          refine wp_region_mix [(0, false), (1, false), (2, false), (3, false), (4, false), (5, false), (6, false), (7, false), (8, false), (9, true), (10, false)] (fun u => S4 u g (o + k * 4) a0 a1 a2 a3 ∧ S4 u g (o + (k + 1) * 4) b0 b1 b2 b3) (by kernel_rfl) (by kernel_rfl) (fun _ _ _ _ _ h => h) ⟨ca.drew, cb.drew⟩ ?_
          simp only [mixOps, List.map_cons, List.map_nil, List.getElem?_cons_succ, List.getElem?_cons_zero, Option.getD_some]
          repeat (first
            | (refine mix_skip (by rfl) ?_
               (try simp only [Act.put, List.setIfInBounds_toArray, List.set_cons_zero, List.set_cons_succ]))
            | (refine mix_pure (v := ?_) (by rfl) (fun u hu => ?_) ?_
               rotate_left
               · obtain ⟨⟨_, _, _, _⟩, _, _, _, _⟩ := hu
                 go_simp
                 (with_reducible rfl)
               (try simp only [Act.put, List.setIfInBounds_toArray, List.set_cons_zero, List.set_cons_succ])))
          refine mix_call (by rfl) (fun K hK => ?_)
          go_simp
          refine (specIsAhead a0 a1 a2 a3 b0 b1 b2 b3 _).mono ?_
          rintro e w1 ⟨rfl, hb1⟩
          have hB1 := hbd.trans (hb1.mono hbd.size)
          refine hK _ _ _ (fun _ h => h) ⟨ca.drew.below hb1 (Nat.lt_of_lt_of_le hg hbd.size), cb.drew.below hb1 (Nat.lt_of_lt_of_le hg hbd.size)⟩ ?_
          (try simp only [Act.put, List.setIfInBounds_toArray, List.set_cons_zero, List.set_cons_succ])
          rw [← Hst.out]
          rcases hs : stepM l k
          · have Hf := Lib.hid (storeFault_form Hbig.out Hright.out (show k < l.length by rw [Hn.out]; omega) hs)
            clear hs
            refine mix_pure (v := ?_) (by rfl) (fun u hu => ?_) ?_
            rotate_left
            · go_simp
              (with_reducible rfl)
            (try simp only [Act.put, List.setIfInBounds_toArray, List.set_cons_zero, List.set_cons_succ])
            refine mix_nil ?_
            go_wp2
            go_ret
            exact ⟨by rw [Hf.out]; rfl, hB1⟩
          · have Hs := Lib.hid hs
            clear hs
            refine mix_pure (v := ?_) (by rfl) (fun u hu => ?_) ?_
            rotate_left
            · go_simp
              (with_reducible rfl)
            (try simp only [Act.put, List.setIfInBounds_toArray, List.set_cons_zero, List.set_cons_succ])
            refine mix_nil ?_
            go_wp2
            refine ⟨⟨k + 1, .inl (by omega), by go_num, fun j hj => ?_, hB1⟩, by simp [intOf]; omega⟩
            rcases Nat.lt_or_ge j k with h | h
            · exact Hal.out j h
            · obtain rfl : j = k := by omega
              exact Hs.out
        · have hq := storeFault_ok Hn.out Hbig.out Hright.out (fun j hj => Hal.out j (by omega))
          have Hq := Lib.hid hq
          clear hq
          have i5 : ¬ (k : Int) + 1 < (n : Int) := by omega
          go_wp2
          go_ret
          exact ⟨by rw [Hq.out]; rfl, hbel⟩
end Go.Proofs.YtkgbjlbhlhdhbaaDoor
/-
  A key looked for in a store, a store copied: the model's.
-/
namespace Go.Proofs.YtkgbjlbhlhdhbaaDoor
set_option maxRecDepth 20000
open Go.RowKit
set_option linter.unusedSimpArgs false

def hitM (l : List Smp) (x : Smp) (i : Nat) : Bool := match l[i]? with | some a => sameKeyM a x | none => false
theorem hitM_at {l : List Smp} {x a : Smp} {i : Nat} (h : l[i]? = some a) : hitM l x i = sameKeyM a x := by
  unfold hitM
  rw [h]
/-- Where the key stands. -/
def findM (l : List Smp) (x : Smp) : Option Nat := (List.range l.length).find? (hitM l x)
def findI (l : List Smp) (x : Smp) : Int := match findM l x with | some i => (i : Int) | none => -1
theorem findI_some {l : List Smp} {x : Smp} {k : Nat} (hk : k < l.length) (h : hitM l x k = true) (hal : ∀ j, j < k → hitM l x j = false) : findI l x = (k : Int) := by
  have : findM l x = some k := by
    unfold findM
    rw [List.find?_range_eq_some]
    exact ⟨h, by simpa using hk, fun j hj => by simp [hal j hj]⟩
  unfold findI
  rw [this]
theorem findI_none {l : List Smp} {x : Smp} {n : Nat} (hn : l.length = n) (hal : ∀ j, j < n → hitM l x j = false) : findI l x = -1 := by
  have : findM l x = none := by
    unfold findM
    rw [List.find?_range_eq_none]
    exact fun j hj => by simp [hal j (by omega)]
  unfold findI
  rw [this]

def FindRel (w : World) (l : List Smp) (x : Smp) (n : Nat) (i : Value) (wr : World) : Prop :=
  ∃ k : Nat, k ≤ n ∧ i = .int .i64 k ∧ (∀ j, j < k → hitM l x j = false) ∧ Below w.heap.size w wr

set_option maxHeartbeats 2000000 in
theorem l3Find (A : Option Addr) (n c : Nat) (l : List Smp) (gk pk : Nat) (k0 k1 k2 k3 : Int) (w : World) (ha : Rd eS w w.heap.size A l) (hn : l.length = n) (hm : n ≤ maxLen) (hk : S4 w gk pk k0 k1 k2 k3) (hgk : gk < w.heap.size) :
    Calls Tryd.prog 55 #[.slice A n c, .pointer (some ⟨gk, pk, none⟩)] w fun e w' => e = .returned (.int .i64 (findI l (k0, k1, k2, k3))) ∧ Below w.heap.size w w' := by
  have Hn := Lib.hid hn
  clear hn
  unfold maxLen at hm
  go_enter Tryd.func55, Tryd.ntmps55
  go_wp2
  go_loopw [5] (fun i wr => FindRel w l (k0, k1, k2, k3) n i wr) (fun i _ => n - (intOf i).toNat)
  case atStart => exact ⟨0, Nat.zero_le _, rfl, fun _ h => absurd h (by omega), Below.refl _ _⟩
  case round =>
    obtain ⟨k, hkn, rfl, hal, hbel⟩ := hrel
    have Hal := Lib.hid hal
    clear hal
    by_cases hlt : k < n
    · obtain ⟨g, o, a0, a1, a2, a3, rfl, hg, hx, ca⟩ := (ha.below hbel (Nat.le_refl _)).smp (k := k) (by rw [Hn.out]; exact hlt)
      have cb := hk.below hbel hgk
      have Hh := Lib.hid (hitM_at (x := (k0, k1, k2, k3)) hx)
      clear hx
      have hbd := hbel.drew
      go_wp2
      refine wp_region_mix [(0, false), (1, false), (2, false), (3, false), (4, false), (5, false), (6, false), (7, true)] (fun u => S4 u g (o + k * 4) a0 a1 a2 a3 ∧ S4 u gk pk k0 k1 k2 k3) (by kernel_rfl) (by kernel_rfl) (fun _ _ _ _ _ h => h) ⟨ca.drew, cb.drew⟩ ?_
      simp only [mixOps, List.map_cons, List.map_nil, List.getElem?_cons_succ, List.getElem?_cons_zero, Option.getD_some]
      repeat (first
        | (refine mix_skip (by rfl) ?_
           (try simp only [Act.put, List.setIfInBounds_toArray, List.set_cons_zero, List.set_cons_succ]))
        | (refine mix_pure (v := ?_) (by rfl) (fun u hu => ?_) ?_
           rotate_left
           · obtain ⟨⟨_, _, _, _⟩, _, _, _, _⟩ := hu
             go_simp
             (with_reducible rfl)
           (try simp only [Act.put, List.setIfInBounds_toArray, List.set_cons_zero, List.set_cons_succ])))
      refine mix_call (by rfl) (fun K hK => ?_)
      go_simp
      refine (specIsSameKey a0 a1 a2 a3 k0 k1 k2 k3 _).mono ?_
      rintro e w1 ⟨rfl, hb1⟩
      have hB1 := hbd.trans (hb1.mono hbd.size)
      refine hK _ _ _ (fun _ h => h) ⟨ca.drew.below hb1 (Nat.lt_of_lt_of_le hg hbd.size), cb.drew.below hb1 (Nat.lt_of_lt_of_le hgk hbd.size)⟩ ?_
      (try simp only [Act.put, List.setIfInBounds_toArray, List.set_cons_zero, List.set_cons_succ])
      rw [← Hh.out]
      refine mix_nil ?_
      rcases hs : hitM l (k0, k1, k2, k3) k
      · have Hs := Lib.hid hs
        clear hs
        go_wp2
        refine ⟨⟨k + 1, by omega, by go_num, fun j hj => ?_, hB1⟩, by simp [intOf]; omega⟩
        rcases Nat.lt_or_ge j k with h | h
        · exact Hal.out j h
        · obtain rfl : j = k := by omega
          exact Hs.out
      · have Hf := Lib.hid (findI_some (by rw [Hn.out]; exact hlt) hs Hal.out)
        clear hs
        go_wp2
        go_ret
        exact ⟨by rw [Hf.out]; rfl, hB1⟩
    · obtain rfl : n = k := by omega
      have Hf := Lib.hid (findI_none Hn.out Hal.out)
      go_wp2
      go_ret
      exact ⟨by rw [Hf.out]; rfl, hbel⟩

set_option maxHeartbeats 1000000 in
theorem l3Copy (A : Option Addr) (n c : Nat) (l : List Smp) (w : World) (ha : Rd eS w w.heap.size A l) (hn : l.length = n) (hm : n ≤ 1048576) :
    Calls Tryd.prog 53 #[.slice A n c] w fun e w' => ∃ A' c', e = .returned (.slice A' n c') ∧ Ow eS w' w.heap.size A' n c' l ∧ Below w.heap.size w w' := by
  have Hn := Lib.hid hn
  clear hn
  have B1 := (Below.refl w.heap.size w).alloc (Nat.le_refl _) (.cells #[] 26)
  have a1 := ha.lift B1
  have o1 : Ow eS (w.alloc (.cells #[] 26)) w.heap.size (some ⟨w.heap.size, 0, none⟩) 0 0 [] := Ow.lit w [] #[] 0 (Nat.le_refl _) (by unfold maxLen; omega) rfl rfl
  go_enter Tryd.func53, Tryd.ntmps53
  go_wp2_with (at_builtin; refine wpList_append_ow okS _ rfl (.tmp 3) (.tmp 4) _ rfl w.heap.size info_smp Tryd.underlying24 rfl (some ⟨w.heap.size, 0, none⟩) 0 0 [] rfl o1 A n c _ l rfl a1 Hn.out (by unfold maxLen; omega) (by omega) (by simp) ?_; intro A2 c2 w2 ow2 hg2 _)
  have B2 : Below w.heap.size w w2 := B1.grown hg2 (by simp) (fun g hg => by simp at hg; omega)
  rw [Nat.zero_add, List.nil_append] at ow2
  go_ret
  refine ⟨A2, c2, ?_, ow2, B2⟩
  simp
end Go.Proofs.YtkgbjlbhlhdhbaaDoor
/-
  A sample put at its place: the model's.
-/
namespace Go.Proofs.YtkgbjlbhlhdhbaaDoor
set_option maxRecDepth 20000
open Go.RowKit
set_option linter.unusedSimpArgs false

def frontOf (l : List Smp) (x : Smp) (i : Nat) : Bool := match l[i]? with | some a => aheadM x a | none => false
theorem frontOf_at {l : List Smp} {x a : Smp} {i : Nat} (h : l[i]? = some a) : frontOf l x i = aheadM x a := by
  unfold frontOf
  rw [h]
def spotM (l : List Smp) (x : Smp) : Option Nat := (List.range l.length).find? (frontOf l x)
/-- The store with the sample at its place. -/
def insM (l : List Smp) (x : Smp) : List Smp := match spotM l x with | some p => l.take p ++ x :: l.drop p | none => l ++ [x]
theorem insM_at {l : List Smp} {x : Smp} {p : Nat} (hp : p < l.length) (h : frontOf l x p = true) (hal : ∀ j, j < p → frontOf l x j = false) : insM l x = l.take p ++ x :: l.drop p := by
  have : spotM l x = some p := by
    unfold spotM
    rw [List.find?_range_eq_some]
    exact ⟨h, by simpa using hp, fun j hj => by simp [hal j hj]⟩
  unfold insM
  rw [this]
theorem insM_end {l : List Smp} {x : Smp} {n : Nat} (hn : l.length = n) (hal : ∀ j, j < n → frontOf l x j = false) : insM l x = l ++ [x] := by
  have : spotM l x = none := by
    unfold spotM
    rw [List.find?_range_eq_none]
    exact fun j hj => by simp [hal j (by omega)]
  unfold insM
  rw [this]
theorem insM_len (l : List Smp) (x : Smp) : (insM l x).length = l.length + 1 := by
  unfold insM
  rcases h : spotM l x with _ | p
  · simp
  · simp only [List.length_append, List.length_take, List.length_cons, List.length_drop]
    unfold spotM at h
    rw [List.find?_range_eq_some] at h
    have := h.2.1
    simp at this
    omega

/-- What k rounds have laid. -/
def PartI (l : List Smp) (x : Smp) (k : Nat) (d : Bool) (out : List Smp) : Prop :=
  (d = false ∧ (∀ j, j < k → frontOf l x j = false) ∧ out = l.take k) ∨ (d = true ∧ ∃ p, p < k ∧ frontOf l x p = true ∧ (∀ j, j < p → frontOf l x j = false) ∧ out = l.take p ++ x :: (l.take k).drop p)
theorem take_next {l : List Smp} {k : Nat} {a : Smp} (h : l[k]? = some a) : l.take (k + 1) = l.take k ++ [a] := by
  have hl := getElem?_some_lt h
  rw [List.take_succ_eq_append_getElem hl]
  rw [List.getElem?_eq_getElem hl] at h
  rw [Option.some.inj h]
theorem partI_done {l : List Smp} {x a : Smp} {k : Nat} {out : List Smp} (h : PartI l x k true out) (hk : l[k]? = some a) : PartI l x (k + 1) true (out ++ [a]) := by
  rcases h with ⟨h, _⟩ | ⟨_, p, hp, h1, h2, rfl⟩
  · cases h
  · refine .inr ⟨rfl, p, by omega, h1, h2, ?_⟩
    rw [take_next hk, List.drop_append_of_le_length (by rw [List.length_take]; have := getElem?_some_lt hk; omega)]
    simp
theorem partI_not {l : List Smp} {x a : Smp} {k : Nat} {out : List Smp} (h : PartI l x k false out) (hk : l[k]? = some a) (hf : frontOf l x k = false) : PartI l x (k + 1) false (out ++ [a]) := by
  rcases h with ⟨_, h1, rfl⟩ | ⟨h, _⟩
  · refine .inl ⟨rfl, fun j hj => ?_, (take_next hk).symm⟩
    rcases Nat.lt_or_ge j k with h | h
    · exact h1 j h
    · obtain rfl : j = k := by omega
      exact hf
  · cases h
theorem partI_now {l : List Smp} {x a : Smp} {k : Nat} {out : List Smp} (h : PartI l x k false out) (hk : l[k]? = some a) (hf : frontOf l x k = true) : PartI l x (k + 1) true (out ++ [x] ++ [a]) := by
  rcases h with ⟨_, h1, rfl⟩ | ⟨h, _⟩
  · refine .inr ⟨rfl, k, by omega, hf, h1, ?_⟩
    rw [take_next hk, List.drop_append_of_le_length (by rw [List.length_take]; have := getElem?_some_lt hk; omega), List.drop_of_length_le (by rw [List.length_take]; omega)]
    simp
  · cases h
theorem partI_end {l : List Smp} {x : Smp} {n : Nat} {out : List Smp} (hn : l.length = n) (h : PartI l x n true out) : out = insM l x := by
  rcases h with ⟨h, _⟩ | ⟨_, p, hp, h1, h2, rfl⟩
  · cases h
  · rw [insM_at (by omega) h1 h2, show l.take n = l from List.take_of_length_le (by omega)]
theorem partI_last {l : List Smp} {x : Smp} {n : Nat} {out : List Smp} (hn : l.length = n) (h : PartI l x n false out) : out ++ [x] = insM l x := by
  rcases h with ⟨_, h1, rfl⟩ | ⟨h, _⟩
  · rw [insM_end hn h1, List.take_of_length_le (by omega)]
  · cases h

def InsRel (w : World) (l : List Smp) (x0 x1 x2 x3 : Int) (n : Nat) (o d i : Value) (wr : World) : Prop :=
  ∃ (k : Nat) (b : Bool) (A : Option Addr) (L c : Nat) (out : List Smp), k ≤ n ∧ i = .int .i64 k ∧ d = .bool b ∧ o = .slice A L c ∧ PartI l (x0, x1, x2, x3) k b out ∧ L ≤ 2 * k ∧ Ow eS wr (w.heap.size + 1) A L c out ∧ At wr w.heap.size 26 #[.int .i64 x0, .int .i64 x1, .int .i64 x2, .int .i64 x3] ∧ Below w.heap.size w wr
theorem ow_smp (w : World) (a0 a1 a2 a3 : Int) : Ow eS (w.alloc (.cells #[.int .i64 a0, .int .i64 a1, .int .i64 a2, .int .i64 a3] 26)) w.heap.size (some ⟨w.heap.size, 0, none⟩) 1 1 [(a0, a1, a2, a3)] :=
  Ow.lit w [(a0, a1, a2, a3)] _ 1 (Nat.le_refl _) (by unfold maxLen; omega) rfl rfl

set_option maxHeartbeats 4000000 in
theorem l3Insert (A : Option Addr) (n c : Nat) (l : List Smp) (x0 x1 x2 x3 : Int) (w : World) (ha : Rd eS w w.heap.size A l) (hn : l.length = n) (hm : n ≤ 1048576) :
    Calls Tryd.prog 56 #[.slice A n c, .agg #[.int .i64 x0, .int .i64 x1, .int .i64 x2, .int .i64 x3]] w fun e w' => ∃ A' c', e = .returned (.slice A' (n + 1) c') ∧ Ow eS w' w.heap.size A' (n + 1) c' (insM l (x0, x1, x2, x3)) ∧ Below w.heap.size w w' := by
  have Hn := Lib.hid hn
  clear hn
  have B1 := (Below.refl w.heap.size w).alloc (Nat.le_refl _) (.cells #[.int .i64 x0, .int .i64 x1, .int .i64 x2, .int .i64 x3] 26)
  have b1 := (At.new w 26 #[.int .i64 x0, .int .i64 x1, .int .i64 x2, .int .i64 x3]).alloc (.cells #[] 26)
  have e1 : (w.alloc (.cells #[.int .i64 x0, .int .i64 x1, .int .i64 x2, .int .i64 x3] 26)).heap.size = w.heap.size + 1 := by simp
  have o1 : Ow eS ((w.alloc (.cells #[.int .i64 x0, .int .i64 x1, .int .i64 x2, .int .i64 x3] 26)).alloc (.cells #[] 26)) (w.alloc (.cells #[.int .i64 x0, .int .i64 x1, .int .i64 x2, .int .i64 x3] 26)).heap.size (some ⟨(w.alloc (.cells #[.int .i64 x0, .int .i64 x1, .int .i64 x2, .int .i64 x3] 26)).heap.size, 0, none⟩) 0 0 [] := Ow.lit _ [] #[] 0 (Nat.le_refl _) (by unfold maxLen; omega) rfl rfl
  have B2 := B1.alloc B1.size (.cells #[] 26)
  rw [e1] at o1
  go_enter Tryd.func56, Tryd.ntmps56
  go_wp2
  go_loopw [5, 6, 7] (fun o d i wr => InsRel w l x0 x1 x2 x3 n o d i wr) (fun _ _ i _ => n - (intOf i).toNat)
  case atStart => exact ⟨0, false, _, 0, 0, [], Nat.zero_le _, rfl, rfl, rfl, .inl ⟨rfl, fun _ h => absurd h (by omega), by simp⟩, by omega, o1, b1, B2⟩
  case round =>
    obtain ⟨k, b, A1, L1, c1, out, hk, rfl, rfl, rfl, hp, hL, ow1, bx, hbel⟩ := hrel
    have HP := Lib.hid hp
    clear hp
    have lbx := bx.lt
    obtain ⟨q0, q1, q2, q3, _, _, _, _⟩ := bx.four
    by_cases hlt : k < n
    · obtain ⟨g, o, a0, a1, a2, a3, rfl, hg, hx, ca⟩ := (ha.below hbel (Nat.le_refl _)).smp (k := k) (by rw [Hn.out]; exact hlt)
      have Hx := Lib.hid hx
      have Hf := Lib.hid (frontOf_at (x := (x0, x1, x2, x3)) hx)
      clear hx
      cases b
      · have hbd := hbel.drew
        have bs : S4 wr w.heap.size 0 x0 x1 x2 x3 := ⟨bx.cell 0, bx.cell 1, bx.cell 2, bx.cell 3⟩
        go_wp2
        refine wp_region_mix [(0, false), (1, false), (2, false), (3, false), (4, false), (5, false), (6, false), (7, false), (8, true), (9, false)] (fun u => S4 u w.heap.size 0 x0 x1 x2 x3 ∧ S4 u g (o + k * 4) a0 a1 a2 a3) (by kernel_rfl) (by kernel_rfl) (fun _ _ _ _ _ h => h) ⟨bs.drew, ca.drew⟩ ?_
        simp only [mixOps, List.map_cons, List.map_nil, List.getElem?_cons_succ, List.getElem?_cons_zero, Option.getD_some]
        repeat (first
          | (refine mix_skip (by rfl) ?_
             (try simp only [Act.put, List.setIfInBounds_toArray, List.set_cons_zero, List.set_cons_succ]))
          | (refine mix_pure (v := ?_) (by rfl) (fun u hu => ?_) ?_
             rotate_left
             · obtain ⟨⟨_, _, _, _⟩, _, _, _, _⟩ := hu
               go_simp
               (with_reducible rfl)
             (try simp only [Act.put, List.setIfInBounds_toArray, List.set_cons_zero, List.set_cons_succ])))
        refine mix_call (by rfl) (fun K hK => ?_)
        go_simp
        refine (specIsAhead x0 x1 x2 x3 a0 a1 a2 a3 _).mono ?_
        rintro e w2 ⟨rfl, hb2⟩
        have hB2 := hbd.trans (hb2.mono hbd.size)
        have bx2 := bx.drew.below hb2 lbx
        have ow2 := (ow1.drewN 1).below hb2 (Nat.le_refl _)
        have ca2 := ca.drew.below hb2 (Nat.lt_of_lt_of_le hg hbd.size)
        refine hK _ _ _ (fun _ h => h) ⟨bs.drew.below hb2 lbx, ca2⟩ ?_
        (try simp only [Act.put, List.setIfInBounds_toArray, List.set_cons_zero, List.set_cons_succ])
        rw [← Hf.out]
        clear q0 q1 q2 q3
        obtain ⟨q0, q1, q2, q3, _, _, _, _⟩ := bx2.four
        have hlo := ow1.len okS
        rcases hs : frontOf l (x0, x1, x2, x3) k
        · have Hs := Lib.hid hs
          clear hs
          refine mix_pure (v := ?_) (by rfl) (fun u hu => ?_) ?_
          rotate_left
          · go_simp
            (with_reducible rfl)
          (try simp only [Act.put, List.setIfInBounds_toArray, List.set_cons_zero, List.set_cons_succ])
          refine mix_nil ?_
          obtain ⟨_, _, _, _⟩ := ca2
          go_wp2_with (at_builtin; refine wpList_append_ow okS _ rfl (.tmp 29) (.tmp 34) _ rfl (w.heap.size + 1) info_smp Tryd.underlying24 rfl A1 L1 c1 out rfl (ow2.alloc _) _ 1 1 _ [(a0, a1, a2, a3)] rfl ((ow_smp _ a0 a1 a2 a3).rd okS) rfl (by unfold maxLen; omega) (by omega) (by have := hB2.size; simp; omega) ?_; intro A5 c5 w5 ow5 hg5 _; have hB5 := (hB2.alloc hB2.size _).grown hg5 (hB2.alloc hB2.size _).size (fun g hg => by have := (ow2.lt g hg).1; omega); have bx5 := (bx2.alloc _).grown hg5 (fun e => by have := (ow2.lt _ e).1; omega))
          exact ⟨⟨k + 1, false, A5, L1 + 1, c5, out ++ [(a0, a1, a2, a3)], by omega, by go_num, rfl, rfl, partI_not HP.out Hx.out Hs.out, by omega, ow5, bx5, hB5⟩, by simp [intOf]; omega⟩
        · have Hs := Lib.hid hs
          clear hs
          refine mix_pure (v := ?_) (by rfl) (fun u hu => ?_) ?_
          rotate_left
          · go_simp
            (with_reducible rfl)
          (try simp only [Act.put, List.setIfInBounds_toArray, List.set_cons_zero, List.set_cons_succ])
          refine mix_nil ?_
          go_wp2_with (first
            | (at_builtin; refine wpList_append_ow okS _ rfl (.tmp 25) (.tmp 27) _ rfl (w.heap.size + 1) info_smp Tryd.underlying24 rfl A1 L1 c1 out rfl (ow2.alloc _) _ 1 1 _ [(x0, x1, x2, x3)] rfl ((ow_smp _ x0 x1 x2 x3).rd okS) rfl (by unfold maxLen; omega) (by omega) (by have := hB2.size; simp; omega) ?_; intro A5 c5 w5 ow5 hg5 _; have hB5 := (hB2.alloc hB2.size _).grown hg5 (hB2.alloc hB2.size _).size (fun g hg => by have := (ow2.lt g hg).1; omega); have bx5 := (bx2.alloc _).grown hg5 (fun e => by have := (ow2.lt _ e).1; omega); obtain ⟨_, _, _, _⟩ := (ha.below hB5 (Nat.le_refl _)).smp_is Hx.out)
            | (at_builtin; refine wpList_append_ow okS _ rfl (.tmp 29) (.tmp 34) _ rfl (w.heap.size + 1) info_smp Tryd.underlying24 rfl A5 (L1 + 1) c5 (out ++ [(x0, x1, x2, x3)]) rfl (ow5.alloc _) _ 1 1 _ [(a0, a1, a2, a3)] rfl ((ow_smp _ a0 a1 a2 a3).rd okS) rfl (by unfold maxLen; omega) (by omega) (by have := hB5.size; simp; omega) ?_; intro A6 c6 w6 ow6 hg6 _; have hB6 := (hB5.alloc hB5.size _).grown hg6 (hB5.alloc hB5.size _).size (fun g hg => by have := (ow5.lt g hg).1; omega); have bx6 := (bx5.alloc _).grown hg6 (fun e => by have := (ow5.lt _ e).1; omega)))
          exact ⟨⟨k + 1, true, A6, L1 + 1 + 1, c6, out ++ [(x0, x1, x2, x3)] ++ [(a0, a1, a2, a3)], by omega, by go_num, rfl, rfl, partI_now HP.out Hx.out Hs.out, by omega, ow6, bx6, hB6⟩, by simp [intOf]; omega⟩
      · obtain ⟨_, _, _, _⟩ := ca
        have hlo := ow1.len okS
        go_wp2
        go_quiet (fail)
        go_wp2_with (at_builtin; refine wpList_append_ow okS _ rfl (.tmp 29) (.tmp 34) _ rfl (w.heap.size + 1) info_smp Tryd.underlying24 rfl A1 L1 c1 out rfl ((ow1.drewN _).alloc _) _ 1 1 _ [(a0, a1, a2, a3)] rfl ((ow_smp _ a0 a1 a2 a3).rd okS) rfl (by unfold maxLen; omega) (by omega) (by have := hbel.size; simp; omega) ?_; intro A5 c5 w5 ow5 hg5 _; have hB5 := ((bdrewN hbel _).alloc (bdrewN hbel _).size _).grown hg5 ((bdrewN hbel _).alloc (bdrewN hbel _).size _).size (fun g hg => by have := (ow1.lt g hg).1; omega); have bx5 := ((bx.drewN _).alloc _).grown hg5 (fun e => by have := (ow1.lt _ e).1; omega))
        exact ⟨⟨k + 1, true, A5, L1 + 1, c5, out ++ [(a0, a1, a2, a3)], by omega, by go_num, rfl, rfl, partI_done HP.out Hx.out, by omega, ow5, bx5, hB5⟩, by simp [intOf]; omega⟩
    · obtain rfl : n = k := by omega
      have hlo := ow1.len okS
      cases b
      · go_wp2_with (at_builtin; refine wpList_append_ow okS _ rfl (.tmp 38) (.tmp 40) _ rfl (w.heap.size + 1) info_smp Tryd.underlying24 rfl A1 L1 c1 out rfl (ow1.alloc _) _ 1 1 _ [(x0, x1, x2, x3)] rfl ((ow_smp _ x0 x1 x2 x3).rd okS) rfl (by unfold maxLen; omega) (by omega) (by have := hbel.size; simp; omega) ?_; intro A5 c5 w5 ow5 hg5 _; have hB5 := (hbel.alloc hbel.size _).grown hg5 (hbel.alloc hbel.size _).size (fun g hg => by have := (ow1.lt g hg).1; omega); have bx5 := (bx.alloc _).grown hg5 (fun e => by have := (ow1.lt _ e).1; omega))
        have hq := partI_last Hn.out HP.out
        rw [hq] at ow5
        have hL1 : L1 + 1 = n + 1 := by rw [← ow5.len okS, insM_len, Hn.out]
        go_ret
        rw [hL1] at ow5
        exact ⟨_, _, by simp; omega, ow5.from_ (by omega), hB5⟩
      · have hq := partI_end Hn.out HP.out
        have hL1 : L1 = n + 1 := by rw [← hlo, hq, insM_len, Hn.out]
        subst hL1
        subst hq
        go_wp2
        go_ret
        exact ⟨_, _, rfl, ow1.from_ (by omega), hbel⟩
end Go.Proofs.YtkgbjlbhlhdhbaaDoor
/-
  Rows of samples marked and held, as the law does it.
-/
namespace Go.Proofs.YtkgbjlbhlhdhbaaDoor
set_option maxRecDepth 20000
open Go.RowKit
set_option linter.unusedSimpArgs false

def markS (k i : Nat) : Smp := ((k : Int) + 4 * i, (k : Int) + 4 * i + 1, (k : Int) + 4 * i + 2, (k : Int) + 4 * i + 3)
/-- What a mark lays: four numbers a sample. -/
def marksS (k n : Nat) : List Smp := (List.range n).map (markS k)
theorem marksS_len (k n : Nat) : (marksS k n).length = n := by simp [marksS]
theorem marksS_at {k n i : Nat} (h : i < n) : (marksS k n)[i]? = some (markS k i) := by simp [marksS, h]

set_option maxHeartbeats 2000000 in
theorem markSampleS (A : Option Addr) (n c base : Nat) (l : List Smp) (k : Nat) (w : World) (ha : Ow eS w base A n c l) (hm : n ≤ 4294967296) (hk : k ≤ 4294967296) :
    Calls Tryd.prog 34 #[.slice A n c, .int .i64 k] w fun e w' => e = .returned (.int .i64 ((k : Int) + 4 * n)) ∧ Ow eS w' base A n c (marksS k n) ∧ w.grownBy w' (A.map (·.block)) := by
  have Hn := Lib.hid (ha.len okS)
  go_enter Tryd.func34, Tryd.ntmps34
  go_wp2
  go_loopw [1, 5] (fun vk i wr => MarkRel eS (markS k) 4 w base A n c l k vk i wr) (fun _ i _ => n - (intOf i).toNat)
  case atStart => exact markRel_start _ _ _ ha
  case round =>
    obtain ⟨j, hj, rfl, rfl, hown, hgr⟩ := hrel
    rw [show (k : Int) + ((4 : Nat) : Int) * (j : Int) = (k : Int) + 4 * (j : Int) by omega]
    by_cases hlt : j < n
    · obtain ⟨g, rfl, hg, _⟩ := hown.form (by omega)
      obtain ⟨⟨a0, a1, a2, a3⟩, hz⟩ := markRel_at (markS k) l n j hlt Hn.out
      obtain ⟨d0, d1, d2, d3⟩ := hown.smpAt hz
      have f0 := hown.frozenAt (j * 4)
      have f1 := hown.frozenAt (j * 4 + 1)
      have f2 := hown.frozenAt (j * 4 + 2)
      have f3 := hown.frozenAt (j * 4 + 3)
      have hs := hown.smpSet (k := j) (getElem?_some_lt hz) ((k : Int) + 4 * j) ((k : Int) + 4 * j + 1) ((k : Int) + 4 * j + 2) ((k : Int) + 4 * j + 3)
      have Hset := Lib.hid (laid_set (markS k) l n j hlt Hn.out)
      have Hgr := Lib.hid (grown_trans hgr hs.2)
      have Hst := Lib.hid hs.1
      clear hgr hs hz
      go_wp2
      exact ⟨⟨j + 1, by omega, by go_num, congrArg _ (by omega), by rw [← Hset.out]; exact Hst.out, Hgr.out⟩, by simp [intOf]; omega⟩
    · have hall := markRel_end hown (by omega) Hn.out
      obtain rfl : n = j := by omega
      clear hown
      go_wp2
      go_ret
      exact ⟨rfl, hall, hgr⟩
theorem markSampleS1 (A : Option Addr) (n c base : Nat) (l : List Smp) (w : World) (ha : Ow eS w base A n c l) (hm : n ≤ 4294967296) :
    Calls Tryd.prog 34 #[.slice A n c, .int .i64 1] w fun e w' => e = .returned (.int .i64 (1 + 4 * (n : Int))) ∧ Ow eS w' base A n c (marksS 1 n) ∧ w.grownBy w' (A.map (·.block)) :=
  markSampleS A n c base l 1 w ha hm (by omega)

theorem markSampleSK (A : Option Addr) (n c base : Nat) (l : List Smp) (k : Nat) (z : Int) (w : World) (hz : z = (k : Int)) (ha : Ow eS w base A n c l) (hm : n ≤ 4294967296) (hk : k ≤ 4294967296) :
    Calls Tryd.prog 34 #[.slice A n c, .int .i64 z] w fun e w' => e = .returned (.int .i64 (z + 4 * (n : Int))) ∧ Ow eS w' base A n c (marksS k n) ∧ w.grownBy w' (A.map (·.block)) := by
  subst hz
  exact markSampleS A n c base l k w ha hm hk

set_option maxHeartbeats 2000000 in
theorem heldSampleS (A : Option Addr) (n c : Nat) (k : Nat) (w : World) (ha : Rd eS w w.heap.size A (marksS k n)) (hm : n ≤ 4294967296) (hk : k ≤ 4294967296) :
    Calls Tryd.prog 69 #[.slice A n c, .int .i64 k] w fun e w' => e = .returned (.int .i64 ((k : Int) + 4 * n)) ∧ Below w.heap.size w w' := by
  go_enter Tryd.func69, Tryd.ntmps69
  go_wp2
  go_loopw [1, 5] (fun vk i wr => HeldRel w n 4 k vk i wr) (fun _ i _ => n - (intOf i).toNat)
  case atStart => exact heldRel_start _ _ _ _
  case round =>
    obtain ⟨j, hj, rfl, rfl, hbel⟩ := hrel
    rw [show (k : Int) + ((4 : Nat) : Int) * (j : Int) = (k : Int) + 4 * (j : Int) by omega]
    by_cases hlt : j < n
    · obtain ⟨g, o, a0, a1, a2, a3, rfl, hg, hx, c0, c1, c2, c3⟩ := (ha.below hbel (Nat.le_refl _)).smp (k := j) (by rw [marksS_len]; exact hlt)
      rw [marksS_at hlt] at hx
      simp only [markS, Option.some.injEq, Prod.mk.injEq] at hx
      obtain ⟨rfl, rfl, rfl, rfl⟩ := hx
      go_wp2
      exact ⟨⟨j + 1, by omega, by go_num, congrArg _ (by omega), hbel⟩, by simp [intOf]; omega⟩
    · obtain rfl : n = j := by omega
      go_wp2
      go_ret
      exact ⟨rfl, hbel⟩
theorem heldSampleS1 (A : Option Addr) (n c : Nat) (w : World) (ha : Rd eS w w.heap.size A (marksS 1 n)) (hm : n ≤ 4294967296) :
    Calls Tryd.prog 69 #[.slice A n c, .int .i64 1] w fun e w' => e = .returned (.int .i64 (1 + 4 * (n : Int))) ∧ Below w.heap.size w w' :=
  heldSampleS A n c 1 w ha hm (by omega)
end Go.Proofs.YtkgbjlbhlhdhbaaDoor
/-
  Answers that hold samples: compared, marked and held as the law does it.
-/
namespace Go.Proofs.YtkgbjlbhlhdhbaaDoor
set_option maxRecDepth 20000
open Go.RowKit
set_option linter.unusedSimpArgs false

/-- A code and samples of the call's own. -/
def RetSs (r : Int × List Smp) (w : World) (e : Ending) (w' : World) : Prop :=
  ∃ A n c, e = .returned (.agg #[.int .i64 r.1, .slice A n c]) ∧ Ow eS w' w.heap.size A n c r.2 ∧ Below w.heap.size w w'
/-- A code, whether it is new, and samples of the call's own. -/
def RetSt (r : Int × Bool × List Smp) (w : World) (e : Ending) (w' : World) : Prop :=
  ∃ A n c, e = .returned (.agg #[.int .i64 r.1, .bool r.2.1, .slice A n c]) ∧ Ow eS w' w.heap.size A n c r.2.2 ∧ Below w.heap.size w w'

set_option maxHeartbeats 400000 in
theorem eqSamplesResult (z : Int) (A B : Option Addr) (n m c d : Nat) (xs ys : List Smp) (w : World) (ha : Rd eS w w.heap.size A xs) (hb : Rd eS w w.heap.size B ys) (hx : xs.length = n) (hy : ys.length = m) (hm : n ≤ maxLen) :
    Calls Tryd.prog 38 #[.agg #[.int .i64 z, .slice A n c], .agg #[.int .i64 z, .slice B m d]] w fun e w' => e = .returned (.bool (decide (xs = ys))) ∧ Below w.heap.size w w' := by
  have hb0 : Below w.heap.size w ((w.alloc (.cells #[.int .i64 z, .slice A n c] 35)).alloc (.cells #[.int .i64 z, .slice B m d] 35)) := ((Below.refl _ _).alloc (Nat.le_refl _) _).alloc (by simp) _
  have ha2 := ha.lift hb0
  have hb2 := hb.lift hb0
  have hzz : (z != z) = false := by simp
  by_cases he : xs = ys
  all_goals
    first
      | (have hd : decide (xs = ys) = true := by simpa using he)
      | (have hd : decide (xs = ys) = false := by simpa using he)
    have Hd := Lib.hid hd
    clear he
    go_enter Tryd.func38, Tryd.ntmps38
    go_wp2_with (go_at_call 31; refine (eqSampleS A B n m c d xs ys _ ha2 hb2 hx hy hm).mono ?_; rintro e w1 ⟨rfl, hb1⟩)
    go_ret
    exact ⟨by rw [Hd.out]; simp, hb0.trans (hb1.mono hb0.size)⟩

set_option maxHeartbeats 400000 in
theorem markSamplesResult (z : Int) (A : Option Addr) (n c base : Nat) (l : List Smp) (k : Nat) (w : World) (ha : Ow eS w base A n c l) (hm : n ≤ 4294967296) (hk : k ≤ 4294967296) :
    Calls Tryd.prog 39 #[.agg #[.int .i64 z, .slice A n c], .int .i64 k] w fun e w' => e = .returned (.int .i64 ((k : Int) + 4 * n)) ∧ Ow eS w' base A n c (marksS k n) ∧ w.grownBy w' (A.map (·.block)) := by
  go_enter Tryd.func39, Tryd.ntmps39
  go_wp2_with (go_at_call 34; refine (markSampleS A n c base l k _ (ha.alloc _) hm hk).mono ?_; rintro e w1 ⟨rfl, hown, hg1⟩)
  go_ret
  exact ⟨rfl, hown, grown_trans (World.grownBy_alloc w _ _) hg1⟩

set_option maxHeartbeats 400000 in
theorem heldSamplesResult (z : Int) (A : Option Addr) (n c : Nat) (k : Nat) (w : World) (ha : Rd eS w w.heap.size A (marksS k n)) (hm : n ≤ 4294967296) (hk : k ≤ 4294967296) :
    Calls Tryd.prog 40 #[.agg #[.int .i64 z, .slice A n c], .int .i64 k] w fun e w' => e = .returned (.int .i64 ((k : Int) + 4 * n)) ∧ Below w.heap.size w w' := by
  have hb0 : Below w.heap.size w (w.alloc (.cells #[.int .i64 z, .slice A n c] 35)) := (Below.refl _ _).alloc (Nat.le_refl _) _
  have ha2 := ha.lift hb0
  have hp : (0 : Int) ≤ (k : Int) + 4 * n := by omega
  go_enter Tryd.func40, Tryd.ntmps40
  go_wp2_with (go_at_call 69; refine (heldSampleS A n c k _ ha2 hm hk).mono ?_; rintro e w1 ⟨rfl, hb1⟩)
  go_ret
  exact ⟨rfl, hb0.trans (hb1.mono hb0.size)⟩

theorem markSamplesResult1 (z : Int) (A : Option Addr) (n c base : Nat) (l : List Smp) (w : World) (ha : Ow eS w base A n c l) (hm : n ≤ 4294967296) :
    Calls Tryd.prog 39 #[.agg #[.int .i64 z, .slice A n c], .int .i64 1] w fun e w' => e = .returned (.int .i64 (1 + 4 * (n : Int))) ∧ Ow eS w' base A n c (marksS 1 n) ∧ w.grownBy w' (A.map (·.block)) :=
  markSamplesResult z A n c base l 1 w ha hm (by omega)
theorem heldSamplesResult1 (z : Int) (A : Option Addr) (n c : Nat) (w : World) (ha : Rd eS w w.heap.size A (marksS 1 n)) (hm : n ≤ 4294967296) :
    Calls Tryd.prog 40 #[.agg #[.int .i64 z, .slice A n c], .int .i64 1] w fun e w' => e = .returned (.int .i64 (1 + 4 * (n : Int))) ∧ Below w.heap.size w w' :=
  heldSamplesResult z A n c 1 w ha hm (by omega)

set_option maxHeartbeats 400000 in
theorem eqStoreResult (z : Int) (b : Bool) (A B : Option Addr) (n m c d : Nat) (xs ys : List Smp) (w : World) (ha : Rd eS w w.heap.size A xs) (hb : Rd eS w w.heap.size B ys) (hx : xs.length = n) (hy : ys.length = m) (hm : n ≤ maxLen) :
    Calls Tryd.prog 33 #[.agg #[.int .i64 z, .bool b, .slice A n c], .agg #[.int .i64 z, .bool b, .slice B m d]] w fun e w' => e = .returned (.bool (decide (xs = ys))) ∧ Below w.heap.size w w' := by
  have hb0 : Below w.heap.size w ((w.alloc (.cells #[.int .i64 z, .bool b, .slice A n c] 30)).alloc (.cells #[.int .i64 z, .bool b, .slice B m d] 30)) := ((Below.refl _ _).alloc (Nat.le_refl _) _).alloc (by simp) _
  have ha2 := ha.lift hb0
  have hb2 := hb.lift hb0
  have hzz : (z != z) = false := by simp
  have hbb : (b != b) = false := by simp
  by_cases he : xs = ys
  all_goals
    first
      | (have hd : decide (xs = ys) = true := by simpa using he)
      | (have hd : decide (xs = ys) = false := by simpa using he)
    have Hd := Lib.hid hd
    clear he
    go_enter Tryd.func33, Tryd.ntmps33
    go_wp2_with (go_at_call 31; refine (eqSampleS A B n m c d xs ys _ ha2 hb2 hx hy hm).mono ?_; rintro e w1 ⟨rfl, hb1⟩)
    go_ret
    exact ⟨by rw [Hd.out]; simp, hb0.trans (hb1.mono hb0.size)⟩

set_option maxHeartbeats 400000 in
theorem markStoreResult (z : Int) (b : Bool) (A : Option Addr) (n c base : Nat) (l : List Smp) (k : Nat) (w : World) (ha : Ow eS w base A n c l) (hm : n ≤ 4294967296) (hk : k ≤ 4294967296) :
    Calls Tryd.prog 35 #[.agg #[.int .i64 z, .bool b, .slice A n c], .int .i64 k] w fun e w' => e = .returned (.int .i64 ((k : Int) + 4 * n)) ∧ Ow eS w' base A n c (marksS k n) ∧ w.grownBy w' (A.map (·.block)) := by
  go_enter Tryd.func35, Tryd.ntmps35
  go_wp2_with (go_at_call 34; refine (markSampleS A n c base l k _ (ha.alloc _) hm hk).mono ?_; rintro e w1 ⟨rfl, hown, hg1⟩)
  go_ret
  exact ⟨rfl, hown, grown_trans (World.grownBy_alloc w _ _) hg1⟩

set_option maxHeartbeats 400000 in
theorem heldStoreResult (z : Int) (b : Bool) (A : Option Addr) (n c : Nat) (k : Nat) (w : World) (ha : Rd eS w w.heap.size A (marksS k n)) (hm : n ≤ 4294967296) (hk : k ≤ 4294967296) :
    Calls Tryd.prog 36 #[.agg #[.int .i64 z, .bool b, .slice A n c], .int .i64 k] w fun e w' => e = .returned (.int .i64 ((k : Int) + 4 * n)) ∧ Below w.heap.size w w' := by
  have hb0 : Below w.heap.size w (w.alloc (.cells #[.int .i64 z, .bool b, .slice A n c] 30)) := (Below.refl _ _).alloc (Nat.le_refl _) _
  have ha2 := ha.lift hb0
  have hp : (0 : Int) ≤ (k : Int) + 4 * n := by omega
  go_enter Tryd.func36, Tryd.ntmps36
  go_wp2_with (go_at_call 69; refine (heldSampleS A n c k _ ha2 hm hk).mono ?_; rintro e w1 ⟨rfl, hb1⟩)
  go_ret
  exact ⟨rfl, hb0.trans (hb1.mono hb0.size)⟩

theorem markStoreResult1 (z : Int) (b : Bool) (A : Option Addr) (n c base : Nat) (l : List Smp) (w : World) (ha : Ow eS w base A n c l) (hm : n ≤ 4294967296) :
    Calls Tryd.prog 35 #[.agg #[.int .i64 z, .bool b, .slice A n c], .int .i64 1] w fun e w' => e = .returned (.int .i64 (1 + 4 * (n : Int))) ∧ Ow eS w' base A n c (marksS 1 n) ∧ w.grownBy w' (A.map (·.block)) :=
  markStoreResult z b A n c base l 1 w ha hm (by omega)
theorem heldStoreResult1 (z : Int) (b : Bool) (A : Option Addr) (n c : Nat) (w : World) (ha : Rd eS w w.heap.size A (marksS 1 n)) (hm : n ≤ 4294967296) :
    Calls Tryd.prog 36 #[.agg #[.int .i64 z, .bool b, .slice A n c], .int .i64 1] w fun e w' => e = .returned (.int .i64 (1 + 4 * (n : Int))) ∧ Below w.heap.size w w' :=
  heldStoreResult z b A n c 1 w ha hm (by omega)

end Go.Proofs.YtkgbjlbhlhdhbaaDoor
