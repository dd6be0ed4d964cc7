/-
  Rows of place: how they lie in memory; the law's own copying and comparing of them.
-/
import Derived.Test.YtbfjfjocangjeaaSmps
import Derived.Test.YtbfjfjocangjeaaRgP
namespace Go.Proofs.Ytbfjfjocangjeaa
set_option maxRecDepth 20000
open Go.RowKit
set_option linter.unusedSimpArgs false

def plcCells (x : Plc) : List Value := [.int .i64 x.1, .int .i64 x.2]
def ePl : Enc Plc := ⟨116, 2, plcCells⟩
theorem okPl : EncOk ePl := ⟨fun _ => rfl, fun a u hu => by simp only [ePl, plcCells, List.mem_cons, List.not_mem_nil, or_false] at hu; rcases hu with rfl | rfl <;> rfl, by decide⟩
theorem info_plc : (Try.prog.info? 116).map (fun i => (i.zero, i.size, i.bytes)) = some (some (.agg #[.int .i64 0, .int .i64 0]), 2, 16) := by kernel_rfl

def S2Pl (u : World) (g p : Nat) (a0 a1 : Int) : Prop :=
  u.cell? ⟨g, p, none⟩ = some (.int .i64 a0) ∧ u.cell? ⟨g, p + 1, none⟩ = some (.int .i64 a1)
theorem S2Pl.below {B : Nat} {w w' : World} {g p : Nat} {a0 a1 : Int} (h : S2Pl w g p a0 a1) (hb : Below B w w') (hg : g < B) : S2Pl w' g p a0 a1 :=
  ⟨(hb.cell (p := ⟨g, p, none⟩) hg).trans h.1, (hb.cell (p := ⟨g, p + 1, none⟩) hg).trans h.2⟩
theorem S2Pl.drew {w : World} {g p : Nat} {a0 a1 : Int} (h : S2Pl w g p a0 a1) : S2Pl w.drew g p a0 a1 := h

section
variable {w w' : World} {base hi n c : Nat} {A : Option Addr} {l : List Plc}
theorem Rd.plc (h : Rd ePl w hi A l) {k : Nat} (hk : k < l.length) : ∃ g o a0 a1, A = some ⟨g, o, none⟩ ∧ g < hi ∧ l[k]? = some (a0, a1) ∧ S2Pl w g (o + k * 2) a0 a1 := by
  obtain ⟨g, o, ⟨a0, a1⟩, e, hg, ha, hc⟩ := h.at_ hk
  exact ⟨g, o, a0, a1, e, hg, ha, hc 0 _ rfl, hc 1 _ rfl⟩
theorem Rd.plc_is {g o k : Nat} {a0 a1 : Int} (h : Rd ePl w hi (some ⟨g, o, none⟩) l) (hk : l[k]? = some (a0, a1)) : S2Pl w g (o + k * 2) a0 a1 := by
  obtain ⟨g', o', e, _, hc⟩ := h (by intro e; subst e; simp at hk)
  obtain ⟨rfl, rfl⟩ : g = g' ∧ o = o' := by simpa using Option.some.inj e
  exact ⟨hc k 0 _ _ hk rfl, hc k 1 _ _ hk rfl⟩
theorem Ow.plcAt {g : Nat} (h : Ow ePl w base (some ⟨g, 0, none⟩) n c l) {k : Nat} {a0 a1 : Int} (hk : l[k]? = some (a0, a1)) : S2Pl w g (k * 2) a0 a1 :=
  ⟨h.cellAt okPl hk (j := 0) rfl, h.cellAt okPl hk (j := 1) rfl⟩
theorem Ow.plcPut {g : Nat} (h : Ow ePl w base (some ⟨g, 0, none⟩) n c l) {k j : Nat} {x y : Plc} {u : Value} (hk : l[k]? = some x) (hj : j < 2) (hc : plcCells y = (plcCells x).set j u) :
    Ow ePl (w.setCell ⟨g, k * 2 + j, none⟩ u) base (some ⟨g, 0, none⟩) n c (l.set k y) ∧ w.grownBy (w.setCell ⟨g, k * 2 + j, none⟩ u) (some g) :=
  h.stored okPl (k := k) (j := j) (a' := y) hk hj hc
theorem Ow.plcSet {g : Nat} (h : Ow ePl w base (some ⟨g, 0, none⟩) n c l) {k : Nat} (hk : k < l.length) (b0 b1 : Int) :
    Ow ePl ((w.setCell ⟨g, k * 2, none⟩ (.int .i64 b0)).setCell ⟨g, k * 2 + 1, none⟩ (.int .i64 b1)) base (some ⟨g, 0, none⟩) n c (l.set k (b0, b1)) ∧
    w.grownBy ((w.setCell ⟨g, k * 2, none⟩ (.int .i64 b0)).setCell ⟨g, k * 2 + 1, none⟩ (.int .i64 b1)) (some g) := by
  obtain ⟨⟨a0, a1⟩, ha⟩ : ∃ x, l[k]? = some x := ⟨l[k], List.getElem?_eq_getElem hk⟩
  have h0 := h.plcPut (j := 0) (y := (b0, a1)) ha (by omega) rfl
  have h1 := h0.1.plcPut (j := 1) (x := (b0, a1)) (y := (b0, b1)) (by rw [List.getElem?_set_self (by omega)]) (by omega) rfl
  rw [List.set_set] at h1
  exact ⟨h1.1, (grown_trans h0.2 h1.2)⟩
end

theorem eqPlace (a0 a1 b0 b1 : Int) (w : World) :
    Calls Try.prog 118 #[.agg #[.int .i64 a0, .int .i64 a1], .agg #[.int .i64 b0, .int .i64 b1]] w fun e w' =>
      e = .returned (.bool (decide ((a0, a1) = (b0, b1)))) ∧ Below w.heap.size w w' := by
  by_cases h0 : a0 = b0
  rotate_left
  · have hn : (a0 != b0) = true := by rw [bne_iff_ne]; exact h0
    have Hf := Lib.hid (show decide ((a0, a1) = (b0, b1)) = false by simp [h0])
    clear h0
    go_enter Try.func118, Try.ntmps118
    go_wp2
    go_ret
    exact ⟨by rw [Hf.out]; rfl, ((Below.refl _ _).alloc (Nat.le_refl _) _).alloc (by simp) _⟩
  subst h0
  by_cases h1 : a1 = b1
  rotate_left
  · have hn : (a1 != b1) = true := by rw [bne_iff_ne]; exact h1
    have Hf := Lib.hid (show decide ((a0, a1) = (a0, b1)) = false by simp [h1])
    clear h1
    go_enter Try.func118, Try.ntmps118
    go_wp2
    go_ret
    exact ⟨by rw [Hf.out]; rfl, ((Below.refl _ _).alloc (Nat.le_refl _) _).alloc (by simp) _⟩
  subst h1
  go_enter Try.func118, Try.ntmps118
  go_wp2
  go_ret
  exact ⟨by simp, ((Below.refl _ _).alloc (Nat.le_refl _) _).alloc (by simp) _⟩

def EqRelPl (xs ys : List Plc) (w : World) (n : Nat) (i : Value) (wr : World) : Prop :=
  ∃ k : Nat, k ≤ n ∧ i = .int .i64 k ∧ (∀ i, i < k → xs[i]? = ys[i]?) ∧ Below w.heap.size w wr

theorem eqPlaceS_no (A B : Option Addr) (n m c d : Nat) (w : World) (h : n ≠ m) :
    Calls Try.prog 96 #[.slice A n c, .slice B m d] w fun e w' => e = .returned (.bool false) ∧ Below w.heap.size w w' := by
  have hb : ((n : Int) != (m : Int)) = true := by simp; omega
  go_enter Try.func96, Try.ntmps96
  go_wp2
  go_ret
  exact ⟨rfl, Below.refl _ _⟩

set_option maxHeartbeats 1000000 in
theorem eqPlaceS_any (A B : Option Addr) (n c d : Nat) (xs ys : List Plc) (w : World) (ha : Rd ePl w w.heap.size A xs) (hb : Rd ePl w w.heap.size B ys) (hx : xs.length = n) (hy : ys.length = n) (hm : n ≤ maxLen) :
    Calls Try.prog 96 #[.slice A n c, .slice B n d] w fun e w' => e = .returned (.bool (decide (xs = ys))) ∧ Below w.heap.size w w' := by
  have h0 : ((n : Int) != (n : Int)) = false := by simp
  have Hx := Lib.hid hx
  have Hy := Lib.hid hy
  clear hx hy
  unfold maxLen at hm
  go_enter Try.func96, Try.ntmps96
  go_wp2
  go_loopw [5] (fun i wr => EqRelPl xs ys w n i wr) (fun i _ => n - (intOf i).toNat)
  case atStart => exact ⟨0, Nat.zero_le _, rfl, fun _ h => absurd h (by omega), Below.refl _ _⟩
  case round =>
    obtain ⟨k, hk, rfl, hal, hbel⟩ := hrel
    have Hal := Lib.hid hal
    clear hal
    by_cases hlt : k < n
    · obtain ⟨g, o, a0, a1, rfl, hg, hxk, ca⟩ := (ha.below hbel (Nat.le_refl _)).plc (k := k) (by rw [Hx.out]; exact hlt)
      obtain ⟨g', o', b0, b1, rfl, hg', hyk, cb⟩ := (hb.below hbel (Nat.le_refl _)).plc (k := k) (by rw [Hy.out]; exact hlt)
      have Hxk := Lib.hid hxk
      have Hyk := Lib.hid hyk
      clear hxk hyk
      have hbd := hbel.drew
      go_wp2
      refine wp_region_mix [(0, false), (1, false), (2, false), (3, false), (4, false), (5, false), (6, false), (7, false), (8, true), (9, false)] (fun u => S2Pl u g (o + k * 2) a0 a1 ∧ S2Pl u g' (o' + k * 2) b0 b1) (by kernel_rfl) (by kernel_rfl) (fun _ _ _ _ _ h => h) ⟨ca.drew, cb.drew⟩ ?_
      simp only [mixOps, List.map_cons, List.map_nil, List.getElem?_cons_succ, List.getElem?_cons_zero, Option.getD_some]
      repeat (first
        | (refine mix_skip (by rfl) ?_
           (try simp only [Act.put, List.setIfInBounds_toArray, List.set_cons_zero, List.set_cons_succ]))
        | (refine mix_pure (v := ?_) (by rfl) (fun u hu => ?_) ?_
           rotate_left
           · obtain ⟨⟨_, _⟩, _, _⟩ := hu
             go_simp
             (with_reducible rfl)
           (try simp only [Act.put, List.setIfInBounds_toArray, List.set_cons_zero, List.set_cons_succ])))
      refine mix_call (by rfl) (fun K hK => ?_)
      go_simp
      refine (eqPlace a0 a1 b0 b1 _).mono ?_
      rintro e w1 ⟨rfl, hb1⟩
      have hB1 := hbd.trans (hb1.mono hbd.size)
      have c1 := ca.drew.below hb1 (Nat.lt_of_lt_of_le hg hbd.size)
      have c2 := cb.drew.below hb1 (Nat.lt_of_lt_of_le hg' hbd.size)
      refine hK _ _ _ (fun _ h => h) ⟨c1, c2⟩ ?_
      (try simp only [Act.put, List.setIfInBounds_toArray, List.set_cons_zero, List.set_cons_succ])
      by_cases he : (a0, a1) = (b0, b1)
      · rw [show decide ((a0, a1) = (b0, b1)) = true by simpa using he]
        have He := Lib.hid he
        clear he
        refine mix_pure (v := ?_) (by rfl) (fun u hu => ?_) ?_
        rotate_left
        · go_simp
          (with_reducible rfl)
        (try simp only [Act.put, List.setIfInBounds_toArray, List.set_cons_zero, List.set_cons_succ])
        refine mix_nil ?_
        go_wp2
        refine ⟨⟨k + 1, by omega, by go_num, fun i hi => ?_, hB1⟩, by simp [intOf]; omega⟩
        rcases Nat.lt_or_ge i k with h | h
        · exact Hal.out i h
        · obtain rfl : i = k := by omega
          rw [Hxk.out, Hyk.out, He.out]
      · rw [show decide ((a0, a1) = (b0, b1)) = false by simpa using he]
        have hfin : decide (xs = ys) = false := by
          simp only [decide_eq_false_iff_not]
          rintro rfl
          exact he (Option.some.inj (Hxk.out.symm.trans Hyk.out))
        have Hf := Lib.hid hfin
        clear he hfin
        refine mix_pure (v := ?_) (by rfl) (fun u hu => ?_) ?_
        rotate_left
        · go_simp
          (with_reducible rfl)
        (try simp only [Act.put, List.setIfInBounds_toArray, List.set_cons_zero, List.set_cons_succ])
        refine mix_nil ?_
        go_wp2
        go_ret
        exact ⟨by rw [Hf.out]; rfl, hB1⟩
    · have hfin : decide (xs = ys) = true := by
        obtain rfl : k = n := by omega
        simp only [decide_eq_true_eq]
        exact alike_all' Hx.out Hy.out Hal.out
      have Hf := Lib.hid hfin
      clear hfin
      go_wp2
      go_ret
      exact ⟨by rw [Hf.out]; rfl, hbel⟩

/-- Two rows of samples compared, whatever their lengths. -/
theorem eqPlaceS (A B : Option Addr) (n m c d : Nat) (xs ys : List Plc) (w : World) (ha : Rd ePl w w.heap.size A xs) (hb : Rd ePl w w.heap.size B ys) (hx : xs.length = n) (hy : ys.length = m) (hm : n ≤ maxLen) :
    Calls Try.prog 96 #[.slice A n c, .slice B m d] w fun e w' => e = .returned (.bool (decide (xs = ys))) ∧ Below w.heap.size w w' := by
  by_cases h : n = m
  · subst h
    exact eqPlaceS_any A B n c d xs ys w ha hb hx hy hm
  · have hd : decide (xs = ys) = false := by
      simp only [decide_eq_false_iff_not]
      rintro rfl
      exact h (hx.symm.trans hy)
    rw [hd]
    exact eqPlaceS_no A B n m c d w h

end Go.Proofs.Ytbfjfjocangjeaa
