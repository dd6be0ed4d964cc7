/-
  Rows of samples: how they lie in memory; the law's own copying, comparing and marking of them.
-/
import Derived.Test.YtjlkmfijkhjjkaaDoorMix
import Derived.Test.YtjlkmfijkhjjkaaDoorKeys
import Derived.Test.YtjlkmfijkhjjkaaDoorTo
import Derived.Test.YtjlkmfijkhjjkaaDoorMark
namespace Go.Proofs.YtjlkmfijkhjjkaaDoor
set_option maxRecDepth 20000
open Go.RowKit
set_option linter.unusedSimpArgs false

def smpCells (x : Smp) : List Value := [.int .i64 x.1, .int .i64 x.2.1, .int .i64 x.2.2.1, .int .i64 x.2.2.2]
/-- Samples. -/
def eS : Enc Smp := ⟨26, 4, smpCells⟩
theorem okS : EncOk eS := ⟨fun _ => rfl, fun a u hu => by simp only [eS, smpCells, List.mem_cons, List.not_mem_nil, or_false] at hu; rcases hu with rfl | rfl | rfl | rfl <;> rfl, by decide⟩
/-- The law's own samples. -/
def eL : Enc Smp := ⟨55, 4, smpCells⟩
theorem okL : EncOk eL := ⟨fun _ => rfl, fun a u hu => by simp only [eL, smpCells, List.mem_cons, List.not_mem_nil, or_false] at hu; rcases hu with rfl | rfl | rfl | rfl <;> rfl, by decide⟩
theorem info_smp : (Tryd.prog.info? 26).map (fun i => (i.zero, i.size, i.bytes)) = some (some (.agg #[.int .i64 0, .int .i64 0, .int .i64 0, .int .i64 0]), 4, 32) := by kernel_rfl

/-- Four cells. -/
def S4 (u : World) (g p : Nat) (a0 a1 a2 a3 : Int) : Prop :=
  u.cell? ⟨g, p, none⟩ = some (.int .i64 a0) ∧ u.cell? ⟨g, p + 1, none⟩ = some (.int .i64 a1) ∧ u.cell? ⟨g, p + 2, none⟩ = some (.int .i64 a2) ∧ u.cell? ⟨g, p + 3, none⟩ = some (.int .i64 a3)
theorem S4.below {B : Nat} {w w' : World} {g p : Nat} {a0 a1 a2 a3 : Int} (h : S4 w g p a0 a1 a2 a3) (hb : Below B w w') (hg : g < B) : S4 w' g p a0 a1 a2 a3 :=
  ⟨(hb.cell (p := ⟨g, p, none⟩) hg).trans h.1, (hb.cell (p := ⟨g, p + 1, none⟩) hg).trans h.2.1, (hb.cell (p := ⟨g, p + 2, none⟩) hg).trans h.2.2.1, (hb.cell (p := ⟨g, p + 3, none⟩) hg).trans h.2.2.2⟩
theorem S4.drew {w : World} {g p : Nat} {a0 a1 a2 a3 : Int} (h : S4 w g p a0 a1 a2 a3) : S4 w.drew g p a0 a1 a2 a3 := h

section
variable {w w' : World} {base hi n c : Nat} {A : Option Addr} {l : List Smp}
theorem Rd.smp (h : Rd eS w hi A l) {k : Nat} (hk : k < l.length) : ∃ g o a0 a1 a2 a3, A = some ⟨g, o, none⟩ ∧ g < hi ∧ l[k]? = some (a0, a1, a2, a3) ∧ S4 w g (o + k * 4) a0 a1 a2 a3 := by
  obtain ⟨g, o, ⟨a0, a1, a2, a3⟩, e, hg, ha, hc⟩ := h.at_ hk
  exact ⟨g, o, a0, a1, a2, a3, e, hg, ha, hc 0 _ rfl, hc 1 _ rfl, hc 2 _ rfl, hc 3 _ rfl⟩
theorem Rd.smp_is {g o k : Nat} {a0 a1 a2 a3 : Int} (h : Rd eS w hi (some ⟨g, o, none⟩) l) (hk : l[k]? = some (a0, a1, a2, a3)) : S4 w g (o + k * 4) a0 a1 a2 a3 := by
  obtain ⟨g', o', e, _, hc⟩ := h (by intro e; subst e; simp at hk)
  obtain ⟨rfl, rfl⟩ : g = g' ∧ o = o' := by simpa using Option.some.inj e
  exact ⟨hc k 0 _ _ hk rfl, hc k 1 _ _ hk rfl, hc k 2 _ _ hk rfl, hc k 3 _ _ hk rfl⟩
theorem Rd.smpL (h : Rd eL w hi A l) {k : Nat} (hk : k < l.length) : ∃ g o a0 a1 a2 a3, A = some ⟨g, o, none⟩ ∧ g < hi ∧ l[k]? = some (a0, a1, a2, a3) ∧ S4 w g (o + k * 4) a0 a1 a2 a3 := h.smp hk
theorem Ow.smpAt {g : Nat} (h : Ow eS w base (some ⟨g, 0, none⟩) n c l) {k : Nat} {a0 a1 a2 a3 : Int} (hk : l[k]? = some (a0, a1, a2, a3)) : S4 w g (k * 4) a0 a1 a2 a3 :=
  ⟨h.cellAt okS hk (j := 0) rfl, h.cellAt okS hk (j := 1) rfl, h.cellAt okS hk (j := 2) rfl, h.cellAt okS hk (j := 3) rfl⟩
/-- One number of a sample. -/
theorem Ow.smpPut {g : Nat} (h : Ow eS w base (some ⟨g, 0, none⟩) n c l) {k j : Nat} {x y : Smp} {u : Value} (hk : l[k]? = some x) (hj : j < 4) (hc : smpCells y = (smpCells x).set j u) :
    Ow eS (w.setCell ⟨g, k * 4 + j, none⟩ u) base (some ⟨g, 0, none⟩) n c (l.set k y) ∧ w.grownBy (w.setCell ⟨g, k * 4 + j, none⟩ u) (some g) :=
  h.stored okS (k := k) (j := j) (a' := y) hk hj hc
/-- A whole sample. -/
theorem Ow.smpSet {g : Nat} (h : Ow eS w base (some ⟨g, 0, none⟩) n c l) {k : Nat} (hk : k < l.length) (b0 b1 b2 b3 : Int) :
    Ow eS ((((w.setCell ⟨g, k * 4, none⟩ (.int .i64 b0)).setCell ⟨g, k * 4 + 1, none⟩ (.int .i64 b1)).setCell ⟨g, k * 4 + 2, none⟩ (.int .i64 b2)).setCell ⟨g, k * 4 + 3, none⟩ (.int .i64 b3)) base (some ⟨g, 0, none⟩) n c (l.set k (b0, b1, b2, b3)) ∧
    w.grownBy ((((w.setCell ⟨g, k * 4, none⟩ (.int .i64 b0)).setCell ⟨g, k * 4 + 1, none⟩ (.int .i64 b1)).setCell ⟨g, k * 4 + 2, none⟩ (.int .i64 b2)).setCell ⟨g, k * 4 + 3, none⟩ (.int .i64 b3)) (some g) := by
  obtain ⟨⟨a0, a1, a2, a3⟩, ha⟩ : ∃ x, l[k]? = some x := ⟨l[k], List.getElem?_eq_getElem hk⟩
  have h0 := h.smpPut (j := 0) (y := (b0, a1, a2, a3)) ha (by omega) rfl
  have h1 := h0.1.smpPut (j := 1) (x := (b0, a1, a2, a3)) (y := (b0, b1, a2, a3)) (by rw [List.getElem?_set_self (by omega)]) (by omega) rfl
  rw [List.set_set] at h1
  have h2 := h1.1.smpPut (j := 2) (x := (b0, b1, a2, a3)) (y := (b0, b1, b2, a3)) (by rw [List.getElem?_set_self (by omega)]) (by omega) rfl
  rw [List.set_set] at h2
  have h3 := h2.1.smpPut (j := 3) (x := (b0, b1, b2, a3)) (y := (b0, b1, b2, b3)) (by rw [List.getElem?_set_self (by omega)]) (by omega) rfl
  rw [List.set_set] at h3
  exact ⟨h3.1, grown_trans (grown_trans (grown_trans h0.2 h1.2) h2.2) h3.2⟩
end

theorem eqSample (a0 a1 a2 a3 b0 b1 b2 b3 : Int) (w : World) :
    Calls Tryd.prog 73 #[.agg #[.int .i64 a0, .int .i64 a1, .int .i64 a2, .int .i64 a3], .agg #[.int .i64 b0, .int .i64 b1, .int .i64 b2, .int .i64 b3]] w fun e w' =>
      e = .returned (.bool (decide ((a0, a1, a2, a3) = (b0, b1, b2, b3)))) ∧ Below w.heap.size w w' := by
  by_cases h0 : a0 = b0
  rotate_left
  · have hn : (a0 != b0) = true := by rw [bne_iff_ne]; exact h0
    have Hf := Lib.hid (show decide ((a0, a1, a2, a3) = (b0, b1, b2, b3)) = false by simp [h0])
    clear h0
    go_enter Tryd.func73, Tryd.ntmps73
    go_wp2
    go_ret
    exact ⟨by rw [Hf.out]; rfl, ((Below.refl _ _).alloc (Nat.le_refl _) _).alloc (by simp) _⟩
  subst h0
  by_cases h1 : a1 = b1
  rotate_left
  · have hn : (a1 != b1) = true := by rw [bne_iff_ne]; exact h1
    have Hf := Lib.hid (show decide ((a0, a1, a2, a3) = (a0, b1, b2, b3)) = false by simp [h1])
    clear h1
    go_enter Tryd.func73, Tryd.ntmps73
    go_wp2
    go_ret
    exact ⟨by rw [Hf.out]; rfl, ((Below.refl _ _).alloc (Nat.le_refl _) _).alloc (by simp) _⟩
  subst h1
  by_cases h2 : a2 = b2
  rotate_left
  · have hn : (a2 != b2) = true := by rw [bne_iff_ne]; exact h2
    have Hf := Lib.hid (show decide ((a0, a1, a2, a3) = (a0, a1, b2, b3)) = false by simp [h2])
    clear h2
    go_enter Tryd.func73, Tryd.ntmps73
    go_wp2
    go_ret
    exact ⟨by rw [Hf.out]; rfl, ((Below.refl _ _).alloc (Nat.le_refl _) _).alloc (by simp) _⟩
  subst h2
  by_cases h3 : a3 = b3
  rotate_left
  · have hn : (a3 != b3) = true := by rw [bne_iff_ne]; exact h3
    have Hf := Lib.hid (show decide ((a0, a1, a2, a3) = (a0, a1, a2, b3)) = false by simp [h3])
    clear h3
    go_enter Tryd.func73, Tryd.ntmps73
    go_wp2
    go_ret
    exact ⟨by rw [Hf.out]; rfl, ((Below.refl _ _).alloc (Nat.le_refl _) _).alloc (by simp) _⟩
  subst h3
  go_enter Tryd.func73, Tryd.ntmps73
  go_wp2
  go_ret
  exact ⟨by simp, ((Below.refl _ _).alloc (Nat.le_refl _) _).alloc (by simp) _⟩

theorem alike_all' {α : Type} {xs ys : List α} {n : Nat} (hx : xs.length = n) (hy : ys.length = n) (h : ∀ i, i < n → xs[i]? = ys[i]?) : xs = ys := by
  apply List.ext_getElem?
  intro i
  rcases Nat.lt_or_ge i n with h1 | h1
  · exact h i h1
  · rw [List.getElem?_eq_none (by omega), List.getElem?_eq_none (by omega)]
def EqRelS (xs ys : List Smp) (w : World) (n : Nat) (i : Value) (wr : World) : Prop :=
  ∃ k : Nat, k ≤ n ∧ i = .int .i64 k ∧ (∀ i, i < k → xs[i]? = ys[i]?) ∧ Below w.heap.size w wr

end Go.Proofs.YtjlkmfijkhjjkaaDoor
