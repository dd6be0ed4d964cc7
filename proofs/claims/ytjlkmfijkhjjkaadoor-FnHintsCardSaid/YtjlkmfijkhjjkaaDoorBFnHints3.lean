/-
  Texts of one proof, joined: each has its own namespace.
-/
import Derived.Test.YtjlkmfijkhjjkaaDoorBFnHints2
import Derived.Test.YtjlkmfijkhjjkaaDoorBFnHints0
import Derived.Test.YtjlkmfijkhjjkaaDoorBFnHints1
/-
  Rows of hints: how they lie in memory; the law's own copying and comparing of them.
-/
namespace Go.Proofs.YtjlkmfijkhjjkaaDoor
set_option maxRecDepth 20000
open Go.RowKit
set_option linter.unusedSimpArgs false

/-- A hint: its node, its sample, how often it was sent, when it is due. -/
abbrev Hnt := Int × Smp × Int × Int
def hntCells (x : Hnt) : List Value := [.int .i64 x.1, .int .i64 x.2.1.1, .int .i64 x.2.1.2.1, .int .i64 x.2.1.2.2.1, .int .i64 x.2.1.2.2.2, .int .i64 x.2.2.1, .int .i64 x.2.2.2]
theorem hnt_one (a : Hnt) (u : Value) (hu : u ∈ hntCells a) : u.oneCell' = true := by
  simp only [hntCells, List.mem_cons, List.not_mem_nil, or_false] at hu
  rcases hu with rfl | rfl | rfl | rfl | rfl | rfl | rfl <;> rfl
/-- Hints. -/
def eH : Enc Hnt := ⟨50, 7, hntCells⟩
theorem okH : EncOk eH := ⟨fun _ => rfl, hnt_one, by decide⟩
/-- The law's own hints. -/
def eM : Enc Hnt := ⟨97, 7, hntCells⟩
theorem okM : EncOk eM := ⟨fun _ => rfl, hnt_one, by decide⟩
abbrev zeroH : Hnt := (0, (0, 0, 0, 0), 0, 0)
theorem info_hnt : (Tryd.prog.info? 50).map (fun i => (i.zero, i.size, i.bytes)) = some (some (.agg #[.int .i64 0, .int .i64 0, .int .i64 0, .int .i64 0, .int .i64 0, .int .i64 0, .int .i64 0]), 7, 56) := by kernel_rfl

/-- Seven cells. -/
def S7 (u : World) (g p : Nat) (a0 a1 a2 a3 a4 a5 a6 : Int) : Prop :=
  u.cell? ⟨g, p, none⟩ = some (.int .i64 a0) ∧ u.cell? ⟨g, p + 1, none⟩ = some (.int .i64 a1) ∧ u.cell? ⟨g, p + 2, none⟩ = some (.int .i64 a2) ∧ u.cell? ⟨g, p + 3, none⟩ = some (.int .i64 a3) ∧ u.cell? ⟨g, p + 4, none⟩ = some (.int .i64 a4) ∧ u.cell? ⟨g, p + 5, none⟩ = some (.int .i64 a5) ∧ u.cell? ⟨g, p + 6, none⟩ = some (.int .i64 a6)
theorem S7.below {B : Nat} {w w' : World} {g p : Nat} {a0 a1 a2 a3 a4 a5 a6 : Int} (h : S7 w g p a0 a1 a2 a3 a4 a5 a6) (hb : Below B w w') (hg : g < B) : S7 w' g p a0 a1 a2 a3 a4 a5 a6 :=
  ⟨(hb.cell (p := ⟨g, p, none⟩) hg).trans h.1, (hb.cell (p := ⟨g, p + 1, none⟩) hg).trans h.2.1, (hb.cell (p := ⟨g, p + 2, none⟩) hg).trans h.2.2.1, (hb.cell (p := ⟨g, p + 3, none⟩) hg).trans h.2.2.2.1, (hb.cell (p := ⟨g, p + 4, none⟩) hg).trans h.2.2.2.2.1, (hb.cell (p := ⟨g, p + 5, none⟩) hg).trans h.2.2.2.2.2.1, (hb.cell (p := ⟨g, p + 6, none⟩) hg).trans h.2.2.2.2.2.2⟩
theorem S7.drew {w : World} {g p : Nat} {a0 a1 a2 a3 a4 a5 a6 : Int} (h : S7 w g p a0 a1 a2 a3 a4 a5 a6) : S7 w.drew g p a0 a1 a2 a3 a4 a5 a6 := h
theorem S7.grown {w w' : World} {row : Option Nat} {g p : Nat} {a0 a1 a2 a3 a4 a5 a6 : Int} (h : S7 w g p a0 a1 a2 a3 a4 a5 a6) (hg : w.grownBy w' row) (hne : some g ≠ row) : S7 w' g p a0 a1 a2 a3 a4 a5 a6 :=
  ⟨hg.cell h.1 hne, hg.cell h.2.1 hne, hg.cell h.2.2.1 hne, hg.cell h.2.2.2.1 hne, hg.cell h.2.2.2.2.1 hne, hg.cell h.2.2.2.2.2.1 hne, hg.cell h.2.2.2.2.2.2 hne⟩
theorem At.seven {w : World} {g : Nat} {t : TypeId} {a b c d e f h : Value} (k : At w g t #[a, b, c, d, e, f, h]) : w.cell? ⟨g, 0, none⟩ = some a ∧ w.cell? ⟨g, 1, none⟩ = some b ∧ w.cell? ⟨g, 2, none⟩ = some c ∧ w.cell? ⟨g, 3, none⟩ = some d ∧ w.cell? ⟨g, 4, none⟩ = some e ∧ w.cell? ⟨g, 5, none⟩ = some f ∧ w.cell? ⟨g, 6, none⟩ = some h :=
  ⟨k.cell 0, k.cell 1, k.cell 2, k.cell 3, k.cell 4, k.cell 5, k.cell 6⟩
theorem At.sevenF {w : World} {g : Nat} {t : TypeId} {a b c d e f h : Value} (k : At w g t #[a, b, c, d, e, f, h]) : w.frozen? ⟨g, 0, none⟩ = false ∧ w.frozen? ⟨g, 1, none⟩ = false ∧ w.frozen? ⟨g, 2, none⟩ = false ∧ w.frozen? ⟨g, 3, none⟩ = false ∧ w.frozen? ⟨g, 4, none⟩ = false ∧ w.frozen? ⟨g, 5, none⟩ = false ∧ w.frozen? ⟨g, 6, none⟩ = false :=
  ⟨k.frozen 0, k.frozen 1, k.frozen 2, k.frozen 3, k.frozen 4, k.frozen 5, k.frozen 6⟩

section
variable {w w' : World} {base hi n c : Nat} {A : Option Addr} {l : List Hnt}
theorem Rd.hnt (h : Rd eH w hi A l) {k : Nat} (hk : k < l.length) : ∃ g o a0 a1 a2 a3 a4 a5 a6, A = some ⟨g, o, none⟩ ∧ g < hi ∧ l[k]? = some (a0, (a1, a2, a3, a4), a5, a6) ∧ S7 w g (o + k * 7) a0 a1 a2 a3 a4 a5 a6 := by
  obtain ⟨g, o, ⟨a0, ⟨a1, a2, a3, a4⟩, a5, a6⟩, e, hg, ha, hc⟩ := h.at_ hk
  exact ⟨g, o, a0, a1, a2, a3, a4, a5, a6, e, hg, ha, hc 0 _ rfl, hc 1 _ rfl, hc 2 _ rfl, hc 3 _ rfl, hc 4 _ rfl, hc 5 _ rfl, hc 6 _ rfl⟩
theorem Rd.hnt_is {g o k : Nat} {a0 a1 a2 a3 a4 a5 a6 : Int} (h : Rd eH w hi (some ⟨g, o, none⟩) l) (hk : l[k]? = some (a0, (a1, a2, a3, a4), a5, a6)) : S7 w g (o + k * 7) a0 a1 a2 a3 a4 a5 a6 := by
  obtain ⟨g', o', e, _, hc⟩ := h (by intro e; subst e; simp at hk)
  obtain ⟨rfl, rfl⟩ : g = g' ∧ o = o' := by simpa using Option.some.inj e
  exact ⟨hc k 0 _ _ hk rfl, hc k 1 _ _ hk rfl, hc k 2 _ _ hk rfl, hc k 3 _ _ hk rfl, hc k 4 _ _ hk rfl, hc k 5 _ _ hk rfl, hc k 6 _ _ hk rfl⟩
theorem Rd.hntL (h : Rd eM w hi A l) {k : Nat} (hk : k < l.length) : ∃ g o a0 a1 a2 a3 a4 a5 a6, A = some ⟨g, o, none⟩ ∧ g < hi ∧ l[k]? = some (a0, (a1, a2, a3, a4), a5, a6) ∧ S7 w g (o + k * 7) a0 a1 a2 a3 a4 a5 a6 := h.hnt hk
theorem Ow.hntAt {g : Nat} (h : Ow eH w base (some ⟨g, 0, none⟩) n c l) {k : Nat} {a0 a1 a2 a3 a4 a5 a6 : Int} (hk : l[k]? = some (a0, (a1, a2, a3, a4), a5, a6)) : S7 w g (k * 7) a0 a1 a2 a3 a4 a5 a6 :=
  ⟨h.cellAt okH hk (j := 0) rfl, h.cellAt okH hk (j := 1) rfl, h.cellAt okH hk (j := 2) rfl, h.cellAt okH hk (j := 3) rfl, h.cellAt okH hk (j := 4) rfl, h.cellAt okH hk (j := 5) rfl, h.cellAt okH hk (j := 6) rfl⟩
/-- One number of a hint. -/
theorem Ow.hntPut {g : Nat} (h : Ow eH w base (some ⟨g, 0, none⟩) n c l) {k j : Nat} {x y : Hnt} {u : Value} (hk : l[k]? = some x) (hj : j < 7) (hc : hntCells y = (hntCells x).set j u) :
    Ow eH (w.setCell ⟨g, k * 7 + j, none⟩ u) base (some ⟨g, 0, none⟩) n c (l.set k y) ∧ w.grownBy (w.setCell ⟨g, k * 7 + j, none⟩ u) (some g) :=
  h.stored okH (k := k) (j := j) (a' := y) hk hj hc
/-- A whole hint. -/
theorem Ow.hntSet {g : Nat} (h : Ow eH w base (some ⟨g, 0, none⟩) n c l) {k : Nat} (hk : k < l.length) (b0 b1 b2 b3 b4 b5 b6 : Int) :
    Ow eH (((((((w.setCell ⟨g, k * 7, none⟩ (.int .i64 b0)).setCell ⟨g, k * 7 + 1, none⟩ (.int .i64 b1)).setCell ⟨g, k * 7 + 2, none⟩ (.int .i64 b2)).setCell ⟨g, k * 7 + 3, none⟩ (.int .i64 b3)).setCell ⟨g, k * 7 + 4, none⟩ (.int .i64 b4)).setCell ⟨g, k * 7 + 5, none⟩ (.int .i64 b5)).setCell ⟨g, k * 7 + 6, none⟩ (.int .i64 b6)) base (some ⟨g, 0, none⟩) n c (l.set k (b0, (b1, b2, b3, b4), b5, b6)) ∧
    w.grownBy (((((((w.setCell ⟨g, k * 7, none⟩ (.int .i64 b0)).setCell ⟨g, k * 7 + 1, none⟩ (.int .i64 b1)).setCell ⟨g, k * 7 + 2, none⟩ (.int .i64 b2)).setCell ⟨g, k * 7 + 3, none⟩ (.int .i64 b3)).setCell ⟨g, k * 7 + 4, none⟩ (.int .i64 b4)).setCell ⟨g, k * 7 + 5, none⟩ (.int .i64 b5)).setCell ⟨g, k * 7 + 6, none⟩ (.int .i64 b6)) (some g) := by
  obtain ⟨⟨a0, ⟨a1, a2, a3, a4⟩, a5, a6⟩, ha⟩ : ∃ x, l[k]? = some x := ⟨l[k], List.getElem?_eq_getElem hk⟩
  have h0 := h.hntPut (j := 0) (y := (b0, (a1, a2, a3, a4), a5, a6)) ha (by omega) rfl
  have h1 := h0.1.hntPut (j := 1) (x := (b0, (a1, a2, a3, a4), a5, a6)) (y := (b0, (b1, a2, a3, a4), a5, a6)) (by rw [List.getElem?_set_self (by omega)]) (by omega) rfl
  rw [List.set_set] at h1
  have h2 := h1.1.hntPut (j := 2) (x := (b0, (b1, a2, a3, a4), a5, a6)) (y := (b0, (b1, b2, a3, a4), a5, a6)) (by rw [List.getElem?_set_self (by omega)]) (by omega) rfl
  rw [List.set_set] at h2
  have h3 := h2.1.hntPut (j := 3) (x := (b0, (b1, b2, a3, a4), a5, a6)) (y := (b0, (b1, b2, b3, a4), a5, a6)) (by rw [List.getElem?_set_self (by omega)]) (by omega) rfl
  rw [List.set_set] at h3
  have h4 := h3.1.hntPut (j := 4) (x := (b0, (b1, b2, b3, a4), a5, a6)) (y := (b0, (b1, b2, b3, b4), a5, a6)) (by rw [List.getElem?_set_self (by omega)]) (by omega) rfl
  rw [List.set_set] at h4
  have h5 := h4.1.hntPut (j := 5) (x := (b0, (b1, b2, b3, b4), a5, a6)) (y := (b0, (b1, b2, b3, b4), b5, a6)) (by rw [List.getElem?_set_self (by omega)]) (by omega) rfl
  rw [List.set_set] at h5
  have h6 := h5.1.hntPut (j := 6) (x := (b0, (b1, b2, b3, b4), b5, a6)) (y := (b0, (b1, b2, b3, b4), b5, b6)) (by rw [List.getElem?_set_self (by omega)]) (by omega) rfl
  rw [List.set_set] at h6
  exact ⟨h6.1, grown_trans (grown_trans (grown_trans (grown_trans (grown_trans (grown_trans h0.2 h1.2) h2.2) h3.2) h4.2) h5.2) h6.2⟩
end

theorem eqHint (a0 a1 a2 a3 a4 a5 a6 b0 b1 b2 b3 b4 b5 b6 : Int) (w : World) :
    Calls Tryd.prog 64 #[.agg #[.int .i64 a0, .int .i64 a1, .int .i64 a2, .int .i64 a3, .int .i64 a4, .int .i64 a5, .int .i64 a6], .agg #[.int .i64 b0, .int .i64 b1, .int .i64 b2, .int .i64 b3, .int .i64 b4, .int .i64 b5, .int .i64 b6]] w fun e w' =>
      e = .returned (.bool (decide ((a0, (a1, a2, a3, a4), a5, a6) = (b0, (b1, b2, b3, b4), b5, b6)))) ∧ Below w.heap.size w w' := by
  have hb0 : Below w.heap.size w ((w.alloc (.cells #[.int .i64 a0, .int .i64 a1, .int .i64 a2, .int .i64 a3, .int .i64 a4, .int .i64 a5, .int .i64 a6] 50)).alloc (.cells #[.int .i64 b0, .int .i64 b1, .int .i64 b2, .int .i64 b3, .int .i64 b4, .int .i64 b5, .int .i64 b6] 50)) := ((Below.refl _ _).alloc (Nat.le_refl _) _).alloc (by simp) _
  have x1 : At ((w.alloc (.cells #[.int .i64 a0, .int .i64 a1, .int .i64 a2, .int .i64 a3, .int .i64 a4, .int .i64 a5, .int .i64 a6] 50)).alloc (.cells #[.int .i64 b0, .int .i64 b1, .int .i64 b2, .int .i64 b3, .int .i64 b4, .int .i64 b5, .int .i64 b6] 50)) w.heap.size 50 #[.int .i64 a0, .int .i64 a1, .int .i64 a2, .int .i64 a3, .int .i64 a4, .int .i64 a5, .int .i64 a6] := (At.new w 50 #[.int .i64 a0, .int .i64 a1, .int .i64 a2, .int .i64 a3, .int .i64 a4, .int .i64 a5, .int .i64 a6]).alloc _
  have x2 : At ((w.alloc (.cells #[.int .i64 a0, .int .i64 a1, .int .i64 a2, .int .i64 a3, .int .i64 a4, .int .i64 a5, .int .i64 a6] 50)).alloc (.cells #[.int .i64 b0, .int .i64 b1, .int .i64 b2, .int .i64 b3, .int .i64 b4, .int .i64 b5, .int .i64 b6] 50)) (w.heap.size + 1) 50 #[.int .i64 b0, .int .i64 b1, .int .i64 b2, .int .i64 b3, .int .i64 b4, .int .i64 b5, .int .i64 b6] := by
    have := At.new (w.alloc (.cells #[.int .i64 a0, .int .i64 a1, .int .i64 a2, .int .i64 a3, .int .i64 a4, .int .i64 a5, .int .i64 a6] 50)) 50 #[.int .i64 b0, .int .i64 b1, .int .i64 b2, .int .i64 b3, .int .i64 b4, .int .i64 b5, .int .i64 b6]
    simpa using this
  by_cases h0 : a0 = b0
  rotate_left
  · have hn : (a0 != b0) = true := by rw [bne_iff_ne]; exact h0
    have Hf := Lib.hid (show decide ((a0, (a1, a2, a3, a4), a5, a6) = (b0, (b1, b2, b3, b4), b5, b6)) = false by simp [h0])
    clear h0 x1 x2
    go_enter Tryd.func64, Tryd.ntmps64
    go_wp2
    go_ret
    exact ⟨by rw [Hf.out]; rfl, hb0⟩
  subst h0
  have hn0 : (a0 != a0) = false := by simp
  by_cases h1 : (a1, a2, a3, a4) = (b1, b2, b3, b4)
  rotate_left
  · have Hd := Lib.hid (show decide ((a1, a2, a3, a4) = (b1, b2, b3, b4)) = false by simpa using h1)
    have Hf := Lib.hid (show decide ((a0, (a1, a2, a3, a4), a5, a6) = (a0, (b1, b2, b3, b4), b5, b6)) = false by
      simp only [decide_eq_false_iff_not]
      intro e
      exact h1 (Prod.mk.inj (Prod.mk.inj e).2).1)
    clear h1
    go_enter Tryd.func64, Tryd.ntmps64
    go_wp2_with fail
    refine (eqSample a1 a2 a3 a4 b1 b2 b3 b4 _).mono ?_
    rintro e w1 ⟨rfl, hb1⟩
    rw [Hd.out]
    go_wp2
    go_ret
    exact ⟨by rw [Hf.out]; rfl, hb0.trans (hb1.mono hb0.size)⟩
  obtain ⟨rfl, rfl, rfl, rfl⟩ : a1 = b1 ∧ a2 = b2 ∧ a3 = b3 ∧ a4 = b4 := by simpa using h1
  clear h1
  by_cases h5 : a5 = b5
  rotate_left
  · have hn : (a5 != b5) = true := by rw [bne_iff_ne]; exact h5
    have Hf := Lib.hid (show decide ((a0, (a1, a2, a3, a4), a5, a6) = (a0, (a1, a2, a3, a4), b5, b6)) = false by simp [h5])
    clear h5
    go_enter Tryd.func64, Tryd.ntmps64
    go_wp2_with fail
    refine (eqSample a1 a2 a3 a4 a1 a2 a3 a4 _).mono ?_
    rintro e w1 ⟨he, hb1⟩
    obtain rfl : e = .returned (.bool true) := by rw [he]; simp
    clear he
    obtain ⟨p0, p1, p2, p3, p4, p5, p6⟩ := (x1.below hb1 x1.lt).seven
    obtain ⟨q0, q1, q2, q3, q4, q5, q6⟩ := (x2.below hb1 x2.lt).seven
    go_wp2
    go_ret
    exact ⟨by rw [Hf.out]; rfl, hb0.trans (hb1.mono hb0.size)⟩
  subst h5
  have hn5 : (a5 != a5) = false := by simp
  by_cases h6 : a6 = b6
  rotate_left
  · have hn : (a6 != b6) = true := by rw [bne_iff_ne]; exact h6
    have Hf := Lib.hid (show decide ((a0, (a1, a2, a3, a4), a5, a6) = (a0, (a1, a2, a3, a4), a5, b6)) = false by simp [h6])
    clear h6
    go_enter Tryd.func64, Tryd.ntmps64
    go_wp2_with fail
    refine (eqSample a1 a2 a3 a4 a1 a2 a3 a4 _).mono ?_
    rintro e w1 ⟨he, hb1⟩
    obtain rfl : e = .returned (.bool true) := by rw [he]; simp
    clear he
    obtain ⟨p0, p1, p2, p3, p4, p5, p6⟩ := (x1.below hb1 x1.lt).seven
    obtain ⟨q0, q1, q2, q3, q4, q5, q6⟩ := (x2.below hb1 x2.lt).seven
    go_wp2
    go_ret
    exact ⟨by rw [Hf.out]; rfl, hb0.trans (hb1.mono hb0.size)⟩
  subst h6
  have hn6 : (a6 != a6) = false := by simp
  go_enter Tryd.func64, Tryd.ntmps64
  go_wp2_with fail
  refine (eqSample a1 a2 a3 a4 a1 a2 a3 a4 _).mono ?_
  rintro e w1 ⟨he, hb1⟩
  obtain rfl : e = .returned (.bool true) := by rw [he]; simp
  clear he
  obtain ⟨p0, p1, p2, p3, p4, p5, p6⟩ := (x1.below hb1 x1.lt).seven
  obtain ⟨q0, q1, q2, q3, q4, q5, q6⟩ := (x2.below hb1 x2.lt).seven
  go_wp2
  go_ret
  exact ⟨by simp, hb0.trans (hb1.mono hb0.size)⟩

theorem szHintS (A : Option Addr) (n c : Nat) (left : Int) (w : World) (h0 : 0 ≤ left) (hl : left ≤ 1048576) (hn : n ≤ maxLen) :
    Calls Tryd.prog 30 #[.slice A n c, .int .i64 left] w fun e w' => e = .returned (.int .i64 (if left < (n : Int) then -1 else left - n)) ∧ w' = w := by
  unfold maxLen at hn
  have hw : IntKind.i64.wrap (left - (n : Int)) = left - (n : Int) := IntWalk.i64_in _ (by omega)
  by_cases h : left < (n : Int)
  · rw [if_pos h]
    go_enter Tryd.func30, Tryd.ntmps30
    go_wp2
    go_ret
    exact ⟨rfl, rfl⟩
  · rw [if_neg h]
    go_enter Tryd.func30, Tryd.ntmps30
    go_wp2
    go_ret
    exact ⟨rfl, rfl⟩

def EqRelH (xs ys : List Hnt) (w : World) (n : Nat) (i : Value) (wr : World) : Prop :=
  ∃ k : Nat, k ≤ n ∧ i = .int .i64 k ∧ (∀ i, i < k → xs[i]? = ys[i]?) ∧ Below w.heap.size w wr

theorem eqHintS_no (A B : Option Addr) (n m c d : Nat) (w : World) (h : n ≠ m) :
    Calls Tryd.prog 32 #[.slice A n c, .slice B m d] w fun e w' => e = .returned (.bool false) ∧ Below w.heap.size w w' := by
  have hb : ((n : Int) != (m : Int)) = true := by simp; omega
  go_enter Tryd.func32, Tryd.ntmps32
  go_wp2
  go_ret
  exact ⟨rfl, Below.refl _ _⟩

set_option maxHeartbeats 1000000 in
theorem eqHintS_any (A B : Option Addr) (n c d : Nat) (xs ys : List Hnt) (w : World) (ha : Rd eH w w.heap.size A xs) (hb : Rd eH w w.heap.size B ys) (hx : xs.length = n) (hy : ys.length = n) (hm : n ≤ maxLen) :
    Calls Tryd.prog 32 #[.slice A n c, .slice B n d] w fun e w' => e = .returned (.bool (decide (xs = ys))) ∧ Below w.heap.size w w' := by
  have h0 : ((n : Int) != (n : Int)) = false := by simp
  have Hx := Lib.hid hx
  have Hy := Lib.hid hy
  clear hx hy
  unfold maxLen at hm
  go_enter Tryd.func32, Tryd.ntmps32
  go_wp2
  go_loopw [5] (fun i wr => EqRelH xs ys w n i wr) (fun i _ => n - (intOf i).toNat)
  case atStart => exact ⟨0, Nat.zero_le _, rfl, fun _ h => absurd h (by omega), Below.refl _ _⟩
  case round =>
    obtain ⟨k, hk, rfl, hal, hbel⟩ := hrel
    have Hal := Lib.hid hal
    clear hal
    by_cases hlt : k < n
    · obtain ⟨g, o, a0, a1, a2, a3, a4, a5, a6, rfl, hg, hxk, ca⟩ := (ha.below hbel (Nat.le_refl _)).hnt (k := k) (by rw [Hx.out]; exact hlt)
      obtain ⟨g', o', b0, b1, b2, b3, b4, b5, b6, rfl, hg', hyk, cb⟩ := (hb.below hbel (Nat.le_refl _)).hnt (k := k) (by rw [Hy.out]; exact hlt)
      have Hxk := Lib.hid hxk
      have Hyk := Lib.hid hyk
      clear hxk hyk
      have hbd := hbel.drew
      go_wp2
      refine wp_region_mix [(0, false), (1, false), (2, false), (3, false), (4, false), (5, false), (6, false), (7, false), (8, true), (9, false)] (fun u => S7 u g (o + k * 7) a0 a1 a2 a3 a4 a5 a6 ∧ S7 u g' (o' + k * 7) b0 b1 b2 b3 b4 b5 b6) (by kernel_rfl) (by kernel_rfl) (fun _ _ _ _ _ h => h) ⟨ca.drew, cb.drew⟩ ?_
      simp only [mixOps, List.map_cons, List.map_nil, List.getElem?_cons_succ, List.getElem?_cons_zero, Option.getD_some]
      repeat (first
        | (refine mix_skip (by rfl) ?_
           (try simp only [Act.put, List.setIfInBounds_toArray, List.set_cons_zero, List.set_cons_succ]))
        | (refine mix_pure (v := ?_) (by rfl) (fun u hu => ?_) ?_
           rotate_left
           · obtain ⟨⟨_, _, _, _, _, _, _⟩, _, _, _, _, _, _, _⟩ := hu
             go_simp
             (with_reducible rfl)
           (try simp only [Act.put, List.setIfInBounds_toArray, List.set_cons_zero, List.set_cons_succ])))
      refine mix_call (by rfl) (fun K hK => ?_)
      go_simp
      refine (eqHint a0 a1 a2 a3 a4 a5 a6 b0 b1 b2 b3 b4 b5 b6 _).mono ?_
      rintro e w1 ⟨rfl, hb1⟩
      have hB1 := hbd.trans (hb1.mono hbd.size)
      have c1 := ca.drew.below hb1 (Nat.lt_of_lt_of_le hg hbd.size)
      have c2 := cb.drew.below hb1 (Nat.lt_of_lt_of_le hg' hbd.size)
      refine hK _ _ _ (fun _ h => h) ⟨c1, c2⟩ ?_
      (try simp only [Act.put, List.setIfInBounds_toArray, List.set_cons_zero, List.set_cons_succ])
      by_cases he : (a0, (a1, a2, a3, a4), a5, a6) = (b0, (b1, b2, b3, b4), b5, b6)
      · rw [show decide ((a0, (a1, a2, a3, a4), a5, a6) = (b0, (b1, b2, b3, b4), b5, b6)) = true by simpa using he]
        have He := Lib.hid he
        clear he
        refine mix_pure (v := ?_) (by rfl) (fun u hu => ?_) ?_
        rotate_left
        · go_simp
          (with_reducible rfl)
        (try simp only [Act.put, List.setIfInBounds_toArray, List.set_cons_zero, List.set_cons_succ])
        refine mix_nil ?_
        go_wp2
        refine ⟨⟨k + 1, by omega, by go_num, fun i hi => ?_, hB1⟩, by simp [intOf]; omega⟩
        rcases Nat.lt_or_ge i k with h | h
        · exact Hal.out i h
        · obtain rfl : i = k := by omega
          rw [Hxk.out, Hyk.out, He.out]
      · rw [show decide ((a0, (a1, a2, a3, a4), a5, a6) = (b0, (b1, b2, b3, b4), b5, b6)) = false from decide_eq_false he]
        have hfin : decide (xs = ys) = false := by
          simp only [decide_eq_false_iff_not]
          rintro rfl
          exact he (Option.some.inj (Hxk.out.symm.trans Hyk.out))
        have Hf := Lib.hid hfin
        clear he hfin
        refine mix_pure (v := ?_) (by rfl) (fun u hu => ?_) ?_
        rotate_left
        · go_simp
          (with_reducible rfl)
        (try simp only [Act.put, List.setIfInBounds_toArray, List.set_cons_zero, List.set_cons_succ])
        refine mix_nil ?_
        go_wp2
        go_ret
        exact ⟨by rw [Hf.out]; rfl, hB1⟩
    · have hfin : decide (xs = ys) = true := by
        obtain rfl : k = n := by omega
        simp only [decide_eq_true_eq]
        exact alike_all' Hx.out Hy.out Hal.out
      have Hf := Lib.hid hfin
      clear hfin
      go_wp2
      go_ret
      exact ⟨by rw [Hf.out]; rfl, hbel⟩

/-- Two rows of hints compared, whatever their lengths. -/
theorem eqHintS (A B : Option Addr) (n m c d : Nat) (xs ys : List Hnt) (w : World) (ha : Rd eH w w.heap.size A xs) (hb : Rd eH w w.heap.size B ys) (hx : xs.length = n) (hy : ys.length = m) (hm : n ≤ maxLen) :
    Calls Tryd.prog 32 #[.slice A n c, .slice B m d] w fun e w' => e = .returned (.bool (decide (xs = ys))) ∧ Below w.heap.size w w' := by
  by_cases h : n = m
  · subst h
    exact eqHintS_any A B n c d xs ys w ha hb hx hy hm
  · have hd : decide (xs = ys) = false := by
      simp only [decide_eq_false_iff_not]
      rintro rfl
      exact h (hx.symm.trans hy)
    rw [hd]
    exact eqHintS_no A B n m c d w h

set_option maxHeartbeats 1000000 in
theorem toHint (a0 a1 a2 a3 a4 a5 a6 : Int) (w : World) :
    Calls Tryd.prog 63 #[.agg #[.int .i64 a0, .int .i64 a1, .int .i64 a2, .int .i64 a3, .int .i64 a4, .int .i64 a5, .int .i64 a6]] w fun e w' => e = .returned (.agg #[.int .i64 a0, .int .i64 a1, .int .i64 a2, .int .i64 a3, .int .i64 a4, .int .i64 a5, .int .i64 a6]) ∧ Below w.heap.size w w' := by
  have hb4 : Below w.heap.size w (((w.alloc (.cells #[.int .i64 a0, .int .i64 a1, .int .i64 a2, .int .i64 a3, .int .i64 a4, .int .i64 a5, .int .i64 a6] 97)).alloc (.cells #[.int .i64 0, .int .i64 0, .int .i64 0, .int .i64 0, .int .i64 0, .int .i64 0, .int .i64 0] 50)).alloc (.cells #[.int .i64 a0, .int .i64 0, .int .i64 0, .int .i64 0, .int .i64 0, .int .i64 0, .int .i64 0] 50)) := (((Below.refl _ _).alloc (Nat.le_refl _) _).alloc (by simp) _).alloc (by simp; omega) _
  have x4 : At (((w.alloc (.cells #[.int .i64 a0, .int .i64 a1, .int .i64 a2, .int .i64 a3, .int .i64 a4, .int .i64 a5, .int .i64 a6] 97)).alloc (.cells #[.int .i64 0, .int .i64 0, .int .i64 0, .int .i64 0, .int .i64 0, .int .i64 0, .int .i64 0] 50)).alloc (.cells #[.int .i64 a0, .int .i64 0, .int .i64 0, .int .i64 0, .int .i64 0, .int .i64 0, .int .i64 0] 50)) w.heap.size 97 #[.int .i64 a0, .int .i64 a1, .int .i64 a2, .int .i64 a3, .int .i64 a4, .int .i64 a5, .int .i64 a6] := ((At.new w 97 #[.int .i64 a0, .int .i64 a1, .int .i64 a2, .int .i64 a3, .int .i64 a4, .int .i64 a5, .int .i64 a6]).alloc _).alloc _
  have r4 : At (((w.alloc (.cells #[.int .i64 a0, .int .i64 a1, .int .i64 a2, .int .i64 a3, .int .i64 a4, .int .i64 a5, .int .i64 a6] 97)).alloc (.cells #[.int .i64 0, .int .i64 0, .int .i64 0, .int .i64 0, .int .i64 0, .int .i64 0, .int .i64 0] 50)).alloc (.cells #[.int .i64 a0, .int .i64 0, .int .i64 0, .int .i64 0, .int .i64 0, .int .i64 0, .int .i64 0] 50)) (w.heap.size + 1) 50 #[.int .i64 0, .int .i64 0, .int .i64 0, .int .i64 0, .int .i64 0, .int .i64 0, .int .i64 0] := by
    have := (At.new (w.alloc (.cells #[.int .i64 a0, .int .i64 a1, .int .i64 a2, .int .i64 a3, .int .i64 a4, .int .i64 a5, .int .i64 a6] 97)) 50 #[.int .i64 0, .int .i64 0, .int .i64 0, .int .i64 0, .int .i64 0, .int .i64 0, .int .i64 0]).alloc (.cells #[.int .i64 a0, .int .i64 0, .int .i64 0, .int .i64 0, .int .i64 0, .int .i64 0, .int .i64 0] 50)
    simpa using this
  have o4 : At (((w.alloc (.cells #[.int .i64 a0, .int .i64 a1, .int .i64 a2, .int .i64 a3, .int .i64 a4, .int .i64 a5, .int .i64 a6] 97)).alloc (.cells #[.int .i64 0, .int .i64 0, .int .i64 0, .int .i64 0, .int .i64 0, .int .i64 0, .int .i64 0] 50)).alloc (.cells #[.int .i64 a0, .int .i64 0, .int .i64 0, .int .i64 0, .int .i64 0, .int .i64 0, .int .i64 0] 50)) (w.heap.size + 2) 50 #[.int .i64 a0, .int .i64 0, .int .i64 0, .int .i64 0, .int .i64 0, .int .i64 0, .int .i64 0] := by
    have := At.new ((w.alloc (.cells #[.int .i64 a0, .int .i64 a1, .int .i64 a2, .int .i64 a3, .int .i64 a4, .int .i64 a5, .int .i64 a6] 97)).alloc (.cells #[.int .i64 0, .int .i64 0, .int .i64 0, .int .i64 0, .int .i64 0, .int .i64 0, .int .i64 0] 50)) 50 #[.int .i64 a0, .int .i64 0, .int .i64 0, .int .i64 0, .int .i64 0, .int .i64 0, .int .i64 0]
    simpa using this
  go_enter Tryd.func63, Tryd.ntmps63
  go_wp2_with fail
  refine (toSample a1 a2 a3 a4 _).mono ?_
  rintro e w1 ⟨rfl, hb1⟩
  obtain ⟨p0, p1, p2, p3, p4, p5, p6⟩ := (x4.below hb1 x4.lt).seven
  have r5 := r4.below hb1 r4.lt
  have o5 := o4.below hb1 o4.lt
  obtain ⟨q0, q1, q2, q3, q4, q5, q6⟩ := r5.seven
  obtain ⟨qf0, qf1, qf2, qf3, qf4, qf5, qf6⟩ := r5.sevenF
  obtain ⟨s0, s1, s2, s3, s4, s5, s6⟩ := o5.seven
  obtain ⟨sf0, sf1, sf2, sf3, sf4, sf5, sf6⟩ := o5.sevenF
  have hb5 := hb4.trans (hb1.mono hb4.size)
  clear x4 r4 o4 r5 o5 hb4
  go_wp2
  refine bodyPost_ret (v := .agg #[.int .i64 a0, .int .i64 a1, .int .i64 a2, .int .i64 a3, .int .i64 a4, .int .i64 a5, .int .i64 a6]) (by simp [results, Tryd.results63, go_sem, q0, q1, q2, q3, q4, q5, q6]) rfl ?_
  refine ⟨rfl, ?_⟩
  repeat (refine Below.setCell ?_ (by simp <;> omega) _)
  exact hb5

set_option maxHeartbeats 1000000 in
theorem toHintS (A : Option Addr) (n c : Nat) (xs : List Hnt) (w : World) (ha : Rd eM w w.heap.size A xs) (hx : xs.length = n) (hm : n ≤ 1048576) :
    Calls Tryd.prog 31 #[.slice A n c] w fun e w' => ∃ A' c', e = .returned (.slice A' n c') ∧ Ow eH w' w.heap.size A' n c' xs ∧ Below w.heap.size w w' := by
  have Hx := Lib.hid hx
  clear hx
  go_enter Tryd.func31, Tryd.ntmps31
  go_wp2_with (refine wpList_make_ow okH _ rfl _ _ _ rfl w.heap.size info_hnt Tryd.underlying24 zeroH rfl .i64 .i64 n n n rfl rfl rfl rfl (by omega) (by unfold maxLen; omega) (Nat.le_refl _) ?_; intro w1 hown hg1)
  have hs1 : w.heap.size < w1.heap.size := (hown.lt w.heap.size rfl).2
  go_loopw [4] (fun i wr => ToRel eH zeroH w w.heap.size xs n i wr) (fun i _ => n - (intOf i).toNat)
  case atStart => exact toRel_start zeroH xs hown hg1
  case round =>
    obtain ⟨k, hk, rfl, hown, hbel⟩ := hrel
    by_cases hlt : k < n
    · obtain ⟨g, o, a0, a1, a2, a3, a4, a5, a6, rfl, hg, hx, c0, c1, c2, c3, c4, c5, c6⟩ := (ha.below hbel (Nat.le_refl _)).hntL (k := k) (by rw [Hx.out]; exact hlt)
      have Hset := Lib.hid (set_next zeroH xs n k (a0, (a1, a2, a3, a4), a5, a6) hlt Hx.out hx)
      have Hpa := Lib.hid (part_at zeroH xs n k hlt Hx.out)
      clear hx
      go_wp2_with fail
      refine (toHint a0 a1 a2 a3 a4 a5 a6 _).mono ?_
      rintro e w2 ⟨rfl, hb2⟩
      have how2 := hown.below hb2 (Nat.le_refl _)
      have hB2 := hbel.trans (hb2.mono hbel.size)
      obtain ⟨d0, d1, d2, d3, d4, d5, d6⟩ := how2.hntAt Hpa.out
      have f0 := how2.frozenAt (k * 7)
      have f1 := how2.frozenAt (k * 7 + 1)
      have f2 := how2.frozenAt (k * 7 + 2)
      have f3 := how2.frozenAt (k * 7 + 3)
      have f4 := how2.frozenAt (k * 7 + 4)
      have f5 := how2.frozenAt (k * 7 + 5)
      have f6 := how2.frozenAt (k * 7 + 6)
      have Hst := Lib.hid (how2.hntSet (k := k) (getElem?_some_lt Hpa.out) a0 a1 a2 a3 a4 a5 a6).1
      have HB := (((((((hB2.setCell (p := ⟨w.heap.size, k * 7, none⟩) (Nat.le_refl _) (.int .i64 a0)).setCell (p := ⟨w.heap.size, k * 7 + 1, none⟩) (Nat.le_refl _) (.int .i64 a1)).setCell (p := ⟨w.heap.size, k * 7 + 2, none⟩) (Nat.le_refl _) (.int .i64 a2)).setCell (p := ⟨w.heap.size, k * 7 + 3, none⟩) (Nat.le_refl _) (.int .i64 a3)).setCell (p := ⟨w.heap.size, k * 7 + 4, none⟩) (Nat.le_refl _) (.int .i64 a4)).setCell (p := ⟨w.heap.size, k * 7 + 5, none⟩) (Nat.le_refl _) (.int .i64 a5)).setCell (p := ⟨w.heap.size, k * 7 + 6, none⟩) (Nat.le_refl _) (.int .i64 a6))
      go_wp2
      exact ⟨⟨k + 1, by omega, by go_num, by rw [← Hset.out]; exact Hst.out, HB⟩, by simp [intOf]; omega⟩
    · have hall := toRel_end hown (by omega) Hx.out
      clear hown
      go_wp2
      go_ret
      exact ⟨_, _, rfl, hall, hbel⟩
end Go.Proofs.YtjlkmfijkhjjkaaDoor
/-
  How long one waits: two to the power of the tries: the model's and the program's.
-/
namespace Go.Proofs.YtjlkmfijkhjjkaaDoor
set_option maxRecDepth 20000
open Go.RowKit
set_option linter.unusedSimpArgs false

def pw (j : Nat) : Int := (2 : Int) ^ j
theorem pw_next (j : Nat) : pw (j + 1) = pw j * 2 := by unfold pw; rw [Int.pow_succ]
theorem pw_le {j : Nat} (h : j ≤ 4) : 1 ≤ pw j ∧ pw j ≤ 16 := by
  rcases (show j = 0 ∨ j = 1 ∨ j = 2 ∨ j = 3 ∨ j = 4 by omega) with rfl | rfl | rfl | rfl | rfl <;> decide
def backM (t : Int) : Int × Int := if inB (t, 0, 4) then (0, pw t.toNat) else (3, 0)
theorem backM_no {t : Int} (h : inB (t, 0, 4) = false) : backM t = (3, 0) := by unfold backM; rw [h]; rfl
theorem backM_yes {t : Int} (h : inB (t, 0, 4) = true) : backM t = (0, pw t.toNat) := by unfold backM; rw [h]; rfl

set_option maxHeartbeats 1000000 in
theorem l4Power (n : Nat) (hn : n ≤ 4) (w : World) :
    Calls Tryd.prog 61 #[.int .i64 (n : Int)] w fun e w' => e = .returned (.int .i64 (pw n)) ∧ w' = w := by
  go_enter Tryd.func61, Tryd.ntmps61
  go_wp2
  go_loopw [0, 3] (fun t v wr => ∃ j : Nat, j ≤ n ∧ t = .int .i64 ((n : Int) - (j : Int)) ∧ v = .int .i64 (pw j) ∧ wr = w) (fun t _ _ => (intOf t).toNat)
  case atStart => exact ⟨0, Nat.zero_le _, by simp, rfl, rfl⟩
  case round =>
    obtain ⟨j, hj, rfl, rfl, rfl⟩ := hrel
    by_cases hlt : j < n
    · obtain ⟨p1, p2⟩ := pw_le (j := j) (by omega)
      have Hp := Lib.hid (pw_next j)
      have hpos : (0 : Int) < (n : Int) - (j : Int) := by omega
      generalize pw j = b at p1 p2 Hp ⊢
      go_wp2
      exact ⟨⟨j + 1, by omega, by go_num, by rw [Hp.out], trivial⟩, by simp [intOf]; omega⟩
    · obtain rfl : j = n := by omega
      have hno : ¬ (0 : Int) < (j : Int) - (j : Int) := by omega
      go_wp2
      go_ret
      exact ⟨rfl, rfl⟩

set_option maxHeartbeats 400000 in
theorem specBackoff (t : Int) (w : World) :
    Calls Tryd.prog 26 #[.int .i64 t] w (RetIR (backM t) w) := by
  rcases hf : inB (t, 0, 4)
  · rw [backM_no hf]
    have Hf := Lib.hid hf
    clear hf
    go_enter Tryd.func26, Tryd.ntmps26
    go_wp2_with (go_at_call 60; refine (l1In_any t 0 4 _).mono ?_; rintro e w' ⟨rfl, rfl⟩; rw [Hf.out])
    refine bodyPost_ret (v := .agg #[.int .i64 3, .int .i64 0]) (by simp [results, Tryd.results26, go_sem]) rfl ?_
    exact ⟨rfl, (Below.refl _ _).alloc (Nat.le_refl _) _⟩
  · rw [backM_yes hf]
    have hb : 0 ≤ t ∧ t ≤ 4 := by simpa [inB] using hf
    have Hf := Lib.hid hf
    clear hf
    obtain ⟨n, rfl⟩ : ∃ n : Nat, t = (n : Int) := ⟨t.toNat, by omega⟩
    have hn : n ≤ 4 := by omega
    rw [show ((n : Int)).toNat = n by simp]
    clear hb
    go_enter Tryd.func26, Tryd.ntmps26
    go_wp2_with fail
    refine (l1In_any (n : Int) 0 4 _).mono ?_
    rintro e w' ⟨rfl, rfl⟩
    rw [Hf.out]
    go_wp2_with fail
    refine (l4Power n hn _).mono ?_
    rintro e w' ⟨rfl, rfl⟩
    go_wp2
    refine bodyPost_ret (v := .agg #[.int .i64 0, .int .i64 (pw n)]) (by simp [results, Tryd.results26, go_sem]) rfl ?_
    exact ⟨rfl, (Below.refl _ _).alloc (Nat.le_refl _) _⟩

theorem pw_shl {n : Nat} (hn : n ≤ 4) : wrap64 ((2 : Int) ^ n) = pw n := by
  rcases (show n = 0 ∨ n = 1 ∨ n = 2 ∨ n = 3 ∨ n = 4 by omega) with rfl | rfl | rfl | rfl | rfl <;> first | decide +kernel | simp [pw, wrap64]

set_option maxHeartbeats 400000 in
theorem implBackoff (t : Int) (w : World) :
    Calls Tryd.prog 25 #[.int .i64 t] w (RetIR (backM t) w) := by
  have hB := ((Below.refl w.heap.size w).alloc (Nat.le_refl _) (.cells #[.int .i64 0, .int .i64 0] 46)).alloc (by simp) (.cells #[.int .i64 t, .int .i64 0, .int .i64 4] 86)
  have r0 := (At.new w 46 #[.int .i64 0, .int .i64 0]).alloc (.cells #[.int .i64 t, .int .i64 0, .int .i64 4] 86)
  rcases hf : inB (t, 0, 4)
  · rw [backM_no hf]
    have Hf := Lib.hid (show [(t, (0 : Int), (4 : Int))].all inB = false by simp [hf])
    clear hf
    go_enter Tryd.func25, Tryd.ntmps25
    go_wp2_with fail
    refine (areWithin_any _ _ _ [(t, 0, 4)] _ (bnds_one (by simp)) (by simp) rfl (by simp)).mono ?_
    rintro e w' ⟨rfl, hb⟩
    rw [Hf.out]
    obtain ⟨c0, c1, f0, f1⟩ := (r0.below hb r0.lt).two
    have hB1 := hB.trans (hb.mono hB.size)
    go_wp2
    refine bodyPost_ret (v := .agg #[.int .i64 3, .int .i64 0]) (by simp [results, Tryd.results25, go_sem, c0, c1]) rfl ?_
    exact ⟨rfl, (hB1.setCell (Nat.le_refl _) _).setCell (Nat.le_refl _) _⟩
  · rw [backM_yes hf]
    have hb : 0 ≤ t ∧ t ≤ 4 := by simpa [inB] using hf
    have Hf := Lib.hid (show [(t, (0 : Int), (4 : Int))].all inB = true by simp [hf])
    clear hf
    obtain ⟨n, rfl⟩ : ∃ n : Nat, t = (n : Int) := ⟨t.toNat, by omega⟩
    have hn : n ≤ 4 := by omega
    have Hw := Lib.hid (pw_shl hn)
    have hnn : ¬ (n : Int) < 0 := by omega
    rw [show ((n : Int)).toNat = n by simp]
    clear hb
    go_enter Tryd.func25, Tryd.ntmps25
    go_wp2_with fail
    refine (areWithin_any _ _ _ [((n : Int), 0, 4)] _ (bnds_one (by simp)) (by simp) rfl (by simp)).mono ?_
    rintro e w' ⟨rfl, hb⟩
    rw [Hf.out]
    obtain ⟨c0, c1, f0, f1⟩ := (r0.below hb r0.lt).two
    have hB1 := hB.trans (hb.mono hB.size)
    go_wp2
    refine bodyPost_ret (v := .agg #[.int .i64 0, .int .i64 (pw n)]) (by simp [results, Tryd.results25, go_sem, c0, c1, Hw.out]) rfl ?_
    exact ⟨rfl, (hB1.setCell (Nat.le_refl _) _).setCell (Nat.le_refl _) _⟩

end Go.Proofs.YtjlkmfijkhjjkaaDoor
/-
  What is asked of hints, of the pure answers: faults, one looked for, put, done, due, sent; a queue of hints by their keys.
-/
namespace Go.Proofs.YtjlkmfijkhjjkaaDoor
set_option maxRecDepth 20000
open Go.RowKit
set_option linter.unusedSimpArgs false
set_option linter.unusedVariables false

abbrev idH (x : Hnt) : Int := x.2.1.2.2.1
def sameH (a b : Hnt) : Bool := decide (a.1 = b.1) && decide (idH a = idH b)
theorem sameH_iff (a b : Hnt) : sameH a b = true ↔ a.1 = b.1 ∧ idH a = idH b := by unfold sameH; simp
theorem sameH_self (a : Hnt) : sameH a a = true := (sameH_iff a a).2 ⟨rfl, rfl⟩
theorem sameH_comm (a b : Hnt) : sameH a b = sameH b a := by
  rw [Bool.eq_iff_iff, sameH_iff, sameH_iff]
  exact ⟨fun h => ⟨h.1.symm, h.2.symm⟩, fun h => ⟨h.1.symm, h.2.symm⟩⟩
theorem sameH_trans {a b c : Hnt} (h : sameH a b = true) : sameH a c = sameH b c := by
  obtain ⟨h1, h2⟩ := (sameH_iff a b).1 h
  rw [Bool.eq_iff_iff, sameH_iff, sameH_iff, h1, h2]

def rangeH (h : Hnt) : Bool := inB (h.1, 0, 3) && (inB (h.2.2.1, 0, 4) && inB (h.2.2.2, 0, 200000))
def hfaultM (h : Hnt) : Int := if faultM h.2.1 ≠ 0 then 3 else if rangeH h then 0 else 3
theorem hfault_or (h : Hnt) : hfaultM h = 0 ∨ hfaultM h = 3 := by
  unfold hfaultM
  split
  · exact .inr rfl
  · split
    · exact .inl rfl
    · exact .inr rfl
theorem hfault_smp {h : Hnt} (k : faultM h.2.1 = 3) : hfaultM h = 3 := by unfold hfaultM; rw [if_pos (by simp [k])]
theorem hfault_yes {h : Hnt} (k : faultM h.2.1 = 0) (r : rangeH h = true) : hfaultM h = 0 := by unfold hfaultM; rw [if_neg (by simp [k]), if_pos r]
theorem hfault_no {h : Hnt} (k : faultM h.2.1 = 0) (r : rangeH h = false) : hfaultM h = 3 := by unfold hfaultM; rw [if_neg (by simp [k]), if_neg (by simp [r])]
theorem hfault_zero {h : Hnt} (k : hfaultM h = 0) : faultM h.2.1 = 0 ∧ rangeH h = true := by
  rcases faultM_or h.2.1 with hf | hf
  · rcases hr : rangeH h
    · rw [hfault_no hf hr] at k
      cases k
    · exact ⟨hf, rfl⟩
  · rw [hfault_smp hf] at k
    cases k

def rightHM (l : List Hnt) : Bool := l.all fun x => decide (hfaultM x = 0)
/-- No two are for one node and have one Id. -/
def Dis (l : List Hnt) : Prop := l.Pairwise fun a b => sameH a b = false
instance (l : List Hnt) : Decidable (Dis l) := inferInstanceAs (Decidable (List.Pairwise _ l))
def hintsFaultM (l : List Hnt) : Int := if 8 < l.length then 2 else if rightHM l = false then 3 else if Dis l then 0 else 6
theorem hintsFault_many {l : List Hnt} (h : 8 < l.length) : hintsFaultM l = 2 := if_pos h
theorem hintsFault_wrong {l : List Hnt} {k : Nat} {x : Hnt} (h : ¬ 8 < l.length) (hx : l[k]? = some x) (hf : hfaultM x = 3) : hintsFaultM l = 3 := by
  have hr : rightHM l = false := by
    unfold rightHM
    rw [List.all_eq_false]
    exact ⟨x, List.mem_of_getElem? hx, by simp [hf]⟩
  unfold hintsFaultM
  rw [if_neg h, if_pos hr]
theorem rightHM_of {l : List Hnt} {n : Nat} (hn : l.length = n) (hal : ∀ j x, j < n → l[j]? = some x → hfaultM x = 0) : rightHM l = true := by
  unfold rightHM
  rw [List.all_eq_true]
  intro x hx
  obtain ⟨j, hj⟩ := List.mem_iff_getElem?.1 hx
  exact decide_eq_true (hal j x (by have := getElem?_some_lt hj; omega) hj)
theorem hintsFault_taken {l : List Hnt} (h : ¬ 8 < l.length) (hr : rightHM l = true) (hd : ¬ Dis l) : hintsFaultM l = 6 := by
  unfold hintsFaultM
  rw [if_neg h, if_neg (by simp [hr]), if_neg hd]
theorem hintsFault_ok {l : List Hnt} (h : ¬ 8 < l.length) (hr : rightHM l = true) (hd : Dis l) : hintsFaultM l = 0 := by
  unfold hintsFaultM
  rw [if_neg h, if_neg (by simp [hr]), if_pos hd]
theorem hintsFault_iff (l : List Hnt) : hintsFaultM l = 0 ↔ l.length ≤ 8 ∧ (∀ x ∈ l, hfaultM x = 0) ∧ Dis l := by
  constructor
  · intro h
    unfold hintsFaultM at h
    by_cases h1 : 8 < l.length
    · rw [if_pos h1] at h; cases h
    · rw [if_neg h1] at h
      by_cases h2 : rightHM l = false
      · rw [if_pos h2] at h; cases h
      · rw [if_neg h2] at h
        by_cases h3 : Dis l
        · refine ⟨by omega, fun x hx => ?_, h3⟩
          have : rightHM l = true := by simpa using h2
          unfold rightHM at this
          rw [List.all_eq_true] at this
          exact of_decide_eq_true (this x hx)
        · rw [if_neg h3] at h; cases h
  · rintro ⟨h1, h2, h3⟩
    refine hintsFault_ok (by omega) ?_ h3
    unfold rightHM
    rw [List.all_eq_true]
    exact fun x hx => decide_eq_true (h2 x hx)

/-- One is looked for. -/
def hitH (l : List Hnt) (p i : Int) (k : Nat) : Bool := match l[k]? with | some a => decide (a.1 = p) && decide (idH a = i) | none => false
theorem hitH_at {l : List Hnt} {p i : Int} {k : Nat} {a : Hnt} (h : l[k]? = some a) : hitH l p i k = (decide (a.1 = p) && decide (idH a = i)) := by
  unfold hitH
  rw [h]
def findH (l : List Hnt) (p i : Int) : Option Nat := (List.range l.length).find? (hitH l p i)
def findHI (l : List Hnt) (p i : Int) : Int := match findH l p i with | some k => (k : Int) | none => -1
theorem findH_some {l : List Hnt} {p i : Int} {k : Nat} (hk : k < l.length) (h : hitH l p i k = true) (hal : ∀ j, j < k → hitH l p i j = false) : findH l p i = some k := by
  unfold findH
  rw [List.find?_range_eq_some]
  exact ⟨h, by simpa using hk, fun j hj => by simp [hal j hj]⟩
theorem findH_none {l : List Hnt} {p i : Int} (hal : ∀ j, j < l.length → hitH l p i j = false) : findH l p i = none := by
  unfold findH
  rw [List.find?_range_eq_none]
  exact fun j hj => by simp [hal j hj]
theorem findH_is {l : List Hnt} {p i : Int} {k : Nat} (h : findH l p i = some k) : k < l.length ∧ hitH l p i k = true ∧ ∀ j, j < k → hitH l p i j = false := by
  unfold findH at h
  rw [List.find?_range_eq_some] at h
  refine ⟨by simpa using h.2.1, h.1, fun j hj => by simpa using h.2.2 j hj⟩
theorem findHI_some {l : List Hnt} {p i : Int} {k : Nat} (hk : k < l.length) (h : hitH l p i k = true) (hal : ∀ j, j < k → hitH l p i j = false) : findHI l p i = (k : Int) := by
  unfold findHI
  rw [findH_some hk h hal]
theorem findHI_none {l : List Hnt} {p i : Int} {n : Nat} (hn : l.length = n) (hal : ∀ j, j < n → hitH l p i j = false) : findHI l p i = -1 := by
  unfold findHI
  rw [findH_none (by rw [hn]; exact hal)]
theorem findHI_or (l : List Hnt) (p i : Int) : (findHI l p i = -1 ∧ findH l p i = none) ∨ ∃ k : Nat, findHI l p i = (k : Int) ∧ findH l p i = some k ∧ k < l.length := by
  unfold findHI
  rcases h : findH l p i with _ | k
  · exact .inl ⟨rfl, rfl⟩
  · exact .inr ⟨k, rfl, rfl, (findH_is h).1⟩
theorem findHI_self {l : List Hnt} (hd : Dis l) {k : Nat} {a : Hnt} (h : l[k]? = some a) : findHI l a.1 (idH a) = (k : Int) := by
  refine findHI_some (getElem?_some_lt h) (by rw [hitH_at h]; simp) fun j hj => ?_
  have hk := getElem?_some_lt h
  have hjl : j < l.length := by omega
  rw [hitH_at (List.getElem?_eq_getElem hjl)]
  have := (List.pairwise_iff_getElem.1 hd) j k hjl hk hj
  rw [List.getElem?_eq_getElem hk] at h
  rw [Option.some.inj h] at this
  exact this
/-- Whether each is found at its own place tells whether no two are alike. -/
theorem dis_of {l : List Hnt} (h : ∀ (k : Nat) (a : Hnt), l[k]? = some a → findHI l a.1 (idH a) = (k : Int)) : Dis l := by
  refine List.pairwise_iff_getElem.2 fun i j hi hj hij => ?_
  rcases hs : sameH l[i] l[j]
  · rfl
  · exfalso
    obtain ⟨h1, h2⟩ := (sameH_iff _ _).1 hs
    have hf := h j _ (List.getElem?_eq_getElem hj)
    rcases findHI_or l l[j].1 (idH l[j]) with ⟨h3, _⟩ | ⟨k, h3, h4, _⟩
    · omega
    · obtain rfl : k = j := by omega
      have := (findH_is h4).2.2 i hij
      rw [hitH_at (List.getElem?_eq_getElem hi), h1, h2] at this
      simp at this

/-- What AddHint, DoneHint, DueHints, SentHint answer. -/
def addM (l : List Hnt) (p : Int) (x : Smp) : Int × List Hnt :=
  if hintsFaultM l ≠ 0 then (hintsFaultM l, []) else if faultM x ≠ 0 then (3, []) else if inB (p, 0, 3) = false then (3, []) else if 0 ≤ findHI l p x.2.2.1 then (6, []) else if 8 ≤ l.length then (7, []) else (0, l ++ [(p, x, 0, 0)])
def doneM (l : List Hnt) (p i : Int) : Int × List Hnt :=
  if hintsFaultM l ≠ 0 then (hintsFaultM l, []) else match findH l p i with | none => (4, []) | some k => (0, l.take k ++ l.drop (k + 1))
def dueL (l : List Hnt) (now : Int) : List Hnt := l.filter fun h => decide (h.2.2.2 ≤ now)
def dueM (l : List Hnt) (now : Int) : Int × List Hnt :=
  if hintsFaultM l ≠ 0 then (hintsFaultM l, []) else (0, dueL l now)
def sentH (now : Int) (h : Hnt) : Hnt := (h.1, h.2.1, (if h.2.2.1 + 1 < 4 then h.2.2.1 + 1 else 4), now + pw h.2.2.1.toNat)
def sentM (l : List Hnt) (p i now : Int) : Int × List Hnt :=
  if hintsFaultM l ≠ 0 then (hintsFaultM l, []) else if inB (now, 0, 100000) = false then (3, []) else match findH l p i with | none => (4, []) | some k => (0, l.set k (sentH now (l[k]?.getD zeroH)))
theorem take_nextH {α : Type} {l : List α} {k : Nat} {a : α} (h : l[k]? = some a) : l.take (k + 1) = l.take k ++ [a] := by
  have hl := getElem?_some_lt h
  rw [List.take_succ_eq_append_getElem hl]
  rw [List.getElem?_eq_getElem hl] at h
  rw [Option.some.inj h]
theorem due_next {l : List Hnt} {k : Nat} {a : Hnt} (now : Int) (h : l[k]? = some a) : dueL (l.take (k + 1)) now = dueL (l.take k) now ++ (if a.2.2.2 ≤ now then [a] else []) := by
  unfold dueL
  rw [take_nextH h, List.filter_append]
  congr 1
  simp [List.filter_cons]
theorem due_le (l : List Hnt) (now : Int) : (dueL l now).length ≤ l.length := List.length_filter_le _ _
theorem dueM_le (l : List Hnt) (now : Int) : (dueM l now).2.length ≤ l.length := by
  unfold dueM
  split
  · simp
  · exact due_le l now
theorem doneM_le (l : List Hnt) (p i : Int) : (doneM l p i).2.length ≤ l.length := by
  unfold doneM
  split
  · simp
  · split
    · simp
    · simp only [List.length_append, List.length_take, List.length_drop]
      omega
theorem sentM_le (l : List Hnt) (p i now : Int) : (sentM l p i now).2.length ≤ l.length := by
  unfold sentM
  repeat (first | split | simp)
theorem addM_le (l : List Hnt) (p : Int) (x : Smp) : (addM l p x).2.length ≤ l.length + 1 := by
  unfold addM
  repeat (first | split | simp)

/-- A queue: hints with their turns. -/
abbrev Qd := Int × Hnt
def putQ (t : Int) (h : Hnt) : List Qd → List Qd
  | [] => [(t, h)]
  | x :: L => if sameH h x.2 then (x.1, h) :: L else x :: putQ t h L
def firstQ (L : List Qd) (h : Hnt) : Option Qd := L.find? fun x => sameH h x.2
def eraseQ (h : Hnt) : List Qd → List Qd
  | [] => []
  | x :: L => if sameH h x.2 then L else x :: eraseQ h L
theorem putQ_new (t : Int) (h : Hnt) : ∀ {L : List Qd}, firstQ L h = none → putQ t h L = L ++ [(t, h)]
  | [], _ => rfl
  | x :: L, hn => by
    unfold firstQ at hn
    rw [List.find?_cons] at hn
    rcases hs : sameH h x.2
    · rw [hs] at hn
      have := putQ_new t h (L := L) hn
      unfold putQ
      rw [hs, this]
      rfl
    · rw [hs] at hn
      cases hn
theorem putQ_len (t : Int) (h : Hnt) : ∀ L : List Qd, (putQ t h L).length = if (firstQ L h).isSome then L.length else L.length + 1
  | [] => rfl
  | x :: L => by
    have ih := putQ_len t h L
    rcases hs : sameH h x.2
    · have e1 : putQ t h (x :: L) = x :: putQ t h L := by rw [putQ, hs]; rfl
      have e2 : firstQ (x :: L) h = firstQ L h := by unfold firstQ; rw [List.find?_cons, hs]
      rw [e1, e2, List.length_cons, ih, List.length_cons]
      split <;> rfl
    · have e1 : putQ t h (x :: L) = (x.1, h) :: L := by rw [putQ, hs]; rfl
      have e2 : firstQ (x :: L) h = some x := by unfold firstQ; rw [List.find?_cons, hs]
      rw [e1, e2]
      simp
theorem firstQ_none {L : List Qd} {h : Hnt} : firstQ L h = none ↔ ∀ x ∈ L.map Prod.snd, sameH h x = false := by
  unfold firstQ
  rw [List.find?_eq_none]
  constructor
  · intro k x hx
    obtain ⟨y, hy, rfl⟩ := List.mem_map.1 hx
    simpa using k y hy
  · intro k x hx
    have := k x.2 (List.mem_map.2 ⟨x, hx, rfl⟩)
    simp [this]
/-- One is laid at its key. -/
def setQ (x : Qd) : List Qd → List Qd
  | [] => [x]
  | a :: L => if sameH x.2 a.2 then x :: L else a :: setQ x L
def turnQ (t : Int) (h : Hnt) (L : List Qd) : Int := match firstQ L h with | some x => x.1 | none => t
theorem putQ_set (t : Int) (h : Hnt) : ∀ L : List Qd, putQ t h L = setQ (turnQ t h L, h) L
  | [] => rfl
  | x :: L => by
    have ih := putQ_set t h L
    rcases hs : sameH h x.2
    · have e2 : firstQ (x :: L) h = firstQ L h := by unfold firstQ; rw [List.find?_cons, hs]
      have e3 : turnQ t h (x :: L) = turnQ t h L := by unfold turnQ; rw [e2]
      rw [e3, putQ, setQ, hs, ih]
      rfl
    · have e2 : firstQ (x :: L) h = some x := by unfold firstQ; rw [List.find?_cons, hs]
      have e3 : turnQ t h (x :: L) = x.1 := by unfold turnQ; rw [e2]
      rw [e3, putQ, setQ, hs]
      rfl
/-- The queue of a list, turn by turn. -/
def queueN (L : List Qd) (t : Nat) : List Hnt → List Qd
  | [] => L
  | h :: l => queueN (putQ (t : Int) h L) (t + 1) l
def queueM (l : List Hnt) : List Qd := queueN [] 0 l
theorem queueN_append (h : Hnt) : ∀ (l : List Hnt) (L : List Qd) (t : Nat), queueN L t (l ++ [h]) = putQ ((t + l.length : Nat) : Int) h (queueN L t l)
  | [], L, t => rfl
  | x :: l, L, t => by
    have := queueN_append h l (putQ (t : Int) x L) (t + 1)
    simp only [List.cons_append, queueN, List.length_cons]
    rw [this]
    congr 2
    omega
theorem queue_next {l : List Hnt} {k : Nat} {a : Hnt} (h : l[k]? = some a) : queueM (l.take (k + 1)) = putQ (k : Int) a (queueM (l.take k)) := by
  have hl := getElem?_some_lt h
  unfold queueM
  rw [take_nextH h, queueN_append, Nat.zero_add, List.length_take, Nat.min_eq_left (by omega)]
/-- A list turn by turn. -/
def zipQ (l : List Hnt) : List Qd := (List.range l.length).map fun (i : Nat) => ((i : Int), (l[i]?).getD zeroH)
theorem zipQ_append (l : List Hnt) (h : Hnt) : zipQ (l ++ [h]) = zipQ l ++ [((l.length : Int), h)] := by
  unfold zipQ
  rw [List.length_append, List.length_singleton, List.range_succ, List.map_append]
  congr 1
  · apply List.map_congr_left
    intro i hi
    have := List.mem_range.1 hi
    rw [List.getElem?_append_left this]
  · simp
theorem zipQ_snd (l : List Hnt) : (zipQ l).map Prod.snd = l := by
  apply List.ext_getElem?
  intro i
  unfold zipQ
  rw [List.map_map, List.getElem?_map]
  rcases Nat.lt_or_ge i l.length with h | h
  · rw [List.getElem?_range h, Option.map_some]
    simp [List.getElem?_eq_getElem h]
  · rw [List.getElem?_eq_none (by simpa using h), List.getElem?_eq_none h]
    rfl
theorem dis_append {l : List Hnt} {h : Hnt} : Dis (l ++ [h]) ↔ Dis l ∧ ∀ x ∈ l, sameH x h = false := by
  unfold Dis
  rw [List.pairwise_append]
  simp
theorem queue_all (l : List Hnt) : (Dis l → queueM l = zipQ l) ∧ (¬ Dis l → (queueM l).length < l.length) ∧ (queueM l).length ≤ l.length := by
  have step : ∀ k, k ≤ l.length → (Dis (l.take k) → queueM (l.take k) = zipQ (l.take k)) ∧ (¬ Dis (l.take k) → (queueM (l.take k)).length < k) ∧ (queueM (l.take k)).length ≤ k := by
    intro k
    induction k with
    | zero => intro _; exact ⟨fun _ => rfl, fun h => absurd List.Pairwise.nil h, Nat.le_refl _⟩
    | succ k ih =>
      intro hk
      obtain ⟨h1, h2, h3⟩ := ih (by omega)
      have ha : l[k]? = some l[k] := List.getElem?_eq_getElem (by omega)
      have hlen : (l.take k).length = k := by rw [List.length_take]; omega
      rw [queue_next ha, putQ_len]
      refine ⟨fun hd => ?_, fun hd => ?_, by split <;> omega⟩
      · rw [take_nextH ha, dis_append] at hd
        have hz := h1 hd.1
        have hf : firstQ (queueM (l.take k)) l[k] = none := by
          rw [firstQ_none, hz, zipQ_snd]
          exact fun x hx => by rw [sameH_comm]; exact hd.2 x hx
        rw [putQ_new _ _ hf, hz, take_nextH ha, zipQ_append, hlen]
      · by_cases hd' : Dis (l.take k)
        · have hz := h1 hd'
          have hf : (firstQ (queueM (l.take k)) l[k]).isSome = true := by
            rw [Option.isSome_iff_ne_none]
            intro hn
            refine hd ?_
            rw [take_nextH ha, dis_append]
            refine ⟨hd', fun x hx => ?_⟩
            rw [firstQ_none, hz, zipQ_snd] at hn
            rw [sameH_comm]
            exact hn x hx
          rw [if_pos hf]
          rw [hz] 
          unfold zipQ
          rw [List.length_map, List.length_range, hlen]
          omega
        · have := h2 hd'
          split <;> omega
  have := step l.length (Nat.le_refl _)
  rwa [List.take_length] at this
/-- Turns rise. -/
def Rises (L : List Qd) : Prop := L.Pairwise fun x y => x.1 < y.1
theorem rises_zip (l : List Hnt) : Rises (zipQ l) := by
  unfold Rises zipQ
  rw [List.pairwise_map]
  exact (List.pairwise_lt_range).imp fun {a b} h => by simpa using h
theorem zipQ_len (l : List Hnt) : (zipQ l).length = l.length := by simp [zipQ]
end Go.Proofs.YtjlkmfijkhjjkaaDoor
/-
  Rows of hints marked and held, as the law does it; answers that hold hints.
-/
namespace Go.Proofs.YtjlkmfijkhjjkaaDoor
set_option maxRecDepth 20000
open Go.RowKit
set_option linter.unusedSimpArgs false

def markH (k i : Nat) : Hnt := ((k : Int) + 7 * i, ((k : Int) + 7 * i + 1, (k : Int) + 7 * i + 2, (k : Int) + 7 * i + 3, (k : Int) + 7 * i + 4), (k : Int) + 7 * i + 5, (k : Int) + 7 * i + 6)
/-- What a mark lays: seven numbers a hint. -/
def marksH (k n : Nat) : List Hnt := (List.range n).map (markH k)
theorem marksH_len (k n : Nat) : (marksH k n).length = n := by simp [marksH]
theorem marksH_at {k n i : Nat} (h : i < n) : (marksH k n)[i]? = some (markH k i) := by simp [marksH, h]

set_option maxHeartbeats 4000000 in
theorem markHintS (A : Option Addr) (n c base : Nat) (l : List Hnt) (k : Nat) (w : World) (ha : Ow eH w base A n c l) (hm : n ≤ 4294967296) (hk : k ≤ 4294967296) :
    Calls Tryd.prog 35 #[.slice A n c, .int .i64 k] w fun e w' => e = .returned (.int .i64 ((k : Int) + 7 * n)) ∧ Ow eH w' base A n c (marksH k n) ∧ w.grownBy w' (A.map (·.block)) := by
  have Hn := Lib.hid (ha.len okH)
  go_enter Tryd.func35, Tryd.ntmps35
  go_wp2
  go_loopw [1, 5] (fun vk i wr => MarkRel eH (markH k) 7 w base A n c l k vk i wr) (fun _ i _ => n - (intOf i).toNat)
  case atStart => exact markRel_start _ _ _ ha
  case round =>
    obtain ⟨j, hj, rfl, rfl, hown, hgr⟩ := hrel
    rw [show (k : Int) + ((7 : Nat) : Int) * (j : Int) = (k : Int) + 7 * (j : Int) by omega]
    by_cases hlt : j < n
    · obtain ⟨g, rfl, hg, _⟩ := hown.form (by omega)
      obtain ⟨⟨a0, ⟨a1, a2, a3, a4⟩, a5, a6⟩, hz⟩ := markRel_at (markH k) l n j hlt Hn.out
      obtain ⟨d0, d1, d2, d3, d4, d5, d6⟩ := hown.hntAt hz
      have f0 := hown.frozenAt (j * 7)
      have f1 := hown.frozenAt (j * 7 + 1)
      have f2 := hown.frozenAt (j * 7 + 2)
      have f3 := hown.frozenAt (j * 7 + 3)
      have f4 := hown.frozenAt (j * 7 + 4)
      have f5 := hown.frozenAt (j * 7 + 5)
      have f6 := hown.frozenAt (j * 7 + 6)
      have hs := hown.hntSet (k := j) (getElem?_some_lt hz) ((k : Int) + 7 * j) ((k : Int) + 7 * j + 1) ((k : Int) + 7 * j + 2) ((k : Int) + 7 * j + 3) ((k : Int) + 7 * j + 4) ((k : Int) + 7 * j + 5) ((k : Int) + 7 * j + 6)
      have Hset := Lib.hid (laid_set (markH k) l n j hlt Hn.out)
      have Hgr := Lib.hid (grown_trans hgr hs.2)
      have Hst := Lib.hid hs.1
      clear hgr hs hz
      go_wp2
      exact ⟨⟨j + 1, by omega, by go_num, congrArg _ (by omega), by rw [← Hset.out]; exact Hst.out, Hgr.out⟩, by simp [intOf]; omega⟩
    · have hall := markRel_end hown (by omega) Hn.out
      obtain rfl : n = j := by omega
      clear hown
      go_wp2
      go_ret
      exact ⟨rfl, hall, hgr⟩
theorem markHintS1 (A : Option Addr) (n c base : Nat) (l : List Hnt) (w : World) (ha : Ow eH w base A n c l) (hm : n ≤ 4294967296) :
    Calls Tryd.prog 35 #[.slice A n c, .int .i64 1] w fun e w' => e = .returned (.int .i64 (1 + 7 * (n : Int))) ∧ Ow eH w' base A n c (marksH 1 n) ∧ w.grownBy w' (A.map (·.block)) :=
  markHintS A n c base l 1 w ha hm (by omega)

set_option maxHeartbeats 4000000 in
theorem heldHintS (A : Option Addr) (n c : Nat) (k : Nat) (w : World) (ha : Rd eH w w.heap.size A (marksH k n)) (hm : n ≤ 4294967296) (hk : k ≤ 4294967296) :
    Calls Tryd.prog 65 #[.slice A n c, .int .i64 k] w fun e w' => e = .returned (.int .i64 ((k : Int) + 7 * n)) ∧ Below w.heap.size w w' := by
  go_enter Tryd.func65, Tryd.ntmps65
  go_wp2
  go_loopw [1, 5] (fun vk i wr => HeldRel w n 7 k vk i wr) (fun _ i _ => n - (intOf i).toNat)
  case atStart => exact heldRel_start _ _ _ _
  case round =>
    obtain ⟨j, hj, rfl, rfl, hbel⟩ := hrel
    rw [show (k : Int) + ((7 : Nat) : Int) * (j : Int) = (k : Int) + 7 * (j : Int) by omega]
    by_cases hlt : j < n
    · obtain ⟨g, o, a0, a1, a2, a3, a4, a5, a6, rfl, hg, hx, c0, c1, c2, c3, c4, c5, c6⟩ := (ha.below hbel (Nat.le_refl _)).hnt (k := j) (by rw [marksH_len]; exact hlt)
      rw [marksH_at hlt] at hx
      simp only [markH, Option.some.injEq, Prod.mk.injEq] at hx
      obtain ⟨rfl, ⟨rfl, rfl, rfl, rfl⟩, rfl, rfl⟩ := hx
      go_wp2
      exact ⟨⟨j + 1, by omega, by go_num, congrArg _ (by omega), hbel⟩, by simp [intOf]; omega⟩
    · obtain rfl : n = j := by omega
      go_wp2
      go_ret
      exact ⟨rfl, hbel⟩

/-- A code and hints of the call's own. -/
def RetHs (r : Int × List Hnt) (w : World) (e : Ending) (w' : World) : Prop :=
  ∃ A n c, e = .returned (.agg #[.int .i64 r.1, .slice A n c]) ∧ Ow eH w' w.heap.size A n c r.2 ∧ Below w.heap.size w w'

set_option maxHeartbeats 400000 in
theorem eqHintsResult (z : Int) (A B : Option Addr) (n m c d : Nat) (xs ys : List Hnt) (w : World) (ha : Rd eH w w.heap.size A xs) (hb : Rd eH w w.heap.size B ys) (hx : xs.length = n) (hy : ys.length = m) (hm : n ≤ maxLen) :
    Calls Tryd.prog 34 #[.agg #[.int .i64 z, .slice A n c], .agg #[.int .i64 z, .slice B m d]] w fun e w' => e = .returned (.bool (decide (xs = ys))) ∧ Below w.heap.size w w' := by
  have hb0 : Below w.heap.size w ((w.alloc (.cells #[.int .i64 z, .slice A n c] 30)).alloc (.cells #[.int .i64 z, .slice B m d] 30)) := ((Below.refl _ _).alloc (Nat.le_refl _) _).alloc (by simp) _
  have ha2 := ha.lift hb0
  have hb2 := hb.lift hb0
  have hzz : (z != z) = false := by simp
  by_cases he : xs = ys
  all_goals
    first
      | (have hd : decide (xs = ys) = true := by simpa using he)
      | (have hd : decide (xs = ys) = false := by simpa using he)
    have Hd := Lib.hid hd
    clear he
    go_enter Tryd.func34, Tryd.ntmps34
    go_wp2_with (go_at_call 32; refine (eqHintS A B n m c d xs ys _ ha2 hb2 hx hy hm).mono ?_; rintro e w1 ⟨rfl, hb1⟩)
    go_ret
    exact ⟨by rw [Hd.out]; simp, hb0.trans (hb1.mono hb0.size)⟩

set_option maxHeartbeats 400000 in
theorem markHintsResult (z : Int) (A : Option Addr) (n c base : Nat) (l : List Hnt) (k : Nat) (w : World) (ha : Ow eH w base A n c l) (hm : n ≤ 4294967296) (hk : k ≤ 4294967296) :
    Calls Tryd.prog 36 #[.agg #[.int .i64 z, .slice A n c], .int .i64 k] w fun e w' => e = .returned (.int .i64 ((k : Int) + 7 * n)) ∧ Ow eH w' base A n c (marksH k n) ∧ w.grownBy w' (A.map (·.block)) := by
  go_enter Tryd.func36, Tryd.ntmps36
  go_wp2_with (go_at_call 35; refine (markHintS A n c base l k _ (ha.alloc _) hm hk).mono ?_; rintro e w1 ⟨rfl, hown, hg1⟩)
  go_ret
  exact ⟨rfl, hown, grown_trans (World.grownBy_alloc w _ _) hg1⟩

set_option maxHeartbeats 400000 in
theorem heldHintsResult (z : Int) (A : Option Addr) (n c : Nat) (k : Nat) (w : World) (ha : Rd eH w w.heap.size A (marksH k n)) (hm : n ≤ 4294967296) (hk : k ≤ 4294967296) :
    Calls Tryd.prog 37 #[.agg #[.int .i64 z, .slice A n c], .int .i64 k] w fun e w' => e = .returned (.int .i64 ((k : Int) + 7 * n)) ∧ Below w.heap.size w w' := by
  have hb0 : Below w.heap.size w (w.alloc (.cells #[.int .i64 z, .slice A n c] 30)) := (Below.refl _ _).alloc (Nat.le_refl _) _
  have ha2 := ha.lift hb0
  have hp : (0 : Int) ≤ (k : Int) + 7 * n := by omega
  go_enter Tryd.func37, Tryd.ntmps37
  go_wp2_with (go_at_call 65; refine (heldHintS A n c k _ ha2 hm hk).mono ?_; rintro e w1 ⟨rfl, hb1⟩)
  go_ret
  exact ⟨rfl, hb0.trans (hb1.mono hb0.size)⟩

theorem markHintsResult1 (z : Int) (A : Option Addr) (n c base : Nat) (l : List Hnt) (w : World) (ha : Ow eH w base A n c l) (hm : n ≤ 4294967296) :
    Calls Tryd.prog 36 #[.agg #[.int .i64 z, .slice A n c], .int .i64 1] w fun e w' => e = .returned (.int .i64 (1 + 7 * (n : Int))) ∧ Ow eH w' base A n c (marksH 1 n) ∧ w.grownBy w' (A.map (·.block)) :=
  markHintsResult z A n c base l 1 w ha hm (by omega)
theorem heldHintsResult1 (z : Int) (A : Option Addr) (n c : Nat) (w : World) (ha : Rd eH w w.heap.size A (marksH 1 n)) (hm : n ≤ 4294967296) :
    Calls Tryd.prog 37 #[.agg #[.int .i64 z, .slice A n c], .int .i64 1] w fun e w' => e = .returned (.int .i64 (1 + 7 * (n : Int))) ∧ Below w.heap.size w w' :=
  heldHintsResult z A n c 1 w ha hm (by omega)
end Go.Proofs.YtjlkmfijkhjjkaaDoor
