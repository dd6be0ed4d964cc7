/-
  Texts of one proof, joined: each has its own namespace.
-/
import Derived.Test.YtmaillakhhdkfaaGreatDoorBExRecoverDisk0
/-
  Rows of hints: how they lie in memory; the law's own copying and comparing of them.
-/
namespace Go.Proofs.YtmaillakhhdkfaaGreatDoor
set_option maxRecDepth 20000
open Go.RowKit
set_option linter.unusedSimpArgs false

/-- A hint: its node, its sample, how often it was sent, when it is due. -/
abbrev Hnt := Int × Smp × Int × Int
def hntCells (x : Hnt) : List Value := [.int .i64 x.1, .int .i64 x.2.1.1, .int .i64 x.2.1.2.1, .int .i64 x.2.1.2.2.1, .int .i64 x.2.1.2.2.2, .int .i64 x.2.2.1, .int .i64 x.2.2.2]
theorem hnt_one (a : Hnt) (u : Value) (hu : u ∈ hntCells a) : u.oneCell' = true := by
  simp only [hntCells, List.mem_cons, List.not_mem_nil, or_false] at hu
  rcases hu with rfl | rfl | rfl | rfl | rfl | rfl | rfl <;> rfl
/-- Hints. -/
def eH : Enc Hnt := ⟨75, 7, hntCells⟩
theorem okH : EncOk eH := ⟨fun _ => rfl, hnt_one, by decide⟩
abbrev zeroH : Hnt := (0, (0, 0, 0, 0), 0, 0)
theorem info_hnt : (Tryz.prog.info? 75).map (fun i => (i.zero, i.size, i.bytes)) = some (some (.agg #[.int .i64 0, .int .i64 0, .int .i64 0, .int .i64 0, .int .i64 0, .int .i64 0, .int .i64 0]), 7, 56) := by kernel_rfl

/-- Seven cells. -/
def S7 (u : World) (g p : Nat) (a0 a1 a2 a3 a4 a5 a6 : Int) : Prop :=
  u.cell? ⟨g, p, none⟩ = some (.int .i64 a0) ∧ u.cell? ⟨g, p + 1, none⟩ = some (.int .i64 a1) ∧ u.cell? ⟨g, p + 2, none⟩ = some (.int .i64 a2) ∧ u.cell? ⟨g, p + 3, none⟩ = some (.int .i64 a3) ∧ u.cell? ⟨g, p + 4, none⟩ = some (.int .i64 a4) ∧ u.cell? ⟨g, p + 5, none⟩ = some (.int .i64 a5) ∧ u.cell? ⟨g, p + 6, none⟩ = some (.int .i64 a6)
theorem S7.below {B : Nat} {w w' : World} {g p : Nat} {a0 a1 a2 a3 a4 a5 a6 : Int} (h : S7 w g p a0 a1 a2 a3 a4 a5 a6) (hb : Below B w w') (hg : g < B) : S7 w' g p a0 a1 a2 a3 a4 a5 a6 :=
  ⟨(hb.cell (p := ⟨g, p, none⟩) hg).trans h.1, (hb.cell (p := ⟨g, p + 1, none⟩) hg).trans h.2.1, (hb.cell (p := ⟨g, p + 2, none⟩) hg).trans h.2.2.1, (hb.cell (p := ⟨g, p + 3, none⟩) hg).trans h.2.2.2.1, (hb.cell (p := ⟨g, p + 4, none⟩) hg).trans h.2.2.2.2.1, (hb.cell (p := ⟨g, p + 5, none⟩) hg).trans h.2.2.2.2.2.1, (hb.cell (p := ⟨g, p + 6, none⟩) hg).trans h.2.2.2.2.2.2⟩
theorem S7.drew {w : World} {g p : Nat} {a0 a1 a2 a3 a4 a5 a6 : Int} (h : S7 w g p a0 a1 a2 a3 a4 a5 a6) : S7 w.drew g p a0 a1 a2 a3 a4 a5 a6 := h
theorem S7.grown {w w' : World} {row : Option Nat} {g p : Nat} {a0 a1 a2 a3 a4 a5 a6 : Int} (h : S7 w g p a0 a1 a2 a3 a4 a5 a6) (hg : w.grownBy w' row) (hne : some g ≠ row) : S7 w' g p a0 a1 a2 a3 a4 a5 a6 :=
  ⟨hg.cell h.1 hne, hg.cell h.2.1 hne, hg.cell h.2.2.1 hne, hg.cell h.2.2.2.1 hne, hg.cell h.2.2.2.2.1 hne, hg.cell h.2.2.2.2.2.1 hne, hg.cell h.2.2.2.2.2.2 hne⟩
theorem At.seven {w : World} {g : Nat} {t : TypeId} {a b c d e f h : Value} (k : At w g t #[a, b, c, d, e, f, h]) : w.cell? ⟨g, 0, none⟩ = some a ∧ w.cell? ⟨g, 1, none⟩ = some b ∧ w.cell? ⟨g, 2, none⟩ = some c ∧ w.cell? ⟨g, 3, none⟩ = some d ∧ w.cell? ⟨g, 4, none⟩ = some e ∧ w.cell? ⟨g, 5, none⟩ = some f ∧ w.cell? ⟨g, 6, none⟩ = some h :=
  ⟨k.cell 0, k.cell 1, k.cell 2, k.cell 3, k.cell 4, k.cell 5, k.cell 6⟩
theorem At.sevenF {w : World} {g : Nat} {t : TypeId} {a b c d e f h : Value} (k : At w g t #[a, b, c, d, e, f, h]) : w.frozen? ⟨g, 0, none⟩ = false ∧ w.frozen? ⟨g, 1, none⟩ = false ∧ w.frozen? ⟨g, 2, none⟩ = false ∧ w.frozen? ⟨g, 3, none⟩ = false ∧ w.frozen? ⟨g, 4, none⟩ = false ∧ w.frozen? ⟨g, 5, none⟩ = false ∧ w.frozen? ⟨g, 6, none⟩ = false :=
  ⟨k.frozen 0, k.frozen 1, k.frozen 2, k.frozen 3, k.frozen 4, k.frozen 5, k.frozen 6⟩

section
variable {w w' : World} {base hi n c : Nat} {A : Option Addr} {l : List Hnt}
theorem Rd.hnt (h : Rd eH w hi A l) {k : Nat} (hk : k < l.length) : ∃ g o a0 a1 a2 a3 a4 a5 a6, A = some ⟨g, o, none⟩ ∧ g < hi ∧ l[k]? = some (a0, (a1, a2, a3, a4), a5, a6) ∧ S7 w g (o + k * 7) a0 a1 a2 a3 a4 a5 a6 := by
  obtain ⟨g, o, ⟨a0, ⟨a1, a2, a3, a4⟩, a5, a6⟩, e, hg, ha, hc⟩ := h.at_ hk
  exact ⟨g, o, a0, a1, a2, a3, a4, a5, a6, e, hg, ha, hc 0 _ rfl, hc 1 _ rfl, hc 2 _ rfl, hc 3 _ rfl, hc 4 _ rfl, hc 5 _ rfl, hc 6 _ rfl⟩
theorem Rd.hnt_is {g o k : Nat} {a0 a1 a2 a3 a4 a5 a6 : Int} (h : Rd eH w hi (some ⟨g, o, none⟩) l) (hk : l[k]? = some (a0, (a1, a2, a3, a4), a5, a6)) : S7 w g (o + k * 7) a0 a1 a2 a3 a4 a5 a6 := by
  obtain ⟨g', o', e, _, hc⟩ := h (by intro e; subst e; simp at hk)
  obtain ⟨rfl, rfl⟩ : g = g' ∧ o = o' := by simpa using Option.some.inj e
  exact ⟨hc k 0 _ _ hk rfl, hc k 1 _ _ hk rfl, hc k 2 _ _ hk rfl, hc k 3 _ _ hk rfl, hc k 4 _ _ hk rfl, hc k 5 _ _ hk rfl, hc k 6 _ _ hk rfl⟩
theorem Ow.hntAt {g : Nat} (h : Ow eH w base (some ⟨g, 0, none⟩) n c l) {k : Nat} {a0 a1 a2 a3 a4 a5 a6 : Int} (hk : l[k]? = some (a0, (a1, a2, a3, a4), a5, a6)) : S7 w g (k * 7) a0 a1 a2 a3 a4 a5 a6 :=
  ⟨h.cellAt okH hk (j := 0) rfl, h.cellAt okH hk (j := 1) rfl, h.cellAt okH hk (j := 2) rfl, h.cellAt okH hk (j := 3) rfl, h.cellAt okH hk (j := 4) rfl, h.cellAt okH hk (j := 5) rfl, h.cellAt okH hk (j := 6) rfl⟩
/-- One number of a hint. -/
theorem Ow.hntPut {g : Nat} (h : Ow eH w base (some ⟨g, 0, none⟩) n c l) {k j : Nat} {x y : Hnt} {u : Value} (hk : l[k]? = some x) (hj : j < 7) (hc : hntCells y = (hntCells x).set j u) :
    Ow eH (w.setCell ⟨g, k * 7 + j, none⟩ u) base (some ⟨g, 0, none⟩) n c (l.set k y) ∧ w.grownBy (w.setCell ⟨g, k * 7 + j, none⟩ u) (some g) :=
  h.stored okH (k := k) (j := j) (a' := y) hk hj hc
/-- A whole hint. -/
theorem Ow.hntSet {g : Nat} (h : Ow eH w base (some ⟨g, 0, none⟩) n c l) {k : Nat} (hk : k < l.length) (b0 b1 b2 b3 b4 b5 b6 : Int) :
    Ow eH (((((((w.setCell ⟨g, k * 7, none⟩ (.int .i64 b0)).setCell ⟨g, k * 7 + 1, none⟩ (.int .i64 b1)).setCell ⟨g, k * 7 + 2, none⟩ (.int .i64 b2)).setCell ⟨g, k * 7 + 3, none⟩ (.int .i64 b3)).setCell ⟨g, k * 7 + 4, none⟩ (.int .i64 b4)).setCell ⟨g, k * 7 + 5, none⟩ (.int .i64 b5)).setCell ⟨g, k * 7 + 6, none⟩ (.int .i64 b6)) base (some ⟨g, 0, none⟩) n c (l.set k (b0, (b1, b2, b3, b4), b5, b6)) ∧
    w.grownBy (((((((w.setCell ⟨g, k * 7, none⟩ (.int .i64 b0)).setCell ⟨g, k * 7 + 1, none⟩ (.int .i64 b1)).setCell ⟨g, k * 7 + 2, none⟩ (.int .i64 b2)).setCell ⟨g, k * 7 + 3, none⟩ (.int .i64 b3)).setCell ⟨g, k * 7 + 4, none⟩ (.int .i64 b4)).setCell ⟨g, k * 7 + 5, none⟩ (.int .i64 b5)).setCell ⟨g, k * 7 + 6, none⟩ (.int .i64 b6)) (some g) := by
  obtain ⟨⟨a0, ⟨a1, a2, a3, a4⟩, a5, a6⟩, ha⟩ : ∃ x, l[k]? = some x := ⟨l[k], List.getElem?_eq_getElem hk⟩
  have h0 := h.hntPut (j := 0) (y := (b0, (a1, a2, a3, a4), a5, a6)) ha (by omega) rfl
  have h1 := h0.1.hntPut (j := 1) (x := (b0, (a1, a2, a3, a4), a5, a6)) (y := (b0, (b1, a2, a3, a4), a5, a6)) (by rw [List.getElem?_set_self (by omega)]) (by omega) rfl
  rw [List.set_set] at h1
  have h2 := h1.1.hntPut (j := 2) (x := (b0, (b1, a2, a3, a4), a5, a6)) (y := (b0, (b1, b2, a3, a4), a5, a6)) (by rw [List.getElem?_set_self (by omega)]) (by omega) rfl
  rw [List.set_set] at h2
  have h3 := h2.1.hntPut (j := 3) (x := (b0, (b1, b2, a3, a4), a5, a6)) (y := (b0, (b1, b2, b3, a4), a5, a6)) (by rw [List.getElem?_set_self (by omega)]) (by omega) rfl
  rw [List.set_set] at h3
  have h4 := h3.1.hntPut (j := 4) (x := (b0, (b1, b2, b3, a4), a5, a6)) (y := (b0, (b1, b2, b3, b4), a5, a6)) (by rw [List.getElem?_set_self (by omega)]) (by omega) rfl
  rw [List.set_set] at h4
  have h5 := h4.1.hntPut (j := 5) (x := (b0, (b1, b2, b3, b4), a5, a6)) (y := (b0, (b1, b2, b3, b4), b5, a6)) (by rw [List.getElem?_set_self (by omega)]) (by omega) rfl
  rw [List.set_set] at h5
  have h6 := h5.1.hntPut (j := 6) (x := (b0, (b1, b2, b3, b4), b5, a6)) (y := (b0, (b1, b2, b3, b4), b5, b6)) (by rw [List.getElem?_set_self (by omega)]) (by omega) rfl
  rw [List.set_set] at h6
  exact ⟨h6.1, grown_trans (grown_trans (grown_trans (grown_trans (grown_trans (grown_trans h0.2 h1.2) h2.2) h3.2) h4.2) h5.2) h6.2⟩
end

theorem eqHint (a0 a1 a2 a3 a4 a5 a6 b0 b1 b2 b3 b4 b5 b6 : Int) (w : World) :
    Calls Tryz.prog 147 #[.agg #[.int .i64 a0, .int .i64 a1, .int .i64 a2, .int .i64 a3, .int .i64 a4, .int .i64 a5, .int .i64 a6], .agg #[.int .i64 b0, .int .i64 b1, .int .i64 b2, .int .i64 b3, .int .i64 b4, .int .i64 b5, .int .i64 b6]] w fun e w' =>
      e = .returned (.bool (decide ((a0, (a1, a2, a3, a4), a5, a6) = (b0, (b1, b2, b3, b4), b5, b6)))) ∧ Below w.heap.size w w' := by
  have hb0 : Below w.heap.size w ((w.alloc (.cells #[.int .i64 a0, .int .i64 a1, .int .i64 a2, .int .i64 a3, .int .i64 a4, .int .i64 a5, .int .i64 a6] 75)).alloc (.cells #[.int .i64 b0, .int .i64 b1, .int .i64 b2, .int .i64 b3, .int .i64 b4, .int .i64 b5, .int .i64 b6] 75)) := ((Below.refl _ _).alloc (Nat.le_refl _) _).alloc (by simp) _
  have x1 : At ((w.alloc (.cells #[.int .i64 a0, .int .i64 a1, .int .i64 a2, .int .i64 a3, .int .i64 a4, .int .i64 a5, .int .i64 a6] 75)).alloc (.cells #[.int .i64 b0, .int .i64 b1, .int .i64 b2, .int .i64 b3, .int .i64 b4, .int .i64 b5, .int .i64 b6] 75)) w.heap.size 75 #[.int .i64 a0, .int .i64 a1, .int .i64 a2, .int .i64 a3, .int .i64 a4, .int .i64 a5, .int .i64 a6] := (At.new w 75 #[.int .i64 a0, .int .i64 a1, .int .i64 a2, .int .i64 a3, .int .i64 a4, .int .i64 a5, .int .i64 a6]).alloc _
  have x2 : At ((w.alloc (.cells #[.int .i64 a0, .int .i64 a1, .int .i64 a2, .int .i64 a3, .int .i64 a4, .int .i64 a5, .int .i64 a6] 75)).alloc (.cells #[.int .i64 b0, .int .i64 b1, .int .i64 b2, .int .i64 b3, .int .i64 b4, .int .i64 b5, .int .i64 b6] 75)) (w.heap.size + 1) 75 #[.int .i64 b0, .int .i64 b1, .int .i64 b2, .int .i64 b3, .int .i64 b4, .int .i64 b5, .int .i64 b6] := by
    have := At.new (w.alloc (.cells #[.int .i64 a0, .int .i64 a1, .int .i64 a2, .int .i64 a3, .int .i64 a4, .int .i64 a5, .int .i64 a6] 75)) 75 #[.int .i64 b0, .int .i64 b1, .int .i64 b2, .int .i64 b3, .int .i64 b4, .int .i64 b5, .int .i64 b6]
    simpa using this
  by_cases h0 : a0 = b0
  rotate_left
  · have hn : (a0 != b0) = true := by rw [bne_iff_ne]; exact h0
    have Hf := Lib.hid (show decide ((a0, (a1, a2, a3, a4), a5, a6) = (b0, (b1, b2, b3, b4), b5, b6)) = false by simp [h0])
    clear h0 x1 x2
    go_enter Tryz.func147, Tryz.ntmps147
    go_wp2
    go_ret
    exact ⟨by rw [Hf.out]; rfl, hb0⟩
  subst h0
  have hn0 : (a0 != a0) = false := by simp
  by_cases h1 : (a1, a2, a3, a4) = (b1, b2, b3, b4)
  rotate_left
  · have Hd := Lib.hid (show decide ((a1, a2, a3, a4) = (b1, b2, b3, b4)) = false by simpa using h1)
    have Hf := Lib.hid (show decide ((a0, (a1, a2, a3, a4), a5, a6) = (a0, (b1, b2, b3, b4), b5, b6)) = false by
      simp only [decide_eq_false_iff_not]
      intro e
      exact h1 (Prod.mk.inj (Prod.mk.inj e).2).1)
    clear h1
    go_enter Tryz.func147, Tryz.ntmps147
    go_wp2_with fail
    refine (eqSample a1 a2 a3 a4 b1 b2 b3 b4 _).mono ?_
    rintro e w1 ⟨rfl, hb1⟩
    rw [Hd.out]
    go_wp2
    go_ret
    exact ⟨by rw [Hf.out]; rfl, hb0.trans (hb1.mono hb0.size)⟩
  obtain ⟨rfl, rfl, rfl, rfl⟩ : a1 = b1 ∧ a2 = b2 ∧ a3 = b3 ∧ a4 = b4 := by simpa using h1
  clear h1
  by_cases h5 : a5 = b5
  rotate_left
  · have hn : (a5 != b5) = true := by rw [bne_iff_ne]; exact h5
    have Hf := Lib.hid (show decide ((a0, (a1, a2, a3, a4), a5, a6) = (a0, (a1, a2, a3, a4), b5, b6)) = false by simp [h5])
    clear h5
    go_enter Tryz.func147, Tryz.ntmps147
    go_wp2_with fail
    refine (eqSample a1 a2 a3 a4 a1 a2 a3 a4 _).mono ?_
    rintro e w1 ⟨he, hb1⟩
    obtain rfl : e = .returned (.bool true) := by rw [he]; simp
    clear he
    obtain ⟨p0, p1, p2, p3, p4, p5, p6⟩ := (x1.below hb1 x1.lt).seven
    obtain ⟨q0, q1, q2, q3, q4, q5, q6⟩ := (x2.below hb1 x2.lt).seven
    go_wp2
    go_ret
    exact ⟨by rw [Hf.out]; rfl, hb0.trans (hb1.mono hb0.size)⟩
  subst h5
  have hn5 : (a5 != a5) = false := by simp
  by_cases h6 : a6 = b6
  rotate_left
  · have hn : (a6 != b6) = true := by rw [bne_iff_ne]; exact h6
    have Hf := Lib.hid (show decide ((a0, (a1, a2, a3, a4), a5, a6) = (a0, (a1, a2, a3, a4), a5, b6)) = false by simp [h6])
    clear h6
    go_enter Tryz.func147, Tryz.ntmps147
    go_wp2_with fail
    refine (eqSample a1 a2 a3 a4 a1 a2 a3 a4 _).mono ?_
    rintro e w1 ⟨he, hb1⟩
    obtain rfl : e = .returned (.bool true) := by rw [he]; simp
    clear he
    obtain ⟨p0, p1, p2, p3, p4, p5, p6⟩ := (x1.below hb1 x1.lt).seven
    obtain ⟨q0, q1, q2, q3, q4, q5, q6⟩ := (x2.below hb1 x2.lt).seven
    go_wp2
    go_ret
    exact ⟨by rw [Hf.out]; rfl, hb0.trans (hb1.mono hb0.size)⟩
  subst h6
  have hn6 : (a6 != a6) = false := by simp
  go_enter Tryz.func147, Tryz.ntmps147
  go_wp2_with fail
  refine (eqSample a1 a2 a3 a4 a1 a2 a3 a4 _).mono ?_
  rintro e w1 ⟨he, hb1⟩
  obtain rfl : e = .returned (.bool true) := by rw [he]; simp
  clear he
  obtain ⟨p0, p1, p2, p3, p4, p5, p6⟩ := (x1.below hb1 x1.lt).seven
  obtain ⟨q0, q1, q2, q3, q4, q5, q6⟩ := (x2.below hb1 x2.lt).seven
  go_wp2
  go_ret
  exact ⟨by simp, hb0.trans (hb1.mono hb0.size)⟩

def EqRelH (xs ys : List Hnt) (w : World) (n : Nat) (i : Value) (wr : World) : Prop :=
  ∃ k : Nat, k ≤ n ∧ i = .int .i64 k ∧ (∀ i, i < k → xs[i]? = ys[i]?) ∧ Below w.heap.size w wr

theorem eqHintS_no (A B : Option Addr) (n m c d : Nat) (w : World) (h : n ≠ m) :
    Calls Tryz.prog 125 #[.slice A n c, .slice B m d] w fun e w' => e = .returned (.bool false) ∧ Below w.heap.size w w' := by
  have hb : ((n : Int) != (m : Int)) = true := by simp; omega
  go_enter Tryz.func125, Tryz.ntmps125
  go_wp2
  go_ret
  exact ⟨rfl, Below.refl _ _⟩

set_option maxHeartbeats 1000000 in
theorem eqHintS_any (A B : Option Addr) (n c d : Nat) (xs ys : List Hnt) (w : World) (ha : Rd eH w w.heap.size A xs) (hb : Rd eH w w.heap.size B ys) (hx : xs.length = n) (hy : ys.length = n) (hm : n ≤ maxLen) :
    Calls Tryz.prog 125 #[.slice A n c, .slice B n d] w fun e w' => e = .returned (.bool (decide (xs = ys))) ∧ Below w.heap.size w w' := by
  have h0 : ((n : Int) != (n : Int)) = false := by simp
  have Hx := Lib.hid hx
  have Hy := Lib.hid hy
  clear hx hy
  unfold maxLen at hm
  go_enter Tryz.func125, Tryz.ntmps125
  go_wp2
  go_loopw [5] (fun i wr => EqRelH xs ys w n i wr) (fun i _ => n - (intOf i).toNat)
  case atStart => exact ⟨0, Nat.zero_le _, rfl, fun _ h => absurd h (by omega), Below.refl _ _⟩
  case round =>
    obtain ⟨k, hk, rfl, hal, hbel⟩ := hrel
    have Hal := Lib.hid hal
    clear hal
    by_cases hlt : k < n
    · obtain ⟨g, o, a0, a1, a2, a3, a4, a5, a6, rfl, hg, hxk, ca⟩ := (ha.below hbel (Nat.le_refl _)).hnt (k := k) (by rw [Hx.out]; exact hlt)
      obtain ⟨g', o', b0, b1, b2, b3, b4, b5, b6, rfl, hg', hyk, cb⟩ := (hb.below hbel (Nat.le_refl _)).hnt (k := k) (by rw [Hy.out]; exact hlt)
      have Hxk := Lib.hid hxk
      have Hyk := Lib.hid hyk
      clear hxk hyk
      have hbd := hbel.drew
      go_wp2
      refine wp_region_mix [(0, false), (1, false), (2, false), (3, false), (4, false), (5, false), (6, false), (7, false), (8, true), (9, false)] (fun u => S7 u g (o + k * 7) a0 a1 a2 a3 a4 a5 a6 ∧ S7 u g' (o' + k * 7) b0 b1 b2 b3 b4 b5 b6) (by kernel_rfl) (by kernel_rfl) (fun _ _ _ _ _ h => h) ⟨ca.drew, cb.drew⟩ ?_
      simp only [mixOps, List.map_cons, List.map_nil, List.getElem?_cons_succ, List.getElem?_cons_zero, Option.getD_some]
      repeat (first
        | (refine mix_skip (by rfl) ?_
           (try simp only [Act.put, List.setIfInBounds_toArray, List.set_cons_zero, List.set_cons_succ]))
        | (refine mix_pure (v := ?_) (by rfl) (fun u hu => ?_) ?_
           rotate_left
           · obtain ⟨⟨_, _, _, _, _, _, _⟩, _, _, _, _, _, _, _⟩ := hu
             go_simp
             (with_reducible rfl)
           (try simp only [Act.put, List.setIfInBounds_toArray, List.set_cons_zero, List.set_cons_succ])))
      refine mix_call (by rfl) (fun K hK => ?_)
      go_simp
      refine (eqHint a0 a1 a2 a3 a4 a5 a6 b0 b1 b2 b3 b4 b5 b6 _).mono ?_
      rintro e w1 ⟨rfl, hb1⟩
      have hB1 := hbd.trans (hb1.mono hbd.size)
      have c1 := ca.drew.below hb1 (Nat.lt_of_lt_of_le hg hbd.size)
      have c2 := cb.drew.below hb1 (Nat.lt_of_lt_of_le hg' hbd.size)
      refine hK _ _ _ (fun _ h => h) ⟨c1, c2⟩ ?_
      (try simp only [Act.put, List.setIfInBounds_toArray, List.set_cons_zero, List.set_cons_succ])
      by_cases he : (a0, (a1, a2, a3, a4), a5, a6) = (b0, (b1, b2, b3, b4), b5, b6)
      · rw [show decide ((a0, (a1, a2, a3, a4), a5, a6) = (b0, (b1, b2, b3, b4), b5, b6)) = true by simpa using he]
        have He := Lib.hid he
        clear he
        refine mix_pure (v := ?_) (by rfl) (fun u hu => ?_) ?_
        rotate_left
        · go_simp
          (with_reducible rfl)
        (try simp only [Act.put, List.setIfInBounds_toArray, List.set_cons_zero, List.set_cons_succ])
        refine mix_nil ?_
        go_wp2
        refine ⟨⟨k + 1, by omega, by go_num, fun i hi => ?_, hB1⟩, by simp [intOf]; omega⟩
        rcases Nat.lt_or_ge i k with h | h
        · exact Hal.out i h
        · obtain rfl : i = k := by omega
          rw [Hxk.out, Hyk.out, He.out]
      · rw [show decide ((a0, (a1, a2, a3, a4), a5, a6) = (b0, (b1, b2, b3, b4), b5, b6)) = false from decide_eq_false he]
        have hfin : decide (xs = ys) = false := by
          simp only [decide_eq_false_iff_not]
          rintro rfl
          exact he (Option.some.inj (Hxk.out.symm.trans Hyk.out))
        have Hf := Lib.hid hfin
        clear he hfin
        refine mix_pure (v := ?_) (by rfl) (fun u hu => ?_) ?_
        rotate_left
        · go_simp
          (with_reducible rfl)
        (try simp only [Act.put, List.setIfInBounds_toArray, List.set_cons_zero, List.set_cons_succ])
        refine mix_nil ?_
        go_wp2
        go_ret
        exact ⟨by rw [Hf.out]; rfl, hB1⟩
    · have hfin : decide (xs = ys) = true := by
        obtain rfl : k = n := by omega
        simp only [decide_eq_true_eq]
        exact alike_all' Hx.out Hy.out Hal.out
      have Hf := Lib.hid hfin
      clear hfin
      go_wp2
      go_ret
      exact ⟨by rw [Hf.out]; rfl, hbel⟩

/-- Two rows of hints compared, whatever their lengths. -/
theorem eqHintS (A B : Option Addr) (n m c d : Nat) (xs ys : List Hnt) (w : World) (ha : Rd eH w w.heap.size A xs) (hb : Rd eH w w.heap.size B ys) (hx : xs.length = n) (hy : ys.length = m) (hm : n ≤ maxLen) :
    Calls Tryz.prog 125 #[.slice A n c, .slice B m d] w fun e w' => e = .returned (.bool (decide (xs = ys))) ∧ Below w.heap.size w w' := by
  by_cases h : n = m
  · subst h
    exact eqHintS_any A B n c d xs ys w ha hb hx hy hm
  · have hd : decide (xs = ys) = false := by
      simp only [decide_eq_false_iff_not]
      rintro rfl
      exact h (hx.symm.trans hy)
    rw [hd]
    exact eqHintS_no A B n m c d w h

end Go.Proofs.YtmaillakhhdkfaaGreatDoor
/-
  Rows of records: how they lie in memory.
-/
namespace Go.Proofs.YtmaillakhhdkfaaGreatDoor
set_option maxRecDepth 20000
open Go.RowKit
set_option linter.unusedSimpArgs false

/-- A record: its kind, its node, its sample, its number. -/
abbrev Rcd := Int × Int × Smp × Int
def rcdCells (x : Rcd) : List Value := [.int .i64 x.1, .int .i64 x.2.1, .int .i64 x.2.2.1.1, .int .i64 x.2.2.1.2.1, .int .i64 x.2.2.1.2.2.1, .int .i64 x.2.2.1.2.2.2, .int .i64 x.2.2.2]
theorem rcd_one (a : Rcd) (u : Value) (hu : u ∈ rcdCells a) : u.oneCell' = true := by
  simp only [rcdCells, List.mem_cons, List.not_mem_nil, or_false] at hu
  rcases hu with rfl | rfl | rfl | rfl | rfl | rfl | rfl <;> rfl
/-- Records. -/
def eR : Enc Rcd := ⟨27, 7, rcdCells⟩
theorem okR : EncOk eR := ⟨fun _ => rfl, rcd_one, by decide⟩
abbrev zeroR : Rcd := (0, 0, (0, 0, 0, 0), 0)
theorem info_rcd : (Tryz.prog.info? 27).map (fun i => (i.zero, i.size, i.bytes)) = some (some (.agg #[.int .i64 0, .int .i64 0, .int .i64 0, .int .i64 0, .int .i64 0, .int .i64 0, .int .i64 0]), 7, 56) := by kernel_rfl

section
variable {w w' : World} {base hi n c : Nat} {A : Option Addr} {l : List Rcd}
theorem Rd.rcd (h : Rd eR w hi A l) {k : Nat} (hk : k < l.length) : ∃ g o a0 a1 a2 a3 a4 a5 a6, A = some ⟨g, o, none⟩ ∧ g < hi ∧ l[k]? = some (a0, a1, (a2, a3, a4, a5), a6) ∧ S7 w g (o + k * 7) a0 a1 a2 a3 a4 a5 a6 := by
  obtain ⟨g, o, ⟨a0, a1, ⟨a2, a3, a4, a5⟩, a6⟩, e, hg, ha, hc⟩ := h.at_ hk
  exact ⟨g, o, a0, a1, a2, a3, a4, a5, a6, e, hg, ha, hc 0 _ rfl, hc 1 _ rfl, hc 2 _ rfl, hc 3 _ rfl, hc 4 _ rfl, hc 5 _ rfl, hc 6 _ rfl⟩
theorem Rd.rcd_is {g o k : Nat} {a0 a1 a2 a3 a4 a5 a6 : Int} (h : Rd eR w hi (some ⟨g, o, none⟩) l) (hk : l[k]? = some (a0, a1, (a2, a3, a4, a5), a6)) : S7 w g (o + k * 7) a0 a1 a2 a3 a4 a5 a6 := by
  obtain ⟨g', o', e, _, hc⟩ := h (by intro e; subst e; simp at hk)
  obtain ⟨rfl, rfl⟩ : g = g' ∧ o = o' := by simpa using Option.some.inj e
  exact ⟨hc k 0 _ _ hk rfl, hc k 1 _ _ hk rfl, hc k 2 _ _ hk rfl, hc k 3 _ _ hk rfl, hc k 4 _ _ hk rfl, hc k 5 _ _ hk rfl, hc k 6 _ _ hk rfl⟩
theorem Ow.rcdAt {g : Nat} (h : Ow eR w base (some ⟨g, 0, none⟩) n c l) {k : Nat} {a0 a1 a2 a3 a4 a5 a6 : Int} (hk : l[k]? = some (a0, a1, (a2, a3, a4, a5), a6)) : S7 w g (k * 7) a0 a1 a2 a3 a4 a5 a6 :=
  ⟨h.cellAt okR hk (j := 0) rfl, h.cellAt okR hk (j := 1) rfl, h.cellAt okR hk (j := 2) rfl, h.cellAt okR hk (j := 3) rfl, h.cellAt okR hk (j := 4) rfl, h.cellAt okR hk (j := 5) rfl, h.cellAt okR hk (j := 6) rfl⟩
end
end Go.Proofs.YtmaillakhhdkfaaGreatDoor
/-
  One record: the law's own copying and comparing of it.
-/
namespace Go.Proofs.YtmaillakhhdkfaaGreatDoor
set_option maxRecDepth 20000
open Go.RowKit
set_option linter.unusedSimpArgs false
set_option linter.unusedVariables false

set_option maxHeartbeats 2000000 in
theorem eqRecord (a0 a1 a2 a3 a4 a5 a6 b0 b1 b2 b3 b4 b5 b6 : Int) (w : World) :
    Calls Tryz.prog 126 #[.agg #[.int .i64 a0, .int .i64 a1, .int .i64 a2, .int .i64 a3, .int .i64 a4, .int .i64 a5, .int .i64 a6], .agg #[.int .i64 b0, .int .i64 b1, .int .i64 b2, .int .i64 b3, .int .i64 b4, .int .i64 b5, .int .i64 b6]] w fun e w' => e = .returned (.bool (decide ((a0, a1, (a2, a3, a4, a5), a6) = (b0, b1, (b2, b3, b4, b5), b6)))) ∧ Below w.heap.size w w' := by
  have hb0 : Below w.heap.size w ((w.alloc (.cells #[.int .i64 a0, .int .i64 a1, .int .i64 a2, .int .i64 a3, .int .i64 a4, .int .i64 a5, .int .i64 a6] 27)).alloc (.cells #[.int .i64 b0, .int .i64 b1, .int .i64 b2, .int .i64 b3, .int .i64 b4, .int .i64 b5, .int .i64 b6] 27)) := ((Below.refl _ _).alloc (Nat.le_refl _) _).alloc (by simp) _
  have x1 := (At.new w 27 #[.int .i64 a0, .int .i64 a1, .int .i64 a2, .int .i64 a3, .int .i64 a4, .int .i64 a5, .int .i64 a6]).alloc (.cells #[.int .i64 b0, .int .i64 b1, .int .i64 b2, .int .i64 b3, .int .i64 b4, .int .i64 b5, .int .i64 b6] 27)
  have x2 : At ((w.alloc (.cells #[.int .i64 a0, .int .i64 a1, .int .i64 a2, .int .i64 a3, .int .i64 a4, .int .i64 a5, .int .i64 a6] 27)).alloc (.cells #[.int .i64 b0, .int .i64 b1, .int .i64 b2, .int .i64 b3, .int .i64 b4, .int .i64 b5, .int .i64 b6] 27)) (w.heap.size + 1) 27 #[.int .i64 b0, .int .i64 b1, .int .i64 b2, .int .i64 b3, .int .i64 b4, .int .i64 b5, .int .i64 b6] := by
    have := At.new (w.alloc (.cells #[.int .i64 a0, .int .i64 a1, .int .i64 a2, .int .i64 a3, .int .i64 a4, .int .i64 a5, .int .i64 a6] 27)) 27 #[.int .i64 b0, .int .i64 b1, .int .i64 b2, .int .i64 b3, .int .i64 b4, .int .i64 b5, .int .i64 b6]
    simpa using this
  by_cases h0 : a0 = b0
  rotate_left
  · have hn : (a0 != b0) = true := by rw [bne_iff_ne]; exact h0
    have Hf := Lib.hid (show decide ((a0, a1, (a2, a3, a4, a5), a6) = (b0, b1, (b2, b3, b4, b5), b6)) = false by simp [h0])
    clear h0 x1 x2
    go_enter Tryz.func126, Tryz.ntmps126
    go_wp2
    go_ret
    exact ⟨by rw [Hf.out]; rfl, hb0⟩
  subst h0
  have hn0 : (a0 != a0) = false := by simp
  by_cases h1 : a1 = b1
  rotate_left
  · have hn : (a1 != b1) = true := by rw [bne_iff_ne]; exact h1
    have Hf := Lib.hid (show decide ((a0, a1, (a2, a3, a4, a5), a6) = (a0, b1, (b2, b3, b4, b5), b6)) = false by simp [h1])
    clear h1 x1 x2
    go_enter Tryz.func126, Tryz.ntmps126
    go_wp2
    go_ret
    exact ⟨by rw [Hf.out]; rfl, hb0⟩
  subst h1
  have hn1 : (a1 != a1) = false := by simp
  by_cases h2 : (a2, a3, a4, a5) = (b2, b3, b4, b5)
  rotate_left
  · have Hd := Lib.hid (show decide ((a2, a3, a4, a5) = (b2, b3, b4, b5)) = false by simpa using h2)
    have Hf := Lib.hid (show decide ((a0, a1, (a2, a3, a4, a5), a6) = (a0, a1, (b2, b3, b4, b5), b6)) = false by
      simp only [decide_eq_false_iff_not]
      intro e
      exact h2 (Prod.mk.inj (Prod.mk.inj (Prod.mk.inj e).2).2).1)
    clear h2
    go_enter Tryz.func126, Tryz.ntmps126
    go_wp2_with fail
    refine (eqSample a2 a3 a4 a5 b2 b3 b4 b5 _).mono ?_
    rintro e w1 ⟨rfl, hb1⟩
    rw [Hd.out]
    go_wp2
    go_ret
    exact ⟨by rw [Hf.out]; rfl, hb0.trans (hb1.mono hb0.size)⟩
  obtain ⟨rfl, rfl, rfl, rfl⟩ : a2 = b2 ∧ a3 = b3 ∧ a4 = b4 ∧ a5 = b5 := by simpa using h2
  clear h2
  by_cases h6 : a6 = b6
  rotate_left
  · have hn : (a6 != b6) = true := by rw [bne_iff_ne]; exact h6
    have Hf := Lib.hid (show decide ((a0, a1, (a2, a3, a4, a5), a6) = (a0, a1, (a2, a3, a4, a5), b6)) = false by simp [h6])
    clear h6
    go_enter Tryz.func126, Tryz.ntmps126
    go_wp2_with fail
    refine (eqSample a2 a3 a4 a5 a2 a3 a4 a5 _).mono ?_
    rintro e w1 ⟨he, hb1⟩
    obtain rfl : e = .returned (.bool true) := by rw [he]; simp
    clear he
    obtain ⟨p0, p1, p2, p3, p4, p5, p6⟩ := (x1.below hb1 x1.lt).seven
    obtain ⟨q0, q1, q2, q3, q4, q5, q6⟩ := (x2.below hb1 x2.lt).seven
    go_wp2
    go_ret
    exact ⟨by rw [Hf.out]; rfl, hb0.trans (hb1.mono hb0.size)⟩
  subst h6
  have hn6 : (a6 != a6) = false := by simp
  go_enter Tryz.func126, Tryz.ntmps126
  go_wp2_with fail
  refine (eqSample a2 a3 a4 a5 a2 a3 a4 a5 _).mono ?_
  rintro e w1 ⟨he, hb1⟩
  obtain rfl : e = .returned (.bool true) := by rw [he]; simp
  clear he
  obtain ⟨p0, p1, p2, p3, p4, p5, p6⟩ := (x1.below hb1 x1.lt).seven
  obtain ⟨q0, q1, q2, q3, q4, q5, q6⟩ := (x2.below hb1 x2.lt).seven
  go_wp2
  go_ret
  exact ⟨by simp, hb0.trans (hb1.mono hb0.size)⟩
end Go.Proofs.YtmaillakhhdkfaaGreatDoor
/-
  Two answers that hold a record, held against one another as the law does it.
-/
namespace Go.Proofs.YtmaillakhhdkfaaGreatDoor
set_option maxRecDepth 20000
open Go.RowKit
set_option linter.unusedSimpArgs false
set_option linter.unusedVariables false

theorem At.eightR {w : World} {g : Nat} {t : TypeId} {a b c d e f h i : Value} (k : At w g t #[a, b, c, d, e, f, h, i]) : w.cell? ⟨g, 0, none⟩ = some a ∧ w.cell? ⟨g, 1, none⟩ = some b ∧ w.cell? ⟨g, 2, none⟩ = some c ∧ w.cell? ⟨g, 3, none⟩ = some d ∧ w.cell? ⟨g, 4, none⟩ = some e ∧ w.cell? ⟨g, 5, none⟩ = some f ∧ w.cell? ⟨g, 6, none⟩ = some h ∧ w.cell? ⟨g, 7, none⟩ = some i :=
  ⟨k.cell 0, k.cell 1, k.cell 2, k.cell 3, k.cell 4, k.cell 5, k.cell 6, k.cell 7⟩
end Go.Proofs.YtmaillakhhdkfaaGreatDoor
namespace Go.Proofs.YtmaillakhhdkfaaGreatDoor
set_option maxRecDepth 20000
open Go.RowKit

/-- An answer of a code and a number. -/
def RetIR (r : Int × Int) (w : World) (e : Ending) (w' : World) : Prop :=
  e = .returned (.agg #[.int .i64 r.1, .int .i64 r.2]) ∧ Below w.heap.size w w'

end Go.Proofs.YtmaillakhhdkfaaGreatDoor
/-
  How long one waits: two to the power of the tries: the model's and the program's.
-/
namespace Go.Proofs.YtmaillakhhdkfaaGreatDoor
set_option maxRecDepth 20000
open Go.RowKit
set_option linter.unusedSimpArgs false

def pw (j : Nat) : Int := (2 : Int) ^ j
theorem pw_next (j : Nat) : pw (j + 1) = pw j * 2 := by unfold pw; rw [Int.pow_succ]
theorem pw_le {j : Nat} (h : j ≤ 4) : 1 ≤ pw j ∧ pw j ≤ 16 := by
  rcases (show j = 0 ∨ j = 1 ∨ j = 2 ∨ j = 3 ∨ j = 4 by omega) with rfl | rfl | rfl | rfl | rfl <;> decide
def backM (t : Int) : Int × Int := if inB (t, 0, 4) then (0, pw t.toNat) else (3, 0)
theorem backM_no {t : Int} (h : inB (t, 0, 4) = false) : backM t = (3, 0) := by unfold backM; rw [h]; rfl
theorem backM_yes {t : Int} (h : inB (t, 0, 4) = true) : backM t = (0, pw t.toNat) := by unfold backM; rw [h]; rfl

theorem pw_shl {n : Nat} (hn : n ≤ 4) : wrap64 ((2 : Int) ^ n) = pw n := by
  rcases (show n = 0 ∨ n = 1 ∨ n = 2 ∨ n = 3 ∨ n = 4 by omega) with rfl | rfl | rfl | rfl | rfl <;> first | decide +kernel | simp [pw, wrap64]

end Go.Proofs.YtmaillakhhdkfaaGreatDoor
/-
  What is asked of hints, of the pure answers: faults, one looked for, put, done, due, sent; a queue of hints by their keys.
-/
namespace Go.Proofs.YtmaillakhhdkfaaGreatDoor
set_option maxRecDepth 20000
open Go.RowKit
set_option linter.unusedSimpArgs false
set_option linter.unusedVariables false

abbrev idH (x : Hnt) : Int := x.2.1.2.2.1
def sameH (a b : Hnt) : Bool := decide (a.1 = b.1) && decide (idH a = idH b)
theorem sameH_iff (a b : Hnt) : sameH a b = true ↔ a.1 = b.1 ∧ idH a = idH b := by unfold sameH; simp
theorem sameH_self (a : Hnt) : sameH a a = true := (sameH_iff a a).2 ⟨rfl, rfl⟩
theorem sameH_comm (a b : Hnt) : sameH a b = sameH b a := by
  rw [Bool.eq_iff_iff, sameH_iff, sameH_iff]
  exact ⟨fun h => ⟨h.1.symm, h.2.symm⟩, fun h => ⟨h.1.symm, h.2.symm⟩⟩
theorem sameH_trans {a b c : Hnt} (h : sameH a b = true) : sameH a c = sameH b c := by
  obtain ⟨h1, h2⟩ := (sameH_iff a b).1 h
  rw [Bool.eq_iff_iff, sameH_iff, sameH_iff, h1, h2]

def rangeH (h : Hnt) : Bool := inB (h.1, 0, 3) && (inB (h.2.2.1, 0, 4) && inB (h.2.2.2, 0, 200000))
def hfaultM (h : Hnt) : Int := if faultM h.2.1 ≠ 0 then 3 else if rangeH h then 0 else 3
theorem hfault_or (h : Hnt) : hfaultM h = 0 ∨ hfaultM h = 3 := by
  unfold hfaultM
  split
  · exact .inr rfl
  · split
    · exact .inl rfl
    · exact .inr rfl
theorem hfault_smp {h : Hnt} (k : faultM h.2.1 = 3) : hfaultM h = 3 := by unfold hfaultM; rw [if_pos (by simp [k])]
theorem hfault_yes {h : Hnt} (k : faultM h.2.1 = 0) (r : rangeH h = true) : hfaultM h = 0 := by unfold hfaultM; rw [if_neg (by simp [k]), if_pos r]
theorem hfault_no {h : Hnt} (k : faultM h.2.1 = 0) (r : rangeH h = false) : hfaultM h = 3 := by unfold hfaultM; rw [if_neg (by simp [k]), if_neg (by simp [r])]
theorem hfault_zero {h : Hnt} (k : hfaultM h = 0) : faultM h.2.1 = 0 ∧ rangeH h = true := by
  rcases faultM_or h.2.1 with hf | hf
  · rcases hr : rangeH h
    · rw [hfault_no hf hr] at k
      cases k
    · exact ⟨hf, rfl⟩
  · rw [hfault_smp hf] at k
    cases k

def rightHM (l : List Hnt) : Bool := l.all fun x => decide (hfaultM x = 0)
/-- No two are for one node and have one Id. -/
def Dis (l : List Hnt) : Prop := l.Pairwise fun a b => sameH a b = false
instance (l : List Hnt) : Decidable (Dis l) := inferInstanceAs (Decidable (List.Pairwise _ l))
def hintsFaultM (l : List Hnt) : Int := if 8 < l.length then 2 else if rightHM l = false then 3 else if Dis l then 0 else 6
theorem hintsFault_many {l : List Hnt} (h : 8 < l.length) : hintsFaultM l = 2 := if_pos h
theorem hintsFault_wrong {l : List Hnt} {k : Nat} {x : Hnt} (h : ¬ 8 < l.length) (hx : l[k]? = some x) (hf : hfaultM x = 3) : hintsFaultM l = 3 := by
  have hr : rightHM l = false := by
    unfold rightHM
    rw [List.all_eq_false]
    exact ⟨x, List.mem_of_getElem? hx, by simp [hf]⟩
  unfold hintsFaultM
  rw [if_neg h, if_pos hr]
theorem rightHM_of {l : List Hnt} {n : Nat} (hn : l.length = n) (hal : ∀ j x, j < n → l[j]? = some x → hfaultM x = 0) : rightHM l = true := by
  unfold rightHM
  rw [List.all_eq_true]
  intro x hx
  obtain ⟨j, hj⟩ := List.mem_iff_getElem?.1 hx
  exact decide_eq_true (hal j x (by have := getElem?_some_lt hj; omega) hj)
theorem hintsFault_taken {l : List Hnt} (h : ¬ 8 < l.length) (hr : rightHM l = true) (hd : ¬ Dis l) : hintsFaultM l = 6 := by
  unfold hintsFaultM
  rw [if_neg h, if_neg (by simp [hr]), if_neg hd]
theorem hintsFault_ok {l : List Hnt} (h : ¬ 8 < l.length) (hr : rightHM l = true) (hd : Dis l) : hintsFaultM l = 0 := by
  unfold hintsFaultM
  rw [if_neg h, if_neg (by simp [hr]), if_pos hd]
theorem hintsFault_iff (l : List Hnt) : hintsFaultM l = 0 ↔ l.length ≤ 8 ∧ (∀ x ∈ l, hfaultM x = 0) ∧ Dis l := by
  constructor
  · intro h
    unfold hintsFaultM at h
    by_cases h1 : 8 < l.length
    · rw [if_pos h1] at h; cases h
    · rw [if_neg h1] at h
      by_cases h2 : rightHM l = false
      · rw [if_pos h2] at h; cases h
      · rw [if_neg h2] at h
        by_cases h3 : Dis l
        · refine ⟨by omega, fun x hx => ?_, h3⟩
          have : rightHM l = true := by simpa using h2
          unfold rightHM at this
          rw [List.all_eq_true] at this
          exact of_decide_eq_true (this x hx)
        · rw [if_neg h3] at h; cases h
  · rintro ⟨h1, h2, h3⟩
    refine hintsFault_ok (by omega) ?_ h3
    unfold rightHM
    rw [List.all_eq_true]
    exact fun x hx => decide_eq_true (h2 x hx)

/-- One is looked for. -/
def hitH (l : List Hnt) (p i : Int) (k : Nat) : Bool := match l[k]? with | some a => decide (a.1 = p) && decide (idH a = i) | none => false
theorem hitH_at {l : List Hnt} {p i : Int} {k : Nat} {a : Hnt} (h : l[k]? = some a) : hitH l p i k = (decide (a.1 = p) && decide (idH a = i)) := by
  unfold hitH
  rw [h]
def findH (l : List Hnt) (p i : Int) : Option Nat := (List.range l.length).find? (hitH l p i)
def findHI (l : List Hnt) (p i : Int) : Int := match findH l p i with | some k => (k : Int) | none => -1
theorem findH_some {l : List Hnt} {p i : Int} {k : Nat} (hk : k < l.length) (h : hitH l p i k = true) (hal : ∀ j, j < k → hitH l p i j = false) : findH l p i = some k := by
  unfold findH
  rw [List.find?_range_eq_some]
  exact ⟨h, by simpa using hk, fun j hj => by simp [hal j hj]⟩
theorem findH_none {l : List Hnt} {p i : Int} (hal : ∀ j, j < l.length → hitH l p i j = false) : findH l p i = none := by
  unfold findH
  rw [List.find?_range_eq_none]
  exact fun j hj => by simp [hal j hj]
theorem findH_is {l : List Hnt} {p i : Int} {k : Nat} (h : findH l p i = some k) : k < l.length ∧ hitH l p i k = true ∧ ∀ j, j < k → hitH l p i j = false := by
  unfold findH at h
  rw [List.find?_range_eq_some] at h
  refine ⟨by simpa using h.2.1, h.1, fun j hj => by simpa using h.2.2 j hj⟩
theorem findHI_some {l : List Hnt} {p i : Int} {k : Nat} (hk : k < l.length) (h : hitH l p i k = true) (hal : ∀ j, j < k → hitH l p i j = false) : findHI l p i = (k : Int) := by
  unfold findHI
  rw [findH_some hk h hal]
theorem findHI_none {l : List Hnt} {p i : Int} {n : Nat} (hn : l.length = n) (hal : ∀ j, j < n → hitH l p i j = false) : findHI l p i = -1 := by
  unfold findHI
  rw [findH_none (by rw [hn]; exact hal)]
theorem findHI_or (l : List Hnt) (p i : Int) : (findHI l p i = -1 ∧ findH l p i = none) ∨ ∃ k : Nat, findHI l p i = (k : Int) ∧ findH l p i = some k ∧ k < l.length := by
  unfold findHI
  rcases h : findH l p i with _ | k
  · exact .inl ⟨rfl, rfl⟩
  · exact .inr ⟨k, rfl, rfl, (findH_is h).1⟩
theorem findHI_self {l : List Hnt} (hd : Dis l) {k : Nat} {a : Hnt} (h : l[k]? = some a) : findHI l a.1 (idH a) = (k : Int) := by
  refine findHI_some (getElem?_some_lt h) (by rw [hitH_at h]; simp) fun j hj => ?_
  have hk := getElem?_some_lt h
  have hjl : j < l.length := by omega
  rw [hitH_at (List.getElem?_eq_getElem hjl)]
  have := (List.pairwise_iff_getElem.1 hd) j k hjl hk hj
  rw [List.getElem?_eq_getElem hk] at h
  rw [Option.some.inj h] at this
  exact this
/-- Whether each is found at its own place tells whether no two are alike. -/
theorem dis_of {l : List Hnt} (h : ∀ (k : Nat) (a : Hnt), l[k]? = some a → findHI l a.1 (idH a) = (k : Int)) : Dis l := by
  refine List.pairwise_iff_getElem.2 fun i j hi hj hij => ?_
  rcases hs : sameH l[i] l[j]
  · rfl
  · exfalso
    obtain ⟨h1, h2⟩ := (sameH_iff _ _).1 hs
    have hf := h j _ (List.getElem?_eq_getElem hj)
    rcases findHI_or l l[j].1 (idH l[j]) with ⟨h3, _⟩ | ⟨k, h3, h4, _⟩
    · omega
    · obtain rfl : k = j := by omega
      have := (findH_is h4).2.2 i hij
      rw [hitH_at (List.getElem?_eq_getElem hi), h1, h2] at this
      simp at this

/-- What AddHint, DoneHint, DueHints, SentHint answer. -/
def addM (l : List Hnt) (p : Int) (x : Smp) : Int × List Hnt :=
  if hintsFaultM l ≠ 0 then (hintsFaultM l, []) else if faultM x ≠ 0 then (3, []) else if inB (p, 0, 3) = false then (3, []) else if 0 ≤ findHI l p x.2.2.1 then (6, []) else if 8 ≤ l.length then (7, []) else (0, l ++ [(p, x, 0, 0)])
def doneM (l : List Hnt) (p i : Int) : Int × List Hnt :=
  if hintsFaultM l ≠ 0 then (hintsFaultM l, []) else match findH l p i with | none => (4, []) | some k => (0, l.take k ++ l.drop (k + 1))
def dueL (l : List Hnt) (now : Int) : List Hnt := l.filter fun h => decide (h.2.2.2 ≤ now)
def dueM (l : List Hnt) (now : Int) : Int × List Hnt :=
  if hintsFaultM l ≠ 0 then (hintsFaultM l, []) else (0, dueL l now)
def sentH (now : Int) (h : Hnt) : Hnt := (h.1, h.2.1, (if h.2.2.1 + 1 < 4 then h.2.2.1 + 1 else 4), now + pw h.2.2.1.toNat)
def sentM (l : List Hnt) (p i now : Int) : Int × List Hnt :=
  if hintsFaultM l ≠ 0 then (hintsFaultM l, []) else if inB (now, 0, 100000) = false then (3, []) else match findH l p i with | none => (4, []) | some k => (0, l.set k (sentH now (l[k]?.getD zeroH)))
theorem take_nextH {α : Type} {l : List α} {k : Nat} {a : α} (h : l[k]? = some a) : l.take (k + 1) = l.take k ++ [a] := by
  have hl := getElem?_some_lt h
  rw [List.take_succ_eq_append_getElem hl]
  rw [List.getElem?_eq_getElem hl] at h
  rw [Option.some.inj h]
theorem due_next {l : List Hnt} {k : Nat} {a : Hnt} (now : Int) (h : l[k]? = some a) : dueL (l.take (k + 1)) now = dueL (l.take k) now ++ (if a.2.2.2 ≤ now then [a] else []) := by
  unfold dueL
  rw [take_nextH h, List.filter_append]
  congr 1
  simp [List.filter_cons]
theorem due_le (l : List Hnt) (now : Int) : (dueL l now).length ≤ l.length := List.length_filter_le _ _
theorem dueM_le (l : List Hnt) (now : Int) : (dueM l now).2.length ≤ l.length := by
  unfold dueM
  split
  · simp
  · exact due_le l now
theorem doneM_le (l : List Hnt) (p i : Int) : (doneM l p i).2.length ≤ l.length := by
  unfold doneM
  split
  · simp
  · split
    · simp
    · simp only [List.length_append, List.length_take, List.length_drop]
      omega
theorem sentM_le (l : List Hnt) (p i now : Int) : (sentM l p i now).2.length ≤ l.length := by
  unfold sentM
  repeat (first | split | simp)
theorem addM_le (l : List Hnt) (p : Int) (x : Smp) : (addM l p x).2.length ≤ l.length + 1 := by
  unfold addM
  repeat (first | split | simp)

/-- A queue: hints with their turns. -/
abbrev Qd := Int × Hnt
def putQ (t : Int) (h : Hnt) : List Qd → List Qd
  | [] => [(t, h)]
  | x :: L => if sameH h x.2 then (x.1, h) :: L else x :: putQ t h L
def firstQ (L : List Qd) (h : Hnt) : Option Qd := L.find? fun x => sameH h x.2
def eraseQ (h : Hnt) : List Qd → List Qd
  | [] => []
  | x :: L => if sameH h x.2 then L else x :: eraseQ h L
theorem putQ_new (t : Int) (h : Hnt) : ∀ {L : List Qd}, firstQ L h = none → putQ t h L = L ++ [(t, h)]
  | [], _ => rfl
  | x :: L, hn => by
    unfold firstQ at hn
    rw [List.find?_cons] at hn
    rcases hs : sameH h x.2
    · rw [hs] at hn
      have := putQ_new t h (L := L) hn
      unfold putQ
      rw [hs, this]
      rfl
    · rw [hs] at hn
      cases hn
theorem putQ_len (t : Int) (h : Hnt) : ∀ L : List Qd, (putQ t h L).length = if (firstQ L h).isSome then L.length else L.length + 1
  | [] => rfl
  | x :: L => by
    have ih := putQ_len t h L
    rcases hs : sameH h x.2
    · have e1 : putQ t h (x :: L) = x :: putQ t h L := by rw [putQ, hs]; rfl
      have e2 : firstQ (x :: L) h = firstQ L h := by unfold firstQ; rw [List.find?_cons, hs]
      rw [e1, e2, List.length_cons, ih, List.length_cons]
      split <;> rfl
    · have e1 : putQ t h (x :: L) = (x.1, h) :: L := by rw [putQ, hs]; rfl
      have e2 : firstQ (x :: L) h = some x := by unfold firstQ; rw [List.find?_cons, hs]
      rw [e1, e2]
      simp
theorem firstQ_none {L : List Qd} {h : Hnt} : firstQ L h = none ↔ ∀ x ∈ L.map Prod.snd, sameH h x = false := by
  unfold firstQ
  rw [List.find?_eq_none]
  constructor
  · intro k x hx
    obtain ⟨y, hy, rfl⟩ := List.mem_map.1 hx
    simpa using k y hy
  · intro k x hx
    have := k x.2 (List.mem_map.2 ⟨x, hx, rfl⟩)
    simp [this]
/-- One is laid at its key. -/
def setQ (x : Qd) : List Qd → List Qd
  | [] => [x]
  | a :: L => if sameH x.2 a.2 then x :: L else a :: setQ x L
def turnQ (t : Int) (h : Hnt) (L : List Qd) : Int := match firstQ L h with | some x => x.1 | none => t
theorem putQ_set (t : Int) (h : Hnt) : ∀ L : List Qd, putQ t h L = setQ (turnQ t h L, h) L
  | [] => rfl
  | x :: L => by
    have ih := putQ_set t h L
    rcases hs : sameH h x.2
    · have e2 : firstQ (x :: L) h = firstQ L h := by unfold firstQ; rw [List.find?_cons, hs]
      have e3 : turnQ t h (x :: L) = turnQ t h L := by unfold turnQ; rw [e2]
      rw [e3, putQ, setQ, hs, ih]
      rfl
    · have e2 : firstQ (x :: L) h = some x := by unfold firstQ; rw [List.find?_cons, hs]
      have e3 : turnQ t h (x :: L) = x.1 := by unfold turnQ; rw [e2]
      rw [e3, putQ, setQ, hs]
      rfl
/-- The queue of a list, turn by turn. -/
def queueN (L : List Qd) (t : Nat) : List Hnt → List Qd
  | [] => L
  | h :: l => queueN (putQ (t : Int) h L) (t + 1) l
def queueM (l : List Hnt) : List Qd := queueN [] 0 l
theorem queueN_append (h : Hnt) : ∀ (l : List Hnt) (L : List Qd) (t : Nat), queueN L t (l ++ [h]) = putQ ((t + l.length : Nat) : Int) h (queueN L t l)
  | [], L, t => rfl
  | x :: l, L, t => by
    have := queueN_append h l (putQ (t : Int) x L) (t + 1)
    simp only [List.cons_append, queueN, List.length_cons]
    rw [this]
    congr 2
    omega
theorem queue_next {l : List Hnt} {k : Nat} {a : Hnt} (h : l[k]? = some a) : queueM (l.take (k + 1)) = putQ (k : Int) a (queueM (l.take k)) := by
  have hl := getElem?_some_lt h
  unfold queueM
  rw [take_nextH h, queueN_append, Nat.zero_add, List.length_take, Nat.min_eq_left (by omega)]
/-- A list turn by turn. -/
def zipQ (l : List Hnt) : List Qd := (List.range l.length).map fun (i : Nat) => ((i : Int), (l[i]?).getD zeroH)
theorem zipQ_append (l : List Hnt) (h : Hnt) : zipQ (l ++ [h]) = zipQ l ++ [((l.length : Int), h)] := by
  unfold zipQ
  rw [List.length_append, List.length_singleton, List.range_succ, List.map_append]
  congr 1
  · apply List.map_congr_left
    intro i hi
    have := List.mem_range.1 hi
    rw [List.getElem?_append_left this]
  · simp
theorem zipQ_snd (l : List Hnt) : (zipQ l).map Prod.snd = l := by
  apply List.ext_getElem?
  intro i
  unfold zipQ
  rw [List.map_map, List.getElem?_map]
  rcases Nat.lt_or_ge i l.length with h | h
  · rw [List.getElem?_range h, Option.map_some]
    simp [List.getElem?_eq_getElem h]
  · rw [List.getElem?_eq_none (by simpa using h), List.getElem?_eq_none h]
    rfl
theorem dis_append {l : List Hnt} {h : Hnt} : Dis (l ++ [h]) ↔ Dis l ∧ ∀ x ∈ l, sameH x h = false := by
  unfold Dis
  rw [List.pairwise_append]
  simp
theorem queue_all (l : List Hnt) : (Dis l → queueM l = zipQ l) ∧ (¬ Dis l → (queueM l).length < l.length) ∧ (queueM l).length ≤ l.length := by
  have step : ∀ k, k ≤ l.length → (Dis (l.take k) → queueM (l.take k) = zipQ (l.take k)) ∧ (¬ Dis (l.take k) → (queueM (l.take k)).length < k) ∧ (queueM (l.take k)).length ≤ k := by
    intro k
    induction k with
    | zero => intro _; exact ⟨fun _ => rfl, fun h => absurd List.Pairwise.nil h, Nat.le_refl _⟩
    | succ k ih =>
      intro hk
      obtain ⟨h1, h2, h3⟩ := ih (by omega)
      have ha : l[k]? = some l[k] := List.getElem?_eq_getElem (by omega)
      have hlen : (l.take k).length = k := by rw [List.length_take]; omega
      rw [queue_next ha, putQ_len]
      refine ⟨fun hd => ?_, fun hd => ?_, by split <;> omega⟩
      · rw [take_nextH ha, dis_append] at hd
        have hz := h1 hd.1
        have hf : firstQ (queueM (l.take k)) l[k] = none := by
          rw [firstQ_none, hz, zipQ_snd]
          exact fun x hx => by rw [sameH_comm]; exact hd.2 x hx
        rw [putQ_new _ _ hf, hz, take_nextH ha, zipQ_append, hlen]
      · by_cases hd' : Dis (l.take k)
        · have hz := h1 hd'
          have hf : (firstQ (queueM (l.take k)) l[k]).isSome = true := by
            rw [Option.isSome_iff_ne_none]
            intro hn
            refine hd ?_
            rw [take_nextH ha, dis_append]
            refine ⟨hd', fun x hx => ?_⟩
            rw [firstQ_none, hz, zipQ_snd] at hn
            rw [sameH_comm]
            exact hn x hx
          rw [if_pos hf]
          rw [hz] 
          unfold zipQ
          rw [List.length_map, List.length_range, hlen]
          omega
        · have := h2 hd'
          split <;> omega
  have := step l.length (Nat.le_refl _)
  rwa [List.take_length] at this
/-- Turns rise. -/
def Rises (L : List Qd) : Prop := L.Pairwise fun x y => x.1 < y.1
theorem rises_zip (l : List Hnt) : Rises (zipQ l) := by
  unfold Rises zipQ
  rw [List.pairwise_map]
  exact (List.pairwise_lt_range).imp fun {a b} h => by simpa using h
theorem zipQ_len (l : List Hnt) : (zipQ l).length = l.length := by simp [zipQ]
end Go.Proofs.YtmaillakhhdkfaaGreatDoor
/-
  A store's bounds and order: the model's StoreFault.
-/
namespace Go.Proofs.YtmaillakhhdkfaaGreatDoor
set_option maxRecDepth 20000
open Go.RowKit
set_option linter.unusedSimpArgs false

/-- The i-th is ahead of the next one. -/
def stepM (l : List Smp) (i : Nat) : Bool := match l[i]?, l[i + 1]? with | some a, some b => aheadM a b | _, _ => true
theorem stepM_at {l : List Smp} {i : Nat} {a b : Smp} (ha : l[i]? = some a) (hb : l[i + 1]? = some b) : stepM l i = aheadM a b := by
  unfold stepM
  rw [ha, hb]
def risesM (l : List Smp) : Bool := (List.range l.length).all (stepM l)
def rightM (l : List Smp) : Bool := l.all fun x => decide (faultM x = 0)
def storeFaultM (l : List Smp) : Int := if 160 < l.length then 2 else if rightM l = false then 3 else if risesM l = false then 1 else 0
theorem storeFault_many {l : List Smp} (h : 160 < l.length) : storeFaultM l = 2 := if_pos h
theorem storeFault_wrong {l : List Smp} {k : Nat} {x : Smp} (h : ¬ 160 < l.length) (hx : l[k]? = some x) (hf : faultM x = 3) : storeFaultM l = 3 := by
  have hr : rightM l = false := by
    unfold rightM
    rw [List.all_eq_false]
    exact ⟨x, List.mem_of_getElem? hx, by simp [hf]⟩
  unfold storeFaultM
  rw [if_neg h, if_pos hr]
theorem rightM_of {l : List Smp} {n : Nat} (hn : l.length = n) (hal : ∀ j x, j < n → l[j]? = some x → faultM x = 0) : rightM l = true := by
  unfold rightM
  rw [List.all_eq_true]
  intro x hx
  obtain ⟨j, hj⟩ := List.mem_iff_getElem?.1 hx
  exact decide_eq_true (hal j x (by have := getElem?_some_lt hj; omega) hj)
theorem storeFault_form {l : List Smp} {k : Nat} (h : ¬ 160 < l.length) (hr : rightM l = true) (hk : k < l.length) (hs : stepM l k = false) : storeFaultM l = 1 := by
  have hq : risesM l = false := by
    unfold risesM
    rw [List.all_eq_false]
    exact ⟨k, List.mem_range.2 hk, by simp [hs]⟩
  unfold storeFaultM
  rw [if_neg h, if_neg (by simp [hr]), if_pos hq]
theorem storeFault_ok {l : List Smp} {n : Nat} (hn : l.length = n) (h : ¬ 160 < l.length) (hr : rightM l = true) (hal : ∀ j, j + 1 < n → stepM l j = true) : storeFaultM l = 0 := by
  have hq : risesM l = true := by
    unfold risesM
    rw [List.all_eq_true]
    intro j hj
    have hj' := List.mem_range.1 hj
    rcases Nat.lt_or_ge (j + 1) n with h1 | h1
    · exact hal j h1
    · unfold stepM
      rw [List.getElem?_eq_none (l := l) (i := j + 1) (by omega)]
      cases l[j]? <;> rfl
  unfold storeFaultM
  rw [if_neg h, if_neg (by simp [hr]), if_neg (by simp [hq])]

def RightRel (w : World) (l : List Smp) (n : Nat) (i : Value) (wr : World) : Prop :=
  ∃ k : Nat, k ≤ n ∧ i = .int .i64 k ∧ (∀ j x, j < k → l[j]? = some x → faultM x = 0) ∧ Below w.heap.size w wr
def RiseRel (w : World) (l : List Smp) (n : Nat) (i : Value) (wr : World) : Prop :=
  ∃ k : Nat, (k + 1 ≤ n ∨ k = 0) ∧ i = .int .i64 ((k + 1 : Nat) : Int) ∧ (∀ j, j < k → stepM l j = true) ∧ Below w.heap.size w wr

set_option maxHeartbeats 2000000 in
theorem specStoreFault (A : Option Addr) (n c : Nat) (l : List Smp) (w : World) (ha : Rd eS w w.heap.size A l) (hn : l.length = n) :
    Calls Tryz.prog 65 #[.slice A n c] w fun e w' => e = .returned (.int .i64 (storeFaultM l)) ∧ Below w.heap.size w w' := by
  by_cases hbig : 160 < n
  · have hb : (160 : Int) < (n : Int) := by omega
    rw [storeFault_many (by omega)]
    go_enter Tryz.func65, Tryz.ntmps65
    go_wp2
    go_ret
    exact ⟨rfl, Below.refl _ _⟩
  have hb : (n : Int) ≤ 160 := by omega
  have Hbig := Lib.hid (show ¬ 160 < l.length by omega)
  have Hn := Lib.hid hn
  clear hn hbig
  go_enter Tryz.func65, Tryz.ntmps65
  go_wp2
  go_loopw [3] (fun i wr => RightRel w l n i wr) (fun i _ => n - (intOf i).toNat)
  case atStart => exact ⟨0, Nat.zero_le _, rfl, fun _ _ h => absurd h (by omega), Below.refl _ _⟩
  case round =>
    obtain ⟨k, hk, rfl, hal, hbel⟩ := hrel
    have Hal := Lib.hid hal
    clear hal
    by_cases hlt : k < n
    · obtain ⟨g, o, a0, a1, a2, a3, rfl, hg, hx, c0, c1, c2, c3⟩ := (ha.below hbel (Nat.le_refl _)).smp (k := k) (by rw [Hn.out]; exact hlt)
      rcases faultM_or (a0, a1, a2, a3) with hf | hf
      · have hq := specSampleFault a0 a1 a2 a3 wr
        rw [hf] at hq
        have Hx := Lib.hid hx
        have Hf := Lib.hid hf
        clear hx hf
        go_wp2_with fail
        refine hq.mono ?_
        rintro e w2 ⟨rfl, hb2⟩
        have hB2 := hbel.trans (hb2.mono hbel.size)
        go_wp2
        refine ⟨⟨k + 1, by omega, by go_num, fun j x hj hx => ?_, hB2⟩, by simp [intOf]; omega⟩
        rcases Nat.lt_or_ge j k with h | h
        · exact Hal.out j x h hx
        · obtain rfl : j = k := by omega
          obtain rfl := Option.some.inj (Hx.out.symm.trans hx)
          exact Hf.out
      · have hq := specSampleFault a0 a1 a2 a3 wr
        rw [hf] at hq
        have Hr := Lib.hid (storeFault_wrong Hbig.out hx hf)
        clear hx hf
        go_wp2_with fail
        refine hq.mono ?_
        rintro e w2 ⟨rfl, hb2⟩
        have hB2 := hbel.trans (hb2.mono hbel.size)
        go_wp2
        go_ret
        exact ⟨by rw [Hr.out]; rfl, hB2⟩
    · obtain rfl : n = k := by omega
      have Hright := Lib.hid (rightM_of Hn.out Hal.out)
      clear Hal
      go_wp2
      go_loopw [5] (fun i wr => RiseRel w l n i wr) (fun i _ => n - (intOf i).toNat)
      case atStart => exact ⟨0, .inr rfl, rfl, fun _ h => absurd h (by omega), hbel⟩
      case round =>
        obtain ⟨k, hk, rfl, hal, hbel⟩ := hrel
        have Hal := Lib.hid hal
        clear hal
        by_cases hlt : k + 1 < n
        · obtain ⟨g, o, a0, a1, a2, a3, rfl, hg, hx, ca⟩ := (ha.below hbel (Nat.le_refl _)).smp (k := k) (by rw [Hn.out]; omega)
          obtain ⟨g', o', b0, b1, b2, b3, e', hg', hy, cb⟩ := (ha.below hbel (Nat.le_refl _)).smp (k := k + 1) (by rw [Hn.out]; omega)
          obtain ⟨rfl, rfl⟩ : g = g' ∧ o = o' := by simpa using Option.some.inj e'
          have Hst := Lib.hid (stepM_at hx hy)
          clear hx hy e'
          have hbd := hbel.drew
          have hw : IntKind.i64.wrap (k : Int) = (k : Int) := IntWalk.i64_in _ (by omega)
          have i1 : (k : Int) < (n : Int) := by omega
          have i2 : (k : Int) + 1 < (n : Int) := by omega
          have i3 : (0 : Int) ≤ (k : Int) + 1 := by omega
          have i4 : ((k : Int) + 1).toNat = k + 1 := by omega
          go_wp2
          refine wp_region_mix [(0, false), (1, false), (2, false), (3, false), (4, false), (5, false), (6, false), (7, false), (8, false), (9, true), (10, false)] (fun u => S4 u g (o + k * 4) a0 a1 a2 a3 ∧ S4 u g (o + (k + 1) * 4) b0 b1 b2 b3) (by kernel_rfl) (by kernel_rfl) (fun _ _ _ _ _ h => h) ⟨ca.drew, cb.drew⟩ ?_
          simp only [mixOps, List.map_cons, List.map_nil, List.getElem?_cons_succ, List.getElem?_cons_zero, Option.getD_some]
          repeat (first
            | (refine mix_skip (by rfl) ?_
               (try simp only [Act.put, List.setIfInBounds_toArray, List.set_cons_zero, List.set_cons_succ]))
            | (refine mix_pure (v := ?_) (by rfl) (fun u hu => ?_) ?_
               rotate_left
               · obtain ⟨⟨_, _, _, _⟩, _, _, _, _⟩ := hu
                 go_simp
                 (with_reducible rfl)
               (try simp only [Act.put, List.setIfInBounds_toArray, List.set_cons_zero, List.set_cons_succ])))
          refine mix_call (by rfl) (fun K hK => ?_)
          go_simp
          refine (specIsAhead a0 a1 a2 a3 b0 b1 b2 b3 _).mono ?_
          rintro e w1 ⟨rfl, hb1⟩
          have hB1 := hbd.trans (hb1.mono hbd.size)
          refine hK _ _ _ (fun _ h => h) ⟨ca.drew.below hb1 (Nat.lt_of_lt_of_le hg hbd.size), cb.drew.below hb1 (Nat.lt_of_lt_of_le hg hbd.size)⟩ ?_
          (try simp only [Act.put, List.setIfInBounds_toArray, List.set_cons_zero, List.set_cons_succ])
          rw [← Hst.out]
          rcases hs : stepM l k
          · have Hf := Lib.hid (storeFault_form Hbig.out Hright.out (show k < l.length by rw [Hn.out]; omega) hs)
            clear hs
            refine mix_pure (v := ?_) (by rfl) (fun u hu => ?_) ?_
            rotate_left
            · go_simp
              (with_reducible rfl)
            (try simp only [Act.put, List.setIfInBounds_toArray, List.set_cons_zero, List.set_cons_succ])
            refine mix_nil ?_
            go_wp2
            go_ret
            exact ⟨by rw [Hf.out]; rfl, hB1⟩
          · have Hs := Lib.hid hs
            clear hs
            refine mix_pure (v := ?_) (by rfl) (fun u hu => ?_) ?_
            rotate_left
            · go_simp
              (with_reducible rfl)
            (try simp only [Act.put, List.setIfInBounds_toArray, List.set_cons_zero, List.set_cons_succ])
            refine mix_nil ?_
            go_wp2
            refine ⟨⟨k + 1, .inl (by omega), by go_num, fun j hj => ?_, hB1⟩, by simp [intOf]; omega⟩
            rcases Nat.lt_or_ge j k with h | h
            · exact Hal.out j h
            · obtain rfl : j = k := by omega
              exact Hs.out
        · have hq := storeFault_ok Hn.out Hbig.out Hright.out (fun j hj => Hal.out j (by omega))
          have Hq := Lib.hid hq
          clear hq
          have i5 : ¬ (k : Int) + 1 < (n : Int) := by omega
          go_wp2
          go_ret
          exact ⟨by rw [Hq.out]; rfl, hbel⟩
end Go.Proofs.YtmaillakhhdkfaaGreatDoor
/-
  What is asked of records, of the pure answers: their form, their faults, their bytes.
-/
namespace Go.Proofs.YtmaillakhhdkfaaGreatDoor
set_option maxRecDepth 20000
open Go.RowKit
set_option linter.unusedSimpArgs false
set_option linter.unusedVariables false

/-- What a record does not need is zero. -/
def formM (r : Rcd) (a b c : Bool) : Bool := (a || decide (r.2.1 = 0)) && ((b || decide (r.2.2.1 = (0, 0, 0, 0))) && (c || decide (r.2.2.2 = 0)))
def recFormM (r : Rcd) : Bool := if r.1 = 1 then formM r false true false else if r.1 = 2 then formM r true true false else if r.1 = 3 then formM r true false true else if r.1 = 4 then formM r false false true else false
def mostM (r : Rcd) : Int := if r.1 = 4 then 60000 else 9999
def rrangeM (r : Rcd) (m : Int) : Int := if (inB (r.2.1, 0, 3) && inB (r.2.2.2, 0, m)) = true then faultM r.2.2.1 else 3
def recFaultM (r : Rcd) : Int := if recFormM r = true then rrangeM r (mostM r) else 1
theorem recFault_form {r : Rcd} (h : recFormM r = false) : recFaultM r = 1 := by unfold recFaultM; rw [if_neg (by simp [h])]
theorem recFault_range {r : Rcd} (h : recFormM r = true) : recFaultM r = rrangeM r (mostM r) := by unfold recFaultM; rw [if_pos h]
/-- A store, hints, a life. -/
abbrev Sta := List Smp × List Hnt × Int
def stateFaultM (s : Sta) : Int := if storeFaultM s.1 ≠ 0 then storeFaultM s.1 else if hintsFaultM s.2.1 ≠ 0 then hintsFaultM s.2.1 else if inB (s.2.2, 0, 60000) = true then 0 else 3
end Go.Proofs.YtmaillakhhdkfaaGreatDoor
/-
  Rows of hints marked and held, as the law does it; answers that hold hints.
-/
namespace Go.Proofs.YtmaillakhhdkfaaGreatDoor
set_option maxRecDepth 20000
open Go.RowKit
set_option linter.unusedSimpArgs false

def markH (k i : Nat) : Hnt := ((k : Int) + 7 * i, ((k : Int) + 7 * i + 1, (k : Int) + 7 * i + 2, (k : Int) + 7 * i + 3, (k : Int) + 7 * i + 4), (k : Int) + 7 * i + 5, (k : Int) + 7 * i + 6)
/-- What a mark lays: seven numbers a hint. -/
def marksH (k n : Nat) : List Hnt := (List.range n).map (markH k)
theorem marksH_len (k n : Nat) : (marksH k n).length = n := by simp [marksH]
theorem marksH_at {k n i : Nat} (h : i < n) : (marksH k n)[i]? = some (markH k i) := by simp [marksH, h]

set_option maxHeartbeats 4000000 in
theorem markHintS (A : Option Addr) (n c base : Nat) (l : List Hnt) (k : Nat) (w : World) (ha : Ow eH w base A n c l) (hm : n ≤ 4294967296) (hk : k ≤ 4294967296) :
    Calls Tryz.prog 128 #[.slice A n c, .int .i64 k] w fun e w' => e = .returned (.int .i64 ((k : Int) + 7 * n)) ∧ Ow eH w' base A n c (marksH k n) ∧ w.grownBy w' (A.map (·.block)) := by
  have Hn := Lib.hid (ha.len okH)
  go_enter Tryz.func128, Tryz.ntmps128
  go_wp2
  go_loopw [1, 5] (fun vk i wr => MarkRel eH (markH k) 7 w base A n c l k vk i wr) (fun _ i _ => n - (intOf i).toNat)
  case atStart => exact markRel_start _ _ _ ha
  case round =>
    obtain ⟨j, hj, rfl, rfl, hown, hgr⟩ := hrel
    rw [show (k : Int) + ((7 : Nat) : Int) * (j : Int) = (k : Int) + 7 * (j : Int) by omega]
    by_cases hlt : j < n
    · obtain ⟨g, rfl, hg, _⟩ := hown.form (by omega)
      obtain ⟨⟨a0, ⟨a1, a2, a3, a4⟩, a5, a6⟩, hz⟩ := markRel_at (markH k) l n j hlt Hn.out
      obtain ⟨d0, d1, d2, d3, d4, d5, d6⟩ := hown.hntAt hz
      have f0 := hown.frozenAt (j * 7)
      have f1 := hown.frozenAt (j * 7 + 1)
      have f2 := hown.frozenAt (j * 7 + 2)
      have f3 := hown.frozenAt (j * 7 + 3)
      have f4 := hown.frozenAt (j * 7 + 4)
      have f5 := hown.frozenAt (j * 7 + 5)
      have f6 := hown.frozenAt (j * 7 + 6)
      have hs := hown.hntSet (k := j) (getElem?_some_lt hz) ((k : Int) + 7 * j) ((k : Int) + 7 * j + 1) ((k : Int) + 7 * j + 2) ((k : Int) + 7 * j + 3) ((k : Int) + 7 * j + 4) ((k : Int) + 7 * j + 5) ((k : Int) + 7 * j + 6)
      have Hset := Lib.hid (laid_set (markH k) l n j hlt Hn.out)
      have Hgr := Lib.hid (grown_trans hgr hs.2)
      have Hst := Lib.hid hs.1
      clear hgr hs hz
      go_wp2
      exact ⟨⟨j + 1, by omega, by go_num, congrArg _ (by omega), by rw [← Hset.out]; exact Hst.out, Hgr.out⟩, by simp [intOf]; omega⟩
    · have hall := markRel_end hown (by omega) Hn.out
      obtain rfl : n = j := by omega
      clear hown
      go_wp2
      go_ret
      exact ⟨rfl, hall, hgr⟩
theorem markHintS1 (A : Option Addr) (n c base : Nat) (l : List Hnt) (w : World) (ha : Ow eH w base A n c l) (hm : n ≤ 4294967296) :
    Calls Tryz.prog 128 #[.slice A n c, .int .i64 1] w fun e w' => e = .returned (.int .i64 (1 + 7 * (n : Int))) ∧ Ow eH w' base A n c (marksH 1 n) ∧ w.grownBy w' (A.map (·.block)) :=
  markHintS A n c base l 1 w ha hm (by omega)

set_option maxHeartbeats 4000000 in
theorem heldHintS (A : Option Addr) (n c : Nat) (k : Nat) (w : World) (ha : Rd eH w w.heap.size A (marksH k n)) (hm : n ≤ 4294967296) (hk : k ≤ 4294967296) :
    Calls Tryz.prog 130 #[.slice A n c, .int .i64 k] w fun e w' => e = .returned (.int .i64 ((k : Int) + 7 * n)) ∧ Below w.heap.size w w' := by
  go_enter Tryz.func130, Tryz.ntmps130
  go_wp2
  go_loopw [1, 5] (fun vk i wr => HeldRel w n 7 k vk i wr) (fun _ i _ => n - (intOf i).toNat)
  case atStart => exact heldRel_start _ _ _ _
  case round =>
    obtain ⟨j, hj, rfl, rfl, hbel⟩ := hrel
    rw [show (k : Int) + ((7 : Nat) : Int) * (j : Int) = (k : Int) + 7 * (j : Int) by omega]
    by_cases hlt : j < n
    · obtain ⟨g, o, a0, a1, a2, a3, a4, a5, a6, rfl, hg, hx, c0, c1, c2, c3, c4, c5, c6⟩ := (ha.below hbel (Nat.le_refl _)).hnt (k := j) (by rw [marksH_len]; exact hlt)
      rw [marksH_at hlt] at hx
      simp only [markH, Option.some.injEq, Prod.mk.injEq] at hx
      obtain ⟨rfl, ⟨rfl, rfl, rfl, rfl⟩, rfl, rfl⟩ := hx
      go_wp2
      exact ⟨⟨j + 1, by omega, by go_num, congrArg _ (by omega), hbel⟩, by simp [intOf]; omega⟩
    · obtain rfl : n = j := by omega
      go_wp2
      go_ret
      exact ⟨rfl, hbel⟩

/-- A code and hints of the call's own. -/
def RetHs (r : Int × List Hnt) (w : World) (e : Ending) (w' : World) : Prop :=
  ∃ A n c, e = .returned (.agg #[.int .i64 r.1, .slice A n c]) ∧ Ow eH w' w.heap.size A n c r.2 ∧ Below w.heap.size w w'

end Go.Proofs.YtmaillakhhdkfaaGreatDoor
/-
  A region in which a load may stand on either side of a call, and a store ends it: both orders are walked from there on.
-/
namespace Go.Proofs.YtmaillakhhdkfaaGreatDoor
set_option maxRecDepth 20000
open Go.RowKit

section
variable {P : Program} {md : Region.Mode} {ops : Array Oper} {Q : Exit → Act → World → Prop}

/-- As 'mixW', nothing known of the worlds; behind it R. -/
def forkW (P : Program) (ops : Array Oper) (Q : Exit → Act → World → Prop) (R : Act → World → Prop) : List (Oper × Bool) → Act → World → Prop
  | [], a, w => R a w
  | (o, c) :: rest, a, w =>
    if Region.wanted o (yielded ops a.tmps) = true then
      if c = true then o.wp P a w (fun a' w' => forkW P ops Q R rest a' w') Q
      else ∃ v, (∀ x, (execOp a.eval o).run P x = .ok (.value v) x) ∧ forkW P ops Q R rest (a.put o.dst v) w
    else forkW P ops Q R rest (a.put o.dst undef) w

/-- The order fits the region. -/
def forkB (md : Region.Mode) (ops : Array Oper) : Array Bool → List (Nat × Bool) → Bool
  | _, [] => true
  | listed, (k, c) :: p => (if c then Region.ready md ops listed == [k] else (Region.ready md ops listed).contains k && Region.free md ops listed k) && forkB md ops (listed.setIfInBounds k true) p
def listedBy (listed : Array Bool) (p : List (Nat × Bool)) : Array Bool := p.foldl (fun t x => t.setIfInBounds x.1 true) listed

theorem any_of_fork {l : List Oper} {R : Act → World → Prop} (hsel : Region.noSelect l.toArray = true) (hQ : ∀ c a (d : Nat) v w, Q (.panic c) (Act.put a (some d) v) w → Q (.panic c) a w) (fuel : Nat) :
    ∀ (p : List (Nat × Bool)) (listed : Array Bool) (a : Act) (w : World), (∀ x ∈ p, x.1 < l.length) → forkB md l.toArray listed p = true →
      (∀ a w, R a w → wpAnyH P md l.toArray Q (fun _ => True) fuel (listedBy listed p) a w) → forkW P l.toArray Q R (mixOps l p) a w →
      wpAnyH P md l.toArray Q (fun _ => True) (p.length + fuel) listed a w
  | [], listed, a, w, _, _, hR, h => by
    rw [List.length_nil, Nat.zero_add]
    exact hR a w h
  | (k, c) :: p, listed, a, w, hl, hB, hR, h => by
    have hk : k < l.length := hl (k, c) (by simp)
    obtain ⟨o, ho⟩ : ∃ o, l[k]? = some o := ⟨_, List.getElem?_eq_getElem hk⟩
    have hoa : l.toArray[k]? = some o := by simpa using ho
    simp only [forkB, Bool.and_eq_true] at hB
    obtain ⟨hb, hB'⟩ := hB
    have hQ' : ∀ c a d v w, Q (.panic c) (Act.put a d v) w → Q (.panic c) a w := fun c a d v w h => by
      cases d with
      | none => exact h
      | some d => exact hQ c a d v w h
    have ih := fun a w => any_of_fork hsel hQ fuel p (listed.setIfInBounds k true) a w (fun x hx => hl x (by simp [hx])) hB' hR
    have e : ((k, c) :: p).length + fuel = p.length + fuel + 1 := by rw [List.length_cons]; omega
    rw [e]
    simp only [mixOps, List.map_cons, ho, Option.getD_some, forkW] at h
    cases c with
    | false =>
      simp only [Bool.false_eq_true, if_false, Bool.and_eq_true] at hb h
      by_cases hw : Region.wanted o (yielded l.toArray a.tmps) = true
      · rw [if_pos hw] at h
        obtain ⟨v, hv, h⟩ := h
        exact wpAnyH_take hoa hsel hb.2 hb.1 (fun c a w => hQ' c a _ _ w) (.inl ⟨hw, fun x _ => hv x⟩) trivial (ih _ w h)
      · rw [if_neg hw] at h
        exact wpAnyH_take hoa hsel hb.2 hb.1 (fun c a w => hQ' c a _ _ w) (.inr ⟨by simpa using hw, rfl⟩) trivial (ih _ w h)
    | true =>
      simp only [if_true] at hb h
      refine wpAnyH_all (rs := [k]) (by simpa using hb) (by simp) fun i hi => ?_
      obtain rfl : i = k := by simpa using hi
      unfold wpOp
      rw [hoa]
      simp only
      by_cases hw : Region.wanted o (yielded l.toArray a.tmps) = true
      · rw [if_pos hw] at h ⊢
        have h1 : wpOp P l.toArray Q i (fun a' w' => forkW P l.toArray Q R (mixOps l p) a' w') a w := by
          unfold wpOp
          rw [hoa]
          simp only
          rw [if_pos hw]
          exact .inl h
        have h2 := wpOp_mono (K' := fun a' w' => True ∧ wpAnyH P md l.toArray Q (fun _ => True) (p.length + fuel) (listed.setIfInBounds i true) a' w') (fun a' w' h3 => ⟨trivial, ih a' w' h3⟩) h1
        unfold wpOp at h2
        rw [hoa] at h2
        simp only at h2
        rwa [if_pos hw] at h2
      · rw [if_neg hw] at h ⊢
        exact ⟨trivial, ih _ w h⟩

/-- One that comes up beside another one. -/
theorem wpOp_of_fork {l : List Oper} {R : Act → World → Prop} {i : Nat} {o : Oper} {rest : List (Oper × Bool)} {a : Act} {w : World} (hoa : l.toArray[i]? = some o)
    (h : forkW P l.toArray Q R ((o, true) :: rest) a w) : wpOp P l.toArray Q i (fun a' w' => forkW P l.toArray Q R rest a' w') a w := by
  unfold wpOp
  rw [hoa]
  simp only
  unfold forkW at h
  by_cases hw : Region.wanted o (yielded l.toArray a.tmps) = true
  · rw [if_pos hw] at h ⊢
    rw [if_pos rfl] at h
    exact .inl h
  · rw [if_neg hw] at h ⊢
    exact h

/-- Both of two. -/
def forkAll (md : Region.Mode) (ops : Array Oper) (n : Nat) (p p1 p2 : List (Nat × Bool)) (i j : Nat) : Bool :=
  Region.noSelect ops && (forkB md ops (Array.replicate n false) p && ((Region.ready md ops (listedBy (Array.replicate n false) p) == [i, j]) &&
    ((forkB md ops ((listedBy (Array.replicate n false) p).setIfInBounds i true) p1 && (Region.ready md ops (listedBy ((listedBy (Array.replicate n false) p).setIfInBounds i true) p1)).isEmpty) &&
     (forkB md ops ((listedBy (Array.replicate n false) p).setIfInBounds j true) p2 && (Region.ready md ops (listedBy ((listedBy (Array.replicate n false) p).setIfInBounds j true) p2)).isEmpty)) &&
    (p.length + (p1.length + 1) == n && p1.length == p2.length && decide (i < n) && decide (j < n) && (p ++ p1 ++ p2).all fun x => decide (x.1 < n))))

theorem wp_region_fork {id : Nat} {l : List Oper} {a : Act} {w : World} (p p1 p2 : List (Nat × Bool)) (i j : Nat) (hm : P.follows .mixedOrders = true) (hB : forkAll .any l.toArray l.length p p1 p2 i j = true)
    (hQ : ∀ c a (d : Nat) v w, Q (.panic c) (Act.put a (some d) v) w → Q (.panic c) a w)
    (h : forkW P l.toArray Q (fun a w => forkW P l.toArray Q (Q .normal) (mixOps l ((i, true) :: p1)) a w ∧ forkW P l.toArray Q (Q .normal) (mixOps l ((j, true) :: p2)) a w) (mixOps l p) a w.drew) : (Code.region id l.toArray true).wp P Q a w := by
  unfold forkAll at hB
  simp only [Bool.and_eq_true, beq_iff_eq, List.all_eq_true, decide_eq_true_eq, List.mem_append] at hB
  obtain ⟨h1, h2, ⟨h3, ⟨h4, h5⟩, h6, h7⟩, ⟨⟨⟨h8, h9⟩, h10⟩, h11⟩, h12⟩ := hB
  refine wp_region_held (S := fun _ => True) hm ?_
  have hi : l[i]? = some l[i] := List.getElem?_eq_getElem h10
  have hj : l[j]? = some l[j] := List.getElem?_eq_getElem h11
  have go := any_of_fork (P := P) (md := .any) (R := fun a w => forkW P l.toArray Q (Q .normal) (mixOps l ((i, true) :: p1)) a w ∧ forkW P l.toArray Q (Q .normal) (mixOps l ((j, true) :: p2)) a w) h1 hQ (p1.length + 1) p
    (Array.replicate l.length false) a w.drew (fun x hx => h12 x (.inl (.inl hx))) h2 (fun a w hR => by
      refine wpAnyH_all (rs := [i, j]) h3 (by simp) fun k hk => ?_
      rcases (show k = i ∨ k = j by simpa using hk) with rfl | rfl
      · have hR1 := hR.1
        simp only [mixOps, List.map_cons, hi, Option.getD_some] at hR1
        refine wpOp_mono (fun a' w' h' => ⟨trivial, ?_⟩) (wpOp_of_fork (by simp) hR1)
        exact any_of_fork h1 hQ 0 p1 _ a' w' (fun x hx => h12 x (.inl (.inr hx))) h4 (fun a w hq => wpAnyH_done (by simpa using h5) hq 0) h'
      · have hR1 := hR.2
        simp only [mixOps, List.map_cons, hj, Option.getD_some] at hR1
        refine wpOp_mono (fun a' w' h' => ⟨trivial, ?_⟩) (wpOp_of_fork (by simp) hR1)
        have := any_of_fork h1 hQ 0 p2 _ a' w' (fun x hx => h12 x (.inr hx)) h6 (fun a w hq => wpAnyH_done (by simpa using h7) hq 0) h'
        rwa [← h9] at this) h
  rw [h8] at go
  simpa using go

theorem fork_pure {R : Act → World → Prop} {o : Oper} {rest : List (Oper × Bool)} {a : Act} {w : World} {v : Value} (hw : Region.wanted o (yielded ops a.tmps) = true)
    (hv : ∀ x, (execOp a.eval o).run P x = .ok (.value v) x) (h : forkW P ops Q R rest (a.put o.dst v) w) : forkW P ops Q R ((o, false) :: rest) a w := by
  unfold forkW
  rw [if_pos hw, if_neg (by simp)]
  exact ⟨v, hv, h⟩
theorem fork_skip {R : Act → World → Prop} {o : Oper} {c : Bool} {rest : List (Oper × Bool)} {a : Act} {w : World} (hw : Region.wanted o (yielded ops a.tmps) = false)
    (h : forkW P ops Q R rest (a.put o.dst undef) w) : forkW P ops Q R ((o, c) :: rest) a w := by
  unfold forkW
  rw [if_neg (by simp [hw])]
  exact h
/-- What is carried out: a call, a load, a store. -/
theorem fork_call {R : Act → World → Prop} {o : Oper} {rest : List (Oper × Bool)} {a : Act} {w : World} (hw : Region.wanted o (yielded ops a.tmps) = true)
    (h : ∀ K : Act → World → Prop, (∀ a' w', forkW P ops Q R rest a' w' → K a' w') → o.wp P a w K Q) : forkW P ops Q R ((o, true) :: rest) a w := by
  unfold forkW
  rw [if_pos hw, if_pos rfl]
  exact h _ fun a' w' h3 => h3
theorem fork_nil {R : Act → World → Prop} {a : Act} {w : World} (h : R a w) : forkW P ops Q R [] a w := h
end
end Go.Proofs.YtmaillakhhdkfaaGreatDoor
/-
  As Mix, but two that make memory may come in either order: both are walked from there on, and what is known of every world goes along.
-/
namespace Go.Proofs.YtmaillakhhdkfaaGreatDoor
set_option maxRecDepth 20000
open Go.RowKit

section
variable {P : Program} {md : Region.Mode} {ops : Array Oper} {Q : Exit → Act → World → Prop}

/-- As 'mixW'; behind it R. -/
def mixRW (P : Program) (ops : Array Oper) (Q : Exit → Act → World → Prop) (R : (World → Prop) → Act → World → Prop) : List (Oper × Bool) → (World → Prop) → Act → World → Prop
  | [], S, a, w => R S a w
  | (o, c) :: rest, S, a, w =>
    if Region.wanted o (yielded ops a.tmps) = true then
      if c = true then o.wp P a w (fun a' w' => ∃ S' : World → Prop, (∀ x, S' x → S x) ∧ S' w' ∧ mixRW P ops Q R rest S' a' w') Q
      else ∃ v, (∀ x, S x → (execOp a.eval o).run P x = .ok (.value v) x) ∧ mixRW P ops Q R rest S (a.put o.dst v) w
    else mixRW P ops Q R rest S (a.put o.dst undef) w

theorem held_of_mixR {l : List Oper} {R : (World → Prop) → Act → World → Prop} (hsel : Region.noSelect l.toArray = true) (hQ : ∀ c a (d : Nat) v w, Q (.panic c) (Act.put a (some d) v) w → Q (.panic c) a w) (fuel : Nat) :
    ∀ (p : List (Nat × Bool)) (listed : Array Bool) (S : World → Prop) (a : Act) (w : World), (∀ x ∈ p, x.1 < l.length) → forkB md l.toArray listed p = true →
      (∀ S a w, S w → R S a w → wpAnyH P md l.toArray Q S fuel (listedBy listed p) a w) → S w → mixRW P l.toArray Q R (mixOps l p) S a w →
      wpAnyH P md l.toArray Q S (p.length + fuel) listed a w
  | [], listed, S, a, w, _, _, hR, hS, h => by
    rw [List.length_nil, Nat.zero_add]
    exact hR S a w hS h
  | (k, c) :: p, listed, S, a, w, hl, hB, hR, hS, h => by
    have hk : k < l.length := hl (k, c) (by simp)
    obtain ⟨o, ho⟩ : ∃ o, l[k]? = some o := ⟨_, List.getElem?_eq_getElem hk⟩
    have hoa : l.toArray[k]? = some o := by simpa using ho
    simp only [forkB, Bool.and_eq_true] at hB
    obtain ⟨hb, hB'⟩ := hB
    have hQ' : ∀ c a d v w, Q (.panic c) (Act.put a d v) w → Q (.panic c) a w := fun c a d v w h => by
      cases d with
      | none => exact h
      | some d => exact hQ c a d v w h
    have ih := fun S a w => held_of_mixR hsel hQ fuel p (listed.setIfInBounds k true) S a w (fun x hx => hl x (by simp [hx])) hB' hR
    have e : ((k, c) :: p).length + fuel = p.length + fuel + 1 := by rw [List.length_cons]; omega
    rw [e]
    simp only [mixOps, List.map_cons, ho, Option.getD_some, mixRW] at h
    cases c with
    | false =>
      simp only [Bool.false_eq_true, if_false, Bool.and_eq_true] at hb h
      by_cases hw : Region.wanted o (yielded l.toArray a.tmps) = true
      · rw [if_pos hw] at h
        obtain ⟨v, hv, h⟩ := h
        exact wpAnyH_take hoa hsel hb.2 hb.1 (fun c a w => hQ' c a _ _ w) (.inl ⟨hw, hv⟩) hS (ih S _ w hS h)
      · rw [if_neg hw] at h
        exact wpAnyH_take hoa hsel hb.2 hb.1 (fun c a w => hQ' c a _ _ w) (.inr ⟨by simpa using hw, rfl⟩) hS (ih S _ w hS h)
    | true =>
      simp only [if_true] at hb h
      refine wpAnyH_all (rs := [k]) (by simpa using hb) (by simp) fun i hi => ?_
      obtain rfl : i = k := by simpa using hi
      unfold wpOp
      rw [hoa]
      simp only
      by_cases hw : Region.wanted o (yielded l.toArray a.tmps) = true
      · rw [if_pos hw] at h ⊢
        have h1 : wpOp P l.toArray Q i (fun a' w' => ∃ S' : World → Prop, (∀ x, S' x → S x) ∧ S' w' ∧ mixRW P l.toArray Q R (mixOps l p) S' a' w') a w := by
          unfold wpOp
          rw [hoa]
          simp only
          rw [if_pos hw]
          exact .inl h
        have h2 := wpOp_mono (K' := fun a' w' => S w' ∧ wpAnyH P md l.toArray Q S (p.length + fuel) (listed.setIfInBounds i true) a' w') (fun a' w' ⟨S', h1, h2, h3⟩ => ⟨h1 _ h2, held_mono h1 _ _ _ _ (ih S' a' w' h2 h3)⟩) h1
        unfold wpOp at h2
        rw [hoa] at h2
        simp only at h2
        rwa [if_pos hw] at h2
      · rw [if_neg hw] at h ⊢
        exact ⟨hS, ih S _ w hS h⟩

theorem wpOp_of_mixR {l : List Oper} {R : (World → Prop) → Act → World → Prop} {i : Nat} {o : Oper} {rest : List (Oper × Bool)} {S : World → Prop} {a : Act} {w : World} (hoa : l.toArray[i]? = some o) (hS : S w)
    (h : mixRW P l.toArray Q R ((o, true) :: rest) S a w) : wpOp P l.toArray Q i (fun a' w' => ∃ S' : World → Prop, (∀ x, S' x → S x) ∧ S' w' ∧ mixRW P l.toArray Q R rest S' a' w') a w := by
  unfold wpOp
  rw [hoa]
  simp only
  unfold mixRW at h
  by_cases hw : Region.wanted o (yielded l.toArray a.tmps) = true
  · rw [if_pos hw] at h ⊢
    rw [if_pos rfl] at h
    exact .inl h
  · rw [if_neg hw] at h ⊢
    exact ⟨S, fun _ h => h, hS, h⟩

theorem wp_region_fork2 {id : Nat} {l : List Oper} {a : Act} {w : World} (p p1 p2 : List (Nat × Bool)) (i j : Nat) (S : World → Prop) (hm : P.follows .mixedOrders = true) (hB : forkAll .any l.toArray l.length p p1 p2 i j = true)
    (hQ : ∀ c a (d : Nat) v w, Q (.panic c) (Act.put a (some d) v) w → Q (.panic c) a w) (hS : S w.drew)
    (h : mixRW P l.toArray Q (fun S a w => mixRW P l.toArray Q (fun _ a w => Q .normal a w) (mixOps l ((i, true) :: p1)) S a w ∧ mixRW P l.toArray Q (fun _ a w => Q .normal a w) (mixOps l ((j, true) :: p2)) S a w) (mixOps l p) S a w.drew) :
    (Code.region id l.toArray true).wp P Q a w := by
  unfold forkAll at hB
  simp only [Bool.and_eq_true, beq_iff_eq, List.all_eq_true, decide_eq_true_eq, List.mem_append] at hB
  obtain ⟨h1, h2, ⟨h3, ⟨h4, h5⟩, h6, h7⟩, ⟨⟨⟨h8, h9⟩, h10⟩, h11⟩, h12⟩ := hB
  refine wp_region_held (S := S) hm ?_
  have hi : l[i]? = some l[i] := List.getElem?_eq_getElem h10
  have hj : l[j]? = some l[j] := List.getElem?_eq_getElem h11
  have go := held_of_mixR (P := P) (md := .any) (R := fun S a w => mixRW P l.toArray Q (fun _ a w => Q .normal a w) (mixOps l ((i, true) :: p1)) S a w ∧ mixRW P l.toArray Q (fun _ a w => Q .normal a w) (mixOps l ((j, true) :: p2)) S a w) h1 hQ (p1.length + 1) p
    (Array.replicate l.length false) S a w.drew (fun x hx => h12 x (.inl (.inl hx))) h2 (fun S a w hS hR => by
      refine wpAnyH_all (rs := [i, j]) h3 (by simp) fun k hk => ?_
      rcases (show k = i ∨ k = j by simpa using hk) with rfl | rfl
      · have hR1 := hR.1
        simp only [mixOps, List.map_cons, hi, Option.getD_some] at hR1
        refine wpOp_mono (fun a' w' ⟨S', g1, g2, g3⟩ => ⟨g1 _ g2, held_mono g1 _ _ _ _ ?_⟩) (wpOp_of_mixR (by simp) hS hR1)
        exact held_of_mixR h1 hQ 0 p1 _ S' a' w' (fun x hx => h12 x (.inl (.inr hx))) h4 (fun S a w _ hq => wpAnyH_done (by simpa using h5) hq 0) g2 g3
      · have hR1 := hR.2
        simp only [mixOps, List.map_cons, hj, Option.getD_some] at hR1
        refine wpOp_mono (fun a' w' ⟨S', g1, g2, g3⟩ => ⟨g1 _ g2, held_mono g1 _ _ _ _ ?_⟩) (wpOp_of_mixR (by simp) hS hR1)
        have := held_of_mixR h1 hQ 0 p2 _ S' a' w' (fun x hx => h12 x (.inr hx)) h6 (fun S a w _ hq => wpAnyH_done (by simpa using h7) hq 0) g2 g3
        rwa [← h9] at this) hS h
  rw [h8] at go
  simpa using go

theorem mixR_pure {R : (World → Prop) → Act → World → Prop} {o : Oper} {rest : List (Oper × Bool)} {S : World → Prop} {a : Act} {w : World} {v : Value} (hw : Region.wanted o (yielded ops a.tmps) = true)
    (hv : ∀ x, S x → (execOp a.eval o).run P x = .ok (.value v) x) (h : mixRW P ops Q R rest S (a.put o.dst v) w) : mixRW P ops Q R ((o, false) :: rest) S a w := by
  unfold mixRW
  rw [if_pos hw, if_neg (by simp)]
  exact ⟨v, hv, h⟩
theorem mixR_skip {R : (World → Prop) → Act → World → Prop} {o : Oper} {c : Bool} {rest : List (Oper × Bool)} {S : World → Prop} {a : Act} {w : World} (hw : Region.wanted o (yielded ops a.tmps) = false)
    (h : mixRW P ops Q R rest S (a.put o.dst undef) w) : mixRW P ops Q R ((o, c) :: rest) S a w := by
  unfold mixRW
  rw [if_neg (by simp [hw])]
  exact h
theorem mixR_call {R : (World → Prop) → Act → World → Prop} {o : Oper} {rest : List (Oper × Bool)} {S : World → Prop} {a : Act} {w : World} (hw : Region.wanted o (yielded ops a.tmps) = true)
    (h : ∀ K : Act → World → Prop, (∀ a' w' (S' : World → Prop), (∀ x, S' x → S x) → S' w' → mixRW P ops Q R rest S' a' w' → K a' w') → o.wp P a w K Q) : mixRW P ops Q R ((o, true) :: rest) S a w := by
  unfold mixRW
  rw [if_pos hw, if_pos rfl]
  exact h _ fun a' w' S' h1 h2 h3 => ⟨S', h1, h2, h3⟩
theorem mixR_nil {R : (World → Prop) → Act → World → Prop} {S : World → Prop} {a : Act} {w : World} (h : R S a w) : mixRW P ops Q R [] S a w := h
end
end Go.Proofs.YtmaillakhhdkfaaGreatDoor
namespace Go.Proofs.YtmaillakhhdkfaaGreatDoor
set_option maxRecDepth 20000
open Go.RowKit

set_option maxHeartbeats 400000 in
theorem eqByteS_no (A B : Option Addr) (n m c d : Nat) (w : World) (h : n ≠ m) :
    Calls Tryz.prog 30 #[.slice A n c, .slice B m d] w fun e w' => e = .returned (.bool false) ∧ Below w.heap.size w w' := by
  have hb : ((n : Int) != (m : Int)) = true := by simp; omega
  go_enter Tryz.func30, Tryz.ntmps30
  go_wp2
  go_ret
  exact ⟨rfl, Below.refl _ _⟩

theorem alike_all {xs ys : List UInt8} {n : Nat} (hx : xs.length = n) (hy : ys.length = n) (h : ∀ i, i < n → xs[i]? = ys[i]?) : xs = ys := by
  apply List.ext_getElem?
  intro i
  rcases Nat.lt_or_ge i n with h1 | h1
  · exact h i h1
  · rw [List.getElem?_eq_none (by omega), List.getElem?_eq_none (by omega)]

def EqRel (xs ys : List UInt8) (w : World) (n : Nat) (i : Value) (wr : World) : Prop :=
  ∃ k : Nat, k ≤ n ∧ i = .int .i64 k ∧ (∀ i, i < k → xs[i]? = ys[i]?) ∧ Below w.heap.size w wr

set_option maxHeartbeats 400000 in
theorem eqByteS_any (A B : Option Addr) (n c d : Nat) (xs ys : List UInt8) (w : World) (ha : Rd eB w w.heap.size A xs) (hb : Rd eB w w.heap.size B ys) (hx : xs.length = n) (hy : ys.length = n) (hm : n ≤ maxLen) :
    Calls Tryz.prog 30 #[.slice A n c, .slice B n d] w fun e w' => e = .returned (.bool (decide (xs = ys))) ∧ Below w.heap.size w w' := by
  have h0 : ((n : Int) != (n : Int)) = false := by simp
  have Hx := Lib.hid hx
  have Hy := Lib.hid hy
  clear hx hy
  unfold maxLen at hm
  go_enter Tryz.func30, Tryz.ntmps30
  go_wp2
  go_loopw [5] (fun i wr => EqRel xs ys w n i wr) (fun i _ => n - (intOf i).toNat)
  case atStart => exact ⟨0, Nat.zero_le _, rfl, fun _ h => absurd h (by omega), Below.refl _ _⟩
  case round =>
    obtain ⟨k, hk, rfl, hal, hbel⟩ := hrel
    have Hal := Lib.hid hal
    clear hal
    by_cases hlt : k < n
    · obtain ⟨g, o, x, rfl, hg, hx, ca⟩ := (ha.below hbel (Nat.le_refl _)).byte (k := k) (by rw [Hx.out]; exact hlt)
      obtain ⟨g', o', y, rfl, hg', hy, cb⟩ := (hb.below hbel (Nat.le_refl _)).byte (k := k) (by rw [Hy.out]; exact hlt)
      have Hxk := Lib.hid hx
      have Hyk := Lib.hid hy
      clear hx hy
      by_cases he : x = y
      · subst he
        go_wp2
        go_quiet (fail)
        go_wp2
        refine ⟨⟨k + 1, by omega, by go_num, fun i hi => ?_, bdrewN hbel _⟩, by simp [intOf]; omega⟩
        rcases Nat.lt_or_ge i k with h | h
        · exact Hal.out i h
        · obtain rfl : i = k := by omega
          rw [Hxk.out, Hyk.out]
      · have hne : ((x.toNat : Int) != (y.toNat : Int)) = true := by rw [bne_iff_ne]; intro h; exact he (UInt8.toNat_inj.1 (by omega))
        have hfin : decide (xs = ys) = false := by
          simp only [decide_eq_false_iff_not]
          rintro rfl
          have := Hxk.out.symm.trans Hyk.out
          simp at this
          exact he this
        have Hf := Lib.hid hfin
        clear he hfin
        go_wp2
        go_quiet (fail)
        go_wp2
        go_ret
        exact ⟨by rw [Hf.out]; rfl, bdrewN hbel _⟩
    · have hfin : decide (xs = ys) = true := by
        obtain rfl : k = n := by omega
        simp only [decide_eq_true_eq]
        exact alike_all Hx.out Hy.out Hal.out
      have Hf := Lib.hid hfin
      clear hfin
      go_wp2
      go_ret
      exact ⟨by rw [Hf.out]; rfl, hbel⟩

/-- Two slices of bytes compared, whatever their lengths. -/
theorem eqByteS (A B : Option Addr) (n m c d : Nat) (xs ys : List UInt8) (w : World) (ha : Rd eB w w.heap.size A xs) (hb : Rd eB w w.heap.size B ys) (hx : xs.length = n) (hy : ys.length = m) (hm : n ≤ maxLen) :
    Calls Tryz.prog 30 #[.slice A n c, .slice B m d] w fun e w' => e = .returned (.bool (decide (xs = ys))) ∧ Below w.heap.size w w' := by
  by_cases h : n = m
  · subst h
    exact eqByteS_any A B n c d xs ys w ha hb hx hy hm
  · have hd : decide (xs = ys) = false := by
      simp only [decide_eq_false_iff_not]
      rintro rfl
      exact h (hx.symm.trans hy)
    rw [hd]
    exact eqByteS_no A B n m c d w h
end Go.Proofs.YtmaillakhhdkfaaGreatDoor
namespace Go.Proofs.YtmaillakhhdkfaaGreatDoor
set_option maxRecDepth 20000
open Go.RowKit

/-- An answer of a code and bytes of the call's own. -/
def RetBR (r : Int × List UInt8) (w : World) (e : Ending) (w' : World) : Prop :=
  ∃ A n c, e = .returned (.agg #[.int .i64 r.1, .slice A n c]) ∧ Ow eB w' w.heap.size A n c r.2 ∧ Below w.heap.size w w'

end Go.Proofs.YtmaillakhhdkfaaGreatDoor
namespace Go.Proofs.YtmaillakhhdkfaaGreatDoor
set_option maxRecDepth 20000
open Go.RowKit

/-- The first s bytes of a number, the lowest one first. -/
def packL (m s : Nat) : List UInt8 := (List.range s).map fun i => UInt8.ofNat (m / 256 ^ i)
theorem packL_len (m s : Nat) : (packL m s).length = s := by simp [packL]
theorem packL_succ (m s : Nat) : packL m (s + 1) = packL m s ++ [UInt8.ofNat (m / 256 ^ s)] := by simp [packL, List.range_succ]
theorem div_next (m k q : Nat) (h : q = m / 256 ^ k) : q / 256 = m / 256 ^ (k + 1) := by
  rw [h, Nat.div_div_eq_div_mul, Nat.pow_succ]

def PackRel (w : World) (m s : Nat) (vn vs out : Value) (wr : World) : Prop :=
  ∃ (k q : Nat) (A : Option Addr) (c : Nat), k ≤ s ∧ vn = .int .i64 q ∧ q = m / 256 ^ k ∧ vs = .int .i64 ((s : Int) - k) ∧ out = .slice A k c ∧ Ow eB wr w.heap.size A k c (packL m k) ∧ Below w.heap.size w wr

set_option maxHeartbeats 400000 in
theorem l1Pack (m s : Nat) (w : World) (hm : m ≤ 9223372036854775807) (hs : s ≤ 8) :
    Calls Tryz.prog 86 #[.int .i64 m, .int .i64 s] w fun e w' => ∃ A c, e = .returned (.slice A s c) ∧ Ow eB w' w.heap.size A s c (packL m s) ∧ Below w.heap.size w w' := by
  go_enter Tryz.func86, Tryz.ntmps86
  go_wp2
  have how : Ow eB (w.alloc (.cells #[] 5)) w.heap.size (some ⟨w.heap.size, 0, none⟩) 0 0 (packL m 0) := Ow.lit w [] #[] 0 (Nat.le_refl _) (Nat.zero_le _) rfl rfl
  have hbel0 : Below w.heap.size w (w.alloc (.cells #[] 5)) := (Below.refl _ _).alloc (Nat.le_refl _) _
  go_loopw [0, 1, 5] (fun vn vs out wr => PackRel w m s vn vs out wr) (fun _ vs _ _ => (intOf vs).toNat)
  case atStart => exact ⟨0, m, _, 0, Nat.zero_le _, rfl, by simp, by simp, rfl, how, hbel0⟩
  case round =>
    obtain ⟨k, q, A, c, hk, rfl, hq, rfl, rfl, hown, hbel⟩ := hrel
    have hql : q ≤ m := by rw [hq]; exact Nat.div_le_self _ _
    have Hq := Lib.hid hq
    clear hq
    by_cases hlt : k < s
    · have hg : decide ((s : Int) - (k : Int) > 0) = true := by simp; omega
      have hgt : (0 : Int) < (s : Int) - (k : Int) := by omega
      have hrd : Rd eB (wr.alloc (.cells #[.int .u8 ((q : Int) % 256)] 5)) (wr.heap.size + 1) (some ⟨wr.heap.size, 0, none⟩) [UInt8.ofNat q] := rd_lit okB wr 5 [UInt8.ofNat q] _ (by simp [Enc.row, eB])
      have Hbel := Lib.hid hbel
      go_wp2_with (at_builtin; refine wpList_append_ow okB _ rfl (.tmp 11) (.tmp 15) _ rfl w.heap.size info_u8 Tryz.underlying22 rfl A k c _ rfl (hown.alloc _) (some ⟨wr.heap.size, 0, none⟩) 1 1 (wr.heap.size + 1) [UInt8.ofNat q] rfl hrd rfl (by unfold maxLen; omega) (by omega) (by simp; have := Hbel.out.size; omega) ?_; intro A' c' w1 hown1 hgr1 hat1)
      have hb1 : Below w.heap.size w w1 := (Hbel.out.alloc Hbel.out.size _).grown hgr1 (by simp; have := Hbel.out.size; omega) (fun g hg => (hown.lt g hg).1)
      refine ⟨⟨k + 1, q / 256, A', c', by omega, by go_num, div_next m k q Hq.out, congrArg _ (by omega), rfl, ?_, hb1⟩, by simp [intOf]; omega⟩
      rw [packL_succ, ← Hq.out]
      exact hown1
    · obtain rfl : s = k := by omega
      have h0 : ((s : Int) - (s : Int)) = 0 := by omega
      rw [h0]
      go_wp2
      go_ret
      exact ⟨_, _, rfl, hown, hbel⟩

/-- What PackWord answers: the code and the bytes. -/
def packM (n size : Int) : Int × List UInt8 :=
  if 1 ≤ size ∧ size ≤ 4 ∧ 0 ≤ n ∧ n < 256 ^ size.toNat then (0, packL n.toNat size.toNat) else (3, [])

def LeftRel (w : World) (m s : Nat) (vq vi : Value) (wr : World) : Prop :=
  ∃ k q : Nat, k ≤ s ∧ vi = .int .i64 k ∧ vq = .int .i64 q ∧ q = m / 256 ^ k ∧ Below w.heap.size w wr

theorem packM_bad {n size : Int} (h : ¬ (1 ≤ size ∧ size ≤ 4 ∧ 0 ≤ n ∧ n < 256 ^ size.toNat)) : packM n size = (3, []) := if_neg h
theorem packM_nat {m s : Nat} (h1 : 1 ≤ s) (h4 : s ≤ 4) (hm : m < 256 ^ s) : packM m s = (0, packL m s) := by
  have h : (m : Int) < 256 ^ (s : Int).toNat := by
    rw [Int.toNat_natCast]
    have h := Int.ofNat_lt.2 hm
    rw [Int.natCast_pow] at h
    exact h
  unfold packM
  rw [if_pos ⟨by omega, by omega, by omega, h⟩, Int.toNat_natCast, Int.toNat_natCast]

theorem div_zero_iff (m s : Nat) : m / 256 ^ s = 0 ↔ m < 256 ^ s := by
  rw [Nat.div_eq_zero_iff]
  have : 0 < 256 ^ s := Nat.pow_pos (by omega)
  omega

/-! ### impl.PackWord -/
set_option maxHeartbeats 400000 in
theorem implPackWord_size (n size : Int) (w : World) (h : ¬ (1 ≤ size ∧ size ≤ 4)) :
    Calls Tryz.prog 36 #[.int .i64 n, .int .i64 size] w fun e w' => RetBR (packM n size) w e w' := by
  have Hf := Lib.hid (packM_bad (n := n) (size := size) (by omega))
  have hin : inB (size, 1, 4) = false := by simp only [inB, Bool.and_eq_false_iff, decide_eq_false_iff_not]; omega
  go_enter Tryz.func36, Tryz.ntmps36
  go_wp2_with (go_at_call 82; refine (isWordSize_any _ _).mono ?_; rintro e w1 ⟨rfl, hb1⟩; obtain ⟨hc1, hf1⟩ := bcell hb1; have hz1 : w.heap.size < w1.heap.size := by have := hb1.size; simp at this; omega)
  have hB1 : Below w.heap.size w w1 := ((Below.refl _ _).alloc (Nat.le_refl _) _).trans (hb1.mono (by simp))
  refine bodyPost_ret (v := .agg #[.int .i64 3, .slice none 0 0]) (by simp [results, Tryz.results36, go_sem, hc1]) rfl ?_
  rw [Hf.out]
  exact ⟨none, 0, 0, rfl, Ow.nil, (hB1.setCell (Nat.le_refl _) _).setCell (Nat.le_refl _) _⟩

theorem packL_at {m s k : Nat} (h : k < s) : (packL m s)[k]? = some (UInt8.ofNat (m / 256 ^ k)) := by simp [packL, h]
theorem shr_byte (m j : Nat) : (m : Int) / 2 ^ (8 * j) % 256 = ((UInt8.ofNat (m / 256 ^ j)).toNat : Int) := by
  rw [byte_num, Int.natCast_ediv, Int.natCast_pow]
  have h : (2 : Int) ^ (8 * j) = ((256 : Nat) : Int) ^ j := by rw [Int.pow_mul]; rfl
  rw [h]
def ImplRel (w : World) (m s g t : Nat) (vi : Value) (wr : World) : Prop :=
  At wr w.heap.size t #[.int .i64 0, .slice none 0 0] ∧ ToRel eB 0 w g (packL m s) s vi wr

set_option maxHeartbeats 400000 in
theorem implPackWord_no1 (n : Int) (w : World) (hn : ¬ (0 ≤ n ∧ n ≤ 255)) :
    Calls Tryz.prog 36 #[.int .i64 n, .int .i64 1] w fun e w' => RetBR (packM n 1) w e w' := by
  have hin : inB (1, 1, 4) = true := rfl
  have hno : [(n, (0 : Int), (255 : Int))].all inB = false := by simp [inB]; omega
  have Hf := Lib.hid (packM_bad (n := n) (size := 1) (by simp; omega))
  go_enter Tryz.func36, Tryz.ntmps36
  go_wp2_with (go_at_call 82; refine (isWordSize_any _ _).mono ?_; rintro e w1 ⟨rfl, hb1⟩; have a1 := (At.new w _ _).below hb1 (by simp))
  have z1 := a1.lt
  have hB1 : Below w.heap.size w w1 := ((Below.refl _ _).alloc (Nat.le_refl _) _).trans (hb1.mono (by simp))
  refine (areWithin_any _ _ _ [(n, 0, 255)] _ (bnds_one (by simp)) (by simp) rfl (by simp)).mono ?_
  rintro e w2 ⟨rfl, hb2⟩
  have a2 := (a1.alloc _).below hb2 (by simp; omega)
  have hB2 : Below w.heap.size w w2 := (hB1.alloc (by omega) _).trans (hb2.mono (by simp; omega))
  obtain ⟨r0, r1, f0, f1⟩ := a2.two
  go_wp2
  refine bodyPost_ret (v := .agg #[.int .i64 3, .slice none 0 0]) (by simp [results, Tryz.results36, go_sem, r0, r1]) rfl ?_
  rw [Hf.out]
  exact ⟨none, 0, 0, rfl, Ow.nil, (hB2.setCell (Nat.le_refl _) _).setCell (Nat.le_refl _) _⟩

set_option maxRecDepth 100000 in
set_option maxHeartbeats 400000 in
theorem implPackWord_yes1 (m : Nat) (w : World) (hn : m ≤ 255) :
    Calls Tryz.prog 36 #[.int .i64 m, .int .i64 1] w fun e w' => RetBR (packM m 1) w e w' := by
  have hin : inB (1, 1, 4) = true := rfl
  have hno : [((m : Int), (0 : Int), (255 : Int))].all inB = true := by simp [inB]; omega
  have Hf := Lib.hid (show packM (m : Int) 1 = (0, packL m 1) from packM_nat (s := 1) (by omega) (by omega) (by omega))
  go_enter Tryz.func36, Tryz.ntmps36
  go_wp2_with (go_at_call 82; refine (isWordSize_any _ _).mono ?_; rintro e w1 ⟨rfl, hb1⟩; have a1 := (At.new w _ _).below hb1 (by simp))
  have z1 := a1.lt
  have hB1 : Below w.heap.size w w1 := ((Below.refl _ _).alloc (Nat.le_refl _) _).trans (hb1.mono (by simp))
  refine (areWithin_any _ _ _ [((m : Int), 0, 255)] _ (bnds_one (by simp)) (by simp) rfl (by simp)).mono ?_
  rintro e w2 ⟨rfl, hb2⟩
  have a2 := (a1.alloc _).below hb2 (by simp; omega)
  have hB2 : Below w.heap.size w w2 := (hB1.alloc (by omega) _).trans (hb2.mono (by simp; omega))
  have z2 := a2.lt
  go_wp2_with (refine wpList_make_ow okB _ rfl _ _ _ rfl w.heap.size info_u8 Tryz.underlying22 0 rfl .i64 .i64 1 1 1 rfl rfl rfl rfl (by omega) (by unfold maxLen; omega) (by omega) ?_; intro w3 hown hg3)
  have a3 := a2.grown hg3 (by simp)
  have hB3 : Below w.heap.size w w3 := hB2.grown hg3 (by omega) (by simp)
  have z3 := (hown.lt w2.heap.size rfl).2
  go_loopw [6, 26] (fun _ vi wr => ImplRel w m 1 w2.heap.size 30 vi wr) (fun _ vi _ => 1 - (intOf vi).toNat)
  case atStart => exact ⟨a3, 0, by omega, rfl, hown, hB3⟩
  case round =>
    obtain ⟨ar, j, hj, rfl, hown, hbel⟩ := hrel
    by_cases hlt : j < 1
    · have cb := hown.byteAt (part_at 0 (packL m 1) 1 j hlt (packL_len _ _))
      have fb := hown.frozenAt j
      go_wp2
      rw [shr_byte]
      refine ⟨⟨ar.far (by simp; omega) _, j + 1, by omega, by go_num, ?_, hbel.setCell (by simp; omega) _⟩, by simp [intOf]; omega⟩
      rw [← set_next 0 (packL m 1) 1 j _ hlt (packL_len _ _) (packL_at hlt)]
      exact (hown.byteSet hlt _).1
    · have hall := toRel_end hown (by omega) (packL_len _ _)
      obtain ⟨r0, r1, f0, f1⟩ := ar.two
      obtain rfl : j = 1 := by omega
      clear hown
      go_wp2
      refine bodyPost_ret (v := .agg #[.int .i64 0, .slice (some ⟨w2.heap.size, 0, none⟩) 1 1]) (by simp [results, Tryz.results36, go_sem, r0, r1]) rfl ?_
      rw [Hf.out]
      exact ⟨_, _, _, rfl, ((hall.grown (grown_setCell _ ⟨w.heap.size, 0, none⟩ _) (by simp; omega)).grown (grown_setCell _ ⟨w.heap.size, 1, none⟩ _) (by simp; omega)), (hbel.setCell (Nat.le_refl _) _).setCell (Nat.le_refl _) _⟩
set_option maxHeartbeats 400000 in
theorem implPackWord_no2 (n : Int) (w : World) (hn : ¬ (0 ≤ n ∧ n ≤ 65535)) :
    Calls Tryz.prog 36 #[.int .i64 n, .int .i64 2] w fun e w' => RetBR (packM n 2) w e w' := by
  have hin : inB (2, 1, 4) = true := rfl
  have hno : [(n, (0 : Int), (65535 : Int))].all inB = false := by simp [inB]; omega
  have Hf := Lib.hid (packM_bad (n := n) (size := 2) (by simp; omega))
  go_enter Tryz.func36, Tryz.ntmps36
  go_wp2_with (go_at_call 82; refine (isWordSize_any _ _).mono ?_; rintro e w1 ⟨rfl, hb1⟩; have a1 := (At.new w _ _).below hb1 (by simp))
  have z1 := a1.lt
  have hB1 : Below w.heap.size w w1 := ((Below.refl _ _).alloc (Nat.le_refl _) _).trans (hb1.mono (by simp))
  refine (areWithin_any _ _ _ [(n, 0, 65535)] _ (bnds_one (by simp)) (by simp) rfl (by simp)).mono ?_
  rintro e w2 ⟨rfl, hb2⟩
  have a2 := (a1.alloc _).below hb2 (by simp; omega)
  have hB2 : Below w.heap.size w w2 := (hB1.alloc (by omega) _).trans (hb2.mono (by simp; omega))
  obtain ⟨r0, r1, f0, f1⟩ := a2.two
  go_wp2
  refine bodyPost_ret (v := .agg #[.int .i64 3, .slice none 0 0]) (by simp [results, Tryz.results36, go_sem, r0, r1]) rfl ?_
  rw [Hf.out]
  exact ⟨none, 0, 0, rfl, Ow.nil, (hB2.setCell (Nat.le_refl _) _).setCell (Nat.le_refl _) _⟩

set_option maxRecDepth 100000 in
set_option maxHeartbeats 400000 in
theorem implPackWord_yes2 (m : Nat) (w : World) (hn : m ≤ 65535) :
    Calls Tryz.prog 36 #[.int .i64 m, .int .i64 2] w fun e w' => RetBR (packM m 2) w e w' := by
  have hin : inB (2, 1, 4) = true := rfl
  have hno : [((m : Int), (0 : Int), (65535 : Int))].all inB = true := by simp [inB]; omega
  have Hf := Lib.hid (show packM (m : Int) 2 = (0, packL m 2) from packM_nat (s := 2) (by omega) (by omega) (by omega))
  go_enter Tryz.func36, Tryz.ntmps36
  go_wp2_with (go_at_call 82; refine (isWordSize_any _ _).mono ?_; rintro e w1 ⟨rfl, hb1⟩; have a1 := (At.new w _ _).below hb1 (by simp))
  have z1 := a1.lt
  have hB1 : Below w.heap.size w w1 := ((Below.refl _ _).alloc (Nat.le_refl _) _).trans (hb1.mono (by simp))
  refine (areWithin_any _ _ _ [((m : Int), 0, 65535)] _ (bnds_one (by simp)) (by simp) rfl (by simp)).mono ?_
  rintro e w2 ⟨rfl, hb2⟩
  have a2 := (a1.alloc _).below hb2 (by simp; omega)
  have hB2 : Below w.heap.size w w2 := (hB1.alloc (by omega) _).trans (hb2.mono (by simp; omega))
  have z2 := a2.lt
  go_wp2_with (refine wpList_make_ow okB _ rfl _ _ _ rfl w.heap.size info_u8 Tryz.underlying22 0 rfl .i64 .i64 2 2 2 rfl rfl rfl rfl (by omega) (by unfold maxLen; omega) (by omega) ?_; intro w3 hown hg3)
  have a3 := a2.grown hg3 (by simp)
  have hB3 : Below w.heap.size w w3 := hB2.grown hg3 (by omega) (by simp)
  have z3 := (hown.lt w2.heap.size rfl).2
  go_loopw [6, 26] (fun _ vi wr => ImplRel w m 2 w2.heap.size 30 vi wr) (fun _ vi _ => 2 - (intOf vi).toNat)
  case atStart => exact ⟨a3, 0, by omega, rfl, hown, hB3⟩
  case round =>
    obtain ⟨ar, j, hj, rfl, hown, hbel⟩ := hrel
    by_cases hlt : j < 2
    · have cb := hown.byteAt (part_at 0 (packL m 2) 2 j hlt (packL_len _ _))
      have fb := hown.frozenAt j
      have Hset := Lib.hid (set_next 0 (packL m 2) 2 j _ hlt (packL_len _ _) (packL_at hlt))
      have Hst := Lib.hid (hown.byteSet hlt (UInt8.ofNat (m / 256 ^ j))).1
      rcases (show j = 0 ∨ j = 1 by omega) with rfl | rfl
      · go_wp2
        rw [show (m : Int) % 256 = ((UInt8.ofNat (m / 256 ^ 0)).toNat : Int) by rw [byte_num]; omega]
        exact ⟨⟨ar.far (by simp; omega) _, 1, by omega, by go_num, by rw [← Hset.out]; exact Hst.out, hbel.setCell (by simp; omega) _⟩, by simp [intOf]⟩
      · go_wp2
        rw [show (m : Int) / 256 = ((UInt8.ofNat (m / 256 ^ 1)).toNat : Int) by rw [byte_num]; omega]
        exact ⟨⟨ar.far (by simp; omega) _, 2, by omega, by go_num, by rw [← Hset.out]; exact Hst.out, hbel.setCell (by simp; omega) _⟩, by simp [intOf]⟩
    · have hall := toRel_end hown (by omega) (packL_len _ _)
      obtain ⟨r0, r1, f0, f1⟩ := ar.two
      obtain rfl : j = 2 := by omega
      clear hown
      go_wp2
      refine bodyPost_ret (v := .agg #[.int .i64 0, .slice (some ⟨w2.heap.size, 0, none⟩) 2 2]) (by simp [results, Tryz.results36, go_sem, r0, r1]) rfl ?_
      rw [Hf.out]
      exact ⟨_, _, _, rfl, ((hall.grown (grown_setCell _ ⟨w.heap.size, 0, none⟩ _) (by simp; omega)).grown (grown_setCell _ ⟨w.heap.size, 1, none⟩ _) (by simp; omega)), (hbel.setCell (Nat.le_refl _) _).setCell (Nat.le_refl _) _⟩
set_option maxHeartbeats 400000 in
theorem implPackWord_no3 (n : Int) (w : World) (hn : ¬ (0 ≤ n ∧ n ≤ 16777215)) :
    Calls Tryz.prog 36 #[.int .i64 n, .int .i64 3] w fun e w' => RetBR (packM n 3) w e w' := by
  have hin : inB (3, 1, 4) = true := rfl
  have hno : [(n, (0 : Int), (16777215 : Int))].all inB = false := by simp [inB]; omega
  have Hf := Lib.hid (packM_bad (n := n) (size := 3) (by simp; omega))
  go_enter Tryz.func36, Tryz.ntmps36
  go_wp2_with (go_at_call 82; refine (isWordSize_any _ _).mono ?_; rintro e w1 ⟨rfl, hb1⟩; have a1 := (At.new w _ _).below hb1 (by simp))
  have z1 := a1.lt
  have hB1 : Below w.heap.size w w1 := ((Below.refl _ _).alloc (Nat.le_refl _) _).trans (hb1.mono (by simp))
  refine (areWithin_any _ _ _ [(n, 0, 16777215)] _ (bnds_one (by simp)) (by simp) rfl (by simp)).mono ?_
  rintro e w2 ⟨rfl, hb2⟩
  have a2 := (a1.alloc _).below hb2 (by simp; omega)
  have hB2 : Below w.heap.size w w2 := (hB1.alloc (by omega) _).trans (hb2.mono (by simp; omega))
  obtain ⟨r0, r1, f0, f1⟩ := a2.two
  go_wp2
  refine bodyPost_ret (v := .agg #[.int .i64 3, .slice none 0 0]) (by simp [results, Tryz.results36, go_sem, r0, r1]) rfl ?_
  rw [Hf.out]
  exact ⟨none, 0, 0, rfl, Ow.nil, (hB2.setCell (Nat.le_refl _) _).setCell (Nat.le_refl _) _⟩

set_option maxRecDepth 100000 in
set_option maxHeartbeats 400000 in
theorem implPackWord_yes3 (m : Nat) (w : World) (hn : m ≤ 16777215) :
    Calls Tryz.prog 36 #[.int .i64 m, .int .i64 3] w fun e w' => RetBR (packM m 3) w e w' := by
  have hin : inB (3, 1, 4) = true := rfl
  have hno : [((m : Int), (0 : Int), (16777215 : Int))].all inB = true := by simp [inB]; omega
  have Hf := Lib.hid (show packM (m : Int) 3 = (0, packL m 3) from packM_nat (s := 3) (by omega) (by omega) (by omega))
  go_enter Tryz.func36, Tryz.ntmps36
  go_wp2_with (go_at_call 82; refine (isWordSize_any _ _).mono ?_; rintro e w1 ⟨rfl, hb1⟩; have a1 := (At.new w _ _).below hb1 (by simp))
  have z1 := a1.lt
  have hB1 : Below w.heap.size w w1 := ((Below.refl _ _).alloc (Nat.le_refl _) _).trans (hb1.mono (by simp))
  refine (areWithin_any _ _ _ [((m : Int), 0, 16777215)] _ (bnds_one (by simp)) (by simp) rfl (by simp)).mono ?_
  rintro e w2 ⟨rfl, hb2⟩
  have a2 := (a1.alloc _).below hb2 (by simp; omega)
  have hB2 : Below w.heap.size w w2 := (hB1.alloc (by omega) _).trans (hb2.mono (by simp; omega))
  have z2 := a2.lt
  go_wp2_with (refine wpList_make_ow okB _ rfl _ _ _ rfl w.heap.size info_u8 Tryz.underlying22 0 rfl .i64 .i64 3 3 3 rfl rfl rfl rfl (by omega) (by unfold maxLen; omega) (by omega) ?_; intro w3 hown hg3)
  have a3 := a2.grown hg3 (by simp)
  have hB3 : Below w.heap.size w w3 := hB2.grown hg3 (by omega) (by simp)
  have z3 := (hown.lt w2.heap.size rfl).2
  go_loopw [6, 26] (fun _ vi wr => ImplRel w m 3 w2.heap.size 30 vi wr) (fun _ vi _ => 3 - (intOf vi).toNat)
  case atStart => exact ⟨a3, 0, by omega, rfl, hown, hB3⟩
  case round =>
    obtain ⟨ar, j, hj, rfl, hown, hbel⟩ := hrel
    by_cases hlt : j < 3
    · have cb := hown.byteAt (part_at 0 (packL m 3) 3 j hlt (packL_len _ _))
      have fb := hown.frozenAt j
      have Hset := Lib.hid (set_next 0 (packL m 3) 3 j _ hlt (packL_len _ _) (packL_at hlt))
      have Hst := Lib.hid (hown.byteSet hlt (UInt8.ofNat (m / 256 ^ j))).1
      rcases (show j = 0 ∨ j = 1 ∨ j = 2 by omega) with rfl | rfl | rfl
      · go_wp2
        rw [show (m : Int) % 256 = ((UInt8.ofNat (m / 256 ^ 0)).toNat : Int) by rw [byte_num]; omega]
        exact ⟨⟨ar.far (by simp; omega) _, 1, by omega, by go_num, by rw [← Hset.out]; exact Hst.out, hbel.setCell (by simp; omega) _⟩, by simp [intOf]⟩
      · go_wp2
        rw [show (m : Int) / 256 % 256 = ((UInt8.ofNat (m / 256 ^ 1)).toNat : Int) by rw [byte_num]; omega]
        exact ⟨⟨ar.far (by simp; omega) _, 2, by omega, by go_num, by rw [← Hset.out]; exact Hst.out, hbel.setCell (by simp; omega) _⟩, by simp [intOf]⟩
      · go_wp2
        rw [show (m : Int) / 65536 = ((UInt8.ofNat (m / 256 ^ 2)).toNat : Int) by rw [byte_num]; omega]
        exact ⟨⟨ar.far (by simp; omega) _, 3, by omega, by go_num, by rw [← Hset.out]; exact Hst.out, hbel.setCell (by simp; omega) _⟩, by simp [intOf]⟩
    · have hall := toRel_end hown (by omega) (packL_len _ _)
      obtain ⟨r0, r1, f0, f1⟩ := ar.two
      obtain rfl : j = 3 := by omega
      clear hown
      go_wp2
      refine bodyPost_ret (v := .agg #[.int .i64 0, .slice (some ⟨w2.heap.size, 0, none⟩) 3 3]) (by simp [results, Tryz.results36, go_sem, r0, r1]) rfl ?_
      rw [Hf.out]
      exact ⟨_, _, _, rfl, ((hall.grown (grown_setCell _ ⟨w.heap.size, 0, none⟩ _) (by simp; omega)).grown (grown_setCell _ ⟨w.heap.size, 1, none⟩ _) (by simp; omega)), (hbel.setCell (Nat.le_refl _) _).setCell (Nat.le_refl _) _⟩
set_option maxHeartbeats 400000 in
theorem implPackWord_no4 (n : Int) (w : World) (hn : ¬ (0 ≤ n ∧ n ≤ 4294967295)) :
    Calls Tryz.prog 36 #[.int .i64 n, .int .i64 4] w fun e w' => RetBR (packM n 4) w e w' := by
  have hin : inB (4, 1, 4) = true := rfl
  have hno : [(n, (0 : Int), (4294967295 : Int))].all inB = false := by simp [inB]; omega
  have Hf := Lib.hid (packM_bad (n := n) (size := 4) (by simp; omega))
  go_enter Tryz.func36, Tryz.ntmps36
  go_wp2_with (go_at_call 82; refine (isWordSize_any _ _).mono ?_; rintro e w1 ⟨rfl, hb1⟩; have a1 := (At.new w _ _).below hb1 (by simp))
  have z1 := a1.lt
  have hB1 : Below w.heap.size w w1 := ((Below.refl _ _).alloc (Nat.le_refl _) _).trans (hb1.mono (by simp))
  refine (areWithin_any _ _ _ [(n, 0, 4294967295)] _ (bnds_one (by simp)) (by simp) rfl (by simp)).mono ?_
  rintro e w2 ⟨rfl, hb2⟩
  have a2 := (a1.alloc _).below hb2 (by simp; omega)
  have hB2 : Below w.heap.size w w2 := (hB1.alloc (by omega) _).trans (hb2.mono (by simp; omega))
  obtain ⟨r0, r1, f0, f1⟩ := a2.two
  go_wp2
  refine bodyPost_ret (v := .agg #[.int .i64 3, .slice none 0 0]) (by simp [results, Tryz.results36, go_sem, r0, r1]) rfl ?_
  rw [Hf.out]
  exact ⟨none, 0, 0, rfl, Ow.nil, (hB2.setCell (Nat.le_refl _) _).setCell (Nat.le_refl _) _⟩

set_option maxRecDepth 100000 in
set_option maxHeartbeats 400000 in
theorem implPackWord_yes4 (m : Nat) (w : World) (hn : m ≤ 4294967295) :
    Calls Tryz.prog 36 #[.int .i64 m, .int .i64 4] w fun e w' => RetBR (packM m 4) w e w' := by
  have hin : inB (4, 1, 4) = true := rfl
  have hno : [((m : Int), (0 : Int), (4294967295 : Int))].all inB = true := by simp [inB]; omega
  have Hf := Lib.hid (show packM (m : Int) 4 = (0, packL m 4) from packM_nat (s := 4) (by omega) (by omega) (by omega))
  go_enter Tryz.func36, Tryz.ntmps36
  go_wp2_with (go_at_call 82; refine (isWordSize_any _ _).mono ?_; rintro e w1 ⟨rfl, hb1⟩; have a1 := (At.new w _ _).below hb1 (by simp))
  have z1 := a1.lt
  have hB1 : Below w.heap.size w w1 := ((Below.refl _ _).alloc (Nat.le_refl _) _).trans (hb1.mono (by simp))
  refine (areWithin_any _ _ _ [((m : Int), 0, 4294967295)] _ (bnds_one (by simp)) (by simp) rfl (by simp)).mono ?_
  rintro e w2 ⟨rfl, hb2⟩
  have a2 := (a1.alloc _).below hb2 (by simp; omega)
  have hB2 : Below w.heap.size w w2 := (hB1.alloc (by omega) _).trans (hb2.mono (by simp; omega))
  have z2 := a2.lt
  go_wp2_with (refine wpList_make_ow okB _ rfl _ _ _ rfl w.heap.size info_u8 Tryz.underlying22 0 rfl .i64 .i64 4 4 4 rfl rfl rfl rfl (by omega) (by unfold maxLen; omega) (by omega) ?_; intro w3 hown hg3)
  have a3 := a2.grown hg3 (by simp)
  have hB3 : Below w.heap.size w w3 := hB2.grown hg3 (by omega) (by simp)
  have z3 := (hown.lt w2.heap.size rfl).2
  go_loopw [6, 26] (fun _ vi wr => ImplRel w m 4 w2.heap.size 30 vi wr) (fun _ vi _ => 4 - (intOf vi).toNat)
  case atStart => exact ⟨a3, 0, by omega, rfl, hown, hB3⟩
  case round =>
    obtain ⟨ar, j, hj, rfl, hown, hbel⟩ := hrel
    by_cases hlt : j < 4
    · have cb := hown.byteAt (part_at 0 (packL m 4) 4 j hlt (packL_len _ _))
      have fb := hown.frozenAt j
      have Hset := Lib.hid (set_next 0 (packL m 4) 4 j _ hlt (packL_len _ _) (packL_at hlt))
      have Hst := Lib.hid (hown.byteSet hlt (UInt8.ofNat (m / 256 ^ j))).1
      rcases (show j = 0 ∨ j = 1 ∨ j = 2 ∨ j = 3 by omega) with rfl | rfl | rfl | rfl
      · go_wp2
        rw [show (m : Int) % 256 = ((UInt8.ofNat (m / 256 ^ 0)).toNat : Int) by rw [byte_num]; omega]
        exact ⟨⟨ar.far (by simp; omega) _, 1, by omega, by go_num, by rw [← Hset.out]; exact Hst.out, hbel.setCell (by simp; omega) _⟩, by simp [intOf]⟩
      · go_wp2
        rw [show (m : Int) / 256 % 256 = ((UInt8.ofNat (m / 256 ^ 1)).toNat : Int) by rw [byte_num]; omega]
        exact ⟨⟨ar.far (by simp; omega) _, 2, by omega, by go_num, by rw [← Hset.out]; exact Hst.out, hbel.setCell (by simp; omega) _⟩, by simp [intOf]⟩
      · go_wp2
        rw [show (m : Int) / 65536 % 256 = ((UInt8.ofNat (m / 256 ^ 2)).toNat : Int) by rw [byte_num]; omega]
        exact ⟨⟨ar.far (by simp; omega) _, 3, by omega, by go_num, by rw [← Hset.out]; exact Hst.out, hbel.setCell (by simp; omega) _⟩, by simp [intOf]⟩
      · go_wp2
        rw [show (m : Int) / 16777216 = ((UInt8.ofNat (m / 256 ^ 3)).toNat : Int) by rw [byte_num]; omega]
        exact ⟨⟨ar.far (by simp; omega) _, 4, by omega, by go_num, by rw [← Hset.out]; exact Hst.out, hbel.setCell (by simp; omega) _⟩, by simp [intOf]⟩
    · have hall := toRel_end hown (by omega) (packL_len _ _)
      obtain ⟨r0, r1, f0, f1⟩ := ar.two
      obtain rfl : j = 4 := by omega
      clear hown
      go_wp2
      refine bodyPost_ret (v := .agg #[.int .i64 0, .slice (some ⟨w2.heap.size, 0, none⟩) 4 4]) (by simp [results, Tryz.results36, go_sem, r0, r1]) rfl ?_
      rw [Hf.out]
      exact ⟨_, _, _, rfl, ((hall.grown (grown_setCell _ ⟨w.heap.size, 0, none⟩ _) (by simp; omega)).grown (grown_setCell _ ⟨w.heap.size, 1, none⟩ _) (by simp; omega)), (hbel.setCell (Nat.le_refl _) _).setCell (Nat.le_refl _) _⟩

theorem implPackWord (n size : Int) (w : World) :
    Calls Tryz.prog 36 #[.int .i64 n, .int .i64 size] w fun e w' => RetBR (packM n size) w e w' := by
  by_cases h : 1 ≤ size ∧ size ≤ 4
  · have h4 : size = 1 ∨ size = 2 ∨ size = 3 ∨ size = 4 := by omega
    rcases h4 with rfl | rfl | rfl | rfl
    · by_cases hn : 0 ≤ n ∧ n ≤ 255
      · obtain ⟨m, rfl⟩ := Int.eq_ofNat_of_zero_le hn.1
        exact implPackWord_yes1 m w (by omega)
      · exact implPackWord_no1 n w hn
    · by_cases hn : 0 ≤ n ∧ n ≤ 65535
      · obtain ⟨m, rfl⟩ := Int.eq_ofNat_of_zero_le hn.1
        exact implPackWord_yes2 m w (by omega)
      · exact implPackWord_no2 n w hn
    · by_cases hn : 0 ≤ n ∧ n ≤ 16777215
      · obtain ⟨m, rfl⟩ := Int.eq_ofNat_of_zero_le hn.1
        exact implPackWord_yes3 m w (by omega)
      · exact implPackWord_no3 n w hn
    · by_cases hn : 0 ≤ n ∧ n ≤ 4294967295
      · obtain ⟨m, rfl⟩ := Int.eq_ofNat_of_zero_le hn.1
        exact implPackWord_yes4 m w (by omega)
      · exact implPackWord_no4 n w hn
  · exact implPackWord_size n size w h
end Go.Proofs.YtmaillakhhdkfaaGreatDoor
