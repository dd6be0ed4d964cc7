/-
  Texts of one proof, joined: each has its own namespace.
-/
import Derived.Test.YteiclanlhnccnaaGreatDoorBExApplyRecord3
import Derived.Test.YteiclanlhnccnaaGreatDoorBExApplyRecord5
import Derived.Test.YteiclanlhnccnaaGreatDoorBExApplyRecord7
import Derived.Test.YteiclanlhnccnaaGreatDoorBExApplyRecord18
/-
  States marked and held, as the law does it; answers that hold a state.
-/
namespace Go.Proofs.YteiclanlhnccnaaGreatDoor
set_option maxRecDepth 20000
open Go.RowKit
set_option linter.unusedSimpArgs false
set_option linter.unusedVariables false

/-- Two rows of the call's own, of two types, lie in two blocks. -/
theorem Ow.two {α β : Type} {E : Enc α} {E' : Enc β} {w : World} {base base' n c m d : Nat} {A B : Option Addr} {l : List α} {h : List β} (oa : Ow E w base A n c l) (ob : Ow E' w base' B m d h) (hne : E.tid ≠ E'.tid) : ∀ g, B.map (·.block) = some g → A.map (·.block) ≠ some g := by
  intro g hb ha
  rcases oa.2 with ⟨h0, _⟩ | ⟨g1, cap1, cur1, hv1, _, hg1, _⟩
  · simp only [Value.slice.injEq] at h0
    rw [h0.1] at ha
    simp at ha
  rcases ob.2 with ⟨h0, _⟩ | ⟨g2, cap2, cur2, hv2, _, hg2, _⟩
  · simp only [Value.slice.injEq] at h0
    rw [h0.1] at hb
    simp at hb
  simp only [Value.slice.injEq] at hv1 hv2
  rw [hv1.1] at ha
  rw [hv2.1] at hb
  obtain rfl : g1 = g := by simpa using ha
  obtain rfl : g2 = g1 := by simpa using hb
  rw [hg1] at hg2
  simp only [Option.some.injEq, Obj.cells.injEq] at hg2
  exact hne hg2.2.1

theorem Ow.notAt {α : Type} {E : Enc α} {w : World} {base n c : Nat} {A : Option Addr} {l : List α} {g : Nat} {t : TypeId} {cs : Array Value} (h : Ow E w base A n c l) (hx : At w g t cs) (hne : t ≠ E.tid) : A.map (·.block) ≠ some g := by
  intro hk
  rcases h.2 with ⟨h0, _⟩ | ⟨g', cap, cur, hv, hb, hgg, rest⟩
  · simp only [Value.slice.injEq] at h0
    rw [h0.1] at hk
    simp at hk
  · simp only [Value.slice.injEq] at hv
    rw [hv.1] at hk
    obtain rfl : g' = g := by simpa using hk
    unfold At at hx
    rw [hx] at hgg
    simp only [Option.some.injEq, Obj.cells.injEq] at hgg
    exact hne hgg.2.1
/-- Blocks of other types are as they were. -/
def Others (w w' : World) : Prop := ∀ (g : Nat) (t : TypeId) (cs : Array Value), At w g t cs → t ≠ eS.tid → t ≠ eH.tid → At w' g t cs
set_option maxHeartbeats 1000000 in
theorem markState (A B : Option Addr) (n c m d base lo hi : Nat) (l : List Smp) (h : List Hnt) (x : Int) (w : World) (oa : Ow eS w base A n c l) (ob : Ow eH w base B m d h) (hA : ∀ g, A.map (·.block) = some g → lo ≤ g ∧ g < hi) (hB : ∀ g, B.map (·.block) = some g → lo ≤ g ∧ g < hi) (hn : n ≤ 4194304) (hm : m ≤ 4194304) :
    Calls Tryz.prog 34 #[.agg #[.slice A n c, .slice B m d, .int .i64 x], .int .i64 1] w fun e w' => e = .returned (.int .i64 (1 + 4 * (n : Int) + 7 * (m : Int))) ∧ Ow eS w' base A n c (marksS 1 n) ∧ Ow eH w' base B m d (marksH (1 + 4 * n) m) ∧ Within lo hi w w' ∧ Others w w' := by
  have hb0 : Below w.heap.size w (w.alloc (.cells #[.slice A n c, .slice B m d, .int .i64 x] 39)) := (Below.refl _ _).alloc (Nat.le_refl _) _
  have x0 := At.new w 39 #[.slice A n c, .slice B m d, .int .i64 x]
  have oa0 := oa.alloc (.cells #[.slice A n c, .slice B m d, .int .i64 x] 39)
  have ob0 := ob.alloc (.cells #[.slice A n c, .slice B m d, .int .i64 x] 39)
  obtain ⟨c0, c1, c2, _, _, _⟩ := x0.three
  have e1 : ((1 + 4 * n : Nat) : Int) = 1 + 4 * (n : Int) := by omega
  have MH := fun W (o : Ow eH W base B m d h) => markHintS B m d base h (1 + 4 * n) W o (by omega) (by omega)
  rw [e1] at MH
  have hlx : ∀ g, A.map (·.block) = some g → g ≠ w.heap.size := fun g hg => Nat.ne_of_lt (oa.lt g hg).2
  have hly : ∀ g, B.map (·.block) = some g → g ≠ w.heap.size := fun g hg => Nat.ne_of_lt (ob.lt g hg).2
  go_enter Tryz.func34, Tryz.ntmps34
  go_wp2_with fail
  refine (markSampleS1 A n c base l _ oa0 (by omega)).mono ?_
  rintro e w1 ⟨rfl, oa1, hg1⟩
  have x1 := x0.grown hg1 (fun e => hlx _ e rfl)
  have ob1 := ob0.grown hg1 (Ow.two oa0 ob0 (by decide))
  have W1 : Within lo hi w w1 := (Within.of_below hb0).trans (within_of hg1 hA)
  clear c0 c1 c2
  obtain ⟨c0, c1, c2, _, _, _⟩ := x1.three
  go_wp2_with fail
  refine (MH _ ob1).mono ?_
  rintro e w2 ⟨rfl, ob2, hg2⟩
  have oa2 := oa1.grown hg2 (fun g hg e => Ow.two oa1 ob1 (by decide) g e hg)
  have W2 : Within lo hi w w2 := W1.trans (within_of hg2 hB)
  go_wp2
  go_ret
  exact ⟨rfl, oa2, ob2, W2, fun g t cs hg h1 h2 => ((hg.alloc _).grown hg1 (oa0.notAt (hg.alloc _) h1)).grown hg2 (ob1.notAt ((hg.alloc _).grown hg1 (oa0.notAt (hg.alloc _) h1)) h2)⟩

set_option maxHeartbeats 1000000 in
theorem heldState (A B : Option Addr) (n c m d : Nat) (x : Int) (w : World) (ra : Rd eS w w.heap.size A (marksS 1 n)) (rb : Rd eH w w.heap.size B (marksH (1 + 4 * n) m)) (hn : n ≤ 4194304) (hm : m ≤ 4194304) :
    Calls Tryz.prog 93 #[.agg #[.slice A n c, .slice B m d, .int .i64 x], .int .i64 1] w fun e w' => e = .returned (.int .i64 (1 + 4 * (n : Int) + 7 * (m : Int))) ∧ Below w.heap.size w w' := by
  have hb0 : Below w.heap.size w (w.alloc (.cells #[.slice A n c, .slice B m d, .int .i64 x] 39)) := (Below.refl _ _).alloc (Nat.le_refl _) _
  have x0 := At.new w 39 #[.slice A n c, .slice B m d, .int .i64 x]
  have ra0 := ra.lift hb0
  have rb0 := rb.lift hb0
  obtain ⟨c0, c1, c2, _, _, _⟩ := x0.three
  have e1 : ((1 + 4 * n : Nat) : Int) = 1 + 4 * (n : Int) := by omega
  have HH := fun W (o : Rd eH W W.heap.size B (marksH (1 + 4 * n) m)) => heldHintS B m d (1 + 4 * n) W o (by omega) (by omega)
  rw [e1] at HH
  have hl1 : ¬ (1 : Int) + 4 * (n : Int) < 0 := by omega
  have hl2 : ¬ (1 : Int) + 4 * (n : Int) + 7 * (m : Int) < 0 := by omega
  go_enter Tryz.func93, Tryz.ntmps93
  go_wp2_with fail
  refine (heldSampleS1 A n c _ ra0 (by omega)).mono ?_
  rintro e w1 ⟨rfl, hb1⟩
  have hB1 := hb0.trans (hb1.mono hb0.size)
  have x1 := x0.below hb1 x0.lt
  clear c0 c1 c2
  obtain ⟨c0, c1, c2, _, _, _⟩ := x1.three
  go_wp2_with fail
  refine (HH _ (rb0.lift hb1)).mono ?_
  rintro e w2 ⟨rfl, hb2⟩
  go_wp2
  go_ret
  exact ⟨rfl, hB1.trans (hb2.mono hB1.size)⟩

set_option maxHeartbeats 1000000 in
theorem markStateResult (z : Int) (A B : Option Addr) (n c m d base lo hi : Nat) (l : List Smp) (h : List Hnt) (x : Int) (w : World) (oa : Ow eS w base A n c l) (ob : Ow eH w base B m d h) (hA : ∀ g, A.map (·.block) = some g → lo ≤ g ∧ g < hi) (hB : ∀ g, B.map (·.block) = some g → lo ≤ g ∧ g < hi) (hn : n ≤ 4194304) (hm : m ≤ 4194304) :
    Calls Tryz.prog 35 #[.agg #[.int .i64 z, .slice A n c, .slice B m d, .int .i64 x], .int .i64 1] w fun e w' => e = .returned (.int .i64 (1 + 4 * (n : Int) + 7 * (m : Int))) ∧ Ow eS w' base A n c (marksS 1 n) ∧ Ow eH w' base B m d (marksH (1 + 4 * n) m) ∧ Within lo hi w w' ∧ Others w w' := by
  have hb0 : Below w.heap.size w (w.alloc (.cells #[.int .i64 z, .slice A n c, .slice B m d, .int .i64 x] 43)) := (Below.refl _ _).alloc (Nat.le_refl _) _
  have x0 := At.new w 43 #[.int .i64 z, .slice A n c, .slice B m d, .int .i64 x]
  obtain ⟨c0, c1, c2, c3, _, _, _, _⟩ := x0.four
  go_enter Tryz.func35, Tryz.ntmps35
  go_wp2_with fail
  refine (markState A B n c m d base lo hi l h x _ (oa.alloc _) (ob.alloc _) hA hB hn hm).mono ?_
  rintro e w1 ⟨rfl, o1, o2, hw, hk⟩
  go_wp2
  go_ret
  exact ⟨rfl, o1, o2, (Within.of_below hb0).trans hw, fun g t cs hg h1 h2 => hk g t cs (hg.alloc _) h1 h2⟩
set_option maxHeartbeats 1000000 in
theorem heldStateResult (z : Int) (A B : Option Addr) (n c m d : Nat) (x : Int) (w : World) (ra : Rd eS w w.heap.size A (marksS 1 n)) (rb : Rd eH w w.heap.size B (marksH (1 + 4 * n) m)) (hn : n ≤ 4194304) (hm : m ≤ 4194304) :
    Calls Tryz.prog 36 #[.agg #[.int .i64 z, .slice A n c, .slice B m d, .int .i64 x], .int .i64 1] w fun e w' => e = .returned (.int .i64 (1 + 4 * (n : Int) + 7 * (m : Int))) ∧ Below w.heap.size w w' := by
  have hb0 : Below w.heap.size w (w.alloc (.cells #[.int .i64 z, .slice A n c, .slice B m d, .int .i64 x] 43)) := (Below.refl _ _).alloc (Nat.le_refl _) _
  have x0 := At.new w 43 #[.int .i64 z, .slice A n c, .slice B m d, .int .i64 x]
  obtain ⟨c0, c1, c2, c3, _, _, _, _⟩ := x0.four
  have hl2 : ¬ (1 : Int) + 4 * (n : Int) + 7 * (m : Int) < 0 := by omega
  go_enter Tryz.func36, Tryz.ntmps36
  go_wp2_with fail
  refine (heldState A B n c m d x _ (ra.lift hb0) (rb.lift hb0) hn hm).mono ?_
  rintro e w1 ⟨rfl, hb1⟩
  go_wp2
  go_ret
  exact ⟨rfl, hb0.trans (hb1.mono hb0.size)⟩
set_option maxHeartbeats 1000000 in
theorem eqStateResult_same (z : Int) (A B A' B' : Option Addr) (n c m d n' c' m' d' : Nat) (l : List Smp) (h : List Hnt) (x : Int) (w : World) (ha : Rd eS w w.heap.size A l) (hb : Rd eH w w.heap.size B h) (ha' : Rd eS w w.heap.size A' l) (hb' : Rd eH w w.heap.size B' h) (hn : l.length = n) (hm : h.length = m) (hn' : l.length = n') (hm' : h.length = m') (hnm : n ≤ maxLen) (hmm : m ≤ maxLen) :
    Calls Tryz.prog 32 #[.agg #[.int .i64 z, .slice A n c, .slice B m d, .int .i64 x], .agg #[.int .i64 z, .slice A' n' c', .slice B' m' d', .int .i64 x]] w fun e w' => e = .returned (.bool true) ∧ Below w.heap.size w w' := by
  have hb0 : Below w.heap.size w ((w.alloc (.cells #[.int .i64 z, .slice A n c, .slice B m d, .int .i64 x] 43)).alloc (.cells #[.int .i64 z, .slice A' n' c', .slice B' m' d', .int .i64 x] 43)) := ((Below.refl _ _).alloc (Nat.le_refl _) _).alloc (by simp) _
  have x0 := (At.new w 43 #[.int .i64 z, .slice A n c, .slice B m d, .int .i64 x]).alloc (.cells #[.int .i64 z, .slice A' n' c', .slice B' m' d', .int .i64 x] 43)
  have y0 : At ((w.alloc (.cells #[.int .i64 z, .slice A n c, .slice B m d, .int .i64 x] 43)).alloc (.cells #[.int .i64 z, .slice A' n' c', .slice B' m' d', .int .i64 x] 43)) (w.heap.size + 1) 43 #[.int .i64 z, .slice A' n' c', .slice B' m' d', .int .i64 x] := by
    have := At.new (w.alloc (.cells #[.int .i64 z, .slice A n c, .slice B m d, .int .i64 x] 43)) 43 #[.int .i64 z, .slice A' n' c', .slice B' m' d', .int .i64 x]
    simpa using this
  obtain ⟨c0, c1, c2, c3, _, _, _, _⟩ := x0.four
  obtain ⟨d0, d1, d2, d3, _, _, _, _⟩ := y0.four
  have hzz : (z != z) = false := by simp
  go_enter Tryz.func32, Tryz.ntmps32
  go_wp2_with fail
  refine (eqState A B A' B' n c m d n' c' m' d' l l h h x x _ (ha.lift hb0) (hb.lift hb0) (ha'.lift hb0) (hb'.lift hb0) hn hm hn' hm' hnm hmm).mono ?_
  rintro e w1 ⟨rfl, hb1⟩
  rw [sta_yes]
  go_wp2
  go_ret
  exact ⟨rfl, hb0.trans (hb1.mono hb0.size)⟩
end Go.Proofs.YteiclanlhnccnaaGreatDoor
