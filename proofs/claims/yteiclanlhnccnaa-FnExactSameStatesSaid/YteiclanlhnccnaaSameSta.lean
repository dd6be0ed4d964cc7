/-
  Two states held against one another: the model's way and the program's.
-/
import Derived.Test.YteiclanlhnccnaaStas
import Derived.Test.YteiclanlhnccnaaSameSmp
import Derived.Test.YteiclanlhnccnaaSameImpl
import Derived.Test.YteiclanlhnccnaaSameH
import Derived.Test.YteiclanlhnccnaaMix
namespace Go.Proofs.Yteiclanlhnccnaa
set_option maxRecDepth 20000
open Go.RowKit
set_option linter.unusedSimpArgs false
set_option linter.unusedVariables false
attribute [local irreducible] mixW

set_option maxHeartbeats 4000000 in
theorem specSameStates (A B A' B' : Option Addr) (n c m d n' c' m' d' : Nat) (l l' : List Smp) (h h' : List Hnt) (x x' : Int) (w : World)
    (ha : Rd eS w w.heap.size A l) (hb : Rd eH w w.heap.size B h) (ha' : Rd eS w w.heap.size A' l') (hb' : Rd eH w w.heap.size B' h') (hn : l.length = n) (hm : h.length = m) (hn' : l'.length = n') (hm' : h'.length = m') (hnm : n ≤ maxLen) (hmm : m ≤ maxLen) :
    Calls Try.prog 5 #[.agg #[.slice A n c, .slice B m d, .int .i64 x], .agg #[.slice A' n' c', .slice B' m' d', .int .i64 x']] w fun e w' => e = .returned (.bool (staSame (l, h, x) (l', h', x'))) ∧ Below w.heap.size w w' := by
  have hb0 : Below w.heap.size w ((w.alloc (.cells #[.slice A n c, .slice B m d, .int .i64 x] 31)).alloc (.cells #[.slice A' n' c', .slice B' m' d', .int .i64 x'] 31)) := ((Below.refl _ _).alloc (Nat.le_refl _) _).alloc (by simp) _
  have x0 := (At.new w 31 #[.slice A n c, .slice B m d, .int .i64 x]).alloc (.cells #[.slice A' n' c', .slice B' m' d', .int .i64 x'] 31)
  have y0 : At ((w.alloc (.cells #[.slice A n c, .slice B m d, .int .i64 x] 31)).alloc (.cells #[.slice A' n' c', .slice B' m' d', .int .i64 x'] 31)) (w.heap.size + 1) 31 #[.slice A' n' c', .slice B' m' d', .int .i64 x'] := by
    have := At.new (w.alloc (.cells #[.slice A n c, .slice B m d, .int .i64 x] 31)) 31 #[.slice A' n' c', .slice B' m' d', .int .i64 x']
    simpa using this
  have ha0 := ha.lift hb0
  have hb00 := hb.lift hb0
  have ha0' := ha'.lift hb0
  have hb0' := hb'.lift hb0
  have S1 := specSameSamples A A' n n' c c' l l' _ ha0 ha0' hn hn' hnm
  have S2 := fun W (k : Below ((w.alloc (.cells #[.slice A n c, .slice B m d, .int .i64 x] 31)).alloc (.cells #[.slice A' n' c', .slice B' m' d', .int .i64 x'] 31)).heap.size ((w.alloc (.cells #[.slice A n c, .slice B m d, .int .i64 x] 31)).alloc (.cells #[.slice A' n' c', .slice B' m' d', .int .i64 x'] 31)) W) => specSameHints B B' m m' d d' h h' W (hb00.lift k) (hb0'.lift k) hm hm' hmm
  have es : staSame (l, h, x) (l', h', x') = (decide (l = l') && (decide (h = h') && decide (x = x'))) := rfl
  rcases k1 : decide (l = l') <;> rcases k2 : decide (h = h') <;> rcases k3 : decide (x = x')
  all_goals
    rw [k1, k2, k3] at es
    rw [k1] at S1
    rw [k2] at S2
    have k3' : (x == x') = decide (x = x') := rfl
    rw [k3] at k3'
    have Es := Lib.hid es
    clear k1 k2 k3 es hn hm hn' hm' ha hb ha' hb' ha0 hb00 ha0' hb0'
    obtain ⟨p0, p1, p2, _, _, _⟩ := x0.three
    obtain ⟨q0, q1, q2, _, _, _⟩ := y0.three
    go_enter Try.func5, Try.ntmps5
    go_wp2_with fail
    refine S1.mono ?_
    rintro e w1 ⟨rfl, hb1⟩
    have hB1 := hb0.trans (hb1.mono hb0.size)
    have x1 := x0.below hb1 x0.lt
    have y1 := y0.below hb1 y0.lt
    clear p0 p1 p2 q0 q1 q2 S1
    obtain ⟨p0, p1, p2, _, _, _⟩ := x1.three
    obtain ⟨q0, q1, q2, _, _, _⟩ := y1.three
    first
    | (go_wp2_with fail
       refine (S2 _ hb1).mono ?_
       rintro e w2 ⟨rfl, hb2⟩
       have hB2 := hB1.trans (hb2.mono hB1.size)
       have x2 := x1.below hb2 x1.lt
       have y2 := y1.below hb2 y1.lt
       clear p0 p1 p2 q0 q1 q2
       obtain ⟨p0, p1, p2, _, _, _⟩ := x2.three
       obtain ⟨q0, q1, q2, _, _, _⟩ := y2.three
       go_wp2
       go_ret
       exact ⟨by rw [Es.out]; rfl, hB2⟩)
    | (go_wp2
       go_ret
       exact ⟨by rw [Es.out]; rfl, hB1⟩)

set_option maxHeartbeats 4000000 in
theorem implSameStates (A B A' B' : Option Addr) (n c m d n' c' m' d' : Nat) (l l' : List Smp) (h h' : List Hnt) (x x' : Int) (w : World)
    (ha : Rd eS w w.heap.size A l) (hb : Rd eH w w.heap.size B h) (ha' : Rd eS w w.heap.size A' l') (hb' : Rd eH w w.heap.size B' h') (hn : l.length = n) (hm : h.length = m) (hn' : l'.length = n') (hm' : h'.length = m') (hnm : n ≤ maxLen) (hmm : m ≤ maxLen) :
    Calls Try.prog 7 #[.agg #[.slice A n c, .slice B m d, .int .i64 x], .agg #[.slice A' n' c', .slice B' m' d', .int .i64 x']] w fun e w' => e = .returned (.bool (staSame (l, h, x) (l', h', x'))) ∧ Below w.heap.size w w' := by
  have hb0 : Below w.heap.size w ((w.alloc (.cells #[.slice A n c, .slice B m d, .int .i64 x] 31)).alloc (.cells #[.slice A' n' c', .slice B' m' d', .int .i64 x'] 31)) := ((Below.refl _ _).alloc (Nat.le_refl _) _).alloc (by simp) _
  have x0 := (At.new w 31 #[.slice A n c, .slice B m d, .int .i64 x]).alloc (.cells #[.slice A' n' c', .slice B' m' d', .int .i64 x'] 31)
  have y0 : At ((w.alloc (.cells #[.slice A n c, .slice B m d, .int .i64 x] 31)).alloc (.cells #[.slice A' n' c', .slice B' m' d', .int .i64 x'] 31)) (w.heap.size + 1) 31 #[.slice A' n' c', .slice B' m' d', .int .i64 x'] := by
    have := At.new (w.alloc (.cells #[.slice A n c, .slice B m d, .int .i64 x] 31)) 31 #[.slice A' n' c', .slice B' m' d', .int .i64 x']
    simpa using this
  have ha0 := ha.lift hb0
  have hb00 := hb.lift hb0
  have ha0' := ha'.lift hb0
  have hb0' := hb'.lift hb0
  have S1 := implSameSamples A A' n n' c c' l l' _ ha0 ha0' hn hn' hnm
  have S2 := fun W (k : Below ((w.alloc (.cells #[.slice A n c, .slice B m d, .int .i64 x] 31)).alloc (.cells #[.slice A' n' c', .slice B' m' d', .int .i64 x'] 31)).heap.size ((w.alloc (.cells #[.slice A n c, .slice B m d, .int .i64 x] 31)).alloc (.cells #[.slice A' n' c', .slice B' m' d', .int .i64 x'] 31)) W) => implSameHints B B' m m' d d' h h' W (hb00.lift k) (hb0'.lift k) hm hm' hmm
  have es : staSame (l, h, x) (l', h', x') = (decide (l = l') && (decide (h = h') && decide (x = x'))) := rfl
  rcases k1 : decide (l = l') <;> rcases k2 : decide (h = h') <;> rcases k3 : decide (x = x')
  all_goals
    rw [k1, k2, k3] at es
    rw [k1] at S1
    rw [k2] at S2
    have k3' : (x == x') = decide (x = x') := rfl
    rw [k3] at k3'
    have Es := Lib.hid es
    clear k1 k2 k3 es hn hm hn' hm' ha hb ha' hb' ha0 hb00 ha0' hb0'
    obtain ⟨p0, p1, p2, _, _, _⟩ := x0.three
    obtain ⟨q0, q1, q2, _, _, _⟩ := y0.three
    go_enter Try.func7, Try.ntmps7
    go_wp2_with fail
    refine S1.mono ?_
    rintro e w1 ⟨rfl, hb1⟩
    have hB1 := hb0.trans (hb1.mono hb0.size)
    have x1 := x0.below hb1 x0.lt
    have y1 := y0.below hb1 y0.lt
    clear p0 p1 p2 q0 q1 q2 S1
    obtain ⟨p0, p1, p2, _, _, _⟩ := x1.three
    obtain ⟨q0, q1, q2, _, _, _⟩ := y1.three
    first
    | (go_wp2_with fail
       refine (S2 _ hb1).mono ?_
       rintro e w2 ⟨rfl, hb2⟩
       have hB2 := hB1.trans (hb2.mono hB1.size)
       have x2 := x1.below hb2 x1.lt
       have y2 := y1.below hb2 y1.lt
       clear p0 p1 p2 q0 q1 q2
       obtain ⟨p0, p1, p2, _, _, _⟩ := x2.three
       obtain ⟨q0, q1, q2, _, _, _⟩ := y2.three
       go_wp2
       go_ret
       exact ⟨by rw [Es.out]; rfl, hB2⟩)
    | (go_wp2
       go_ret
       exact ⟨by rw [Es.out]; rfl, hB1⟩)
end Go.Proofs.Yteiclanlhnccnaa
