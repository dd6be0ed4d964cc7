/-
  A state: the law's own measuring and copying of it.
-/
import Derived.Test.YteiclanlhnccnaaDoorRcdTo
import Derived.Test.YteiclanlhnccnaaDoorRPure
namespace Go.Proofs.YteiclanlhnccnaaDoor
set_option maxRecDepth 20000
open Go.RowKit
set_option linter.unusedSimpArgs false
set_option linter.unusedVariables false

set_option maxHeartbeats 1000000 in
theorem szState_no (A B : Option Addr) (n c m d : Nat) (life : Int) (w : World) (hn : n ≤ maxLen) (hm : m ≤ maxLen) (h : 1048576 < n + m) :
    Calls Tryd.prog 20 #[.agg #[.slice A n c, .slice B m d, .int .i64 life], .int .i64 1048576] w fun e w' => e = .returned (.int .i64 (-1)) ∧ Below w.heap.size w w' := by
  have hB0 : Below w.heap.size w (w.alloc (.cells #[.slice A n c, .slice B m d, .int .i64 life] 48)) := (Below.refl _ _).alloc (Nat.le_refl _) _
  have x0 := At.new w 48 #[.slice A n c, .slice B m d, .int .i64 life]
  obtain ⟨c0, c1, c2, _, _, _⟩ := x0.three
  by_cases hbig : 1048576 < n
  · clear h
    go_enter Tryd.func20, Tryd.ntmps20
    go_wp2_with fail
    refine (szSampleS A n c 1048576 _ (by omega) (by omega) hn).mono ?_
    rintro e w' ⟨rfl, rfl⟩
    rw [if_pos (by omega)]
    go_wp2
    go_ret
    exact ⟨rfl, hB0⟩
  · have hl : ¬ (1048576 : Int) - (n : Int) < 0 := by omega
    have h2 : (1048576 : Int) - (n : Int) < (m : Int) := by omega
    have h0 : (0 : Int) ≤ 1048576 - (n : Int) := by omega
    have h1 : (1048576 : Int) - (n : Int) ≤ 1048576 := by omega
    have hnb : ¬ ((1048576 : Int) < (n : Int)) := by omega
    have S1 := szSampleS A n c 1048576 (w.alloc (.cells #[.slice A n c, .slice B m d, .int .i64 life] 48)) (by omega) (by omega) hn
    rw [if_neg hnb] at S1
    have S2 := szHintS B m d (1048576 - (n : Int)) (w.alloc (.cells #[.slice A n c, .slice B m d, .int .i64 life] 48)) h0 h1 hm
    rw [if_pos h2] at S2
    clear h hbig hnb h2
    go_enter Tryd.func20, Tryd.ntmps20
    go_wp2_with fail
    refine S1.mono ?_
    rintro e w' ⟨rfl, rfl⟩
    go_wp2_with fail
    refine S2.mono ?_
    rintro e w' ⟨rfl, rfl⟩
    go_wp2
    go_ret
    exact ⟨rfl, hB0⟩
set_option maxHeartbeats 1000000 in
theorem szState_ok (A B : Option Addr) (n c m d : Nat) (life : Int) (w : World) (hn : n ≤ maxLen) (hm : m ≤ maxLen) (h : n + m ≤ 1048576) :
    Calls Tryd.prog 20 #[.agg #[.slice A n c, .slice B m d, .int .i64 life], .int .i64 1048576] w fun e w' => e = .returned (.int .i64 (1048576 - (n : Int) - (m : Int))) ∧ Below w.heap.size w w' := by
  have hB0 : Below w.heap.size w (w.alloc (.cells #[.slice A n c, .slice B m d, .int .i64 life] 48)) := (Below.refl _ _).alloc (Nat.le_refl _) _
  have x0 := At.new w 48 #[.slice A n c, .slice B m d, .int .i64 life]
  obtain ⟨c0, c1, c2, _, _, _⟩ := x0.three
  have hl : ¬ (1048576 : Int) - (n : Int) < 0 := by omega
  have hl2 : ¬ (1048576 : Int) - (n : Int) - (m : Int) < 0 := by omega
  have h0 : (0 : Int) ≤ 1048576 - (n : Int) := by omega
  have h1 : (1048576 : Int) - (n : Int) ≤ 1048576 := by omega
  have S1 := szSampleS A n c 1048576 (w.alloc (.cells #[.slice A n c, .slice B m d, .int .i64 life] 48)) (by omega) (by omega) hn
  rw [if_neg (by omega)] at S1
  have S2 := szHintS B m d (1048576 - (n : Int)) (w.alloc (.cells #[.slice A n c, .slice B m d, .int .i64 life] 48)) h0 h1 hm
  rw [if_neg (by omega)] at S2
  clear h
  go_enter Tryd.func20, Tryd.ntmps20
  go_wp2_with fail
  refine S1.mono ?_
  rintro e w' ⟨rfl, rfl⟩
  go_wp2_with fail
  refine S2.mono ?_
  rintro e w' ⟨rfl, rfl⟩
  go_wp2
  go_ret
  exact ⟨rfl, hB0⟩
set_option maxHeartbeats 1000000 in
theorem szState_gen (A B : Option Addr) (n c m d : Nat) (life left : Int) (w : World) (h0 : 0 ≤ left) (h1 : left ≤ 1048576) (hn : n ≤ maxLen) (hm : m ≤ maxLen) :
    Calls Tryd.prog 20 #[.agg #[.slice A n c, .slice B m d, .int .i64 life], .int .i64 left] w fun e w' => e = .returned (.int .i64 (if left < (n : Int) + m then -1 else left - n - m)) ∧ Below w.heap.size w w' := by
  have hB0 : Below w.heap.size w (w.alloc (.cells #[.slice A n c, .slice B m d, .int .i64 life] 48)) := (Below.refl _ _).alloc (Nat.le_refl _) _
  have x0 := At.new w 48 #[.slice A n c, .slice B m d, .int .i64 life]
  obtain ⟨c0, c1, c2, _, _, _⟩ := x0.three
  have S1 := szSampleS A n c left (w.alloc (.cells #[.slice A n c, .slice B m d, .int .i64 life] 48)) h0 h1 hn
  by_cases hbig : left < (n : Int)
  · rw [if_pos hbig] at S1
    rw [if_pos (by omega)]
    clear hbig
    go_enter Tryd.func20, Tryd.ntmps20
    go_wp2_with fail
    refine S1.mono ?_
    rintro e w' ⟨rfl, rfl⟩
    go_wp2
    go_ret
    exact ⟨rfl, hB0⟩
  rw [if_neg hbig] at S1
  have hl : ¬ left - (n : Int) < 0 := by omega
  have S2 := szHintS B m d (left - (n : Int)) (w.alloc (.cells #[.slice A n c, .slice B m d, .int .i64 life] 48)) (by omega) (by omega) hm
  by_cases hb2 : left - (n : Int) < (m : Int)
  · rw [if_pos hb2] at S2
    rw [if_pos (by omega)]
    clear hbig hb2
    go_enter Tryd.func20, Tryd.ntmps20
    go_wp2_with fail
    refine S1.mono ?_
    rintro e w' ⟨rfl, rfl⟩
    go_wp2_with fail
    refine S2.mono ?_
    rintro e w' ⟨rfl, rfl⟩
    go_wp2
    go_ret
    exact ⟨rfl, hB0⟩
  · rw [if_neg hb2] at S2
    rw [if_neg (by omega)]
    have hl2 : ¬ left - (n : Int) - (m : Int) < 0 := by omega
    clear hbig hb2
    go_enter Tryd.func20, Tryd.ntmps20
    go_wp2_with fail
    refine S1.mono ?_
    rintro e w' ⟨rfl, rfl⟩
    go_wp2_with fail
    refine S2.mono ?_
    rintro e w' ⟨rfl, rfl⟩
    go_wp2
    go_ret
    exact ⟨rfl, hB0⟩
set_option maxHeartbeats 2000000 in
theorem toState (A B : Option Addr) (n c m d : Nat) (l : List Smp) (h : List Hnt) (life : Int) (w : World) (ha : Rd eL w w.heap.size A l) (hb : Rd eM w w.heap.size B h) (hn : l.length = n) (hm : h.length = m) (hnm : n ≤ 1048576) (hmm : m ≤ 1048576) :
    Calls Tryd.prog 22 #[.agg #[.slice A n c, .slice B m d, .int .i64 life]] w fun e w' => ∃ A' c' B' d', e = .returned (.agg #[.slice A' n c', .slice B' m d', .int .i64 life]) ∧ Ow eS w' w.heap.size A' n c' l ∧ Ow eH w' w.heap.size B' m d' h ∧ Below w.heap.size w w' := by
  have hb3 : Below w.heap.size w (((w.alloc (.cells #[.slice A n c, .slice B m d, .int .i64 life] 48)).alloc (.cells #[.slice none 0 0, .slice none 0 0, .int .i64 0] 54)).alloc (.cells #[.slice none 0 0, .slice none 0 0, .int .i64 0] 54)) := (((Below.refl _ _).alloc (Nat.le_refl _) _).alloc (by simp) _).alloc (by simp; omega) _
  have x3 : At (((w.alloc (.cells #[.slice A n c, .slice B m d, .int .i64 life] 48)).alloc (.cells #[.slice none 0 0, .slice none 0 0, .int .i64 0] 54)).alloc (.cells #[.slice none 0 0, .slice none 0 0, .int .i64 0] 54)) w.heap.size 48 #[.slice A n c, .slice B m d, .int .i64 life] := ((At.new w 48 #[.slice A n c, .slice B m d, .int .i64 life]).alloc _).alloc _
  have r3 : At (((w.alloc (.cells #[.slice A n c, .slice B m d, .int .i64 life] 48)).alloc (.cells #[.slice none 0 0, .slice none 0 0, .int .i64 0] 54)).alloc (.cells #[.slice none 0 0, .slice none 0 0, .int .i64 0] 54)) (w.heap.size + 1) 54 #[.slice none 0 0, .slice none 0 0, .int .i64 0] := by
    have := (At.new (w.alloc (.cells #[.slice A n c, .slice B m d, .int .i64 life] 48)) 54 #[.slice none 0 0, .slice none 0 0, .int .i64 0]).alloc (.cells #[.slice none 0 0, .slice none 0 0, .int .i64 0] 54)
    simpa using this
  have o3 : At (((w.alloc (.cells #[.slice A n c, .slice B m d, .int .i64 life] 48)).alloc (.cells #[.slice none 0 0, .slice none 0 0, .int .i64 0] 54)).alloc (.cells #[.slice none 0 0, .slice none 0 0, .int .i64 0] 54)) (w.heap.size + 2) 54 #[.slice none 0 0, .slice none 0 0, .int .i64 0] := by
    have := At.new ((w.alloc (.cells #[.slice A n c, .slice B m d, .int .i64 life] 48)).alloc (.cells #[.slice none 0 0, .slice none 0 0, .int .i64 0] 54)) 54 #[.slice none 0 0, .slice none 0 0, .int .i64 0]
    simpa using this
  have hs3 : (((w.alloc (.cells #[.slice A n c, .slice B m d, .int .i64 life] 48)).alloc (.cells #[.slice none 0 0, .slice none 0 0, .int .i64 0] 54)).alloc (.cells #[.slice none 0 0, .slice none 0 0, .int .i64 0] 54)).heap.size = w.heap.size + 3 := by simp
  obtain ⟨c0, c1, c2, _, _, _⟩ := x3.three
  have Hn := Lib.hid hn
  have Hm := Lib.hid hm
  clear hn hm
  go_enter Tryd.func22, Tryd.ntmps22
  go_wp2_with fail
  refine (toSampleS A n c l _ (ha.lift hb3) Hn.out hnm).mono ?_
  rintro e w4 ⟨A', c', rfl, ox, hb4⟩
  have x4 := x3.below hb4 x3.lt
  have r4 := r3.below hb4 r3.lt
  have o4 := o3.below hb4 o3.lt
  have hB4 := hb3.trans (hb4.mono hb3.size)
  rw [hs3] at ox
  clear x3 r3 o3 c0 c1 c2 hb4 hb3 hs3
  obtain ⟨c0, c1, c2, _, _, _⟩ := x4.three
  obtain ⟨d0, d1, d2, f0, f1, f2⟩ := o4.three
  have hB5 : Below w.heap.size w (w4.setCell ⟨w.heap.size + 2, 0, none⟩ (.slice A' n c')) := hB4.setCell (by simp) _
  have x5 : At (w4.setCell ⟨w.heap.size + 2, 0, none⟩ (.slice A' n c')) w.heap.size 48 #[.slice A n c, .slice B m d, .int .i64 life] := x4.far (by simp) _
  have r5 : At (w4.setCell ⟨w.heap.size + 2, 0, none⟩ (.slice A' n c')) (w.heap.size + 1) 54 #[.slice none 0 0, .slice none 0 0, .int .i64 0] := r4.far (by simp) _
  have o5 : At (w4.setCell ⟨w.heap.size + 2, 0, none⟩ (.slice A' n c')) (w.heap.size + 2) 54 #[.slice A' n c', .slice none 0 0, .int .i64 0] := o4.set 0 _
  have ox5 : Ow eS (w4.setCell ⟨w.heap.size + 2, 0, none⟩ (.slice A' n c')) (w.heap.size + 3) A' n c' l := ox.under (by simp) _
  have hb5 := hb.lift hB5
  clear x4 r4 o4 ox
  go_wp2_with fail
  refine (toHintS B m d h _ hb5 Hm.out hmm).mono ?_
  rintro e w6 ⟨B', d', rfl, oy, hb6⟩
  have x6 := x5.below hb6 x5.lt
  have r6 := r5.below hb6 r5.lt
  have o6 := o5.below hb6 o5.lt
  have hB6 := hB5.trans (hb6.mono hB5.size)
  have ox6 := ox5.below hb6 (Nat.le_refl _)
  have hsz : w.heap.size + 3 ≤ (w4.setCell ⟨w.heap.size + 2, 0, none⟩ (.slice A' n c')).heap.size := by have := o5.lt; omega
  have oy6 := oy.from_ hsz
  clear x5 r5 o5 c0 c1 c2 d0 d1 d2 f0 f1 f2 hb6 hB5 hB4 hb5 ox5 oy hsz
  obtain ⟨c0, c1, c2, _, _, _⟩ := x6.three
  obtain ⟨d0, d1, d2, f0, f1, f2⟩ := o6.three
  obtain ⟨p0, p1, p2, q0, q1, q2⟩ := r6.three
  clear x6 o6 r6
  go_wp2
  refine bodyPost_ret (v := .agg #[.slice A' n c', .slice B' m d', .int .i64 life]) (by simp [results, Tryd.results22, go_sem, c0, c1, c2, d0, d1, d2, p0, p1, p2]) rfl ?_
  refine ⟨A', c', B', d', rfl, ?_, ?_, ?_⟩
  · refine Ow.from_ (base := w.heap.size + 3) ?_ (by omega)
    repeat (refine Ow.under ?_ (by simp) _)
    exact ox6
  · refine Ow.from_ (base := w.heap.size + 3) ?_ (by omega)
    repeat (refine Ow.under ?_ (by simp) _)
    exact oy6
  · repeat (refine Below.setCell ?_ (by simp <;> omega) _)
    exact hB6
/-- Two states are the same. -/
def staSame (s t : Sta) : Bool := decide (s.1 = t.1) && (decide (s.2.1 = t.2.1) && decide (s.2.2 = t.2.2))
theorem sta_no1 {l l' : List Smp} {h h' : List Hnt} {x x' : Int} (k : ¬ l = l') : staSame (l, h, x) (l', h', x') = false := by simp [staSame, k]
theorem sta_no2 {l l' : List Smp} {h h' : List Hnt} {x x' : Int} (k : ¬ h = h') : staSame (l, h, x) (l', h', x') = false := by simp [staSame, k]
theorem sta_no3 {l l' : List Smp} {h h' : List Hnt} {x x' : Int} (k : ¬ x = x') : staSame (l, h, x) (l', h', x') = false := by simp [staSame, k]
theorem sta_yes (s : Sta) : staSame s s = true := by simp [staSame]

set_option maxHeartbeats 2000000 in
theorem eqState (A B A' B' : Option Addr) (n c m d n' c' m' d' : Nat) (l l' : List Smp) (h h' : List Hnt) (x x' : Int) (w : World) (ha : Rd eS w w.heap.size A l) (hb : Rd eH w w.heap.size B h) (ha' : Rd eS w w.heap.size A' l') (hb' : Rd eH w w.heap.size B' h')
    (hn : l.length = n) (hm : h.length = m) (hn' : l'.length = n') (hm' : h'.length = m') (hnm : n ≤ maxLen) (hmm : m ≤ maxLen) :
    Calls Tryd.prog 24 #[.agg #[.slice A n c, .slice B m d, .int .i64 x], .agg #[.slice A' n' c', .slice B' m' d', .int .i64 x']] w fun e w' => e = .returned (.bool (staSame (l, h, x) (l', h', x'))) ∧ Below w.heap.size w w' := by
  have hb0 : Below w.heap.size w ((w.alloc (.cells #[.slice A n c, .slice B m d, .int .i64 x] 54)).alloc (.cells #[.slice A' n' c', .slice B' m' d', .int .i64 x'] 54)) := ((Below.refl _ _).alloc (Nat.le_refl _) _).alloc (by simp) _
  have x2 : At ((w.alloc (.cells #[.slice A n c, .slice B m d, .int .i64 x] 54)).alloc (.cells #[.slice A' n' c', .slice B' m' d', .int .i64 x'] 54)) w.heap.size 54 #[.slice A n c, .slice B m d, .int .i64 x] := (At.new w 54 #[.slice A n c, .slice B m d, .int .i64 x]).alloc _
  have y2 : At ((w.alloc (.cells #[.slice A n c, .slice B m d, .int .i64 x] 54)).alloc (.cells #[.slice A' n' c', .slice B' m' d', .int .i64 x'] 54)) (w.heap.size + 1) 54 #[.slice A' n' c', .slice B' m' d', .int .i64 x'] := by
    have := At.new (w.alloc (.cells #[.slice A n c, .slice B m d, .int .i64 x] 54)) 54 #[.slice A' n' c', .slice B' m' d', .int .i64 x']
    simpa using this
  obtain ⟨c0, c1, c2, _, _, _⟩ := x2.three
  obtain ⟨d0, d1, d2, _, _, _⟩ := y2.three
  have ES := eqSampleS A A' n n' c c' l l' ((w.alloc (.cells #[.slice A n c, .slice B m d, .int .i64 x] 54)).alloc (.cells #[.slice A' n' c', .slice B' m' d', .int .i64 x'] 54)) (ha.lift hb0) (ha'.lift hb0) hn hn' hnm
  by_cases k1 : l = l'
  rotate_left
  · rw [show decide (l = l') = false from decide_eq_false k1] at ES
    have Hr := Lib.hid (sta_no1 (h := h) (h' := h') (x := x) (x' := x') k1)
    clear k1 hn hm hn' hm' ha ha' hb hb'
    go_enter Tryd.func24, Tryd.ntmps24
    go_wp2_with fail
    refine ES.mono ?_
    rintro e w1 ⟨rfl, hb1⟩
    go_wp2
    go_ret
    exact ⟨by rw [Hr.out]; try rfl, hb0.trans (hb1.mono hb0.size)⟩
  rw [show decide (l = l') = true from decide_eq_true k1] at ES
  have EH := fun W (hW : Below w.heap.size w W) => eqHintS B B' m m' d d' h h' W (hb.lift hW) (hb'.lift hW) hm hm' hmm
  by_cases k2 : h = h'
  rotate_left
  · rw [show decide (h = h') = false from decide_eq_false k2] at EH
    have Hr := Lib.hid (sta_no2 (l := l) (l' := l') (x := x) (x' := x') k2)
    clear k1 k2 hn hm hn' hm' ha ha' hb hb'
    go_enter Tryd.func24, Tryd.ntmps24
    go_wp2_with fail
    refine ES.mono ?_
    rintro e w1 ⟨rfl, hb1⟩
    have hB1 := hb0.trans (hb1.mono hb0.size)
    obtain ⟨e0, e1, e2, _, _, _⟩ := (x2.below hb1 x2.lt).three
    obtain ⟨g0, g1, g2, _, _, _⟩ := (y2.below hb1 y2.lt).three
    go_wp2_with fail
    refine (EH _ hB1).mono ?_
    rintro e w2 ⟨rfl, hb2⟩
    go_wp2
    go_ret
    exact ⟨by rw [Hr.out]; try rfl, hB1.trans (hb2.mono hB1.size)⟩
  rw [show decide (h = h') = true from decide_eq_true k2] at EH
  by_cases k3 : x = x'
  rotate_left
  · have hne : (x != x') = true := by rw [bne_iff_ne]; exact k3
    have Hr := Lib.hid (sta_no3 (l := l) (l' := l') (h := h) (h' := h') k3)
    clear k1 k2 k3 hn hm hn' hm' ha ha' hb hb'
    go_enter Tryd.func24, Tryd.ntmps24
    go_wp2_with fail
    refine ES.mono ?_
    rintro e w1 ⟨rfl, hb1⟩
    have hB1 := hb0.trans (hb1.mono hb0.size)
    have x3 := x2.below hb1 x2.lt
    have y3 := y2.below hb1 y2.lt
    obtain ⟨e0, e1, e2, _, _, _⟩ := x3.three
    obtain ⟨g0, g1, g2, _, _, _⟩ := y3.three
    go_wp2_with fail
    refine (EH _ hB1).mono ?_
    rintro e w2 ⟨rfl, hb2⟩
    have hB2 := hB1.trans (hb2.mono hB1.size)
    obtain ⟨i0, i1, i2, _, _, _⟩ := (x3.below hb2 x3.lt).three
    obtain ⟨j0, j1, j2, _, _, _⟩ := (y3.below hb2 y3.lt).three
    go_wp2
    go_ret
    exact ⟨by rw [Hr.out]; try rfl, hB2⟩
  · have hne : (x != x') = false := by simpa using k3
    have Hr := Lib.hid (show staSame (l, h, x) (l', h', x') = true by rw [k1, k2, k3]; exact sta_yes _)
    clear k1 k2 k3 hn hm hn' hm' ha ha' hb hb'
    go_enter Tryd.func24, Tryd.ntmps24
    go_wp2_with fail
    refine ES.mono ?_
    rintro e w1 ⟨rfl, hb1⟩
    have hB1 := hb0.trans (hb1.mono hb0.size)
    have x3 := x2.below hb1 x2.lt
    have y3 := y2.below hb1 y2.lt
    obtain ⟨e0, e1, e2, _, _, _⟩ := x3.three
    obtain ⟨g0, g1, g2, _, _, _⟩ := y3.three
    go_wp2_with fail
    refine (EH _ hB1).mono ?_
    rintro e w2 ⟨rfl, hb2⟩
    have hB2 := hB1.trans (hb2.mono hB1.size)
    obtain ⟨i0, i1, i2, _, _, _⟩ := (x3.below hb2 x3.lt).three
    obtain ⟨j0, j1, j2, _, _, _⟩ := (y3.below hb2 y3.lt).three
    go_wp2
    go_ret
    exact ⟨by rw [Hr.out]; try rfl, hB2⟩
end Go.Proofs.YteiclanlhnccnaaDoor
