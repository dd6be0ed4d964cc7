/-
  The program's members: faults, what is heard, suspected, aged; lives.
-/
import Derived.Test.YtbfjfjocangjeaaMbP
namespace Go.Proofs.Ytbfjfjocangjeaa
set_option maxRecDepth 20000
open Go.RowKit
set_option linter.unusedSimpArgs false
set_option linter.unusedVariables false

theorem memFault_orM (m : Mbr) : orM [markFaultM m.1, rngMk [(m.2, 0, 100000)]] = memFaultM m := by
  unfold memFaultM rngMk nowM
  simp only [orM_cons, orM_nil]
  by_cases h1 : markFaultM m.1 = 0
  · rcases h3 : inB (m.2, 0, 100000) <;> simp [h1, h3]
  · simp [h1]

set_option maxHeartbeats 1000000 in
theorem implMemberFault (a b c : Int) (w : World) :
    Calls Try.prog 31 #[.agg #[.int .i64 a, .int .i64 b, .int .i64 c]] w fun e w' => e = .returned (.int .i64 (memFaultM ((a, b), c))) ∧ Below w.heap.size w w' := by
  have Hk := Lib.hid (memFault_orM ((a, b), c))
  have hB0 : Below w.heap.size w (w.alloc (.cells #[.int .i64 a, .int .i64 b, .int .i64 c] 27)).drew := ((Below.refl _ _).alloc (Nat.le_refl _) _).drew
  have x0 := (At.new w 27 #[.int .i64 a, .int .i64 b, .int .i64 c]).drew
  go_enter Try.func31, Try.ntmps31
  go_wp2
  refine wp_region_mix [(0, false), (1, false), (3, false), (4, false), (2, true), (5, true), (6, true), (7, true), (8, false)] (fun u => At u w.heap.size 27 #[.int .i64 a, .int .i64 b, .int .i64 c]) (by kernel_rfl) (by kernel_rfl) (fun _ _ _ _ _ h => h) x0 ?_
  simp only [mixOps, List.map_cons, List.map_nil, List.getElem?_cons_succ, List.getElem?_cons_zero, Option.getD_some]
  iterate 4
    refine mix_pure (v := ?_) (by rfl) (fun u hu => ?_) ?_
    rotate_left
    · obtain ⟨_, _, _, _, _, _⟩ := hu.threeC
      go_simp
      (with_reducible rfl)
    (try simp only [Act.put, List.setIfInBounds_toArray, List.set_cons_zero, List.set_cons_succ])
  refine mix_call (by rfl) (fun K hK => ?_)
  go_simp
  refine (implMarkFault a b _).mono ?_
  rintro e w1 ⟨rfl, hb1⟩
  have x1 := x0.below hb1 x0.lt
  have hB1 := hB0.trans (hb1.mono hB0.size)
  refine hK _ _ _ (fun _ h => h) x1 ?_
  (try simp only [Act.put, List.setIfInBounds_toArray, List.set_cons_zero, List.set_cons_succ])
  refine mix_call (by rfl) (fun K hK => ?_)
  go_simp
  refine (clockFault c _).mono ?_
  rintro e w2 ⟨rfl, hb2⟩
  have x2 := x1.below hb2 x1.lt
  have hB2 := hB1.trans (hb2.mono hB1.size)
  refine hK _ _ _ (fun _ h => h) x2 ?_
  (try simp only [Act.put, List.setIfInBounds_toArray, List.set_cons_zero, List.set_cons_succ])
  refine mix_call (by rfl) (fun K hK => ?_)
  go_simp
  have ii := At.new w2 2 #[.int .i64 (markFaultM (a, b)), .int .i64 (rngMk [(c, 0, 100000)])]
  have hB3 := hB2.alloc hB2.size (.cells #[.int .i64 (markFaultM (a, b)), .int .i64 (rngMk [(c, 0, 100000)])] 2)
  have x3 := x2.alloc (.cells #[.int .i64 (markFaultM (a, b)), .int .i64 (rngMk [(c, 0, 100000)])] 2)
  refine hK _ _ _ (fun _ h => h) x3 ?_
  (try simp only [Act.put, List.setIfInBounds_toArray, List.set_cons_zero, List.set_cons_succ])
  refine mix_call (by rfl) (fun K hK => ?_)
  go_simp
  refine (or64Mk _ 2 _ [markFaultM (a, b), rngMk [(c, 0, 100000)]] _ (intsMk_at ii) rfl (by omega)).mono ?_
  rintro e w4 ⟨rfl, rfl⟩
  refine hK _ _ _ (fun _ h => h) x3 ?_
  (try simp only [Act.put, List.setIfInBounds_toArray, List.set_cons_zero, List.set_cons_succ])
  refine mix_pure (v := ?_) (by rfl) (fun u hu => ?_) ?_
  rotate_left
  · go_simp
    (with_reducible rfl)
  (try simp only [Act.put, List.setIfInBounds_toArray, List.set_cons_zero, List.set_cons_succ])
  refine mix_nil ?_
  go_wp2
  go_ret
  exact ⟨by rw [← Hk.out]; try rfl, hB3⟩

theorem strongerMark (a b d e0 : Int) (w : World) :
    Calls Try.prog 68 #[.agg #[.int .i64 a, .int .i64 b], .agg #[.int .i64 d, .int .i64 e0]] w fun e w' =>
      e = .returned (.agg #[.int .i64 (maxM (a, b) (d, e0)).1, .int .i64 (maxM (a, b) (d, e0)).2]) ∧ Below w.heap.size w w' := by
  have hb0 : Below w.heap.size w (((w.alloc (.cells #[.int .i64 a, .int .i64 b] 25)).alloc (.cells #[.int .i64 d, .int .i64 e0] 25)).alloc (.cells #[.int .i64 0, .int .i64 0] 25)) := (((Below.refl _ _).alloc (Nat.le_refl _) _).alloc (by simp) _).alloc (by simp; omega) _
  have x0 : At (((w.alloc (.cells #[.int .i64 a, .int .i64 b] 25)).alloc (.cells #[.int .i64 d, .int .i64 e0] 25)).alloc (.cells #[.int .i64 0, .int .i64 0] 25)) w.heap.size 25 #[.int .i64 a, .int .i64 b] := ((At.new w 25 #[.int .i64 a, .int .i64 b]).alloc _).alloc _
  have y0 : At (((w.alloc (.cells #[.int .i64 a, .int .i64 b] 25)).alloc (.cells #[.int .i64 d, .int .i64 e0] 25)).alloc (.cells #[.int .i64 0, .int .i64 0] 25)) (w.heap.size + 1) 25 #[.int .i64 d, .int .i64 e0] := by
    have := (At.new (w.alloc (.cells #[.int .i64 a, .int .i64 b] 25)) 25 #[.int .i64 d, .int .i64 e0]).alloc (.cells #[.int .i64 0, .int .i64 0] 25)
    simpa using this
  have z0 : At (((w.alloc (.cells #[.int .i64 a, .int .i64 b] 25)).alloc (.cells #[.int .i64 d, .int .i64 e0] 25)).alloc (.cells #[.int .i64 0, .int .i64 0] 25)) (w.heap.size + 2) 25 #[.int .i64 0, .int .i64 0] := by
    have := At.new ((w.alloc (.cells #[.int .i64 a, .int .i64 b] 25)).alloc (.cells #[.int .i64 d, .int .i64 e0] 25)) 25 #[.int .i64 0, .int .i64 0]
    simpa using this
  rcases h1 : strongM (d, e0) (a, b)
  all_goals
    have Hm := Lib.hid (show maxM (a, b) (d, e0) = _ by simp only [maxM, h1]; rfl)
    go_enter Try.func68, Try.ntmps68
    go_wp2_with fail
    refine (implIsStronger d e0 a b _).mono ?_
    rintro e w1 ⟨he, hb1⟩
    rw [h1] at he
    subst he
    obtain ⟨p0, p1⟩ := (x0.below hb1 x0.lt).twoC
    obtain ⟨q0, q1⟩ := (y0.below hb1 y0.lt).twoC
    have z1 := z0.below hb1 z0.lt
    obtain ⟨r0, r1⟩ := z1.twoC
    have rf0 := z1.frozen 0
    have rf1 := z1.frozen 1
    have hB1 := hb0.trans (hb1.mono hb0.size)
    clear x0 y0 z0 z1
    go_wp2
    refine bodyPost_ret (v := .agg #[.int .i64 (maxM (a, b) (d, e0)).1, .int .i64 (maxM (a, b) (d, e0)).2]) (by simp [results, Try.results68, go_sem, Hm.out, p0, p1, q0, q1, r0, r1]) rfl ?_
    refine ⟨rfl, ?_⟩
    repeat (refine Below.setCell ?_ (by simp <;> omega) _)
    exact hB1

def turnF (m : Mbr) (h : Mrk) (t : Int) : Mbr := if h = m.1 then m else (h, t)
theorem turn_hear (m : Mbr) (h : Mrk) (t : Int) : turnF m (maxM m.1 h) t = hearF m h t := by
  unfold turnF maxM hearF
  rcases k : strongM h m.1
  · simp
  · have : ¬ h = m.1 := fun e => by rw [e, strong_self] at k; exact absurd k (by simp)
    simp [this]
theorem turn_susp (m : Mbr) (t : Int) : turnF m (if m.1.1 = 1 then 2 else m.1.1, m.1.2) t = suspF m t := by
  obtain ⟨⟨s, l⟩, c⟩ := m
  unfold turnF suspF
  by_cases h : s = 1
  · subst h; simp
  · simp [h]
theorem turn_age (m : Mbr) (t : Int) : turnF m (if m.1.1 = 2 ∧ m.2 + 4 ≤ t then 3 else m.1.1, m.1.2) t = ageF m t := by
  obtain ⟨⟨s, l⟩, c⟩ := m
  unfold turnF ageF
  by_cases h : s = 2 ∧ c + 4 ≤ t
  · obtain ⟨h1, h2⟩ := h
    subst h1
    simp [h2]
  · simp only [h, if_false, if_true]

theorem turnMember (a b c d e0 n : Int) (w : World) :
    Calls Try.prog 67 #[.agg #[.int .i64 a, .int .i64 b, .int .i64 c], .agg #[.int .i64 d, .int .i64 e0], .int .i64 n] w fun e w' => RetMb (0, turnF ((a, b), c) (d, e0) n) w e w' := by
  unfold RetMb
  rcases e1 : (d == a)
  · have Hm := Lib.hid (show turnF ((a, b), c) (d, e0) n = ((d, e0), n) by have := (beq_eq_false_iff_ne (a := d) (b := a)).1 e1; simp [turnF, this])
    go_enter Try.func67, Try.ntmps67
    go_wp2
    refine bodyPost_ret (v := .agg #[.int .i64 0, .int .i64 (turnF ((a, b), c) (d, e0) n).1.1, .int .i64 (turnF ((a, b), c) (d, e0) n).1.2, .int .i64 (turnF ((a, b), c) (d, e0) n).2]) (by simp [results, Try.results67, go_sem, Hm.out]) rfl ?_
    refine ⟨rfl, ?_⟩
    exact (((Below.refl _ _).alloc (Nat.le_refl _) _).alloc (by simp) _).alloc (by simp; omega) _
  rcases e2 : (e0 == b)
  · have Hm := Lib.hid (show turnF ((a, b), c) (d, e0) n = ((d, e0), n) by have := (beq_eq_false_iff_ne (a := e0) (b := b)).1 e2; simp [turnF, this])
    go_enter Try.func67, Try.ntmps67
    go_wp2
    refine bodyPost_ret (v := .agg #[.int .i64 0, .int .i64 (turnF ((a, b), c) (d, e0) n).1.1, .int .i64 (turnF ((a, b), c) (d, e0) n).1.2, .int .i64 (turnF ((a, b), c) (d, e0) n).2]) (by simp [results, Try.results67, go_sem, Hm.out]) rfl ?_
    refine ⟨rfl, ?_⟩
    exact (((Below.refl _ _).alloc (Nat.le_refl _) _).alloc (by simp) _).alloc (by simp; omega) _
  · have Hm := Lib.hid (show turnF ((a, b), c) (d, e0) n = ((a, b), c) by have h1 := beq_iff_eq.1 e1; have h2 := beq_iff_eq.1 e2; simp [turnF, h1, h2])
    go_enter Try.func67, Try.ntmps67
    go_wp2
    refine bodyPost_ret (v := .agg #[.int .i64 0, .int .i64 (turnF ((a, b), c) (d, e0) n).1.1, .int .i64 (turnF ((a, b), c) (d, e0) n).1.2, .int .i64 (turnF ((a, b), c) (d, e0) n).2]) (by simp [results, Try.results67, go_sem, Hm.out]) rfl ?_
    refine ⟨rfl, ?_⟩
    exact (((Below.refl _ _).alloc (Nat.le_refl _) _).alloc (by simp) _).alloc (by simp; omega) _

end Go.Proofs.Ytbfjfjocangjeaa
