/-
  The program's queue of hints: put, looked for, taken away, counted, listed.
-/
import Derived.Test.YteiclanlhnccnaaDoorSortQ
import Derived.Test.YteiclanlhnccnaaDoorByKeyW
import Derived.Test.YteiclanlhnccnaaDoorHntMark
namespace Go.Proofs.YteiclanlhnccnaaDoor
set_option maxRecDepth 20000
open Go.RowKit Go.Shelf
set_option linter.unusedSimpArgs false
set_option linter.unusedVariables false

theorem At.apart {w : World} {p b : Nat} {t : TypeId} {cs : Array Value} {L : List Qd} (h : At w p t cs) (k : QMap w b L) : p ≠ b := by
  rintro rfl
  obtain ⟨es, clock, hb, _⟩ := k
  rw [show w.heap[p]? = _ from h] at hb
  cases hb
theorem QMap.stored {w : World} {b : Nat} {L : List Qd} (h : QMap w b L) {p : Addr} (hp : p.block ≠ b) (u : Value) : QMap (w.setCell p u) b L :=
  h.kept (grown_setCell w p u) (fun e => hp (Option.some.inj e.symm))

/-- What is looked up, in plain words. -/
theorem lookQ (L : List Qd) (h : Hnt) (t : Int) : ∃ (q0 q1 q2 q3 q4 q5 q6 q7 : Int) (f : Bool), (∀ u b, QMap u b L → (Instr.lookup 137 (.map (some b)) (keyH h) true).run Tryd.prog u = .ok (.tuple #[.agg #[.int .i64 q0, .int .i64 q1, .int .i64 q2, .int .i64 q3, .int .i64 q4, .int .i64 q5, .int .i64 q6, .int .i64 q7], .bool f]) u) ∧
    turnQ t h L = (if f then q0 else t) ∧ ((firstQ L h).map Prod.snd).getD zeroH = (q1, (q2, q3, q4, q5), q6, q7) ∧ (firstQ L h).isSome = f := by
  rcases hf : firstQ L h with _ | ⟨q0, q1, ⟨q2, q3, q4, q5⟩, q6, q7⟩
  · refine ⟨0, 0, 0, 0, 0, 0, 0, 0, false, fun u b hu => ?_, ?_, rfl, rfl⟩
    · have := hu.look h
      rw [hf] at this
      exact this
    · unfold turnQ
      rw [hf]
      rfl
  · refine ⟨q0, q1, q2, q3, q4, q5, q6, q7, true, fun u b hu => ?_, ?_, rfl, rfl⟩
    · have := hu.look h
      rw [hf] at this
      exact this
    · unfold turnQ
      rw [hf]
      rfl

theorem qNew (w : World) : Calls Tryd.prog 76 #[] w fun e w' => e = .returned (.pointer (some ⟨w.heap.size + 1, 0, none⟩)) ∧ w' = (w.alloc (.map #[] 0)).alloc (.cells #[.int .i64 0, .map (some w.heap.size)] 139) := by
  have hmm := @run_makeMap Tryd.prog
  go_enter Tryd.func76, Tryd.ntmps76
  go_wp2
  go_ret
  exact ⟨by simp, rfl⟩

theorem qSize (p b : Nat) (t : Int) (L : List Qd) (w : World) (hp : At w p 139 #[.int .i64 t, .map (some b)]) (hm : QMap w b L) :
    Calls Tryd.prog 72 #[.pointer (some ⟨p, 0, none⟩)] w fun e w' => e = .returned (.int .i64 (L.length : Int)) ∧ w = w' := by
  obtain ⟨c0, c1, _, _⟩ := hp.two
  have hl := fun ty => hm.len ty
  go_enter Tryd.func72, Tryd.ntmps72
  go_wp2
  go_ret
  exact ⟨rfl, rfl⟩

set_option maxRecDepth 100000 in
set_option maxHeartbeats 4000000 in
theorem qPut (p b B : Nat) (t : Int) (L : List Qd) (a0 a1 a2 a3 a4 a5 a6 : Int) (w : World) (hp : At w p 139 #[.int .i64 t, .map (some b)]) (hm : QMap w b L) (hB : B ≤ p) (hBb : B ≤ b) (ht : 0 ≤ t ∧ t ≤ 1000) :
    Calls Tryd.prog 77 #[.pointer (some ⟨p, 0, none⟩), .agg #[.int .i64 a0, .int .i64 a3], .agg #[.int .i64 a0, .int .i64 a1, .int .i64 a2, .int .i64 a3, .int .i64 a4, .int .i64 a5, .int .i64 a6]] w fun e w' => e = .returned (.tuple #[]) ∧ At w' p 139 #[.int .i64 (t + 1), .map (some b)] ∧ QMap w' b (putQ t (a0, (a1, a2, a3, a4), a5, a6) L) ∧ Below B w w' := by
  obtain ⟨q0, q1, q2, q3, q4, q5, q6, q7, f, hl0, hturn, -, -⟩ := lookQ L (a0, (a1, a2, a3, a4), a5, a6) t
  have hl : ∀ u, QMap u b L → (Instr.lookup 137 (.map (some b)) (.agg #[.int .i64 a0, .int .i64 a3]) true).run Tryd.prog u = .ok (.tuple #[.agg #[.int .i64 q0, .int .i64 q1, .int .i64 q2, .int .i64 q3, .int .i64 q4, .int .i64 q5, .int .i64 q6, .int .i64 q7], .bool f]) u := fun u hu => hl0 u b hu
  clear hl0
  have hne := hp.apart hm
  have Hturn := Lib.hid hturn
  have Hset := Lib.hid (putQ_set t (a0, (a1, a2, a3, a4), a5, a6) L)
  clear hturn
  have p2 := (hp.alloc (.cells #[.int .i64 a0, .int .i64 a3] 128)).alloc (.cells #[.int .i64 a0, .int .i64 a1, .int .i64 a2, .int .i64 a3, .int .i64 a4, .int .i64 a5, .int .i64 a6] 72)
  have m2 := (hm.alloc (.cells #[.int .i64 a0, .int .i64 a3] 128)).alloc (.cells #[.int .i64 a0, .int .i64 a1, .int .i64 a2, .int .i64 a3, .int .i64 a4, .int .i64 a5, .int .i64 a6] 72)
  have k2 := (At.new w 128 #[.int .i64 a0, .int .i64 a3]).alloc (.cells #[.int .i64 a0, .int .i64 a1, .int .i64 a2, .int .i64 a3, .int .i64 a4, .int .i64 a5, .int .i64 a6] 72)
  have i2 : At ((w.alloc (.cells #[.int .i64 a0, .int .i64 a3] 128)).alloc (.cells #[.int .i64 a0, .int .i64 a1, .int .i64 a2, .int .i64 a3, .int .i64 a4, .int .i64 a5, .int .i64 a6] 72)) (w.heap.size + 1) 72 #[.int .i64 a0, .int .i64 a1, .int .i64 a2, .int .i64 a3, .int .i64 a4, .int .i64 a5, .int .i64 a6] := by
    have := At.new (w.alloc (.cells #[.int .i64 a0, .int .i64 a3] 128)) 72 #[.int .i64 a0, .int .i64 a1, .int .i64 a2, .int .i64 a3, .int .i64 a4, .int .i64 a5, .int .i64 a6]
    simpa using this
  have hB2 : Below B w ((w.alloc (.cells #[.int .i64 a0, .int .i64 a3] 128)).alloc (.cells #[.int .i64 a0, .int .i64 a1, .int .i64 a2, .int .i64 a3, .int .i64 a4, .int .i64 a5, .int .i64 a6] 72)) := ((Below.refl _ _).alloc (by have := hp.lt; omega) _).alloc (by have := hp.lt; simp; omega) _
  have lp := hp.lt
  have lm := hm.lt
  obtain ⟨c0, c1, d0, d1⟩ := p2.two
  clear hp hm
  go_enter Tryd.func77, Tryd.ntmps77
  go_wp2
  clear c0 c1 d0 d1
  refine wp_region_mix [(0, false), (1, false), (2, false), (3, false), (4, false), (5, false), (6, false), (7, false), (8, false), (9, true), (10, true), (11, false)] (fun u => (At u p 139 #[.int .i64 t, .map (some b)] ∧ At u w.heap.size 128 #[.int .i64 a0, .int .i64 a3]) ∧ QMap u b L) (by kernel_rfl) (by kernel_rfl) (fun _ _ _ _ _ h => h) ⟨⟨p2.drew, k2.drew⟩, m2.drew⟩ ?_
  simp only [mixOps, List.map_cons, List.map_nil, List.getElem?_cons_succ, List.getElem?_cons_zero, Option.getD_some]
  iterate 9 (
    refine mix_pure (v := ?_) (by rfl) (fun u hu => ?_) ?_
    rotate_left
    · obtain ⟨⟨h1, h2⟩, h3⟩ := hu
      obtain ⟨_, _, _, _⟩ := h1.two
      obtain ⟨_, _, _, _⟩ := h2.two
      have hlu := hl u h3
      go_simp
      (with_reducible rfl)
    (try simp only [Act.put, List.setIfInBounds_toArray, List.set_cons_zero, List.set_cons_succ]))
  refine mix_call (by rfl) (fun K hK => ?_)
  go_simp
  refine hK _ _ _ (fun _ h => h) ⟨⟨p2.drew.alloc _, k2.drew.alloc _⟩, m2.drew.alloc _⟩ ?_
  (try simp only [Act.put, List.setIfInBounds_toArray, List.set_cons_zero, List.set_cons_succ])
  refine mix_call (by rfl) (fun K hK => ?_)
  go_simp
  have p3 := p2.drew.alloc (.cells #[.int .i64 q0, .int .i64 q1, .int .i64 q2, .int .i64 q3, .int .i64 q4, .int .i64 q5, .int .i64 q6, .int .i64 q7] 143)
  have m3 := m2.drew.alloc (.cells #[.int .i64 q0, .int .i64 q1, .int .i64 q2, .int .i64 q3, .int .i64 q4, .int .i64 q5, .int .i64 q6, .int .i64 q7] 143)
  have k3 := k2.drew.alloc (.cells #[.int .i64 q0, .int .i64 q1, .int .i64 q2, .int .i64 q3, .int .i64 q4, .int .i64 q5, .int .i64 q6, .int .i64 q7] 143)
  have i3 := i2.drew.alloc (.cells #[.int .i64 q0, .int .i64 q1, .int .i64 q2, .int .i64 q3, .int .i64 q4, .int .i64 q5, .int .i64 q6, .int .i64 q7] 143)
  have hB3 := hB2.drew.alloc (by have := hB2.size; have := lp; simp; omega) (.cells #[.int .i64 q0, .int .i64 q1, .int .i64 q2, .int .i64 q3, .int .i64 q4, .int .i64 q5, .int .i64 q6, .int .i64 q7] 143)
  have v3 : At (((w.alloc (.cells #[.int .i64 a0, .int .i64 a3] 128)).alloc (.cells #[.int .i64 a0, .int .i64 a1, .int .i64 a2, .int .i64 a3, .int .i64 a4, .int .i64 a5, .int .i64 a6] 72)).drew.alloc (.cells #[.int .i64 q0, .int .i64 q1, .int .i64 q2, .int .i64 q3, .int .i64 q4, .int .i64 q5, .int .i64 q6, .int .i64 q7] 143)) (w.heap.size + 1 + 1) 143 #[.int .i64 q0, .int .i64 q1, .int .i64 q2, .int .i64 q3, .int .i64 q4, .int .i64 q5, .int .i64 q6, .int .i64 q7] := by
    have := At.new ((w.alloc (.cells #[.int .i64 a0, .int .i64 a3] 128)).alloc (.cells #[.int .i64 a0, .int .i64 a1, .int .i64 a2, .int .i64 a3, .int .i64 a4, .int .i64 a5, .int .i64 a6] 72)).drew 143 #[.int .i64 q0, .int .i64 q1, .int .i64 q2, .int .i64 q3, .int .i64 q4, .int .i64 q5, .int .i64 q6, .int .i64 q7]
    simpa using this
  refine hK _ _ _ (fun _ h => h) ⟨⟨p3, k3⟩, m3⟩ ?_
  (try simp only [Act.put, List.setIfInBounds_toArray, List.set_cons_zero, List.set_cons_succ])
  refine mix_pure (v := ?_) (by rfl) (fun u hu => ?_) ?_
  rotate_left
  · go_simp
    (with_reducible rfl)
  (try simp only [Act.put, List.setIfInBounds_toArray, List.set_cons_zero, List.set_cons_succ])
  refine mix_nil ?_
  have v30 := v3.cell 0
  cases f
  · have HT := Lib.hid (show turnQ t (a0, (a1, a2, a3, a4), a5, a6) L = t from Hturn.out)
    go_wp2
    refine wp_region_mix [(0, false), (1, false), (2, false), (3, false), (4, false), (5, false), (6, false), (7, false), (8, true)] (fun u => (At u p 139 #[.int .i64 t, .map (some b)] ∧ At u w.heap.size 128 #[.int .i64 a0, .int .i64 a3]) ∧ At u (w.heap.size + 1) 72 #[.int .i64 a0, .int .i64 a1, .int .i64 a2, .int .i64 a3, .int .i64 a4, .int .i64 a5, .int .i64 a6]) (by kernel_rfl) (by kernel_rfl) (fun _ _ _ _ _ h => h) ⟨⟨p3.drew, k3.drew⟩, i3.drew⟩ ?_
    simp only [mixOps, List.map_cons, List.map_nil, List.getElem?_cons_succ, List.getElem?_cons_zero, Option.getD_some]
    iterate 8 (
      refine mix_pure (v := ?_) (by rfl) (fun u hu => ?_) ?_
      rotate_left
      · obtain ⟨⟨h1, h2⟩, h3⟩ := hu
        obtain ⟨_, _, _, _⟩ := h1.two
        obtain ⟨_, _, _, _⟩ := h2.two
        obtain ⟨_, _, _, _, _, _, _⟩ := h3.seven
        go_simp
        (with_reducible rfl)
      (try simp only [Act.put, List.setIfInBounds_toArray, List.set_cons_zero, List.set_cons_succ]))
    obtain ⟨w5, hrun, m5, hg5⟩ := m3.drew.put (t, (a0, (a1, a2, a3, a4), a5, a6))
    have p5 := p3.drew.grown hg5 (fun e => hne (Option.some.inj e).symm)
    have hB5 := hB3.drew.grown hg5 (by have := hB3.size; have := lp; simp; omega) (fun g e => by cases e; exact hBb)
    refine mix_call (by rfl) (fun K hK => ?_)
    refine wp_mapPut' _ _ _ _ rfl rfl rfl rfl hrun ?_
    refine hK _ _ _ (fun _ h => h) ⟨⟨p5, k3.drew.grown hg5 (fun e => by have := Option.some.inj e; omega)⟩, i3.drew.grown hg5 (fun e => by have := Option.some.inj e; omega)⟩ ?_
    (try simp only [Act.put, List.setIfInBounds_toArray, List.set_cons_zero, List.set_cons_succ])
    refine mix_nil ?_
    obtain ⟨c0, c1, d0, d1⟩ := p5.two
    have hw : IntKind.i64.wrap (t + 1) = t + 1 := IntWalk.i64_in _ (by omega)
    have p6 := p5.set 0 (.int .i64 (t + 1))
    have m6 := m5.stored (p := ⟨p, 0, none⟩) hne (.int .i64 (t + 1))
    have hB6 := hB5.setCell (p := ⟨p, 0, none⟩) hB (.int .i64 (t + 1))
    go_wp2
    go_end0
    exact ⟨rfl, p6, by rw [Hset.out, HT.out]; exact m6, hB6⟩
  · have HT := Lib.hid (show turnQ t (a0, (a1, a2, a3, a4), a5, a6) L = q0 from Hturn.out)
    go_wp2
    refine wp_region_mix [(0, false), (1, false), (2, false), (3, false), (4, false), (5, false), (6, false), (7, false), (8, true)] (fun u => (At u p 139 #[.int .i64 t, .map (some b)] ∧ At u w.heap.size 128 #[.int .i64 a0, .int .i64 a3]) ∧ At u (w.heap.size + 1) 72 #[.int .i64 a0, .int .i64 a1, .int .i64 a2, .int .i64 a3, .int .i64 a4, .int .i64 a5, .int .i64 a6]) (by kernel_rfl) (by kernel_rfl) (fun _ _ _ _ _ h => h) ⟨⟨p3.drew, k3.drew⟩, i3.drew⟩ ?_
    simp only [mixOps, List.map_cons, List.map_nil, List.getElem?_cons_succ, List.getElem?_cons_zero, Option.getD_some]
    iterate 8 (
      refine mix_pure (v := ?_) (by rfl) (fun u hu => ?_) ?_
      rotate_left
      · obtain ⟨⟨h1, h2⟩, h3⟩ := hu
        obtain ⟨_, _, _, _⟩ := h1.two
        obtain ⟨_, _, _, _⟩ := h2.two
        obtain ⟨_, _, _, _, _, _, _⟩ := h3.seven
        go_simp
        (with_reducible rfl)
      (try simp only [Act.put, List.setIfInBounds_toArray, List.set_cons_zero, List.set_cons_succ]))
    obtain ⟨w5, hrun, m5, hg5⟩ := m3.drew.put (q0, (a0, (a1, a2, a3, a4), a5, a6))
    have p5 := p3.drew.grown hg5 (fun e => hne (Option.some.inj e).symm)
    have hB5 := hB3.drew.grown hg5 (by have := hB3.size; have := lp; simp; omega) (fun g e => by cases e; exact hBb)
    refine mix_call (by rfl) (fun K hK => ?_)
    refine wp_mapPut' _ _ _ _ rfl rfl rfl rfl hrun ?_
    refine hK _ _ _ (fun _ h => h) ⟨⟨p5, k3.drew.grown hg5 (fun e => by have := Option.some.inj e; omega)⟩, i3.drew.grown hg5 (fun e => by have := Option.some.inj e; omega)⟩ ?_
    (try simp only [Act.put, List.setIfInBounds_toArray, List.set_cons_zero, List.set_cons_succ])
    refine mix_nil ?_
    obtain ⟨c0, c1, d0, d1⟩ := p5.two
    have hw : IntKind.i64.wrap (t + 1) = t + 1 := IntWalk.i64_in _ (by omega)
    have p6 := p5.set 0 (.int .i64 (t + 1))
    have m6 := m5.stored (p := ⟨p, 0, none⟩) hne (.int .i64 (t + 1))
    have hB6 := hB5.setCell (p := ⟨p, 0, none⟩) hB (.int .i64 (t + 1))
    go_wp2
    go_end0
    exact ⟨rfl, p6, by rw [Hset.out, HT.out]; exact m6, hB6⟩

theorem rises_is {L ys : List Qd} (h : Rises L) (hp : ys.Perm L) (hs : ys.Pairwise fun x y => ¬ y.1 < x.1) : ys = L := by
  refine List.Perm.eq_of_pairwise (le := fun x y => ¬ y.1 < x.1) (fun x y hx hy h1 h2 => ?_) hs (h.imp fun {x y} k => by omega) hp
  have hx' : x ∈ L := hp.mem_iff.1 hx
  obtain ⟨i, hi, rfl⟩ := List.getElem_of_mem hx'
  obtain ⟨j, hj, rfl⟩ := List.getElem_of_mem hy
  have hk := List.pairwise_iff_getElem.1 h
  rcases Nat.lt_trichotomy i j with hij | hij | hij
  · have := hk i j hi hj hij
    omega
  · subst hij
    rfl
  · have := hk j i hj hi hij
    omega

def ListRel (w2 : World) (l : List Hnt) (n : Nat) (o i : Value) (wr : World) : Prop :=
  ∃ (k : Nat) (A : Option Addr) (c : Nat), k ≤ n ∧ i = .int .i64 k ∧ o = .slice A k c ∧ Ow eH wr w2.heap.size A k c (l.take k) ∧ Below w2.heap.size w2 wr

def OfRel (w : World) (l : List Hnt) (n : Nat) (i : Value) (wr : World) : Prop :=
  ∃ k : Nat, k ≤ n ∧ i = .int .i64 k ∧ At wr (w.heap.size + 1) 139 #[.int .i64 (k : Int), .map (some w.heap.size)] ∧ QMap wr w.heap.size (queueM (l.take k)) ∧ Below w.heap.size w wr

set_option maxRecDepth 100000 in
set_option maxHeartbeats 4000000 in
theorem qOf (A : Option Addr) (n c : Nat) (l : List Hnt) (w : World) (ha : Rd eH w w.heap.size A l) (hn : l.length = n) (hm : n ≤ 1000) :
    Calls Tryd.prog 71 #[.slice A n c] w fun e w' => e = .returned (.pointer (some ⟨w.heap.size + 1, 0, none⟩)) ∧ At w' (w.heap.size + 1) 139 #[.int .i64 (n : Int), .map (some w.heap.size)] ∧ QMap w' w.heap.size (queueM l) ∧ Below w.heap.size w w' := by
  have Hn := Lib.hid hn
  clear hn
  have hB1 := ((Below.refl w.heap.size w).alloc (Nat.le_refl _) (.map #[] 0)).alloc (by simp) (.cells #[.int .i64 0, .map (some w.heap.size)] 139)
  have p1 : At ((w.alloc (.map #[] 0)).alloc (.cells #[.int .i64 0, .map (some w.heap.size)] 139)) (w.heap.size + 1) 139 #[.int .i64 0, .map (some w.heap.size)] := by
    have := At.new (w.alloc (.map #[] 0)) 139 #[.int .i64 0, .map (some w.heap.size)]
    simpa using this
  have m1 := (QMap.made w).alloc (.cells #[.int .i64 0, .map (some w.heap.size)] 139)
  go_enter Tryd.func71, Tryd.ntmps71
  go_wp2_with fail
  refine (qNew _).mono ?_
  rintro e w1 ⟨rfl, rfl⟩
  go_wp2
  go_loopw [9] (fun i wr => OfRel w l n i wr) (fun i _ => n - (intOf i).toNat)
  case atStart => exact ⟨0, Nat.zero_le _, rfl, p1, m1, hB1⟩
  case round =>
    clear p1 m1 hB1
    obtain ⟨k, hk, rfl, hp, hq, hbel⟩ := hrel
    by_cases hlt : k < n
    · obtain ⟨g, o, a0, a1, a2, a3, a4, a5, a6, rfl, hg, hx, c0, c1, c2, c3, c4, c5, c6⟩ := (ha.below hbel (Nat.le_refl _)).hnt (k := k) (by rw [Hn.out]; exact hlt)
      have Hx := Lib.hid (queue_next hx)
      clear hx
      have hp1 := hp.alloc (.cells #[.int .i64 a0, .int .i64 a1, .int .i64 a2, .int .i64 a3, .int .i64 a4, .int .i64 a5, .int .i64 a6] 72)
      have hq1 := hq.alloc (.cells #[.int .i64 a0, .int .i64 a1, .int .i64 a2, .int .i64 a3, .int .i64 a4, .int .i64 a5, .int .i64 a6] 72)
      have hB1 := hbel.alloc hbel.size (.cells #[.int .i64 a0, .int .i64 a1, .int .i64 a2, .int .i64 a3, .int .i64 a4, .int .i64 a5, .int .i64 a6] 72)
      go_wp2_with fail
      refine (qPut (w.heap.size + 1) w.heap.size w.heap.size (k : Int) _ a0 a1 a2 a3 a4 a5 a6 _ hp1 hq1 (by omega) (Nat.le_refl _) (by omega)).mono ?_
      rintro e w2 ⟨rfl, hp2, hq2, hb2⟩
      have hB2 := hB1.trans hb2
      go_wp2
      refine ⟨⟨k + 1, by omega, by go_num, ?_, by rw [Hx.out]; exact hq2, hB2⟩, by simp [intOf]; omega⟩
      rw [show ((k + 1 : Nat) : Int) = (k : Int) + 1 by omega]
      exact hp2
    · obtain rfl : n = k := by omega
      rw [show l.take n = l from List.take_of_length_le (by rw [Hn.out]; exact Nat.le_refl _)] at hq
      go_wp2
      go_ret
      exact ⟨rfl, hp, hq, hbel⟩
end Go.Proofs.YteiclanlhnccnaaDoor
