/-
  Texts of one proof, joined: each has its own namespace.
-/
import Derived.Test.YtmaillakhhdkfaaGreatDoorBFnRecovers15
import Derived.Test.YtmaillakhhdkfaaGreatDoorBFnRecovers7
import Derived.Maps.RangeRun
import Derived.Maps.Range
import Derived.Sort.MapsRangeIn
/-
  maps.Values over a map of samples by their keys: each value once, in whatever order.
-/
namespace Go.Proofs.YtmaillakhhdkfaaGreatDoor
set_option maxRecDepth 20000
open Go.RowKit Go.Shelf
open Go.ChangeMaps Go.MapKept
set_option linter.unusedSimpArgs false
set_option linter.unusedVariables false

attribute [local go_sem] Oper.semAt_some

/-- A walk over the map under way: these are still to come. -/
def SRan (w : World) (b r : Nat) (left : List Smp) : Prop :=
  ∃ es clock since seen c0, w.heap[b]? = some (.map es clock) ∧ w.heap[r]? = some (.mapIter (some b) since seen c0) ∧ (∀ x ∈ es.toList, x.born < since) ∧ (es.toList.map (·.born)).Nodup ∧ since ≤ c0 ∧ since ≤ clock ∧
    (leftOf es seen).toList.map (·.val) = left.map smpV

section
variable {w w' : World} {b r : Nat} {left L : List Smp}
theorem SRan.of_walks (h : SRan w b r left) (hk : KeepsWalks w w') : SRan w' b r left := by
  obtain ⟨es, clock, since, seen, c0, h1, h2, rest⟩ := h
  exact ⟨es, clock, since, seen, c0, hk.same b _ h1 rfl, hk.same r _ h2 rfl, rest⟩
theorem SRan.lt (h : SRan w b r left) : r < w.heap.size := by
  obtain ⟨es, clock, since, seen, c0, h1, h2, rest⟩ := h
  exact (Array.getElem?_eq_some_iff.1 h2).1
theorem SRan.iter (h : SRan w b r left) : ∃ o : Obj, w.heap[r]? = some o ∧ o.isWalk = true := by
  obtain ⟨es, clock, since, seen, c0, h1, h2, rest⟩ := h
  exact ⟨_, h2, rfl⟩
theorem SRan.alloc (h : SRan w b r left) (o : Obj) : SRan (w.alloc o) b r left := h.of_walks (KeepsWalks.alloc _ _)
theorem SRan.left_eq (h : SRan w b r left) : w.rangeLeft b r = left.length := by
  obtain ⟨es, clock, since, seen, c0, h1, h2, _, _, _, _, hm⟩ := h
  simp only [World.rangeLeft, h1, h2]
  have := congrArg List.length hm
  simpa using this
theorem SMap.range (h : SMap w b L) : ∃ w', (Instr.range 212 (.map (some b))).run Tryz.prog w = .ok (.pointer (some ⟨w.heap.size, 0, none⟩)) w' ∧ SRan w' b w.heap.size L ∧ w.grownBy w' none ∧ w'.heap.size = w.heap.size + 1 := by
  have hlt := h.lt
  obtain ⟨es, clock, hb, hm, hc, hd⟩ := h
  refine ⟨_, run_range_map w _ _ _ b es clock Tryz.underlying212 hb, ⟨es, clock, clock, #[], clock, (Below.heap_alloc w _ b hlt).trans hb, heap_alloc_new w _, hc, hd, Nat.le_refl _, Nat.le_refl _, ?_⟩, World.grownBy_alloc w _ none, by simp⟩
  have h1 := congrArg (List.map Prod.snd) hm
  have h2 : leftOf es #[] = es := by
    unfold leftOf
    rw [Array.filter_eq_self]
    intro a _
    simp
  rw [h2]
  simpa [List.map_map, Function.comp_def] using h1

theorem filter_one (e : MapEntry) : ∀ (l : List MapEntry), (l.map (·.born)).Nodup → e ∈ l → ∃ l1 l2, l = l1 ++ e :: l2 ∧ l.filter (fun x => !(x.born == e.born)) = l1 ++ l2
  | x :: l, hn, he => by
    have hn' : x.born ∉ l.map (·.born) ∧ (l.map (·.born)).Nodup := List.nodup_cons.1 hn
    by_cases hx : x.born = e.born
    · have hxe : e = x := by
        rcases List.mem_cons.1 he with h | h
        · exact h
        · exact absurd (List.mem_map.2 ⟨e, h, hx.symm⟩) hn'.1
      subst hxe
      refine ⟨[], l, rfl, ?_⟩
      rw [List.filter_cons]
      simp only [beq_self_eq_true, Bool.not_true, Bool.false_eq_true, if_false, List.nil_append]
      rw [List.filter_eq_self]
      intro y hy
      have : y.born ≠ e.born := fun h => hn'.1 (List.mem_map.2 ⟨y, hy, h⟩)
      simpa using this
    · have he' : e ∈ l := by
        rcases List.mem_cons.1 he with h | h
        · exact absurd (by rw [h]) hx
        · exact h
      obtain ⟨l1, l2, h1, h2⟩ := filter_one e l hn'.2 he'
      refine ⟨x :: l1, l2, by rw [h1]; rfl, ?_⟩
      rw [List.filter_cons, h2]
      simp [hx]

theorem map_split {l1 l2 : List MapEntry} {e : MapEntry} : ∀ {left : List Smp}, (l1 ++ e :: l2).map (·.val) = left.map smpV → ∃ m1 x m2, left = m1 ++ x :: m2 ∧ e.val = smpV x ∧ (l1 ++ l2).map (·.val) = (m1 ++ m2).map smpV := by
  intro left h
  rw [List.map_append, List.map_cons] at h
  obtain ⟨m1, m2', h1, h2, h3⟩ := List.map_eq_append_iff.1 h.symm
  obtain ⟨x, m2, h4, h5, h6⟩ := List.map_eq_cons_iff.1 h3
  exact ⟨m1, x, m2, by rw [h1, h4], h5.symm, by rw [List.map_append, List.map_append, h2, h6]⟩

theorem SRan.next (h : SRan w b r left) (hne : r ≠ b) (ty : TypeId) :
    (left = [] ∧ (Instr.next (.pointer (some ⟨r, 0, none⟩)) false ty).run Tryz.prog w = .ok (.tuple #[.bool false]) w) ∨
    ∃ (m1 : List Smp) (x : Smp) (m2 : List Smp) (key : Value) (w' : World), left = m1 ++ x :: m2 ∧ (Instr.next (.pointer (some ⟨r, 0, none⟩)) false ty).run Tryz.prog w = .ok (.tuple #[.bool true, key, smpV x]) w' ∧
      SRan w' b r (m1 ++ m2) ∧ w.grownBy w' (some r) ∧ w'.heap.size = w.heap.size ∧ (Instr.entry (.pointer (some ⟨r, 0, none⟩))).run Tryz.prog w' = .ok (.tuple #[key, smpV x]) w' := by
  obtain ⟨es, clock, since, seen, c0, hb, hr, hold, hnd, hsc, hsk, hm⟩ := h
  rcases run_next_at (P := Tryz.prog) w ty r b since c0 seen es clock hr hb hold hsc with ⟨h0, hrun⟩ | ⟨e, he, w1, hal, hrun⟩
  · left
    refine ⟨?_, hrun⟩
    have := congrArg List.length hm
    rw [List.length_map, List.length_map, Array.length_toList, h0] at this
    exact List.eq_nil_of_length_eq_zero this.symm
  · right
    obtain ⟨hem, hes⟩ := mem_left he
    have hsub : ((leftOf es seen).toList.map (·.born)).Nodup := by
      unfold leftOf
      rw [Array.toList_filter]
      exact List.Nodup.sublist (List.Sublist.map _ List.filter_sublist) hnd
    obtain ⟨l1, l2, e1, e2⟩ := filter_one e _ hsub he
    rw [e1] at hm
    obtain ⟨m1, x, m2, hl, hv, hm2⟩ := map_split hm
    have hr1 : w1.heap[r]? = some (.mapIter (some b) since seen c0) := by rcases hal with rfl | rfl <;> exact hr
    have hb1 : w1.heap[b]? = some (.map es clock) := by rcases hal with rfl | rfl <;> exact hb
    have hset := heap_set (o' := .mapIter (some b) since (seen.push e.born) clock) hr1
    have hb' : (setBlock w1 r (.mapIter (some b) since (seen.push e.born) clock)).heap[b]? = some (.map es clock) := (hset.2 b (fun e1 => hne e1.symm)).trans hb1
    refine ⟨m1, x, m2, e.key, _, hl, by rw [← hv]; exact hrun, ⟨es, clock, since, seen.push e.born, clock, hb', hset.1, hold, hnd, hsk, hsk, ?_⟩, ?_, ?_, ?_⟩
    · rw [← hm2, ← e2]
      congr 1
      unfold leftOf
      rw [Array.toList_filter, Array.toList_filter, List.filter_filter]
      congr 1
      funext y
      rw [contains_push]
      cases seen.contains y.born <;> cases (y.born == e.born) <;> rfl
    · rcases hal with rfl | rfl <;> exact ⟨rfl, rfl, rfl, by simp [setBlock], fun i _ hi => hset.2 i (fun e1 => hi (by rw [e1]))⟩
    · rcases hal with rfl | rfl <;> simp [setBlock]
    · rw [← hv]
      exact run_entry_at _ r b since seen es clock e hset.1 hb' hem hnd
end

section
variable {F : Fence} {k : Nat} (w : World) {ops : Array Oper} {rest : List Oper} {o : Oper} {a : Act} {Q : Exit → Act → World → Prop}
theorem wpListIn_range_s (hg : o.guard = none) (m : Operand) (hop : o.op = Op.range 212 m) (b : Nat) (L : List Smp) (hm : a.eval m = .map (some b)) (h : SMap w b L)
    (hK : ∀ w', SRan w' b w.heap.size L → w.grownBy w' none → w'.heap.size = w.heap.size + 1 → wpListIn F k Tryz.prog ops Q rest (a.put o.dst (.pointer (some ⟨w.heap.size, 0, none⟩))) w') : wpListIn F k Tryz.prog ops Q (o :: rest) a w := by
  refine wpListIn_plain hg fun K' hK' => ?_
  obtain ⟨w', hrun, hs, hg1, hs1⟩ := h.range
  unfold Oper.wpIn
  refine ⟨?_, ?_⟩
  · simp [Oper.about, hop]
  · rw [Oper.semAt_plain F _ _ (by rw [hop]; intro c hc'; cases hc')]
    simp [execOp, hop, hm, hrun, Result.andThen]
    exact hK' _ _ (hK _ hs hg1 hs1)
theorem wpListIn_next_s (hg : o.guard = none) (it : Operand) (hop : o.op = Op.next it false) (b r : Nat) (left : List Smp) (hne : r ≠ b) (hit : a.eval it = .pointer (some ⟨r, 0, none⟩)) (h : SRan w b r left)
    (hDone : left = [] → wpListIn F k Tryz.prog ops Q rest (a.put o.dst (.tuple #[.bool false])) w)
    (hMore : ∀ (m1 : List Smp) (a0 a1 a2 a3 : Int) (m2 : List Smp) (key : Value) (w' : World), left = m1 ++ (a0, a1, a2, a3) :: m2 → SRan w' b r (m1 ++ m2) → w.grownBy w' (some r) → w'.heap.size = w.heap.size → (Instr.entry (.pointer (some ⟨r, 0, none⟩))).run Tryz.prog w' = .ok (.tuple #[key, .agg #[.int .i64 a0, .int .i64 a1, .int .i64 a2, .int .i64 a3]]) w' →
      wpListIn F k Tryz.prog ops Q rest (a.put o.dst (.tuple #[.bool true, key, .agg #[.int .i64 a0, .int .i64 a1, .int .i64 a2, .int .i64 a3]])) w') : wpListIn F k Tryz.prog ops Q (o :: rest) a w := by
  refine wpListIn_plain hg fun K' hK' => ?_
  unfold Oper.wpIn
  refine ⟨by simp [Oper.about, hop], ?_⟩
  rw [Oper.semAt_plain F _ _ (by rw [hop]; intro c hc'; cases hc')]
  rcases h.next hne o.type with ⟨h0, hrun⟩ | ⟨m1, ⟨a0, a1, a2, a3⟩, m2, key, w', hl, hrun, hs, hgr, hsz, hen⟩
  · simp [execOp, hop, hit, hrun, Result.andThen]
    exact hK' _ _ (hDone h0)
  · simp [execOp, hop, hit, hrun, Result.andThen]
    exact hK' _ _ (hMore m1 a0 a1 a2 a3 m2 key w' hl hs hgr hsz hen)
end

set_option maxRecDepth 100000 in
set_option maxHeartbeats 4000000 in
theorem values_in (n : Nat) (hn : 1 ≤ n) (l Bm b nB : Nat) (L : List Smp) (J Jx : List Smp → World → Prop)
    (hY : ∀ pre x W, J pre W → pre.length < L.length → YieldAt Fence.wide (n - 1) Tryz.prog l (encS x) W fun e W' =>
      (e = .returned (.bool true) ∧ J (pre ++ [x]) W' ∧ Kp2 nB W W') ∨ (e = .returned (.bool false) ∧ Jx (pre ++ [x]) W'))
    (W : World) (hJ : AbidesFrom W.heap.size J) (hm : W.cell? ⟨Bm, 0, none⟩ = some (.map (some b))) (hs : SMap W b L) (h0 : J [] W) :
    CallsIn Fence.wide n Tryz.prog 161 #[.func (.yield l) #[] #[], .pointer (some ⟨Bm, 0, none⟩)] W fun e W' => (∃ v, e = .returned v) ∧
      ((∃ xs, xs.Perm L ∧ J xs W') ∨ (∃ pre, True ∧ Jx pre W')) := by
  have hro : Fence.wide.round = none := rfl
  have hT : Fence.wide.fn 161 := trivial
  have hbW := hs.lt
  refine callsIn_of_wp Tryz.func161 rfl hT ?_ hro
  simp only [Tryz.ntmps161, List.size_toArray, List.length_cons, List.length_nil, Nat.reduceAdd, Nat.reduceSub, Array.replicate_succ, Array.replicate_zero, List.push_toArray, List.append_toArray, List.nil_append, List.cons_append]
  gi_wp2_with (first
    | (gi_at_range; refine wpListIn_range_s _ rfl _ rfl b L rfl hs ?_; intro w0 hr0 hg0 hs0)
    | gi_in)
  go_frame
  gi_loopw [4] (fun _ wr => ∃ (left ps : List Smp), SRan wr b W.heap.size left ∧ (ps ++ left).Perm L ∧ J ps wr) (fun _ wr => wr.rangeLeft b W.heap.size)
  case atStart => exact ⟨L, [], hr0, by simp, hJ [] W w0 none h0 hg0 (fun r e => by cases e)⟩
  case round =>
    obtain ⟨left, ps, hrg, hp, hJs⟩ := hrel
    gi_wp2_with (first
      | (gi_at_next; refine wpListIn_next_s _ rfl _ rfl b W.heap.size left (by omega) rfl hrg ?_ ?_)
      | gi_in)
    · intro hl
      subst hl
      gi_wp2
      go_end0
      exact ⟨⟨_, rfl⟩, .inl ⟨ps, by simpa using hp, hJs⟩⟩
    · intro m1 a0 a1 a2 a3 m2 key w2 hl hrg2 hg2 hs2 hen
      have hlen : ps.length < L.length := by
        have := hp.length_eq
        rw [hl, List.length_append, List.length_append, List.length_cons] at this
        omega
      have hJ2 : J ps w2 := hJ ps wr w2 (some W.heap.size) hJs hg2 (fun r e => by cases e; exact ⟨Nat.le_refl _, hrg.iter⟩)
      have hJ3 := abides_below hJ hJ2 ((Below.refl w2.heap.size w2).alloc (Nat.le_refl _) (.cells (#[.int .i64 a0, .int .i64 a1, .int .i64 a2, .int .i64 a3]) 25))
      have hrg3 := hrg2.alloc (.cells (#[.int .i64 a0, .int .i64 a1, .int .i64 a2, .int .i64 a3]) 25)
      have Hp := Lib.hid (show (ps ++ [(a0, a1, a2, a3)] ++ (m1 ++ m2)).Perm L from by
        rw [hl] at hp
        refine List.Perm.trans ?_ hp
        rw [List.append_assoc]
        refine List.Perm.append_left ps ?_
        rw [List.singleton_append]
        exact List.perm_middle.symm)
      have Hm := Lib.hid (show (m1 ++ m2).length < left.length by rw [hl]; simp)
      clear hl hp
      obtain ⟨fn, tmps, assign, body, hy, hR⟩ := hY ps (a0, a1, a2, a3) _ hJ3 hlen
      dsimp only [encS] at hy
      gi_wp2
      refine hR.mono ?_
      rintro e W3 (⟨rfl, hJ4, hk4⟩ | ⟨rfl, hJx4⟩)
      · gi_wp2
        have hrg4 := hrg3.of_walks hk4.1
        go_roundw
        case rel => exact ⟨m1 ++ m2, ps ++ [(a0, a1, a2, a3)], hrg4, Hp.out, hJ4⟩
        case measure => rw [hrg4.left_eq, hrg.left_eq]; exact Hm.out
      · gi_wp2
        refine bodyPost_ret (results_none rfl _ _ _) rfl ?_
        exact ⟨⟨_, rfl⟩, .inr ⟨_, trivial, hJx4⟩⟩
end Go.Proofs.YtmaillakhhdkfaaGreatDoor
/-
  maps.Values over a map of queued hints: each value once, in whatever order (as Vals, at queued hints).
-/
namespace Go.Proofs.YtmaillakhhdkfaaGreatDoor
set_option maxRecDepth 20000
open Go.RowKit Go.Shelf
open Go.ChangeMaps Go.MapKept
set_option linter.unusedSimpArgs false
set_option linter.unusedVariables false

attribute [local go_sem] Oper.semAt_some

/-- A walk over the map under way: these are still to come. -/
def QRan (w : World) (b r : Nat) (left : List Qd) : Prop :=
  ∃ es clock since seen c0, w.heap[b]? = some (.map es clock) ∧ w.heap[r]? = some (.mapIter (some b) since seen c0) ∧ (∀ x ∈ es.toList, x.born < since) ∧ (es.toList.map (·.born)).Nodup ∧ since ≤ c0 ∧ since ≤ clock ∧
    (leftOf es seen).toList.map (·.val) = left.map qdV

section
variable {w w' : World} {b r : Nat} {left L : List Qd}
theorem QRan.of_walks (h : QRan w b r left) (hk : KeepsWalks w w') : QRan w' b r left := by
  obtain ⟨es, clock, since, seen, c0, h1, h2, rest⟩ := h
  exact ⟨es, clock, since, seen, c0, hk.same b _ h1 rfl, hk.same r _ h2 rfl, rest⟩
theorem QRan.lt (h : QRan w b r left) : r < w.heap.size := by
  obtain ⟨es, clock, since, seen, c0, h1, h2, rest⟩ := h
  exact (Array.getElem?_eq_some_iff.1 h2).1
theorem QRan.iter (h : QRan w b r left) : ∃ o : Obj, w.heap[r]? = some o ∧ o.isWalk = true := by
  obtain ⟨es, clock, since, seen, c0, h1, h2, rest⟩ := h
  exact ⟨_, h2, rfl⟩
theorem QRan.alloc (h : QRan w b r left) (o : Obj) : QRan (w.alloc o) b r left := h.of_walks (KeepsWalks.alloc _ _)
theorem QRan.left_eq (h : QRan w b r left) : w.rangeLeft b r = left.length := by
  obtain ⟨es, clock, since, seen, c0, h1, h2, _, _, _, _, hm⟩ := h
  simp only [World.rangeLeft, h1, h2]
  have := congrArg List.length hm
  simpa using this
theorem QMap.range (h : QMap w b L) : ∃ w', (Instr.range 194 (.map (some b))).run Tryz.prog w = .ok (.pointer (some ⟨w.heap.size, 0, none⟩)) w' ∧ QRan w' b w.heap.size L ∧ w.grownBy w' none ∧ w'.heap.size = w.heap.size + 1 := by
  have hlt := h.lt
  obtain ⟨es, clock, hb, hm, hc, hd⟩ := h
  refine ⟨_, run_range_map w _ _ _ b es clock Tryz.underlying194 hb, ⟨es, clock, clock, #[], clock, (Below.heap_alloc w _ b hlt).trans hb, heap_alloc_new w _, hc, hd, Nat.le_refl _, Nat.le_refl _, ?_⟩, World.grownBy_alloc w _ none, by simp⟩
  have h1 := congrArg (List.map Prod.snd) hm
  have h2 : leftOf es #[] = es := by
    unfold leftOf
    rw [Array.filter_eq_self]
    intro a _
    simp
  rw [h2]
  simpa [List.map_map, Function.comp_def] using h1

theorem filter_oneQ (e : MapEntry) : ∀ (l : List MapEntry), (l.map (·.born)).Nodup → e ∈ l → ∃ l1 l2, l = l1 ++ e :: l2 ∧ l.filter (fun x => !(x.born == e.born)) = l1 ++ l2
  | x :: l, hn, he => by
    have hn' : x.born ∉ l.map (·.born) ∧ (l.map (·.born)).Nodup := List.nodup_cons.1 hn
    by_cases hx : x.born = e.born
    · have hxe : e = x := by
        rcases List.mem_cons.1 he with h | h
        · exact h
        · exact absurd (List.mem_map.2 ⟨e, h, hx.symm⟩) hn'.1
      subst hxe
      refine ⟨[], l, rfl, ?_⟩
      rw [List.filter_cons]
      simp only [beq_self_eq_true, Bool.not_true, Bool.false_eq_true, if_false, List.nil_append]
      rw [List.filter_eq_self]
      intro y hy
      have : y.born ≠ e.born := fun h => hn'.1 (List.mem_map.2 ⟨y, hy, h⟩)
      simpa using this
    · have he' : e ∈ l := by
        rcases List.mem_cons.1 he with h | h
        · exact absurd (by rw [h]) hx
        · exact h
      obtain ⟨l1, l2, h1, h2⟩ := filter_oneQ e l hn'.2 he'
      refine ⟨x :: l1, l2, by rw [h1]; rfl, ?_⟩
      rw [List.filter_cons, h2]
      simp [hx]

theorem map_splitQ {l1 l2 : List MapEntry} {e : MapEntry} : ∀ {left : List Qd}, (l1 ++ e :: l2).map (·.val) = left.map qdV → ∃ m1 x m2, left = m1 ++ x :: m2 ∧ e.val = qdV x ∧ (l1 ++ l2).map (·.val) = (m1 ++ m2).map qdV := by
  intro left h
  rw [List.map_append, List.map_cons] at h
  obtain ⟨m1, m2', h1, h2, h3⟩ := List.map_eq_append_iff.1 h.symm
  obtain ⟨x, m2, h4, h5, h6⟩ := List.map_eq_cons_iff.1 h3
  exact ⟨m1, x, m2, by rw [h1, h4], h5.symm, by rw [List.map_append, List.map_append, h2, h6]⟩

theorem QRan.next (h : QRan w b r left) (hne : r ≠ b) (ty : TypeId) :
    (left = [] ∧ (Instr.next (.pointer (some ⟨r, 0, none⟩)) false ty).run Tryz.prog w = .ok (.tuple #[.bool false]) w) ∨
    ∃ (m1 : List Qd) (x : Qd) (m2 : List Qd) (key : Value) (w' : World), left = m1 ++ x :: m2 ∧ (Instr.next (.pointer (some ⟨r, 0, none⟩)) false ty).run Tryz.prog w = .ok (.tuple #[.bool true, key, qdV x]) w' ∧
      QRan w' b r (m1 ++ m2) ∧ w.grownBy w' (some r) ∧ w'.heap.size = w.heap.size ∧ (Instr.entry (.pointer (some ⟨r, 0, none⟩))).run Tryz.prog w' = .ok (.tuple #[key, qdV x]) w' := by
  obtain ⟨es, clock, since, seen, c0, hb, hr, hold, hnd, hsc, hsk, hm⟩ := h
  rcases run_next_at (P := Tryz.prog) w ty r b since c0 seen es clock hr hb hold hsc with ⟨h0, hrun⟩ | ⟨e, he, w1, hal, hrun⟩
  · left
    refine ⟨?_, hrun⟩
    have := congrArg List.length hm
    rw [List.length_map, List.length_map, Array.length_toList, h0] at this
    exact List.eq_nil_of_length_eq_zero this.symm
  · right
    obtain ⟨hem, hes⟩ := mem_left he
    have hsub : ((leftOf es seen).toList.map (·.born)).Nodup := by
      unfold leftOf
      rw [Array.toList_filter]
      exact List.Nodup.sublist (List.Sublist.map _ List.filter_sublist) hnd
    obtain ⟨l1, l2, e1, e2⟩ := filter_oneQ e _ hsub he
    rw [e1] at hm
    obtain ⟨m1, x, m2, hl, hv, hm2⟩ := map_splitQ hm
    have hr1 : w1.heap[r]? = some (.mapIter (some b) since seen c0) := by rcases hal with rfl | rfl <;> exact hr
    have hb1 : w1.heap[b]? = some (.map es clock) := by rcases hal with rfl | rfl <;> exact hb
    have hset := heap_set (o' := .mapIter (some b) since (seen.push e.born) clock) hr1
    have hb' : (setBlock w1 r (.mapIter (some b) since (seen.push e.born) clock)).heap[b]? = some (.map es clock) := (hset.2 b (fun e1 => hne e1.symm)).trans hb1
    refine ⟨m1, x, m2, e.key, _, hl, by rw [← hv]; exact hrun, ⟨es, clock, since, seen.push e.born, clock, hb', hset.1, hold, hnd, hsk, hsk, ?_⟩, ?_, ?_, ?_⟩
    · rw [← hm2, ← e2]
      congr 1
      unfold leftOf
      rw [Array.toList_filter, Array.toList_filter, List.filter_filter]
      congr 1
      funext y
      rw [contains_push]
      cases seen.contains y.born <;> cases (y.born == e.born) <;> rfl
    · rcases hal with rfl | rfl <;> exact ⟨rfl, rfl, rfl, by simp [setBlock], fun i _ hi => hset.2 i (fun e1 => hi (by rw [e1]))⟩
    · rcases hal with rfl | rfl <;> simp [setBlock]
    · rw [← hv]
      exact run_entry_at _ r b since seen es clock e hset.1 hb' hem hnd
end

section
variable {F : Fence} {k : Nat} (w : World) {ops : Array Oper} {rest : List Oper} {o : Oper} {a : Act} {Q : Exit → Act → World → Prop}
theorem wpListIn_range_q (hg : o.guard = none) (m : Operand) (hop : o.op = Op.range 194 m) (b : Nat) (L : List Qd) (hm : a.eval m = .map (some b)) (h : QMap w b L)
    (hK : ∀ w', QRan w' b w.heap.size L → w.grownBy w' none → w'.heap.size = w.heap.size + 1 → wpListIn F k Tryz.prog ops Q rest (a.put o.dst (.pointer (some ⟨w.heap.size, 0, none⟩))) w') : wpListIn F k Tryz.prog ops Q (o :: rest) a w := by
  refine wpListIn_plain hg fun K' hK' => ?_
  obtain ⟨w', hrun, hs, hg1, hs1⟩ := h.range
  unfold Oper.wpIn
  refine ⟨?_, ?_⟩
  · simp [Oper.about, hop]
  · rw [Oper.semAt_plain F _ _ (by rw [hop]; intro c hc'; cases hc')]
    simp [execOp, hop, hm, hrun, Result.andThen]
    exact hK' _ _ (hK _ hs hg1 hs1)
theorem wpListIn_next_q (hg : o.guard = none) (it : Operand) (hop : o.op = Op.next it false) (b r : Nat) (left : List Qd) (hne : r ≠ b) (hit : a.eval it = .pointer (some ⟨r, 0, none⟩)) (h : QRan w b r left)
    (hDone : left = [] → wpListIn F k Tryz.prog ops Q rest (a.put o.dst (.tuple #[.bool false])) w)
    (hMore : ∀ (m1 : List Qd) (a0 a1 a2 a3 a4 a5 a6 a7 : Int) (m2 : List Qd) (key : Value) (w' : World), left = m1 ++ (a0, a1, (a2, a3, a4, a5), a6, a7) :: m2 → QRan w' b r (m1 ++ m2) → w.grownBy w' (some r) → w'.heap.size = w.heap.size → (Instr.entry (.pointer (some ⟨r, 0, none⟩))).run Tryz.prog w' = .ok (.tuple #[key, .agg #[.int .i64 a0, .int .i64 a1, .int .i64 a2, .int .i64 a3, .int .i64 a4, .int .i64 a5, .int .i64 a6, .int .i64 a7]]) w' →
      wpListIn F k Tryz.prog ops Q rest (a.put o.dst (.tuple #[.bool true, key, .agg #[.int .i64 a0, .int .i64 a1, .int .i64 a2, .int .i64 a3, .int .i64 a4, .int .i64 a5, .int .i64 a6, .int .i64 a7]])) w') : wpListIn F k Tryz.prog ops Q (o :: rest) a w := by
  refine wpListIn_plain hg fun K' hK' => ?_
  unfold Oper.wpIn
  refine ⟨by simp [Oper.about, hop], ?_⟩
  rw [Oper.semAt_plain F _ _ (by rw [hop]; intro c hc'; cases hc')]
  rcases h.next hne o.type with ⟨h0, hrun⟩ | ⟨m1, ⟨a0, a1, ⟨a2, a3, a4, a5⟩, a6, a7⟩, m2, key, w', hl, hrun, hs, hgr, hsz, hen⟩
  · simp [execOp, hop, hit, hrun, Result.andThen]
    exact hK' _ _ (hDone h0)
  · simp [execOp, hop, hit, hrun, Result.andThen]
    exact hK' _ _ (hMore m1 a0 a1 a2 a3 a4 a5 a6 a7 m2 key w' hl hs hgr hsz hen)
end

set_option maxRecDepth 100000 in
set_option maxHeartbeats 4000000 in
theorem values_inQ (n : Nat) (hn : 1 ≤ n) (l Bm b nB : Nat) (L : List Qd) (J Jx : List Qd → World → Prop)
    (hY : ∀ pre x W, J pre W → pre.length < L.length → YieldAt Fence.wide (n - 1) Tryz.prog l (encQ x) W fun e W' =>
      (e = .returned (.bool true) ∧ J (pre ++ [x]) W' ∧ Kp2 nB W W') ∨ (e = .returned (.bool false) ∧ Jx (pre ++ [x]) W'))
    (W : World) (hJ : AbidesFrom W.heap.size J) (hm : W.cell? ⟨Bm, 0, none⟩ = some (.map (some b))) (hs : QMap W b L) (h0 : J [] W) :
    CallsIn Fence.wide n Tryz.prog 165 #[.func (.yield l) #[] #[], .pointer (some ⟨Bm, 0, none⟩)] W fun e W' => (∃ v, e = .returned v) ∧
      ((∃ xs, xs.Perm L ∧ J xs W') ∨ (∃ pre, True ∧ Jx pre W')) := by
  have hro : Fence.wide.round = none := rfl
  have hT : Fence.wide.fn 165 := trivial
  have hbW := hs.lt
  refine callsIn_of_wp Tryz.func165 rfl hT ?_ hro
  simp only [Tryz.ntmps165, List.size_toArray, List.length_cons, List.length_nil, Nat.reduceAdd, Nat.reduceSub, Array.replicate_succ, Array.replicate_zero, List.push_toArray, List.append_toArray, List.nil_append, List.cons_append]
  gi_wp2_with (first
    | (gi_at_range; refine wpListIn_range_q _ rfl _ rfl b L rfl hs ?_; intro w0 hr0 hg0 hs0)
    | gi_in)
  go_frame
  gi_loopw [4] (fun _ wr => ∃ (left ps : List Qd), QRan wr b W.heap.size left ∧ (ps ++ left).Perm L ∧ J ps wr) (fun _ wr => wr.rangeLeft b W.heap.size)
  case atStart => exact ⟨L, [], hr0, by simp, hJ [] W w0 none h0 hg0 (fun r e => by cases e)⟩
  case round =>
    obtain ⟨left, ps, hrg, hp, hJs⟩ := hrel
    gi_wp2_with (first
      | (gi_at_next; refine wpListIn_next_q _ rfl _ rfl b W.heap.size left (by omega) rfl hrg ?_ ?_)
      | gi_in)
    · intro hl
      subst hl
      gi_wp2
      go_end0
      exact ⟨⟨_, rfl⟩, .inl ⟨ps, by simpa using hp, hJs⟩⟩
    · intro m1 a0 a1 a2 a3 a4 a5 a6 a7 m2 key w2 hl hrg2 hg2 hs2 hen
      have hlen : ps.length < L.length := by
        have := hp.length_eq
        rw [hl, List.length_append, List.length_append, List.length_cons] at this
        omega
      have hJ2 : J ps w2 := hJ ps wr w2 (some W.heap.size) hJs hg2 (fun r e => by cases e; exact ⟨Nat.le_refl _, hrg.iter⟩)
      have hJ3 := abides_belowQ hJ hJ2 ((Below.refl w2.heap.size w2).alloc (Nat.le_refl _) (.cells (#[.int .i64 a0, .int .i64 a1, .int .i64 a2, .int .i64 a3, .int .i64 a4, .int .i64 a5, .int .i64 a6, .int .i64 a7]) 222))
      have hrg3 := hrg2.alloc (.cells (#[.int .i64 a0, .int .i64 a1, .int .i64 a2, .int .i64 a3, .int .i64 a4, .int .i64 a5, .int .i64 a6, .int .i64 a7]) 222)
      have Hp := Lib.hid (show (ps ++ [(a0, a1, (a2, a3, a4, a5), a6, a7)] ++ (m1 ++ m2)).Perm L from by
        rw [hl] at hp
        refine List.Perm.trans ?_ hp
        rw [List.append_assoc]
        refine List.Perm.append_left ps ?_
        rw [List.singleton_append]
        exact List.perm_middle.symm)
      have Hm := Lib.hid (show (m1 ++ m2).length < left.length by rw [hl]; simp)
      clear hl hp
      obtain ⟨fn, tmps, assign, body, hy, hR⟩ := hY ps (a0, a1, (a2, a3, a4, a5), a6, a7) _ hJ3 hlen
      dsimp only [encQ] at hy
      gi_wp2
      refine hR.mono ?_
      rintro e W3 (⟨rfl, hJ4, hk4⟩ | ⟨rfl, hJx4⟩)
      · gi_wp2
        have hrg4 := hrg3.of_walks hk4.1
        go_roundw
        case rel => exact ⟨m1 ++ m2, ps ++ [(a0, a1, (a2, a3, a4, a5), a6, a7)], hrg4, Hp.out, hJ4⟩
        case measure => rw [hrg4.left_eq, hrg.left_eq]; exact Hm.out
      · gi_wp2
        refine bodyPost_ret (results_none rfl _ _ _) rfl ?_
        exact ⟨⟨_, rfl⟩, .inr ⟨_, trivial, hJx4⟩⟩
end Go.Proofs.YtmaillakhhdkfaaGreatDoor
