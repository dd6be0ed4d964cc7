/-
  Texts of one proof, joined: each has its own namespace.
-/
import Derived.Test.YteiclanlhnccnaaGreatDoorBExApplyRecord14
import Derived.Maps.RangeRun
import Derived.Maps.Range
import Derived.Sort.MapsRangeIn
import Derived.Test.YteiclanlhnccnaaGreatDoorBExApplyRecord11
import Derived.Sort.LotA
import Derived.Sort.Grow
import Derived.Test.YteiclanlhnccnaaGreatDoorBExApplyRecord0
import Derived.Test.YteiclanlhnccnaaGreatDoorBExApplyRecord3
import Derived.Test.YteiclanlhnccnaaGreatDoorBExApplyRecord5
/-
  maps.Values over a map of queued hints: each value once, in whatever order (as Vals, at queued hints).
-/
namespace Go.Proofs.YteiclanlhnccnaaGreatDoor
set_option maxRecDepth 20000
open Go.RowKit Go.Shelf
open Go.ChangeMaps Go.MapKept
set_option linter.unusedSimpArgs false
set_option linter.unusedVariables false

attribute [local go_sem] Oper.semAt_some

/-- A walk over the map under way: these are still to come. -/
def QRan (w : World) (b r : Nat) (left : List Qd) : Prop :=
  ∃ es clock since seen c0, w.heap[b]? = some (.map es clock) ∧ w.heap[r]? = some (.mapIter (some b) since seen c0) ∧ (∀ x ∈ es.toList, x.born < since) ∧ (es.toList.map (·.born)).Nodup ∧ since ≤ c0 ∧ since ≤ clock ∧
    (leftOf es seen).toList.map (·.val) = left.map qdV

section
variable {w w' : World} {b r : Nat} {left L : List Qd}
theorem QRan.of_walks (h : QRan w b r left) (hk : KeepsWalks w w') : QRan w' b r left := by
  obtain ⟨es, clock, since, seen, c0, h1, h2, rest⟩ := h
  exact ⟨es, clock, since, seen, c0, hk.same b _ h1 rfl, hk.same r _ h2 rfl, rest⟩
theorem QRan.lt (h : QRan w b r left) : r < w.heap.size := by
  obtain ⟨es, clock, since, seen, c0, h1, h2, rest⟩ := h
  exact (Array.getElem?_eq_some_iff.1 h2).1
theorem QRan.iter (h : QRan w b r left) : ∃ o : Obj, w.heap[r]? = some o ∧ o.isWalk = true := by
  obtain ⟨es, clock, since, seen, c0, h1, h2, rest⟩ := h
  exact ⟨_, h2, rfl⟩
theorem QRan.alloc (h : QRan w b r left) (o : Obj) : QRan (w.alloc o) b r left := h.of_walks (KeepsWalks.alloc _ _)
theorem QRan.left_eq (h : QRan w b r left) : w.rangeLeft b r = left.length := by
  obtain ⟨es, clock, since, seen, c0, h1, h2, _, _, _, _, hm⟩ := h
  simp only [World.rangeLeft, h1, h2]
  have := congrArg List.length hm
  simpa using this
theorem QMap.range (h : QMap w b L) : ∃ w', (Instr.range 216 (.map (some b))).run Tryz.prog w = .ok (.pointer (some ⟨w.heap.size, 0, none⟩)) w' ∧ QRan w' b w.heap.size L ∧ w.grownBy w' none ∧ w'.heap.size = w.heap.size + 1 := by
  have hlt := h.lt
  obtain ⟨es, clock, hb, hm, hc, hd⟩ := h
  refine ⟨_, run_range_map w _ _ _ b es clock Tryz.underlying216 hb, ⟨es, clock, clock, #[], clock, (Below.heap_alloc w _ b hlt).trans hb, heap_alloc_new w _, hc, hd, Nat.le_refl _, Nat.le_refl _, ?_⟩, World.grownBy_alloc w _ none, by simp⟩
  have h1 := congrArg (List.map Prod.snd) hm
  have h2 : leftOf es #[] = es := by
    unfold leftOf
    rw [Array.filter_eq_self]
    intro a _
    simp
  rw [h2]
  simpa [List.map_map, Function.comp_def] using h1

theorem filter_oneQ (e : MapEntry) : ∀ (l : List MapEntry), (l.map (·.born)).Nodup → e ∈ l → ∃ l1 l2, l = l1 ++ e :: l2 ∧ l.filter (fun x => !(x.born == e.born)) = l1 ++ l2
  | x :: l, hn, he => by
    have hn' : x.born ∉ l.map (·.born) ∧ (l.map (·.born)).Nodup := List.nodup_cons.1 hn
    by_cases hx : x.born = e.born
    · have hxe : e = x := by
        rcases List.mem_cons.1 he with h | h
        · exact h
        · exact absurd (List.mem_map.2 ⟨e, h, hx.symm⟩) hn'.1
      subst hxe
      refine ⟨[], l, rfl, ?_⟩
      rw [List.filter_cons]
      simp only [beq_self_eq_true, Bool.not_true, Bool.false_eq_true, if_false, List.nil_append]
      rw [List.filter_eq_self]
      intro y hy
      have : y.born ≠ e.born := fun h => hn'.1 (List.mem_map.2 ⟨y, hy, h⟩)
      simpa using this
    · have he' : e ∈ l := by
        rcases List.mem_cons.1 he with h | h
        · exact absurd (by rw [h]) hx
        · exact h
      obtain ⟨l1, l2, h1, h2⟩ := filter_oneQ e l hn'.2 he'
      refine ⟨x :: l1, l2, by rw [h1]; rfl, ?_⟩
      rw [List.filter_cons, h2]
      simp [hx]

theorem map_splitQ {l1 l2 : List MapEntry} {e : MapEntry} : ∀ {left : List Qd}, (l1 ++ e :: l2).map (·.val) = left.map qdV → ∃ m1 x m2, left = m1 ++ x :: m2 ∧ e.val = qdV x ∧ (l1 ++ l2).map (·.val) = (m1 ++ m2).map qdV := by
  intro left h
  rw [List.map_append, List.map_cons] at h
  obtain ⟨m1, m2', h1, h2, h3⟩ := List.map_eq_append_iff.1 h.symm
  obtain ⟨x, m2, h4, h5, h6⟩ := List.map_eq_cons_iff.1 h3
  exact ⟨m1, x, m2, by rw [h1, h4], h5.symm, by rw [List.map_append, List.map_append, h2, h6]⟩

theorem QRan.next (h : QRan w b r left) (hne : r ≠ b) (ty : TypeId) :
    (left = [] ∧ (Instr.next (.pointer (some ⟨r, 0, none⟩)) false ty).run Tryz.prog w = .ok (.tuple #[.bool false]) w) ∨
    ∃ (m1 : List Qd) (x : Qd) (m2 : List Qd) (key : Value) (w' : World), left = m1 ++ x :: m2 ∧ (Instr.next (.pointer (some ⟨r, 0, none⟩)) false ty).run Tryz.prog w = .ok (.tuple #[.bool true, key, qdV x]) w' ∧
      QRan w' b r (m1 ++ m2) ∧ w.grownBy w' (some r) ∧ w'.heap.size = w.heap.size ∧ (Instr.entry (.pointer (some ⟨r, 0, none⟩))).run Tryz.prog w' = .ok (.tuple #[key, qdV x]) w' := by
  obtain ⟨es, clock, since, seen, c0, hb, hr, hold, hnd, hsc, hsk, hm⟩ := h
  rcases run_next_at (P := Tryz.prog) w ty r b since c0 seen es clock hr hb hold hsc with ⟨h0, hrun⟩ | ⟨e, he, w1, hal, hrun⟩
  · left
    refine ⟨?_, hrun⟩
    have := congrArg List.length hm
    rw [List.length_map, List.length_map, Array.length_toList, h0] at this
    exact List.eq_nil_of_length_eq_zero this.symm
  · right
    obtain ⟨hem, hes⟩ := mem_left he
    have hsub : ((leftOf es seen).toList.map (·.born)).Nodup := by
      unfold leftOf
      rw [Array.toList_filter]
      exact List.Nodup.sublist (List.Sublist.map _ List.filter_sublist) hnd
    obtain ⟨l1, l2, e1, e2⟩ := filter_oneQ e _ hsub he
    rw [e1] at hm
    obtain ⟨m1, x, m2, hl, hv, hm2⟩ := map_splitQ hm
    have hr1 : w1.heap[r]? = some (.mapIter (some b) since seen c0) := by rcases hal with rfl | rfl <;> exact hr
    have hb1 : w1.heap[b]? = some (.map es clock) := by rcases hal with rfl | rfl <;> exact hb
    have hset := heap_set (o' := .mapIter (some b) since (seen.push e.born) clock) hr1
    have hb' : (setBlock w1 r (.mapIter (some b) since (seen.push e.born) clock)).heap[b]? = some (.map es clock) := (hset.2 b (fun e1 => hne e1.symm)).trans hb1
    refine ⟨m1, x, m2, e.key, _, hl, by rw [← hv]; exact hrun, ⟨es, clock, since, seen.push e.born, clock, hb', hset.1, hold, hnd, hsk, hsk, ?_⟩, ?_, ?_, ?_⟩
    · rw [← hm2, ← e2]
      congr 1
      unfold leftOf
      rw [Array.toList_filter, Array.toList_filter, List.filter_filter]
      congr 1
      funext y
      rw [contains_push]
      cases seen.contains y.born <;> cases (y.born == e.born) <;> rfl
    · rcases hal with rfl | rfl <;> exact ⟨rfl, rfl, rfl, by simp [setBlock], fun i _ hi => hset.2 i (fun e1 => hi (by rw [e1]))⟩
    · rcases hal with rfl | rfl <;> simp [setBlock]
    · rw [← hv]
      exact run_entry_at _ r b since seen es clock e hset.1 hb' hem hnd
end

section
variable {F : Fence} {k : Nat} (w : World) {ops : Array Oper} {rest : List Oper} {o : Oper} {a : Act} {Q : Exit → Act → World → Prop}
theorem wpListIn_range_q (hg : o.guard = none) (m : Operand) (hop : o.op = Op.range 216 m) (b : Nat) (L : List Qd) (hm : a.eval m = .map (some b)) (h : QMap w b L)
    (hK : ∀ w', QRan w' b w.heap.size L → w.grownBy w' none → w'.heap.size = w.heap.size + 1 → wpListIn F k Tryz.prog ops Q rest (a.put o.dst (.pointer (some ⟨w.heap.size, 0, none⟩))) w') : wpListIn F k Tryz.prog ops Q (o :: rest) a w := by
  refine wpListIn_plain hg fun K' hK' => ?_
  obtain ⟨w', hrun, hs, hg1, hs1⟩ := h.range
  unfold Oper.wpIn
  refine ⟨?_, ?_⟩
  · simp [Oper.about, hop]
  · rw [Oper.semAt_plain F _ _ (by rw [hop]; intro c hc'; cases hc')]
    simp [execOp, hop, hm, hrun, Result.andThen]
    exact hK' _ _ (hK _ hs hg1 hs1)
theorem wpListIn_next_q (hg : o.guard = none) (it : Operand) (hop : o.op = Op.next it false) (b r : Nat) (left : List Qd) (hne : r ≠ b) (hit : a.eval it = .pointer (some ⟨r, 0, none⟩)) (h : QRan w b r left)
    (hDone : left = [] → wpListIn F k Tryz.prog ops Q rest (a.put o.dst (.tuple #[.bool false])) w)
    (hMore : ∀ (m1 : List Qd) (a0 a1 a2 a3 a4 a5 a6 a7 : Int) (m2 : List Qd) (key : Value) (w' : World), left = m1 ++ (a0, a1, (a2, a3, a4, a5), a6, a7) :: m2 → QRan w' b r (m1 ++ m2) → w.grownBy w' (some r) → w'.heap.size = w.heap.size → (Instr.entry (.pointer (some ⟨r, 0, none⟩))).run Tryz.prog w' = .ok (.tuple #[key, .agg #[.int .i64 a0, .int .i64 a1, .int .i64 a2, .int .i64 a3, .int .i64 a4, .int .i64 a5, .int .i64 a6, .int .i64 a7]]) w' →
      wpListIn F k Tryz.prog ops Q rest (a.put o.dst (.tuple #[.bool true, key, .agg #[.int .i64 a0, .int .i64 a1, .int .i64 a2, .int .i64 a3, .int .i64 a4, .int .i64 a5, .int .i64 a6, .int .i64 a7]])) w') : wpListIn F k Tryz.prog ops Q (o :: rest) a w := by
  refine wpListIn_plain hg fun K' hK' => ?_
  unfold Oper.wpIn
  refine ⟨by simp [Oper.about, hop], ?_⟩
  rw [Oper.semAt_plain F _ _ (by rw [hop]; intro c hc'; cases hc')]
  rcases h.next hne o.type with ⟨h0, hrun⟩ | ⟨m1, ⟨a0, a1, ⟨a2, a3, a4, a5⟩, a6, a7⟩, m2, key, w', hl, hrun, hs, hgr, hsz, hen⟩
  · simp [execOp, hop, hit, hrun, Result.andThen]
    exact hK' _ _ (hDone h0)
  · simp [execOp, hop, hit, hrun, Result.andThen]
    exact hK' _ _ (hMore m1 a0 a1 a2 a3 a4 a5 a6 a7 m2 key w' hl hs hgr hsz hen)
end

set_option maxRecDepth 100000 in
set_option maxHeartbeats 4000000 in
theorem values_inQ (n : Nat) (hn : 1 ≤ n) (l Bm b nB : Nat) (L : List Qd) (J Jx : List Qd → World → Prop)
    (hY : ∀ pre x W, J pre W → pre.length < L.length → YieldAt Fence.wide (n - 1) Tryz.prog l (encQ x) W fun e W' =>
      (e = .returned (.bool true) ∧ J (pre ++ [x]) W' ∧ Kp2 nB W W') ∨ (e = .returned (.bool false) ∧ Jx (pre ++ [x]) W'))
    (W : World) (hJ : AbidesFrom W.heap.size J) (hm : W.cell? ⟨Bm, 0, none⟩ = some (.map (some b))) (hs : QMap W b L) (h0 : J [] W) :
    CallsIn Fence.wide n Tryz.prog 178 #[.func (.yield l) #[] #[], .pointer (some ⟨Bm, 0, none⟩)] W fun e W' => (∃ v, e = .returned v) ∧
      ((∃ xs, xs.Perm L ∧ J xs W') ∨ (∃ pre, True ∧ Jx pre W')) := by
  have hro : Fence.wide.round = none := rfl
  have hT : Fence.wide.fn 178 := trivial
  have hbW := hs.lt
  refine callsIn_of_wp Tryz.func178 rfl hT ?_ hro
  simp only [Tryz.ntmps178, List.size_toArray, List.length_cons, List.length_nil, Nat.reduceAdd, Nat.reduceSub, Array.replicate_succ, Array.replicate_zero, List.push_toArray, List.append_toArray, List.nil_append, List.cons_append]
  gi_wp2_with (first
    | (gi_at_range; refine wpListIn_range_q _ rfl _ rfl b L rfl hs ?_; intro w0 hr0 hg0 hs0)
    | gi_in)
  go_frame
  gi_loopw [4] (fun _ wr => ∃ (left ps : List Qd), QRan wr b W.heap.size left ∧ (ps ++ left).Perm L ∧ J ps wr) (fun _ wr => wr.rangeLeft b W.heap.size)
  case atStart => exact ⟨L, [], hr0, by simp, hJ [] W w0 none h0 hg0 (fun r e => by cases e)⟩
  case round =>
    obtain ⟨left, ps, hrg, hp, hJs⟩ := hrel
    gi_wp2_with (first
      | (gi_at_next; refine wpListIn_next_q _ rfl _ rfl b W.heap.size left (by omega) rfl hrg ?_ ?_)
      | gi_in)
    · intro hl
      subst hl
      gi_wp2
      go_end0
      exact ⟨⟨_, rfl⟩, .inl ⟨ps, by simpa using hp, hJs⟩⟩
    · intro m1 a0 a1 a2 a3 a4 a5 a6 a7 m2 key w2 hl hrg2 hg2 hs2 hen
      have hlen : ps.length < L.length := by
        have := hp.length_eq
        rw [hl, List.length_append, List.length_append, List.length_cons] at this
        omega
      have hJ2 : J ps w2 := hJ ps wr w2 (some W.heap.size) hJs hg2 (fun r e => by cases e; exact ⟨Nat.le_refl _, hrg.iter⟩)
      have hJ3 := abides_belowQ hJ hJ2 ((Below.refl w2.heap.size w2).alloc (Nat.le_refl _) (.cells (#[.int .i64 a0, .int .i64 a1, .int .i64 a2, .int .i64 a3, .int .i64 a4, .int .i64 a5, .int .i64 a6, .int .i64 a7]) 243))
      have hrg3 := hrg2.alloc (.cells (#[.int .i64 a0, .int .i64 a1, .int .i64 a2, .int .i64 a3, .int .i64 a4, .int .i64 a5, .int .i64 a6, .int .i64 a7]) 243)
      have Hp := Lib.hid (show (ps ++ [(a0, a1, (a2, a3, a4, a5), a6, a7)] ++ (m1 ++ m2)).Perm L from by
        rw [hl] at hp
        refine List.Perm.trans ?_ hp
        rw [List.append_assoc]
        refine List.Perm.append_left ps ?_
        rw [List.singleton_append]
        exact List.perm_middle.symm)
      have Hm := Lib.hid (show (m1 ++ m2).length < left.length by rw [hl]; simp)
      clear hl hp
      obtain ⟨fn, tmps, assign, body, hy, hR⟩ := hY ps (a0, a1, (a2, a3, a4, a5), a6, a7) _ hJ3 hlen
      dsimp only [encQ] at hy
      gi_wp2
      refine hR.mono ?_
      rintro e W3 (⟨rfl, hJ4, hk4⟩ | ⟨rfl, hJx4⟩)
      · gi_wp2
        have hrg4 := hrg3.of_walks hk4.1
        go_roundw
        case rel => exact ⟨m1 ++ m2, ps ++ [(a0, a1, (a2, a3, a4, a5), a6, a7)], hrg4, Hp.out, hJ4⟩
        case measure => rw [hrg4.left_eq, hrg.left_eq]; exact Hm.out
      · gi_wp2
        refine bodyPost_ret (results_none rfl _ _ _) rfl ?_
        exact ⟨⟨_, rfl⟩, .inr ⟨_, trivial, hJx4⟩⟩
end Go.Proofs.YteiclanlhnccnaaGreatDoor
/-
  Queued hints sorted by their turns, and what comes out of a map of them (as SortP, MergeP, at queued hints).
-/
namespace Go.Proofs.YteiclanlhnccnaaGreatDoor
set_option maxRecDepth 20000
open Go.RowKit Go.Sort Go.Shelf
set_option linter.unusedSimpArgs false
set_option linter.unusedVariables false

def turnM (x y : Qd) : Int := cmpM x.1 y.1
theorem ltOf_turn (x y : Qd) : ltOf turnM x y = decide (x.1 < y.1) := by
  show decide (cmpM x.1 y.1 < 0) = _
  rcases cmpM_range x.1 y.1 with ⟨h, k⟩ | ⟨h, k⟩ | ⟨h, k⟩
  · rw [h]; simp [k]
  · rw [h, k]; simp
  · rw [h]
    have : ¬ x.1 < y.1 := by omega
    simp [this]
theorem swoTurn : SWO (ltOf turnM) where
  irrefl x := by rw [ltOf_turn]; simp
  trans x y z h k := by
    rw [ltOf_turn] at *
    simp only [decide_eq_true_eq] at *
    omega
  ntrans x y z h k := by
    rw [ltOf_turn] at *
    simp only [decide_eq_false_iff_not] at *
    omega
theorem sorted_pairsQ {d : Array Qd} (h : SortedIn (ltOf turnM) 0 d.size d) : d.toList.Pairwise fun x y => ¬ y.1 < x.1 := by
  rw [List.pairwise_iff_getElem]
  intro i j hi hj hij
  have hi' : i < d.size := by simpa using hi
  have hj' : j < d.size := by simpa using hj
  have := h i j (Nat.zero_le _) hij hj'
  rw [ltOf_turn, getElem!_pos d j hj', getElem!_pos d i hi'] at this
  simpa using this
theorem grown2 (w : World) (a b : Obj) : ∃ q os', (w.alloc a).alloc b = grow (w.drewN q) os' := by
  refine ⟨0, #[a] ++ #[b], ?_⟩
  rw [alloc_eq_grow, alloc_eq_grow, grow_grow]
  rfl

set_option maxHeartbeats 1000000 in
theorem turnG (a0 a1 a2 a3 a4 a5 a6 a7 b0 b1 b2 b3 b4 b5 b6 b7 : Int) (w : World) :
    Calls Tryz.prog 168 #[.agg #[.int .i64 a0, .int .i64 a1, .int .i64 a2, .int .i64 a3, .int .i64 a4, .int .i64 a5, .int .i64 a6, .int .i64 a7], .agg #[.int .i64 b0, .int .i64 b1, .int .i64 b2, .int .i64 b3, .int .i64 b4, .int .i64 b5, .int .i64 b6, .int .i64 b7]] w fun e w' =>
      e = .returned (.int .i64 (turnM (a0, a1, (a2, a3, a4, a5), a6, a7) (b0, b1, (b2, b3, b4, b5), b6, b7))) ∧ ∃ q os', w' = grow (w.drewN q) os' := by
  go_enter Tryz.func168, Tryz.ntmps168
  go_wp2_with (go_at_call 169; refine (cmpCompare _ _ _).mono ?_; rintro e w1 ⟨rfl, rfl⟩)
  go_ret
  exact ⟨rfl, grown2 _ _ _⟩

theorem cell_rowQ {x : Qd} {j : Nat} (hj : j < 8) : (qdCells x)[j]? = some ((qdCells x)[j]!) := by
  have : j < (qdCells x).length := hj
  rw [List.getElem?_eq_getElem this, getElem!_pos (qdCells x) j this]
theorem flatK_rowQ (d : Array Qd) : (flatK qdCells 8 d).toList = eQ.row d.toList := by
  apply List.ext_getElem?
  intro i
  rcases Nat.lt_or_ge i (d.size * 8) with h | h
  · have hk : i / 8 < d.size := by omega
    have hd : d.toList[i / 8]? = some d[i / 8]! := by
      rw [Array.getElem?_toList, Array.getElem?_eq_getElem hk, getElem!_pos d _ hk]
    have h1 := okQ.row_at d.toList (i / 8) (i % 8) _ hd (Nat.mod_lt _ (by decide))
    rw [show i / 8 * eQ.size + i % 8 = i by show i / 8 * 8 + i % 8 = i; omega] at h1
    rw [h1, Array.getElem?_toList]
    have hs : i < (flatK qdCells 8 d).size := by simpa using h
    have h2 := get_flatK qdCells 8 d i h
    rw [getElem!_pos (flatK qdCells 8 d) i hs] at h2
    rw [Array.getElem?_eq_getElem hs, h2]
    exact (cell_rowQ (Nat.mod_lt _ (by decide))).symm
  · rw [List.getElem?_eq_none (by simpa using h), List.getElem?_eq_none (by rw [okQ.row_len]; simpa [eQ] using h)]
theorem holdsK_ofQ {w : World} {base g n c : Nat} {l : List Qd} (how : Ow eQ w base (some ⟨g, 0, none⟩) n c l) : HoldsK qdCells 8 w g 0 l.toArray := fun j hj => by
  have hs : (flatK qdCells 8 l.toArray).size = l.length * 8 := by simp
  have hlen := Ow.len okQ how
  have h1 : (eQ.row l)[j]? = some (flatK qdCells 8 l.toArray)[j]! := by
    have := flatK_rowQ l.toArray
    rw [show (l.toArray).toList = l from rfl] at this
    rw [← this, Array.getElem?_toList, Array.getElem?_eq_getElem hj, getElem!_pos (flatK qdCells 8 l.toArray) j hj]
  refine ⟨?_, how.frozenAt _⟩
  rw [World.ownsRow.cellAt how _ (by rw [hs] at hj; show 0 + j < n * 8; omega), Nat.zero_add, h1]
  rfl
theorem ow_sortedQ {w : World} {base g n c m : Nat} {l : List Qd} {d : Array Qd} {os : Array Obj} (how : Ow eQ w base (some ⟨g, 0, none⟩) n c l) (hd : d.size = n) :
    Ow eQ (sortWorldK qdCells 8 w g 0 m d os) base (some ⟨g, 0, none⟩) n c d.toList := by
  refine ⟨by rw [okQ.row_len]; simp [hd], .inr ?_⟩
  rcases how.2 with ⟨h0, _⟩ | ⟨g', cap, cur, hv, hb, hg, h1, h2, h3, h4⟩
  · simp at h0
  · simp only [Value.slice.injEq, Option.some.injEq, Addr.mk.injEq, true_and, and_true] at hv
    obtain ⟨rfl, rfl⟩ := hv
    have hF : (flatK qdCells 8 d).size = n * 8 := by simp [hd]
    have hlt : g < w.heap.size := (Array.getElem?_eq_some_iff.1 hg).1
    refine ⟨g, c, putCells id 0 (flatK qdCells 8 d) cur, rfl, hb, ?_, h1, h2, by unfold putCells; simpa using h3, ?_⟩
    · show ((w.heap.modify g (onCells (putCells id 0 (flatK qdCells 8 d)))) ++ os)[g]? = _
      rw [Array.getElem?_append_left (by rw [Array.size_modify]; exact hlt), Array.getElem?_modify, if_pos rfl, hg]
      rfl
    · rw [← flatK_rowQ]
      apply List.ext_getElem?
      intro j
      rw [List.getElem?_take]
      have hcs : n * 8 ≤ cur.size := by
        rw [h3]
        exact Nat.mul_le_mul_right _ h1
      split
      · rename_i hj
        have hj' : j < n * 8 := hj
        have hjc : j < cur.size := by omega
        unfold putCells
        rw [Array.getElem?_toList, Array.getElem?_mapIdx, Array.getElem?_eq_getElem hjc, Option.map_some, if_pos ⟨Nat.zero_le _, by omega⟩, Nat.sub_zero, Array.getElem?_toList, Array.getElem?_eq_getElem (by omega), getElem!_pos (flatK qdCells 8 d) j (by omega)]
        rfl
      · rename_i hj
        rw [List.getElem?_eq_none]
        have : ¬ j < n * 8 := hj
        simp
        omega

set_option maxHeartbeats 1000000 in
theorem sortQd (A : Option Addr) (n c base : Nat) (l : List Qd) (w : World) (how : Ow eQ w base A n c l) (hn : n ≤ 1000) :
    Calls Tryz.prog 177 #[.slice A n c, .func (.func 168) #[] #[]] w fun e w' =>
      e = .returned (.tuple #[]) ∧ ∃ ys : List Qd, ys.Perm l ∧ (ys.Pairwise fun x y => ¬ y.1 < x.1) ∧ Ow eQ w' base A n c ys ∧ Below base w w' := by
  have hlen := Ow.len okQ how
  rcases Nat.eq_zero_or_pos n with h0 | h0
  · subst h0
    obtain rfl : l = [] := List.eq_nil_of_length_eq_zero hlen
    have h : Calls Tryz.prog 177 #[.slice A 0 c, .func (.func 168) #[] #[]] w fun e w' => e = .returned (.tuple #[]) ∧ w' = w :=
      AnyF.slices_SortFunc_none sortQ A c _ w
    refine h.mono ?_
    rintro e w' ⟨rfl, rfl⟩
    exact ⟨rfl, [], List.Perm.refl _, List.Pairwise.nil, how, Below.refl _ _⟩
  · obtain ⟨g, rfl, hb, hg⟩ := how.form h0
    have hsz : l.toArray.size = n := by simpa using hlen
    have hcmp : CmpLays Tryz.prog 168 #[] qdCells 8 turnM g 0 l.toArray.size w := fun m os dk _ x y => by
      obtain ⟨a0, a1, ⟨a2, a3, a4, a5⟩, a6, a7⟩ := x
      obtain ⟨b0, b1, ⟨b2, b3, b4, b5⟩, b6, b7⟩ := y
      exact turnG a0 a1 a2 a3 a4 a5 a6 a7 b0 b1 b2 b3 b4 b5 b6 b7 _
    have h : Calls Tryz.prog 177 #[.slice (some ⟨g, 0, none⟩) l.toArray.size c, .func (.func 168) #[] #[]] w fun e w' =>
        e = .returned (.tuple #[]) ∧ ∃ d' n os, PermIn 0 l.toArray.size l.toArray d' ∧ SortedIn (ltOf turnM) 0 l.toArray.size d' ∧ w' = sortWorldK qdCells 8 w g 0 n d' os :=
      AnyQ.slices_SortFunc sortQ 8 (fun w => Tryz.isAgg243 w) (fun w => Tryz.sizeOf243 w) qdCells (fun _ => rfl) (fun x v hv => okQ.one x v hv) turnM swoTurn 168 #[] g 0 c l.toArray w
        (enters_of Tryz.func168 (by kernel_rfl) rfl) hcmp (holdsK_ofQ how) hg (by omega)
    rw [hsz] at h
    refine h.mono ?_
    rintro e w' ⟨rfl, d, m, os, ⟨hp1, _, hp2⟩, hso, rfl⟩
    have hds : d.size = n := hp1.trans hsz
    have e1 : d.extract 0 n = d := by rw [← hds]; exact Array.extract_size
    have e2 : l.toArray.extract 0 n = l.toArray := by rw [← hsz]; exact Array.extract_size
    rw [e1, e2] at hp2
    refine ⟨rfl, d.toList, hp2, sorted_pairsQ (by rw [hds]; exact hso), ow_sortedQ how hds, ?_⟩
    refine ⟨rfl, rfl, rfl, ?_, fun k hk => ?_⟩
    · show w.heap.size ≤ ((w.heap.modify g (onCells (putCells id 0 (flatK qdCells 8 d)))) ++ os).size
      rw [Array.size_append, Array.size_modify]
      omega
    · show ((w.heap.modify g (onCells (putCells id 0 (flatK qdCells 8 d)))) ++ os)[k]? = w.heap[k]?
      rw [Array.getElem?_append_left (by rw [Array.size_modify]; omega), Array.getElem?_modify, if_neg (by omega)]
theorem valuesOfQ (b : Nat) (w : World) :
    Calls Tryz.prog 167 #[.map (some b)] w fun e w' =>
      e = .returned (.func (.func 178) #[] #[.pointer (some ⟨w.heap.size, 0, none⟩)]) ∧ w' = w.alloc (.cells #[.map (some b)] 216) := by
  go_enter Tryz.func167, Tryz.ntmps167
  go_wp2
  go_ret
  exact ⟨rfl, rfl⟩

theorem values_stopsQ (n : Nat) (hn : 1 ≤ n) (b Bm n0 : Nat) (L : List Qd) (w : World) (hs : QMap w b L) (hm : At w Bm 216 #[.map (some b)]) :
    SeqStopsK Fence.wide n Tryz.prog 178 #[.pointer (some ⟨Bm, 0, none⟩)] encQ (Kp2 n0) (fun xs => xs.Perm L) (fun _ => True) L.length w := fun l J Jx W hW hJ hJx hY h0 =>
  values_inQ n hn l Bm b n0 L J Jx hY W hJ ((hm.below hW hm.lt).cell 0) (hs.below hW hs.lt) h0

set_option maxHeartbeats 1000000 in
theorem sortedFuncQ (b Bm : Nat) (L : List Qd) (w : World) (hs : QMap w b L) (hm : At w Bm 216 #[.map (some b)]) (hL : L.length ≤ 1000) :
    Calls Tryz.prog 166 #[.func (.func 178) #[] #[.pointer (some ⟨Bm, 0, none⟩)], .func (.func 168) #[] #[]] w fun e w' =>
      ∃ A n c ys, e = .returned (.slice A n c) ∧ ys.Perm L ∧ (ys.Pairwise fun x y => ¬ y.1 < x.1) ∧ Ow eQ w' w.heap.size A n c ys ∧ Below w.heap.size w w' := by
  have hC := collectSeqQ 4 (by omega) _ _ (enters_of Tryz.func178 (by kernel_rfl) rfl) _ _ L.length hL w.heap.size w (Nat.le_refl _) (values_stopsQ 3 (by omega) b Bm w.heap.size L w hs hm)
  clear hs hm
  go_enter Tryz.func166, Tryz.ntmps166
  go_wp2_with fail
  refine hC.mono ?_
  rintro e w1 ⟨A, c, xs, rfl, hp, ow, hb⟩
  have hS := sortQd A xs.length c w.heap.size xs w1 ow (by rw [hp.length_eq]; exact hL)
  go_wp2_with fail
  refine hS.mono ?_
  rintro e w2 ⟨rfl, ys, hp2, hpw, ow2, hb2⟩
  have hB2 := hb.trans hb2
  have Hp := Lib.hid (hp2.trans hp)
  clear hC hS hp hp2
  go_wp2
  go_ret
  first | exact ⟨A, xs.length, c, ys, rfl, Hp.out, hpw, ow2, hB2⟩ | exact ⟨A, xs.length, c, rfl, ys, Hp.out, hpw, ow2, hB2⟩

end Go.Proofs.YteiclanlhnccnaaGreatDoor
/-
  A map's store and delete at one operation.
-/
namespace Go.Proofs.YteiclanlhnccnaaGreatDoor
set_option maxRecDepth 20000
open Go.RowKit

theorem wp_mapPut' {P : Program} {o : Oper} {a : Act} {w w' : World} {K : Act → World → Prop} {Q : Exit → Act → World → Prop} (m k v : Operand) (t : TypeId) (hop : o.op = Op.mapUpdate t m k v) {mv kv vv : Value} (hm : a.eval m = mv) (hk : a.eval k = kv) (hv : a.eval v = vv)
    (hrun : (Instr.mapUpdate t mv kv vv).run P w = .ok () w') (h : K (a.put o.dst undef) w') : o.wp P a w K Q := by
  unfold Oper.wp
  simp [execOp, hop, hm, hk, hv, hrun, Result.andThen]
  exact h
theorem wp_mapDrop {P : Program} {o : Oper} {a : Act} {w w' : World} {K : Act → World → Prop} {Q : Exit → Act → World → Prop} (m k : Operand) (t kt : TypeId) (hop : o.op = .call { callee := .builtin .delete, args := #[m, k], argTypes := #[t, kt] }) {mv kv : Value} (hm : a.eval m = mv) (hk : a.eval k = kv)
    (hrun : (Builtin.delete_ #[t, kt] o.type #[mv, kv]).run P w = .ok (.tuple #[]) w') (h : K (a.put o.dst (.tuple #[])) w') : o.wp P a w K Q := by
  unfold Oper.wp execOp
  simp only [hop, resolve, invoke, builtin, Sem.run_bind, Sem.run_pure, Result.andThen_ok, List.map_toArray, List.map_cons, List.map_nil, hm, hk, hrun]
  exact h
end Go.Proofs.YteiclanlhnccnaaGreatDoor
/-
  The program's queue of hints: put, looked for, taken away, counted, listed.
-/
namespace Go.Proofs.YteiclanlhnccnaaGreatDoor
set_option maxRecDepth 20000
open Go.RowKit Go.Shelf
set_option linter.unusedSimpArgs false
set_option linter.unusedVariables false

theorem At.apart {w : World} {p b : Nat} {t : TypeId} {cs : Array Value} {L : List Qd} (h : At w p t cs) (k : QMap w b L) : p ≠ b := by
  rintro rfl
  obtain ⟨es, clock, hb, _⟩ := k
  rw [show w.heap[p]? = _ from h] at hb
  cases hb
theorem QMap.stored {w : World} {b : Nat} {L : List Qd} (h : QMap w b L) {p : Addr} (hp : p.block ≠ b) (u : Value) : QMap (w.setCell p u) b L :=
  h.kept (grown_setCell w p u) (fun e => hp (Option.some.inj e.symm))

/-- What is looked up, in plain words. -/
theorem lookQ (L : List Qd) (h : Hnt) (t : Int) : ∃ (q0 q1 q2 q3 q4 q5 q6 q7 : Int) (f : Bool), (∀ u b, QMap u b L → (Instr.lookup 216 (.map (some b)) (keyH h) true).run Tryz.prog u = .ok (.tuple #[.agg #[.int .i64 q0, .int .i64 q1, .int .i64 q2, .int .i64 q3, .int .i64 q4, .int .i64 q5, .int .i64 q6, .int .i64 q7], .bool f]) u) ∧
    turnQ t h L = (if f then q0 else t) ∧ ((firstQ L h).map Prod.snd).getD zeroH = (q1, (q2, q3, q4, q5), q6, q7) ∧ (firstQ L h).isSome = f := by
  rcases hf : firstQ L h with _ | ⟨q0, q1, ⟨q2, q3, q4, q5⟩, q6, q7⟩
  · refine ⟨0, 0, 0, 0, 0, 0, 0, 0, false, fun u b hu => ?_, ?_, rfl, rfl⟩
    · have := hu.look h
      rw [hf] at this
      exact this
    · unfold turnQ
      rw [hf]
      rfl
  · refine ⟨q0, q1, q2, q3, q4, q5, q6, q7, true, fun u b hu => ?_, ?_, rfl, rfl⟩
    · have := hu.look h
      rw [hf] at this
      exact this
    · unfold turnQ
      rw [hf]
      rfl

theorem qNew (w : World) : Calls Tryz.prog 156 #[] w fun e w' => e = .returned (.pointer (some ⟨w.heap.size + 1, 0, none⟩)) ∧ w' = (w.alloc (.map #[] 0)).alloc (.cells #[.int .i64 0, .map (some w.heap.size)] 218) := by
  have hmm := @run_makeMap Tryz.prog
  go_enter Tryz.func156, Tryz.ntmps156
  go_wp2
  go_ret
  exact ⟨by simp, rfl⟩

theorem qSize (p b : Nat) (t : Int) (L : List Qd) (w : World) (hp : At w p 218 #[.int .i64 t, .map (some b)]) (hm : QMap w b L) :
    Calls Tryz.prog 130 #[.pointer (some ⟨p, 0, none⟩)] w fun e w' => e = .returned (.int .i64 (L.length : Int)) ∧ w = w' := by
  obtain ⟨c0, c1, _, _⟩ := hp.two
  have hl := fun ty => hm.len ty
  go_enter Tryz.func130, Tryz.ntmps130
  go_wp2
  go_ret
  exact ⟨rfl, rfl⟩

set_option maxRecDepth 100000 in
set_option maxHeartbeats 4000000 in
theorem qPut (p b B : Nat) (t : Int) (L : List Qd) (a0 a1 a2 a3 a4 a5 a6 : Int) (w : World) (hp : At w p 218 #[.int .i64 t, .map (some b)]) (hm : QMap w b L) (hB : B ≤ p) (hBb : B ≤ b) (ht : 0 ≤ t ∧ t ≤ 1000) :
    Calls Tryz.prog 149 #[.pointer (some ⟨p, 0, none⟩), .agg #[.int .i64 a0, .int .i64 a3], .agg #[.int .i64 a0, .int .i64 a1, .int .i64 a2, .int .i64 a3, .int .i64 a4, .int .i64 a5, .int .i64 a6]] w fun e w' => e = .returned (.tuple #[]) ∧ At w' p 218 #[.int .i64 (t + 1), .map (some b)] ∧ QMap w' b (putQ t (a0, (a1, a2, a3, a4), a5, a6) L) ∧ Below B w w' := by
  obtain ⟨q0, q1, q2, q3, q4, q5, q6, q7, f, hl0, hturn, -, -⟩ := lookQ L (a0, (a1, a2, a3, a4), a5, a6) t
  have hl : ∀ u, QMap u b L → (Instr.lookup 216 (.map (some b)) (.agg #[.int .i64 a0, .int .i64 a3]) true).run Tryz.prog u = .ok (.tuple #[.agg #[.int .i64 q0, .int .i64 q1, .int .i64 q2, .int .i64 q3, .int .i64 q4, .int .i64 q5, .int .i64 q6, .int .i64 q7], .bool f]) u := fun u hu => hl0 u b hu
  clear hl0
  have hne := hp.apart hm
  have Hturn := Lib.hid hturn
  have Hset := Lib.hid (putQ_set t (a0, (a1, a2, a3, a4), a5, a6) L)
  clear hturn
  have p2 := (hp.alloc (.cells #[.int .i64 a0, .int .i64 a3] 181)).alloc (.cells #[.int .i64 a0, .int .i64 a1, .int .i64 a2, .int .i64 a3, .int .i64 a4, .int .i64 a5, .int .i64 a6] 89)
  have m2 := (hm.alloc (.cells #[.int .i64 a0, .int .i64 a3] 181)).alloc (.cells #[.int .i64 a0, .int .i64 a1, .int .i64 a2, .int .i64 a3, .int .i64 a4, .int .i64 a5, .int .i64 a6] 89)
  have k2 := (At.new w 181 #[.int .i64 a0, .int .i64 a3]).alloc (.cells #[.int .i64 a0, .int .i64 a1, .int .i64 a2, .int .i64 a3, .int .i64 a4, .int .i64 a5, .int .i64 a6] 89)
  have i2 : At ((w.alloc (.cells #[.int .i64 a0, .int .i64 a3] 181)).alloc (.cells #[.int .i64 a0, .int .i64 a1, .int .i64 a2, .int .i64 a3, .int .i64 a4, .int .i64 a5, .int .i64 a6] 89)) (w.heap.size + 1) 89 #[.int .i64 a0, .int .i64 a1, .int .i64 a2, .int .i64 a3, .int .i64 a4, .int .i64 a5, .int .i64 a6] := by
    have := At.new (w.alloc (.cells #[.int .i64 a0, .int .i64 a3] 181)) 89 #[.int .i64 a0, .int .i64 a1, .int .i64 a2, .int .i64 a3, .int .i64 a4, .int .i64 a5, .int .i64 a6]
    simpa using this
  have hB2 : Below B w ((w.alloc (.cells #[.int .i64 a0, .int .i64 a3] 181)).alloc (.cells #[.int .i64 a0, .int .i64 a1, .int .i64 a2, .int .i64 a3, .int .i64 a4, .int .i64 a5, .int .i64 a6] 89)) := ((Below.refl _ _).alloc (by have := hp.lt; omega) _).alloc (by have := hp.lt; simp; omega) _
  have lp := hp.lt
  have lm := hm.lt
  obtain ⟨c0, c1, d0, d1⟩ := p2.two
  clear hp hm
  go_enter Tryz.func149, Tryz.ntmps149
  go_wp2
  clear c0 c1 d0 d1
  refine wp_region_mix [(0, false), (1, false), (2, false), (3, false), (4, false), (5, false), (6, false), (7, false), (8, false), (9, true), (10, true), (11, false)] (fun u => (At u p 218 #[.int .i64 t, .map (some b)] ∧ At u w.heap.size 181 #[.int .i64 a0, .int .i64 a3]) ∧ QMap u b L) (by kernel_rfl) (by kernel_rfl) (fun _ _ _ _ _ h => h) ⟨⟨p2.drew, k2.drew⟩, m2.drew⟩ ?_
  simp only [mixOps, List.map_cons, List.map_nil, List.getElem?_cons_succ, List.getElem?_cons_zero, Option.getD_some]
  iterate 9 (
    refine mix_pure (v := ?_) (by rfl) (fun u hu => ?_) ?_
    rotate_left
    · obtain ⟨⟨h1, h2⟩, h3⟩ := hu
      obtain ⟨_, _, _, _⟩ := h1.two
      obtain ⟨_, _, _, _⟩ := h2.two
      have hlu := hl u h3
      go_simp
      (with_reducible rfl)
    (try simp only [Act.put, List.setIfInBounds_toArray, List.set_cons_zero, List.set_cons_succ]))
  refine mix_call (by rfl) (fun K hK => ?_)
  go_simp
  refine hK _ _ _ (fun _ h => h) ⟨⟨p2.drew.alloc _, k2.drew.alloc _⟩, m2.drew.alloc _⟩ ?_
  (try simp only [Act.put, List.setIfInBounds_toArray, List.set_cons_zero, List.set_cons_succ])
  refine mix_call (by rfl) (fun K hK => ?_)
  go_simp
  have p3 := p2.drew.alloc (.cells #[.int .i64 q0, .int .i64 q1, .int .i64 q2, .int .i64 q3, .int .i64 q4, .int .i64 q5, .int .i64 q6, .int .i64 q7] 243)
  have m3 := m2.drew.alloc (.cells #[.int .i64 q0, .int .i64 q1, .int .i64 q2, .int .i64 q3, .int .i64 q4, .int .i64 q5, .int .i64 q6, .int .i64 q7] 243)
  have k3 := k2.drew.alloc (.cells #[.int .i64 q0, .int .i64 q1, .int .i64 q2, .int .i64 q3, .int .i64 q4, .int .i64 q5, .int .i64 q6, .int .i64 q7] 243)
  have i3 := i2.drew.alloc (.cells #[.int .i64 q0, .int .i64 q1, .int .i64 q2, .int .i64 q3, .int .i64 q4, .int .i64 q5, .int .i64 q6, .int .i64 q7] 243)
  have hB3 := hB2.drew.alloc (by have := hB2.size; have := lp; simp; omega) (.cells #[.int .i64 q0, .int .i64 q1, .int .i64 q2, .int .i64 q3, .int .i64 q4, .int .i64 q5, .int .i64 q6, .int .i64 q7] 243)
  have v3 : At (((w.alloc (.cells #[.int .i64 a0, .int .i64 a3] 181)).alloc (.cells #[.int .i64 a0, .int .i64 a1, .int .i64 a2, .int .i64 a3, .int .i64 a4, .int .i64 a5, .int .i64 a6] 89)).drew.alloc (.cells #[.int .i64 q0, .int .i64 q1, .int .i64 q2, .int .i64 q3, .int .i64 q4, .int .i64 q5, .int .i64 q6, .int .i64 q7] 243)) (w.heap.size + 1 + 1) 243 #[.int .i64 q0, .int .i64 q1, .int .i64 q2, .int .i64 q3, .int .i64 q4, .int .i64 q5, .int .i64 q6, .int .i64 q7] := by
    have := At.new ((w.alloc (.cells #[.int .i64 a0, .int .i64 a3] 181)).alloc (.cells #[.int .i64 a0, .int .i64 a1, .int .i64 a2, .int .i64 a3, .int .i64 a4, .int .i64 a5, .int .i64 a6] 89)).drew 243 #[.int .i64 q0, .int .i64 q1, .int .i64 q2, .int .i64 q3, .int .i64 q4, .int .i64 q5, .int .i64 q6, .int .i64 q7]
    simpa using this
  refine hK _ _ _ (fun _ h => h) ⟨⟨p3, k3⟩, m3⟩ ?_
  (try simp only [Act.put, List.setIfInBounds_toArray, List.set_cons_zero, List.set_cons_succ])
  refine mix_pure (v := ?_) (by rfl) (fun u hu => ?_) ?_
  rotate_left
  · go_simp
    (with_reducible rfl)
  (try simp only [Act.put, List.setIfInBounds_toArray, List.set_cons_zero, List.set_cons_succ])
  refine mix_nil ?_
  have v30 := v3.cell 0
  cases f
  · have HT := Lib.hid (show turnQ t (a0, (a1, a2, a3, a4), a5, a6) L = t from Hturn.out)
    go_wp2
    refine wp_region_mix [(0, false), (1, false), (2, false), (3, false), (4, false), (5, false), (6, false), (7, false), (8, true)] (fun u => (At u p 218 #[.int .i64 t, .map (some b)] ∧ At u w.heap.size 181 #[.int .i64 a0, .int .i64 a3]) ∧ At u (w.heap.size + 1) 89 #[.int .i64 a0, .int .i64 a1, .int .i64 a2, .int .i64 a3, .int .i64 a4, .int .i64 a5, .int .i64 a6]) (by kernel_rfl) (by kernel_rfl) (fun _ _ _ _ _ h => h) ⟨⟨p3.drew, k3.drew⟩, i3.drew⟩ ?_
    simp only [mixOps, List.map_cons, List.map_nil, List.getElem?_cons_succ, List.getElem?_cons_zero, Option.getD_some]
    iterate 8 (
      refine mix_pure (v := ?_) (by rfl) (fun u hu => ?_) ?_
      rotate_left
      · obtain ⟨⟨h1, h2⟩, h3⟩ := hu
        obtain ⟨_, _, _, _⟩ := h1.two
        obtain ⟨_, _, _, _⟩ := h2.two
        obtain ⟨_, _, _, _, _, _, _⟩ := h3.seven
        go_simp
        (with_reducible rfl)
      (try simp only [Act.put, List.setIfInBounds_toArray, List.set_cons_zero, List.set_cons_succ]))
    obtain ⟨w5, hrun, m5, hg5⟩ := m3.drew.put (t, (a0, (a1, a2, a3, a4), a5, a6))
    have p5 := p3.drew.grown hg5 (fun e => hne (Option.some.inj e).symm)
    have hB5 := hB3.drew.grown hg5 (by have := hB3.size; have := lp; simp; omega) (fun g e => by cases e; exact hBb)
    refine mix_call (by rfl) (fun K hK => ?_)
    refine wp_mapPut' _ _ _ _ rfl rfl rfl rfl hrun ?_
    refine hK _ _ _ (fun _ h => h) ⟨⟨p5, k3.drew.grown hg5 (fun e => by have := Option.some.inj e; omega)⟩, i3.drew.grown hg5 (fun e => by have := Option.some.inj e; omega)⟩ ?_
    (try simp only [Act.put, List.setIfInBounds_toArray, List.set_cons_zero, List.set_cons_succ])
    refine mix_nil ?_
    obtain ⟨c0, c1, d0, d1⟩ := p5.two
    have hw : IntKind.i64.wrap (t + 1) = t + 1 := IntWalk.i64_in _ (by omega)
    have p6 := p5.set 0 (.int .i64 (t + 1))
    have m6 := m5.stored (p := ⟨p, 0, none⟩) hne (.int .i64 (t + 1))
    have hB6 := hB5.setCell (p := ⟨p, 0, none⟩) hB (.int .i64 (t + 1))
    go_wp2
    go_end0
    exact ⟨rfl, p6, by rw [Hset.out, HT.out]; exact m6, hB6⟩
  · have HT := Lib.hid (show turnQ t (a0, (a1, a2, a3, a4), a5, a6) L = q0 from Hturn.out)
    go_wp2
    refine wp_region_mix [(0, false), (1, false), (2, false), (3, false), (4, false), (5, false), (6, false), (7, false), (8, true)] (fun u => (At u p 218 #[.int .i64 t, .map (some b)] ∧ At u w.heap.size 181 #[.int .i64 a0, .int .i64 a3]) ∧ At u (w.heap.size + 1) 89 #[.int .i64 a0, .int .i64 a1, .int .i64 a2, .int .i64 a3, .int .i64 a4, .int .i64 a5, .int .i64 a6]) (by kernel_rfl) (by kernel_rfl) (fun _ _ _ _ _ h => h) ⟨⟨p3.drew, k3.drew⟩, i3.drew⟩ ?_
    simp only [mixOps, List.map_cons, List.map_nil, List.getElem?_cons_succ, List.getElem?_cons_zero, Option.getD_some]
    iterate 8 (
      refine mix_pure (v := ?_) (by rfl) (fun u hu => ?_) ?_
      rotate_left
      · obtain ⟨⟨h1, h2⟩, h3⟩ := hu
        obtain ⟨_, _, _, _⟩ := h1.two
        obtain ⟨_, _, _, _⟩ := h2.two
        obtain ⟨_, _, _, _, _, _, _⟩ := h3.seven
        go_simp
        (with_reducible rfl)
      (try simp only [Act.put, List.setIfInBounds_toArray, List.set_cons_zero, List.set_cons_succ]))
    obtain ⟨w5, hrun, m5, hg5⟩ := m3.drew.put (q0, (a0, (a1, a2, a3, a4), a5, a6))
    have p5 := p3.drew.grown hg5 (fun e => hne (Option.some.inj e).symm)
    have hB5 := hB3.drew.grown hg5 (by have := hB3.size; have := lp; simp; omega) (fun g e => by cases e; exact hBb)
    refine mix_call (by rfl) (fun K hK => ?_)
    refine wp_mapPut' _ _ _ _ rfl rfl rfl rfl hrun ?_
    refine hK _ _ _ (fun _ h => h) ⟨⟨p5, k3.drew.grown hg5 (fun e => by have := Option.some.inj e; omega)⟩, i3.drew.grown hg5 (fun e => by have := Option.some.inj e; omega)⟩ ?_
    (try simp only [Act.put, List.setIfInBounds_toArray, List.set_cons_zero, List.set_cons_succ])
    refine mix_nil ?_
    obtain ⟨c0, c1, d0, d1⟩ := p5.two
    have hw : IntKind.i64.wrap (t + 1) = t + 1 := IntWalk.i64_in _ (by omega)
    have p6 := p5.set 0 (.int .i64 (t + 1))
    have m6 := m5.stored (p := ⟨p, 0, none⟩) hne (.int .i64 (t + 1))
    have hB6 := hB5.setCell (p := ⟨p, 0, none⟩) hB (.int .i64 (t + 1))
    go_wp2
    go_end0
    exact ⟨rfl, p6, by rw [Hset.out, HT.out]; exact m6, hB6⟩

set_option maxRecDepth 100000 in
set_option maxHeartbeats 4000000 in
theorem qFind (p b : Nat) (t : Int) (L : List Qd) (k0 k1 q0 q1 q2 q3 q4 q5 q6 q7 : Int) (f : Bool) (w : World) (hp : At w p 218 #[.int .i64 t, .map (some b)]) (hm : QMap w b L)
    (hl : ∀ u, QMap u b L → (Instr.lookup 216 (.map (some b)) (.agg #[.int .i64 k0, .int .i64 k1]) true).run Tryz.prog u = .ok (.tuple #[.agg #[.int .i64 q0, .int .i64 q1, .int .i64 q2, .int .i64 q3, .int .i64 q4, .int .i64 q5, .int .i64 q6, .int .i64 q7], .bool f]) u) :
    Calls Tryz.prog 148 #[.pointer (some ⟨p, 0, none⟩), .agg #[.int .i64 k0, .int .i64 k1]] w fun e w' => e = .returned (.tuple #[.agg #[.int .i64 q1, .int .i64 q2, .int .i64 q3, .int .i64 q4, .int .i64 q5, .int .i64 q6, .int .i64 q7], .bool f]) ∧ Below w.heap.size w w' := by
  have p2 := (hp.alloc (.cells #[.int .i64 k0, .int .i64 k1] 181)).alloc (.cells #[.int .i64 0, .int .i64 0, .int .i64 0, .int .i64 0, .int .i64 0, .int .i64 0, .int .i64 0] 89)
  have m2 := (hm.alloc (.cells #[.int .i64 k0, .int .i64 k1] 181)).alloc (.cells #[.int .i64 0, .int .i64 0, .int .i64 0, .int .i64 0, .int .i64 0, .int .i64 0, .int .i64 0] 89)
  have k2 := (At.new w 181 #[.int .i64 k0, .int .i64 k1]).alloc (.cells #[.int .i64 0, .int .i64 0, .int .i64 0, .int .i64 0, .int .i64 0, .int .i64 0, .int .i64 0] 89)
  have i2 : At ((w.alloc (.cells #[.int .i64 k0, .int .i64 k1] 181)).alloc (.cells #[.int .i64 0, .int .i64 0, .int .i64 0, .int .i64 0, .int .i64 0, .int .i64 0, .int .i64 0] 89)) (w.heap.size + 1) 89 #[.int .i64 0, .int .i64 0, .int .i64 0, .int .i64 0, .int .i64 0, .int .i64 0, .int .i64 0] := by
    have := At.new (w.alloc (.cells #[.int .i64 k0, .int .i64 k1] 181)) 89 #[.int .i64 0, .int .i64 0, .int .i64 0, .int .i64 0, .int .i64 0, .int .i64 0, .int .i64 0]
    simpa using this
  have hB2 : Below w.heap.size w ((w.alloc (.cells #[.int .i64 k0, .int .i64 k1] 181)).alloc (.cells #[.int .i64 0, .int .i64 0, .int .i64 0, .int .i64 0, .int .i64 0, .int .i64 0, .int .i64 0] 89)) := ((Below.refl _ _).alloc (Nat.le_refl _) _).alloc (by simp) _
  obtain ⟨c0, c1, d0, d1⟩ := p2.two
  clear hp hm
  go_enter Tryz.func148, Tryz.ntmps148
  go_wp2
  clear c0 c1 d0 d1
  refine wp_region_mix [(0, false), (1, false), (2, false), (3, false), (4, false), (5, false), (6, false), (7, false), (8, false), (9, true), (10, true), (11, false)] (fun u => (At u p 218 #[.int .i64 t, .map (some b)] ∧ At u w.heap.size 181 #[.int .i64 k0, .int .i64 k1]) ∧ QMap u b L) (by kernel_rfl) (by kernel_rfl) (fun _ _ _ _ _ h => h) ⟨⟨p2.drew, k2.drew⟩, m2.drew⟩ ?_
  simp only [mixOps, List.map_cons, List.map_nil, List.getElem?_cons_succ, List.getElem?_cons_zero, Option.getD_some]
  iterate 9 (
    refine mix_pure (v := ?_) (by rfl) (fun u hu => ?_) ?_
    rotate_left
    · obtain ⟨⟨h1, h2⟩, h3⟩ := hu
      obtain ⟨_, _, _, _⟩ := h1.two
      obtain ⟨_, _, _, _⟩ := h2.two
      have hlu := hl u h3
      go_simp
      (with_reducible rfl)
    (try simp only [Act.put, List.setIfInBounds_toArray, List.set_cons_zero, List.set_cons_succ]))
  refine mix_call (by rfl) (fun K hK => ?_)
  go_simp
  refine hK _ _ _ (fun _ h => h) ⟨⟨p2.drew.alloc _, k2.drew.alloc _⟩, m2.drew.alloc _⟩ ?_
  (try simp only [Act.put, List.setIfInBounds_toArray, List.set_cons_zero, List.set_cons_succ])
  refine mix_call (by rfl) (fun K hK => ?_)
  go_simp
  have p3 := p2.drew.alloc (.cells #[.int .i64 q0, .int .i64 q1, .int .i64 q2, .int .i64 q3, .int .i64 q4, .int .i64 q5, .int .i64 q6, .int .i64 q7] 243)
  have m3 := m2.drew.alloc (.cells #[.int .i64 q0, .int .i64 q1, .int .i64 q2, .int .i64 q3, .int .i64 q4, .int .i64 q5, .int .i64 q6, .int .i64 q7] 243)
  have k3 := k2.drew.alloc (.cells #[.int .i64 q0, .int .i64 q1, .int .i64 q2, .int .i64 q3, .int .i64 q4, .int .i64 q5, .int .i64 q6, .int .i64 q7] 243)
  have i3 := i2.drew.alloc (.cells #[.int .i64 q0, .int .i64 q1, .int .i64 q2, .int .i64 q3, .int .i64 q4, .int .i64 q5, .int .i64 q6, .int .i64 q7] 243)
  have hB3 := hB2.drew.alloc (by have := hB2.size; simp; omega) (.cells #[.int .i64 q0, .int .i64 q1, .int .i64 q2, .int .i64 q3, .int .i64 q4, .int .i64 q5, .int .i64 q6, .int .i64 q7] 243)
  have v3 : At (((w.alloc (.cells #[.int .i64 k0, .int .i64 k1] 181)).alloc (.cells #[.int .i64 0, .int .i64 0, .int .i64 0, .int .i64 0, .int .i64 0, .int .i64 0, .int .i64 0] 89)).drew.alloc (.cells #[.int .i64 q0, .int .i64 q1, .int .i64 q2, .int .i64 q3, .int .i64 q4, .int .i64 q5, .int .i64 q6, .int .i64 q7] 243)) (w.heap.size + 1 + 1) 243 #[.int .i64 q0, .int .i64 q1, .int .i64 q2, .int .i64 q3, .int .i64 q4, .int .i64 q5, .int .i64 q6, .int .i64 q7] := by
    have := At.new ((w.alloc (.cells #[.int .i64 k0, .int .i64 k1] 181)).alloc (.cells #[.int .i64 0, .int .i64 0, .int .i64 0, .int .i64 0, .int .i64 0, .int .i64 0, .int .i64 0] 89)).drew 243 #[.int .i64 q0, .int .i64 q1, .int .i64 q2, .int .i64 q3, .int .i64 q4, .int .i64 q5, .int .i64 q6, .int .i64 q7]
    simpa using this
  refine hK _ _ _ (fun _ h => h) ⟨⟨p3, k3⟩, m3⟩ ?_
  (try simp only [Act.put, List.setIfInBounds_toArray, List.set_cons_zero, List.set_cons_succ])
  refine mix_pure (v := ?_) (by rfl) (fun u hu => ?_) ?_
  rotate_left
  · go_simp
    (with_reducible rfl)
  (try simp only [Act.put, List.setIfInBounds_toArray, List.set_cons_zero, List.set_cons_succ])
  refine mix_nil ?_
  obtain ⟨v0, v1, v2, v3, v4, v5, v6, v7⟩ := v3.eight
  obtain ⟨z0, z1, z2, z3, z4, z5, z6⟩ := i3.seven
  obtain ⟨y0, y1, y2, y3, y4, y5, y6⟩ := i3.sevenF
  go_wp2
  refine bodyPost_ret (v := .tuple #[.agg #[.int .i64 q1, .int .i64 q2, .int .i64 q3, .int .i64 q4, .int .i64 q5, .int .i64 q6, .int .i64 q7], .bool f]) (by simp [results, Tryz.results148, go_sem, z0, z1, z2, z3, z4, z5, z6]) rfl ?_
  exact ⟨rfl, ((((Below.refl _ _).alloc (Nat.le_refl _) _).alloc (by simp) _).alloc (by simp; omega) _).drew⟩

set_option maxRecDepth 100000 in
set_option maxHeartbeats 4000000 in
theorem qRemove (p b B : Nat) (t : Int) (L : List Qd) (k0 k1 : Int) (w : World) (hp : At w p 218 #[.int .i64 t, .map (some b)]) (hm : QMap w b L) (hB : B ≤ p) (hBb : B ≤ b) :
    Calls Tryz.prog 151 #[.pointer (some ⟨p, 0, none⟩), .agg #[.int .i64 k0, .int .i64 k1]] w fun e w' => e = .returned (.tuple #[]) ∧ At w' p 218 #[.int .i64 t, .map (some b)] ∧ QMap w' b (eraseQ (k0, (0, 0, k1, 0), 0, 0) L) ∧ Below B w w' := by
  have hne := hp.apart hm
  have lp := hp.lt
  have lm := hm.lt
  have p1 := hp.alloc (.cells #[.int .i64 k0, .int .i64 k1] 181)
  have m1 := hm.alloc (.cells #[.int .i64 k0, .int .i64 k1] 181)
  have k1' := At.new w 181 #[.int .i64 k0, .int .i64 k1]
  have hB1 := (Below.refl B w).alloc (by omega) (.cells #[.int .i64 k0, .int .i64 k1] 181)
  go_enter Tryz.func151, Tryz.ntmps151
  go_wp2
  refine wp_region_mix [(0, false), (1, false), (2, false), (3, false), (4, false), (5, true)] (fun u => At u p 218 #[.int .i64 t, .map (some b)] ∧ At u w.heap.size 181 #[.int .i64 k0, .int .i64 k1]) (by kernel_rfl) (by kernel_rfl) (fun _ _ _ _ _ h => h) ⟨p1.drew, k1'.drew⟩ ?_
  simp only [mixOps, List.map_cons, List.map_nil, List.getElem?_cons_succ, List.getElem?_cons_zero, Option.getD_some]
  iterate 5 (
    refine mix_pure (v := ?_) (by rfl) (fun u hu => ?_) ?_
    rotate_left
    · obtain ⟨h1, h2⟩ := hu
      obtain ⟨_, _, _, _⟩ := h1.two
      obtain ⟨_, _, _, _⟩ := h2.two
      go_simp
      (with_reducible rfl)
    (try simp only [Act.put, List.setIfInBounds_toArray, List.set_cons_zero, List.set_cons_succ]))
  obtain ⟨w5, hrun, m5, hg5⟩ := m1.drew.drop (k0, (0, 0, k1, 0), 0, 0) 0
  have p5 := p1.drew.grown hg5 (fun e => hne (Option.some.inj e).symm)
  have hB5 := hB1.drew.grown hg5 (by simp; omega) (fun g e => by cases e; exact hBb)
  refine mix_call (by rfl) (fun K hK => ?_)
  refine wp_mapDrop _ _ _ _ rfl rfl rfl hrun ?_
  refine hK _ _ _ (fun _ h => h) ⟨p5, k1'.drew.grown hg5 (fun e => by have := Option.some.inj e; omega)⟩ ?_
  (try simp only [Act.put, List.setIfInBounds_toArray, List.set_cons_zero, List.set_cons_succ])
  refine mix_nil ?_
  go_wp2
  go_end0
  exact ⟨rfl, p5, m5, hB5⟩

theorem rises_is {L ys : List Qd} (h : Rises L) (hp : ys.Perm L) (hs : ys.Pairwise fun x y => ¬ y.1 < x.1) : ys = L := by
  refine List.Perm.eq_of_pairwise (le := fun x y => ¬ y.1 < x.1) (fun x y hx hy h1 h2 => ?_) hs (h.imp fun {x y} k => by omega) hp
  have hx' : x ∈ L := hp.mem_iff.1 hx
  obtain ⟨i, hi, rfl⟩ := List.getElem_of_mem hx'
  obtain ⟨j, hj, rfl⟩ := List.getElem_of_mem hy
  have hk := List.pairwise_iff_getElem.1 h
  rcases Nat.lt_trichotomy i j with hij | hij | hij
  · have := hk i j hi hj hij
    omega
  · subst hij
    rfl
  · have := hk j i hj hi hij
    omega

def ListRel (w2 : World) (l : List Hnt) (n : Nat) (o i : Value) (wr : World) : Prop :=
  ∃ (k : Nat) (A : Option Addr) (c : Nat), k ≤ n ∧ i = .int .i64 k ∧ o = .slice A k c ∧ Ow eH wr w2.heap.size A k c (l.take k) ∧ Below w2.heap.size w2 wr

set_option maxRecDepth 100000 in
set_option maxHeartbeats 4000000 in
theorem qList (p b : Nat) (t : Int) (L : List Qd) (w : World) (hp : At w p 218 #[.int .i64 t, .map (some b)]) (hm : QMap w b L) (hr : Rises L) (hL : L.length ≤ 1000) :
    Calls Tryz.prog 150 #[.pointer (some ⟨p, 0, none⟩)] w fun e w' => ∃ A c, e = .returned (.slice A L.length c) ∧ Ow eH w' w.heap.size A L.length c (L.map Prod.snd) ∧ Below w.heap.size w w' := by
  obtain ⟨c0, c1, _, _⟩ := hp.two
  have hl1 := (Below.refl w.heap.size w).alloc (Nat.le_refl _) (.cells #[.map (some b)] 216)
  have hm1 := At.new w 216 #[.map (some b)]
  have hs1 := hm.alloc (.cells #[.map (some b)] 216)
  have HS := sortedFuncQ b w.heap.size L _ hs1 hm1 hL
  go_enter Tryz.func150, Tryz.ntmps150
  go_wp2_with fail
  refine (valuesOfQ b _).mono ?_
  rintro e w1 ⟨rfl, rfl⟩
  go_wp2_with fail
  refine HS.mono ?_
  rintro e w2 ⟨A2, n, c2, ys, rfl, hperm, hpw, ow2, hb2⟩
  obtain rfl := rises_is hr hperm (hpw.imp fun {x y} h => by omega)
  have hB2 := hl1.trans (hb2.mono hl1.size)
  have hrd := ow2.rd okQ
  obtain ⟨n', hn'⟩ : ∃ n', ys.length = n' := ⟨_, rfl⟩
  have hnn : n = n' := (ow2.len okQ).symm.trans hn'
  subst hnn
  have Hn := Lib.hid hn'
  rw [hn'] at hL
  have HnI := Lib.hid hn'
  clear hn' HS hm1 hs1 hl1 hb2 ow2 hperm hpw hr hm hp c0 c1
  obtain ⟨l, hl⟩ : ∃ l, ys.map Prod.snd = l := ⟨_, rfl⟩
  have Hl := Lib.hid hl
  have hll : l.length = n := by rw [← hl, List.length_map, Hn.out]
  have Hll := Lib.hid hll
  clear hl hll
  go_wp2
  go_loopw [4, 15] (fun o i wr => ListRel w2 l n o i wr) (fun _ i _ => n - (intOf i).toNat)
  case atStart => exact ⟨0, none, 0, Nat.zero_le _, rfl, rfl, Ow.nil, Below.refl _ _⟩
  case round =>
    obtain ⟨k, A1, c1, hk, rfl, rfl, how, hbel⟩ := hrel
    by_cases hlt : k < n
    · obtain ⟨g, o, ⟨q0, q1, ⟨q2, q3, q4, q5⟩, q6, q7⟩, e2, hg, hx, hc⟩ := (hrd.below hbel (Nat.le_refl _)).at_ (k := k) (by rw [Hn.out]; exact hlt)
      subst e2
      have v0 := hc 0 _ rfl
      have v1 := hc 1 _ rfl
      have v2 := hc 2 _ rfl
      have v3 := hc 3 _ rfl
      have v4 := hc 4 _ rfl
      have v5 := hc 5 _ rfl
      have v6 := hc 6 _ rfl
      have v7 := hc 7 _ rfl
      simp only [eQ, Nat.add_zero] at v0 v1 v2 v3 v4 v5 v6 v7
      have Hx := Lib.hid (show l.take (k + 1) = l.take k ++ [(q1, (q2, q3, q4, q5), q6, q7)] from take_nextH (by rw [← Hl.out, List.getElem?_map, hx]; rfl))
      clear hx hc
      have hBa := hbel.alloc hbel.size (.cells #[.int .i64 q0, .int .i64 q1, .int .i64 q2, .int .i64 q3, .int .i64 q4, .int .i64 q5, .int .i64 q6, .int .i64 q7] 243)
      have ha := how.alloc (.cells #[.int .i64 q0, .int .i64 q1, .int .i64 q2, .int .i64 q3, .int .i64 q4, .int .i64 q5, .int .i64 q6, .int .i64 q7] 243)
      have ob : Rd eH ((wr.alloc (.cells #[.int .i64 q0, .int .i64 q1, .int .i64 q2, .int .i64 q3, .int .i64 q4, .int .i64 q5, .int .i64 q6, .int .i64 q7] 243)).alloc (.cells #[.int .i64 q1, .int .i64 q2, .int .i64 q3, .int .i64 q4, .int .i64 q5, .int .i64 q6, .int .i64 q7] 89)) (wr.heap.size + 1 + 1) (some ⟨wr.heap.size + 1, 0, none⟩) [(q1, (q2, q3, q4, q5), q6, q7)] := by
        have := rd_lit okH (wr.alloc (.cells #[.int .i64 q0, .int .i64 q1, .int .i64 q2, .int .i64 q3, .int .i64 q4, .int .i64 q5, .int .i64 q6, .int .i64 q7] 243)) 89 [(q1, (q2, q3, q4, q5), q6, q7)] #[.int .i64 q1, .int .i64 q2, .int .i64 q3, .int .i64 q4, .int .i64 q5, .int .i64 q6, .int .i64 q7] rfl
        simpa using this
      have ha2 := ha.alloc (.cells #[.int .i64 q1, .int .i64 q2, .int .i64 q3, .int .i64 q4, .int .i64 q5, .int .i64 q6, .int .i64 q7] 89)
      have hBb := hBa.alloc hBa.size (.cells #[.int .i64 q1, .int .i64 q2, .int .i64 q3, .int .i64 q4, .int .i64 q5, .int .i64 q6, .int .i64 q7] 89)
      go_wp2_with (at_builtin; refine wpList_append_ow okH _ rfl (.tmp 19) (.tmp 22) _ rfl w2.heap.size info_hnt Tryz.underlying37 rfl A1 k c1 (l.take k) rfl ha2 _ 1 1 _ [(q1, (q2, q3, q4, q5), q6, q7)] rfl ob rfl (by unfold maxLen; omega) (by omega) hBb.size ?_; intro A5 c5 w5 ow5 hg5 _; have hB5 := hBb.grown hg5 hBb.size (fun g hg => (how.lt g hg).1))
      exact ⟨⟨k + 1, A5, c5, by omega, by go_num, rfl, by rw [Hx.out]; exact ow5, hB5⟩, by simp [intOf]; omega⟩
    · obtain rfl : n = k := by omega
      rw [show l.take n = l from List.take_of_length_le (by rw [Hll.out]; exact Nat.le_refl _)] at how
      go_wp2
      go_ret
      rw [HnI.out, Hl.out]
      exact ⟨_, _, rfl, how.from_ hB2.size, hB2.trans (hbel.mono hB2.size)⟩

def OfRel (w : World) (l : List Hnt) (n : Nat) (i : Value) (wr : World) : Prop :=
  ∃ k : Nat, k ≤ n ∧ i = .int .i64 k ∧ At wr (w.heap.size + 1) 218 #[.int .i64 (k : Int), .map (some w.heap.size)] ∧ QMap wr w.heap.size (queueM (l.take k)) ∧ Below w.heap.size w wr

set_option maxRecDepth 100000 in
set_option maxHeartbeats 4000000 in
theorem qOf (A : Option Addr) (n c : Nat) (l : List Hnt) (w : World) (ha : Rd eH w w.heap.size A l) (hn : l.length = n) (hm : n ≤ 1000) :
    Calls Tryz.prog 129 #[.slice A n c] w fun e w' => e = .returned (.pointer (some ⟨w.heap.size + 1, 0, none⟩)) ∧ At w' (w.heap.size + 1) 218 #[.int .i64 (n : Int), .map (some w.heap.size)] ∧ QMap w' w.heap.size (queueM l) ∧ Below w.heap.size w w' := by
  have Hn := Lib.hid hn
  clear hn
  have hB1 := ((Below.refl w.heap.size w).alloc (Nat.le_refl _) (.map #[] 0)).alloc (by simp) (.cells #[.int .i64 0, .map (some w.heap.size)] 218)
  have p1 : At ((w.alloc (.map #[] 0)).alloc (.cells #[.int .i64 0, .map (some w.heap.size)] 218)) (w.heap.size + 1) 218 #[.int .i64 0, .map (some w.heap.size)] := by
    have := At.new (w.alloc (.map #[] 0)) 218 #[.int .i64 0, .map (some w.heap.size)]
    simpa using this
  have m1 := (QMap.made w).alloc (.cells #[.int .i64 0, .map (some w.heap.size)] 218)
  go_enter Tryz.func129, Tryz.ntmps129
  go_wp2_with fail
  refine (qNew _).mono ?_
  rintro e w1 ⟨rfl, rfl⟩
  go_wp2
  go_loopw [9] (fun i wr => OfRel w l n i wr) (fun i _ => n - (intOf i).toNat)
  case atStart => exact ⟨0, Nat.zero_le _, rfl, p1, m1, hB1⟩
  case round =>
    clear p1 m1 hB1
    obtain ⟨k, hk, rfl, hp, hq, hbel⟩ := hrel
    by_cases hlt : k < n
    · obtain ⟨g, o, a0, a1, a2, a3, a4, a5, a6, rfl, hg, hx, c0, c1, c2, c3, c4, c5, c6⟩ := (ha.below hbel (Nat.le_refl _)).hnt (k := k) (by rw [Hn.out]; exact hlt)
      have Hx := Lib.hid (queue_next hx)
      clear hx
      have hp1 := hp.alloc (.cells #[.int .i64 a0, .int .i64 a1, .int .i64 a2, .int .i64 a3, .int .i64 a4, .int .i64 a5, .int .i64 a6] 89)
      have hq1 := hq.alloc (.cells #[.int .i64 a0, .int .i64 a1, .int .i64 a2, .int .i64 a3, .int .i64 a4, .int .i64 a5, .int .i64 a6] 89)
      have hB1 := hbel.alloc hbel.size (.cells #[.int .i64 a0, .int .i64 a1, .int .i64 a2, .int .i64 a3, .int .i64 a4, .int .i64 a5, .int .i64 a6] 89)
      go_wp2_with fail
      refine (qPut (w.heap.size + 1) w.heap.size w.heap.size (k : Int) _ a0 a1 a2 a3 a4 a5 a6 _ hp1 hq1 (by omega) (Nat.le_refl _) (by omega)).mono ?_
      rintro e w2 ⟨rfl, hp2, hq2, hb2⟩
      have hB2 := hB1.trans hb2
      go_wp2
      refine ⟨⟨k + 1, by omega, by go_num, ?_, by rw [Hx.out]; exact hq2, hB2⟩, by simp [intOf]; omega⟩
      rw [show ((k + 1 : Nat) : Int) = (k : Int) + 1 by omega]
      exact hp2
    · obtain rfl : n = k := by omega
      rw [show l.take n = l from List.take_of_length_le (by rw [Hn.out]; exact Nat.le_refl _)] at hq
      go_wp2
      go_ret
      exact ⟨rfl, hp, hq, hbel⟩
end Go.Proofs.YteiclanlhnccnaaGreatDoor
/-
  The program's faults of hints.
-/
namespace Go.Proofs.YteiclanlhnccnaaGreatDoor
set_option maxRecDepth 20000
open Go.RowKit Go.Shelf
set_option linter.unusedSimpArgs false
set_option linter.unusedVariables false

set_option maxHeartbeats 4000000 in
theorem implHintsFault (A : Option Addr) (n c : Nat) (l : List Hnt) (w : World) (ha : Rd eH w w.heap.size A l) (hn : l.length = n) (hF : Flds w) :
    Calls Tryz.prog 73 #[.slice A n c] w fun e w' => e = .returned (.int .i64 (hintsFaultM l)) ∧ Below w.heap.size w w' := by
  by_cases hbig : 8 < n
  · have hb : (8 : Int) < (n : Int) := by omega
    rw [hintsFault_many (by omega)]
    go_enter Tryz.func73, Tryz.ntmps73
    go_wp2
    go_ret
    exact ⟨rfl, Below.refl _ _⟩
  have hb : (n : Int) ≤ 8 := by omega
  have Hbig := Lib.hid (show ¬ 8 < l.length by omega)
  have Hn := Lib.hid hn
  clear hn hbig
  go_enter Tryz.func73, Tryz.ntmps73
  go_wp2
  go_loopw [11] (fun i wr => RightRelH w l n i wr) (fun i _ => n - (intOf i).toNat)
  case atStart => exact ⟨0, Nat.zero_le _, rfl, fun _ _ h => absurd h (by omega), Below.refl _ _⟩
  case round =>
    obtain ⟨k, hk, rfl, hal, hbel⟩ := hrel
    have Hal := Lib.hid hal
    clear hal
    by_cases hlt : k < n
    · obtain ⟨g, o, a0, a1, a2, a3, a4, a5, a6, rfl, hg, hx, c0, c1, c2, c3, c4, c5, c6⟩ := (ha.below hbel (Nat.le_refl _)).hnt (k := k) (by rw [Hn.out]; exact hlt)
      have hB1 := hbel.alloc hbel.size (.cells #[.int .i64 a0, .int .i64 a1, .int .i64 a2, .int .i64 a3, .int .i64 a4, .int .i64 a5, .int .i64 a6] 89)
      have HH := implHintFault a0 a1 a2 a3 a4 a5 a6 _ (hF.below hB1)
      have Hx := Lib.hid hx
      clear hx
      rcases hfault_or (a0, (a1, a2, a3, a4), a5, a6) with hf | hf
      · rw [hf] at HH
        have Hf := Lib.hid hf
        clear hf
        go_wp2_with fail
        refine HH.mono ?_
        rintro e w2 ⟨rfl, hb2⟩
        have hB2 := hB1.trans (hb2.mono hB1.size)
        go_wp2
        refine ⟨⟨k + 1, by omega, by go_num, fun j x hj hx => ?_, hB2⟩, by simp [intOf]; omega⟩
        rcases Nat.lt_or_ge j k with h | h
        · exact Hal.out j x h hx
        · obtain rfl : j = k := by omega
          obtain rfl := Option.some.inj (Hx.out.symm.trans hx)
          exact Hf.out
      · rw [hf] at HH
        have Hr := Lib.hid (hintsFault_wrong Hbig.out Hx.out hf)
        clear hf
        go_wp2_with fail
        refine HH.mono ?_
        rintro e w2 ⟨rfl, hb2⟩
        have hB2 := hB1.trans (hb2.mono hB1.size)
        go_wp2
        go_ret
        exact ⟨by rw [Hr.out]; rfl, hB2⟩
    · obtain rfl : n = k := by omega
      have Hright := Lib.hid (rightHM_of Hn.out Hal.out)
      have HQ := qOf A n c l wr (ha.lift hbel) Hn.out (by omega)
      obtain ⟨m, hm⟩ : ∃ m, (queueM l).length = m := ⟨_, rfl⟩
      have Hm := Lib.hid hm
      obtain ⟨q1, q2, q3⟩ := queue_all l
      have Q1 := Lib.hid q1
      have Q2 := Lib.hid q2
      clear Hal hm q1 q2 q3
      by_cases hd : Dis l
      · have hmn : m = n := by rw [← Hm.out, Q1.out hd, zipQ_len, Hn.out]
        subst hmn
        have Hr := Lib.hid (hintsFault_ok Hbig.out Hright.out hd)
        have hno : ¬ (m : Int) < (m : Int) := by omega
        clear hd
        go_wp2_with fail
        refine HQ.mono ?_
        rintro e w2 ⟨rfl, hp, hq, hb2⟩
        have hB2 := hbel.trans (hb2.mono hbel.size)
        have HSZ := qSize _ _ _ _ _ hp hq
        rw [Hm.out] at HSZ
        go_wp2_with fail
        refine HSZ.mono ?_
        rintro e w99 ⟨rfl, rfl⟩
        go_wp2
        go_ret
        exact ⟨by rw [Hr.out]; rfl, hB2⟩
      · have hmn : m < n := by have := Q2.out hd; have := Hm.out; have := Hn.out; omega
        have hlt' : (m : Int) < (n : Int) := by omega
        have Hr := Lib.hid (hintsFault_taken Hbig.out Hright.out hd)
        clear hd
        go_wp2_with fail
        refine HQ.mono ?_
        rintro e w2 ⟨rfl, hp, hq, hb2⟩
        have hB2 := hbel.trans (hb2.mono hbel.size)
        have HSZ := qSize _ _ _ _ _ hp hq
        rw [Hm.out] at HSZ
        go_wp2_with fail
        refine HSZ.mono ?_
        rintro e w99 ⟨rfl, rfl⟩
        go_wp2
        go_ret
        exact ⟨by rw [Hr.out]; rfl, hB2⟩
theorem hiHintsFault : ∀ (A0 : Option Addr) (m0 e0 : Nat) (q0 : List Hnt)  (W : World), Rd eH W W.heap.size A0 q0 → q0.length = m0 → m0 ≤ 1048576 → Flds W → Calls Tryz.prog 73 #[.slice A0 m0 e0] W (fun e W' => e = .returned (.int .i64 (hintsFaultM q0)) ∧ Below W.heap.size W W') :=
  fun A0 m0 e0 q0 W ha hn _ hF => implHintsFault A0 m0 e0 q0 W ha hn hF
end Go.Proofs.YteiclanlhnccnaaGreatDoor
