/-
  Texts of one proof, joined: each has its own namespace.
-/
import Derived.Test.YtmaillakhhdkfaaGreatDoorBFnRecords8
import Derived.Maps.RangeRun
import Derived.Maps.Range
import Derived.Sort.MapsRangeIn
import Derived.Test.YtmaillakhhdkfaaGreatDoorBFnRecords2
import Derived.Test.YtmaillakhhdkfaaGreatDoorBFnRecords1
import Derived.Maps.Own
import Derived.Test.YtmaillakhhdkfaaGreatDoorBFnRecords0
import Derived.Test.YtmaillakhhdkfaaGreatDoorBFnRecords7
import Derived.Sort.LotA
import Derived.Sort.Grow
/-
  maps.Values over a map of samples by their keys: each value once, in whatever order.
-/
namespace Go.Proofs.YtmaillakhhdkfaaGreatDoor
set_option maxRecDepth 20000
open Go.RowKit Go.Shelf
open Go.ChangeMaps Go.MapKept
set_option linter.unusedSimpArgs false
set_option linter.unusedVariables false

attribute [local go_sem] Oper.semAt_some

/-- A walk over the map under way: these are still to come. -/
def SRan (w : World) (b r : Nat) (left : List Smp) : Prop :=
  ∃ es clock since seen c0, w.heap[b]? = some (.map es clock) ∧ w.heap[r]? = some (.mapIter (some b) since seen c0) ∧ (∀ x ∈ es.toList, x.born < since) ∧ (es.toList.map (·.born)).Nodup ∧ since ≤ c0 ∧ since ≤ clock ∧
    (leftOf es seen).toList.map (·.val) = left.map smpV

section
variable {w w' : World} {b r : Nat} {left L : List Smp}
theorem SRan.of_walks (h : SRan w b r left) (hk : KeepsWalks w w') : SRan w' b r left := by
  obtain ⟨es, clock, since, seen, c0, h1, h2, rest⟩ := h
  exact ⟨es, clock, since, seen, c0, hk.same b _ h1 rfl, hk.same r _ h2 rfl, rest⟩
theorem SRan.lt (h : SRan w b r left) : r < w.heap.size := by
  obtain ⟨es, clock, since, seen, c0, h1, h2, rest⟩ := h
  exact (Array.getElem?_eq_some_iff.1 h2).1
theorem SRan.iter (h : SRan w b r left) : ∃ o : Obj, w.heap[r]? = some o ∧ o.isWalk = true := by
  obtain ⟨es, clock, since, seen, c0, h1, h2, rest⟩ := h
  exact ⟨_, h2, rfl⟩
theorem SRan.alloc (h : SRan w b r left) (o : Obj) : SRan (w.alloc o) b r left := h.of_walks (KeepsWalks.alloc _ _)
theorem SRan.left_eq (h : SRan w b r left) : w.rangeLeft b r = left.length := by
  obtain ⟨es, clock, since, seen, c0, h1, h2, _, _, _, _, hm⟩ := h
  simp only [World.rangeLeft, h1, h2]
  have := congrArg List.length hm
  simpa using this
theorem SMap.range (h : SMap w b L) : ∃ w', (Instr.range 212 (.map (some b))).run Tryz.prog w = .ok (.pointer (some ⟨w.heap.size, 0, none⟩)) w' ∧ SRan w' b w.heap.size L ∧ w.grownBy w' none ∧ w'.heap.size = w.heap.size + 1 := by
  have hlt := h.lt
  obtain ⟨es, clock, hb, hm, hc, hd⟩ := h
  refine ⟨_, run_range_map w _ _ _ b es clock Tryz.underlying212 hb, ⟨es, clock, clock, #[], clock, (Below.heap_alloc w _ b hlt).trans hb, heap_alloc_new w _, hc, hd, Nat.le_refl _, Nat.le_refl _, ?_⟩, World.grownBy_alloc w _ none, by simp⟩
  have h1 := congrArg (List.map Prod.snd) hm
  have h2 : leftOf es #[] = es := by
    unfold leftOf
    rw [Array.filter_eq_self]
    intro a _
    simp
  rw [h2]
  simpa [List.map_map, Function.comp_def] using h1

theorem filter_one (e : MapEntry) : ∀ (l : List MapEntry), (l.map (·.born)).Nodup → e ∈ l → ∃ l1 l2, l = l1 ++ e :: l2 ∧ l.filter (fun x => !(x.born == e.born)) = l1 ++ l2
  | x :: l, hn, he => by
    have hn' : x.born ∉ l.map (·.born) ∧ (l.map (·.born)).Nodup := List.nodup_cons.1 hn
    by_cases hx : x.born = e.born
    · have hxe : e = x := by
        rcases List.mem_cons.1 he with h | h
        · exact h
        · exact absurd (List.mem_map.2 ⟨e, h, hx.symm⟩) hn'.1
      subst hxe
      refine ⟨[], l, rfl, ?_⟩
      rw [List.filter_cons]
      simp only [beq_self_eq_true, Bool.not_true, Bool.false_eq_true, if_false, List.nil_append]
      rw [List.filter_eq_self]
      intro y hy
      have : y.born ≠ e.born := fun h => hn'.1 (List.mem_map.2 ⟨y, hy, h⟩)
      simpa using this
    · have he' : e ∈ l := by
        rcases List.mem_cons.1 he with h | h
        · exact absurd (by rw [h]) hx
        · exact h
      obtain ⟨l1, l2, h1, h2⟩ := filter_one e l hn'.2 he'
      refine ⟨x :: l1, l2, by rw [h1]; rfl, ?_⟩
      rw [List.filter_cons, h2]
      simp [hx]

theorem map_split {l1 l2 : List MapEntry} {e : MapEntry} : ∀ {left : List Smp}, (l1 ++ e :: l2).map (·.val) = left.map smpV → ∃ m1 x m2, left = m1 ++ x :: m2 ∧ e.val = smpV x ∧ (l1 ++ l2).map (·.val) = (m1 ++ m2).map smpV := by
  intro left h
  rw [List.map_append, List.map_cons] at h
  obtain ⟨m1, m2', h1, h2, h3⟩ := List.map_eq_append_iff.1 h.symm
  obtain ⟨x, m2, h4, h5, h6⟩ := List.map_eq_cons_iff.1 h3
  exact ⟨m1, x, m2, by rw [h1, h4], h5.symm, by rw [List.map_append, List.map_append, h2, h6]⟩

theorem SRan.next (h : SRan w b r left) (hne : r ≠ b) (ty : TypeId) :
    (left = [] ∧ (Instr.next (.pointer (some ⟨r, 0, none⟩)) false ty).run Tryz.prog w = .ok (.tuple #[.bool false]) w) ∨
    ∃ (m1 : List Smp) (x : Smp) (m2 : List Smp) (key : Value) (w' : World), left = m1 ++ x :: m2 ∧ (Instr.next (.pointer (some ⟨r, 0, none⟩)) false ty).run Tryz.prog w = .ok (.tuple #[.bool true, key, smpV x]) w' ∧
      SRan w' b r (m1 ++ m2) ∧ w.grownBy w' (some r) ∧ w'.heap.size = w.heap.size ∧ (Instr.entry (.pointer (some ⟨r, 0, none⟩))).run Tryz.prog w' = .ok (.tuple #[key, smpV x]) w' := by
  obtain ⟨es, clock, since, seen, c0, hb, hr, hold, hnd, hsc, hsk, hm⟩ := h
  rcases run_next_at (P := Tryz.prog) w ty r b since c0 seen es clock hr hb hold hsc with ⟨h0, hrun⟩ | ⟨e, he, w1, hal, hrun⟩
  · left
    refine ⟨?_, hrun⟩
    have := congrArg List.length hm
    rw [List.length_map, List.length_map, Array.length_toList, h0] at this
    exact List.eq_nil_of_length_eq_zero this.symm
  · right
    obtain ⟨hem, hes⟩ := mem_left he
    have hsub : ((leftOf es seen).toList.map (·.born)).Nodup := by
      unfold leftOf
      rw [Array.toList_filter]
      exact List.Nodup.sublist (List.Sublist.map _ List.filter_sublist) hnd
    obtain ⟨l1, l2, e1, e2⟩ := filter_one e _ hsub he
    rw [e1] at hm
    obtain ⟨m1, x, m2, hl, hv, hm2⟩ := map_split hm
    have hr1 : w1.heap[r]? = some (.mapIter (some b) since seen c0) := by rcases hal with rfl | rfl <;> exact hr
    have hb1 : w1.heap[b]? = some (.map es clock) := by rcases hal with rfl | rfl <;> exact hb
    have hset := heap_set (o' := .mapIter (some b) since (seen.push e.born) clock) hr1
    have hb' : (setBlock w1 r (.mapIter (some b) since (seen.push e.born) clock)).heap[b]? = some (.map es clock) := (hset.2 b (fun e1 => hne e1.symm)).trans hb1
    refine ⟨m1, x, m2, e.key, _, hl, by rw [← hv]; exact hrun, ⟨es, clock, since, seen.push e.born, clock, hb', hset.1, hold, hnd, hsk, hsk, ?_⟩, ?_, ?_, ?_⟩
    · rw [← hm2, ← e2]
      congr 1
      unfold leftOf
      rw [Array.toList_filter, Array.toList_filter, List.filter_filter]
      congr 1
      funext y
      rw [contains_push]
      cases seen.contains y.born <;> cases (y.born == e.born) <;> rfl
    · rcases hal with rfl | rfl <;> exact ⟨rfl, rfl, rfl, by simp [setBlock], fun i _ hi => hset.2 i (fun e1 => hi (by rw [e1]))⟩
    · rcases hal with rfl | rfl <;> simp [setBlock]
    · rw [← hv]
      exact run_entry_at _ r b since seen es clock e hset.1 hb' hem hnd
end

section
variable {F : Fence} {k : Nat} (w : World) {ops : Array Oper} {rest : List Oper} {o : Oper} {a : Act} {Q : Exit → Act → World → Prop}
theorem wpListIn_range_s (hg : o.guard = none) (m : Operand) (hop : o.op = Op.range 212 m) (b : Nat) (L : List Smp) (hm : a.eval m = .map (some b)) (h : SMap w b L)
    (hK : ∀ w', SRan w' b w.heap.size L → w.grownBy w' none → w'.heap.size = w.heap.size + 1 → wpListIn F k Tryz.prog ops Q rest (a.put o.dst (.pointer (some ⟨w.heap.size, 0, none⟩))) w') : wpListIn F k Tryz.prog ops Q (o :: rest) a w := by
  refine wpListIn_plain hg fun K' hK' => ?_
  obtain ⟨w', hrun, hs, hg1, hs1⟩ := h.range
  unfold Oper.wpIn
  refine ⟨?_, ?_⟩
  · simp [Oper.about, hop]
  · rw [Oper.semAt_plain F _ _ (by rw [hop]; intro c hc'; cases hc')]
    simp [execOp, hop, hm, hrun, Result.andThen]
    exact hK' _ _ (hK _ hs hg1 hs1)
theorem wpListIn_next_s (hg : o.guard = none) (it : Operand) (hop : o.op = Op.next it false) (b r : Nat) (left : List Smp) (hne : r ≠ b) (hit : a.eval it = .pointer (some ⟨r, 0, none⟩)) (h : SRan w b r left)
    (hDone : left = [] → wpListIn F k Tryz.prog ops Q rest (a.put o.dst (.tuple #[.bool false])) w)
    (hMore : ∀ (m1 : List Smp) (a0 a1 a2 a3 : Int) (m2 : List Smp) (key : Value) (w' : World), left = m1 ++ (a0, a1, a2, a3) :: m2 → SRan w' b r (m1 ++ m2) → w.grownBy w' (some r) → w'.heap.size = w.heap.size → (Instr.entry (.pointer (some ⟨r, 0, none⟩))).run Tryz.prog w' = .ok (.tuple #[key, .agg #[.int .i64 a0, .int .i64 a1, .int .i64 a2, .int .i64 a3]]) w' →
      wpListIn F k Tryz.prog ops Q rest (a.put o.dst (.tuple #[.bool true, key, .agg #[.int .i64 a0, .int .i64 a1, .int .i64 a2, .int .i64 a3]])) w') : wpListIn F k Tryz.prog ops Q (o :: rest) a w := by
  refine wpListIn_plain hg fun K' hK' => ?_
  unfold Oper.wpIn
  refine ⟨by simp [Oper.about, hop], ?_⟩
  rw [Oper.semAt_plain F _ _ (by rw [hop]; intro c hc'; cases hc')]
  rcases h.next hne o.type with ⟨h0, hrun⟩ | ⟨m1, ⟨a0, a1, a2, a3⟩, m2, key, w', hl, hrun, hs, hgr, hsz, hen⟩
  · simp [execOp, hop, hit, hrun, Result.andThen]
    exact hK' _ _ (hDone h0)
  · simp [execOp, hop, hit, hrun, Result.andThen]
    exact hK' _ _ (hMore m1 a0 a1 a2 a3 m2 key w' hl hs hgr hsz hen)
end

set_option maxRecDepth 100000 in
set_option maxHeartbeats 4000000 in
theorem values_in (n : Nat) (hn : 1 ≤ n) (l Bm b nB : Nat) (L : List Smp) (J Jx : List Smp → World → Prop)
    (hY : ∀ pre x W, J pre W → pre.length < L.length → YieldAt Fence.wide (n - 1) Tryz.prog l (encS x) W fun e W' =>
      (e = .returned (.bool true) ∧ J (pre ++ [x]) W' ∧ Kp2 nB W W') ∨ (e = .returned (.bool false) ∧ Jx (pre ++ [x]) W'))
    (W : World) (hJ : AbidesFrom W.heap.size J) (hm : W.cell? ⟨Bm, 0, none⟩ = some (.map (some b))) (hs : SMap W b L) (h0 : J [] W) :
    CallsIn Fence.wide n Tryz.prog 161 #[.func (.yield l) #[] #[], .pointer (some ⟨Bm, 0, none⟩)] W fun e W' => (∃ v, e = .returned v) ∧
      ((∃ xs, xs.Perm L ∧ J xs W') ∨ (∃ pre, True ∧ Jx pre W')) := by
  have hro : Fence.wide.round = none := rfl
  have hT : Fence.wide.fn 161 := trivial
  have hbW := hs.lt
  refine callsIn_of_wp Tryz.func161 rfl hT ?_ hro
  simp only [Tryz.ntmps161, List.size_toArray, List.length_cons, List.length_nil, Nat.reduceAdd, Nat.reduceSub, Array.replicate_succ, Array.replicate_zero, List.push_toArray, List.append_toArray, List.nil_append, List.cons_append]
  gi_wp2_with (first
    | (gi_at_range; refine wpListIn_range_s _ rfl _ rfl b L rfl hs ?_; intro w0 hr0 hg0 hs0)
    | gi_in)
  go_frame
  gi_loopw [4] (fun _ wr => ∃ (left ps : List Smp), SRan wr b W.heap.size left ∧ (ps ++ left).Perm L ∧ J ps wr) (fun _ wr => wr.rangeLeft b W.heap.size)
  case atStart => exact ⟨L, [], hr0, by simp, hJ [] W w0 none h0 hg0 (fun r e => by cases e)⟩
  case round =>
    obtain ⟨left, ps, hrg, hp, hJs⟩ := hrel
    gi_wp2_with (first
      | (gi_at_next; refine wpListIn_next_s _ rfl _ rfl b W.heap.size left (by omega) rfl hrg ?_ ?_)
      | gi_in)
    · intro hl
      subst hl
      gi_wp2
      go_end0
      exact ⟨⟨_, rfl⟩, .inl ⟨ps, by simpa using hp, hJs⟩⟩
    · intro m1 a0 a1 a2 a3 m2 key w2 hl hrg2 hg2 hs2 hen
      have hlen : ps.length < L.length := by
        have := hp.length_eq
        rw [hl, List.length_append, List.length_append, List.length_cons] at this
        omega
      have hJ2 : J ps w2 := hJ ps wr w2 (some W.heap.size) hJs hg2 (fun r e => by cases e; exact ⟨Nat.le_refl _, hrg.iter⟩)
      have hJ3 := abides_below hJ hJ2 ((Below.refl w2.heap.size w2).alloc (Nat.le_refl _) (.cells (#[.int .i64 a0, .int .i64 a1, .int .i64 a2, .int .i64 a3]) 25))
      have hrg3 := hrg2.alloc (.cells (#[.int .i64 a0, .int .i64 a1, .int .i64 a2, .int .i64 a3]) 25)
      have Hp := Lib.hid (show (ps ++ [(a0, a1, a2, a3)] ++ (m1 ++ m2)).Perm L from by
        rw [hl] at hp
        refine List.Perm.trans ?_ hp
        rw [List.append_assoc]
        refine List.Perm.append_left ps ?_
        rw [List.singleton_append]
        exact List.perm_middle.symm)
      have Hm := Lib.hid (show (m1 ++ m2).length < left.length by rw [hl]; simp)
      clear hl hp
      obtain ⟨fn, tmps, assign, body, hy, hR⟩ := hY ps (a0, a1, a2, a3) _ hJ3 hlen
      dsimp only [encS] at hy
      gi_wp2
      refine hR.mono ?_
      rintro e W3 (⟨rfl, hJ4, hk4⟩ | ⟨rfl, hJx4⟩)
      · gi_wp2
        have hrg4 := hrg3.of_walks hk4.1
        go_roundw
        case rel => exact ⟨m1 ++ m2, ps ++ [(a0, a1, a2, a3)], hrg4, Hp.out, hJ4⟩
        case measure => rw [hrg4.left_eq, hrg.left_eq]; exact Hm.out
      · gi_wp2
        refine bodyPost_ret (results_none rfl _ _ _) rfl ?_
        exact ⟨⟨_, rfl⟩, .inr ⟨_, trivial, hJx4⟩⟩
end Go.Proofs.YtmaillakhhdkfaaGreatDoor
/-
  The program's MergeLists and InsertSample.
-/
namespace Go.Proofs.YtmaillakhhdkfaaGreatDoor
set_option maxRecDepth 20000
open Go.RowKit Go.Shelf
set_option linter.unusedSimpArgs false
set_option linter.unusedVariables false

theorem valuesOf (b : Nat) (w : World) :
    Calls Tryz.prog 151 #[.map (some b)] w fun e w' =>
      e = .returned (.func (.func 161) #[] #[.pointer (some ⟨w.heap.size, 0, none⟩)]) ∧ w' = w.alloc (.cells #[.map (some b)] 212) := by
  go_enter Tryz.func151, Tryz.ntmps151
  go_wp2
  go_ret
  exact ⟨rfl, rfl⟩

theorem values_stops (n : Nat) (hn : 1 ≤ n) (b Bm n0 : Nat) (L : List Smp) (w : World) (hs : SMap w b L) (hm : At w Bm 212 #[.map (some b)]) :
    SeqStopsK Fence.wide n Tryz.prog 161 #[.pointer (some ⟨Bm, 0, none⟩)] encS (Kp2 n0) (fun xs => xs.Perm L) (fun _ => True) L.length w := fun l J Jx W hW hJ hJx hY h0 =>
  values_in n hn l Bm b n0 L J Jx hY W hJ ((hm.below hW hm.lt).cell 0) (hs.below hW hs.lt) h0

set_option maxHeartbeats 1000000 in
theorem sortedFunc (b Bm : Nat) (L : List Smp) (w : World) (hs : SMap w b L) (hm : At w Bm 212 #[.map (some b)]) (hL : L.length ≤ 1000) :
    Calls Tryz.prog 150 #[.func (.func 161) #[] #[.pointer (some ⟨Bm, 0, none⟩)], .func (.func 152) #[] #[]] w fun e w' =>
      ∃ A n c ys, e = .returned (.slice A n c) ∧ ys.Perm L ∧ (ys.Pairwise fun x y => aheadM y x = false) ∧ Ow eS w' w.heap.size A n c ys ∧ Below w.heap.size w w' := by
  have hC := collectSeq 4 (by omega) _ _ (enters_of Tryz.func161 (by kernel_rfl) rfl) _ _ L.length hL w.heap.size w (Nat.le_refl _) (values_stops 3 (by omega) b Bm w.heap.size L w hs hm)
  clear hs hm
  go_enter Tryz.func150, Tryz.ntmps150
  go_wp2_with fail
  refine hC.mono ?_
  rintro e w1 ⟨A, c, xs, rfl, hp, ow, hb⟩
  have hS := sortSmp A xs.length c w.heap.size xs w1 ow (by rw [hp.length_eq]; exact hL)
  go_wp2_with fail
  refine hS.mono ?_
  rintro e w2 ⟨rfl, ys, hp2, hpw, ow2, hb2⟩
  have hB2 := hb.trans hb2
  have Hp := Lib.hid (hp2.trans hp)
  clear hC hS hp hp2
  go_wp2
  go_ret
  exact ⟨A, xs.length, c, ys, rfl, Hp.out, hpw, ow2, hB2⟩

theorem flat_two (A B : Option Addr) (n m c d : Nat) (l k : List Smp) : flat [(A, n, c, l), (B, m, d, k)] = l ++ k := by simp [flat]
theorem rows_two {w : World} {T : Nat} {A B : Option Addr} {n m c d : Nat} {l k : List Smp} (ha : Rd eS w w.heap.size A l) (hb : Rd eS w w.heap.size B k) (hn : l.length = n) (hm : k.length = m) (h1 : n ≤ 1000) (h2 : m ≤ 1000) : Rows4 (w.alloc (.cells #[.slice A n c, .slice B m d] T)) w.heap.size [(A, n, c, l), (B, m, d, k)] := fun i r hr => by
  have hB := (Below.refl w.heap.size w).alloc (Nat.le_refl _) (.cells #[.slice A n c, .slice B m d] T)
  match i, hr with
  | 0, hr =>
    obtain rfl : (A, n, c, l) = r := by simpa using hr
    exact ⟨(At.new w T _).cell 0, ha.lift hB, hn, h1⟩
  | 1, hr =>
    obtain rfl : (B, m, d, k) = r := by simpa using hr
    exact ⟨(At.new w T _).cell 1, hb.lift hB, hm, h2⟩
  | i + 2, hr => simp at hr

set_option maxHeartbeats 400000 in
theorem cmpOr64 (g n c : Nat) (l : List Int) (w : World) (hl : Ints w g l) (hn : l.length = n) (hm : n ≤ 1000) :
    Calls Tryz.prog 47 #[.slice (some ⟨g, 0, none⟩) n c] w fun e w' => e = .returned (.int .i64 (orM l)) ∧ w' = w := by
  have Hn := Lib.hid hn
  clear hn
  go_enter Tryz.func47, Tryz.ntmps47
  go_wp2
  go_loopw [8] (fun i wr => OrRel w l n i wr) (fun i _ => n - (intOf i).toNat)
  case atStart => exact ⟨0, Nat.zero_le _, rfl, rfl, rfl⟩
  case round =>
    obtain ⟨k, hk, rfl, hd, rfl⟩ := hrel
    have Hd := Lib.hid hd
    clear hd
    by_cases hlt : k < n
    · have hkl : k < l.length := by rw [Hn.out]; exact hlt
      obtain ⟨x, hx⟩ : ∃ x, l[k]? = some x := ⟨l[k], List.getElem?_eq_getElem hkl⟩
      have hc := hl k x hx
      have Ho := Lib.hid (show orM (l.drop k) = if x = 0 then orM (l.drop (k + 1)) else x by
        rw [List.drop_eq_getElem_cons hkl, orM_cons]
        rw [List.getElem?_eq_getElem hkl] at hx
        rw [Option.some.inj hx])
      clear hx
      by_cases h0 : x = 0
      · subst h0
        go_wp2
        refine ⟨⟨k + 1, by omega, by go_num, ?_, rfl⟩, by simp [intOf]; omega⟩
        have := Ho.out
        rw [if_pos rfl] at this
        rw [← this]
        exact Hd.out
      · have hne : (x != 0) = true := by simpa using h0
        have Hx := Lib.hid (show orM l = x by rw [← Hd.out, Ho.out, if_neg h0])
        clear h0
        go_wp2
        go_ret
        exact ⟨by rw [Hx.out]; rfl, rfl⟩
    · obtain rfl : k = n := by omega
      have Hf := Lib.hid (show orM l = 0 by rw [← Hd.out, List.drop_eq_nil_of_le (Nat.le_of_eq Hn.out)]; rfl)
      go_wp2
      go_ret
      exact ⟨by rw [Hf.out]; rfl, rfl⟩

theorem or_two (x y : Int) : orM [x, y] = if x ≠ 0 then x else y := by
  rw [orM_cons, orM_cons, orM_nil]
  by_cases h : x = 0 <;> by_cases k : y = 0 <;> simp [h, k]
theorem ints_two {w : World} {t : TypeId} {x y : Int} : Ints (w.alloc (.cells #[.int .i64 x, .int .i64 y] t)) w.heap.size [x, y] := by
  have h := At.new w t #[.int .i64 x, .int .i64 y]
  intro k u hk
  match k, hk with
  | 0, hk => obtain rfl : x = u := by simpa using hk
             exact h.cell 0
  | 1, hk => obtain rfl : y = u := by simpa using hk
             exact h.cell 1
  | k + 2, hk => simp at hk
theorem storeFault_small {l : List Smp} (h : storeFaultM l = 0) : l.length ≤ 160 := ((storeFault_iff l).1 h).1
theorem mergeLists_fault {a b : List Smp} (h : orM [storeFaultM a, storeFaultM b] ≠ 0) : mergeListsM a b = (orM [storeFaultM a, storeFaultM b], []) := by
  rw [or_two] at h ⊢
  unfold mergeListsM
  by_cases h1 : storeFaultM a = 0
  · rw [if_neg (by simp [h1])] at h
    rw [if_neg (by simp [h1]), if_pos h, if_neg (by simp [h1])]
  · rw [if_pos h1, if_pos h1]
theorem byKey_len (l : List Smp) : (byKeyM l).length ≤ l.length := by
  have step : ∀ (l acc : List Smp), (l.foldl keyStep acc).length ≤ acc.length + l.length := by
    intro l
    induction l with
    | nil => intro acc; simp
    | cons x l ih =>
      intro acc
      rw [List.foldl_cons]
      have h1 := ih (keyStep acc x)
      have h2 : (keyStep acc x).length ≤ acc.length + 1 := by
        unfold keyStep
        split
        · omega
        · simp
      rw [List.length_cons]
      omega
  have := step l []
  simpa [byKeyM] using this
theorem same_self (x : Smp) : sameKeyM x x = true := (same_iff x x).2 ⟨rfl, rfl, rfl⟩
theorem apart_nodup {l : List Smp} (h : Apart l) : l.Nodup := h.imp fun {a b} k e => by
  subst e
  rw [same_self] at k
  cases k
theorem merge_perm {a b : List Smp} (ha : storeFaultM a = 0) (hb : storeFaultM b = 0) : (mergeM a b).Perm (byKeyM (a ++ b)) := by
  obtain ⟨_, _, sa⟩ := (storeFault_iff a).1 ha
  obtain ⟨_, _, sb⟩ := (storeFault_iff b).1 hb
  refine (List.perm_ext_iff_of_nodup (asc_nodup (merge_asc ha hb)) (apart_nodup (byKey_apart _))).2 fun y => ?_
  rw [mem_both sa sb]
  unfold mergeM
  rw [mem_mergeFold]
theorem or_none {a b : List Smp} (h : orM [storeFaultM a, storeFaultM b] = 0) : storeFaultM a = 0 ∧ storeFaultM b = 0 := by
  rw [or_two] at h
  by_cases h1 : storeFaultM a = 0
  · rw [if_neg (by simp [h1])] at h
    exact ⟨h1, h⟩
  · rw [if_pos h1] at h
    exact absurd h h1

set_option maxRecDepth 100000 in
set_option maxHeartbeats 4000000 in
theorem implMergeLists (A B : Option Addr) (n m c d : Nat) (a b : List Smp) (w : World) (ha : Rd eS w w.heap.size A a) (hb : Rd eS w w.heap.size B b) (hn : a.length = n) (hm : b.length = m) (hF : Flds w) :
    Calls Tryz.prog 132 #[.slice A n c, .slice B m d] w (RetSs (mergeListsM a b) w) := by
  have hB0 : Below w.heap.size w (w.alloc (.cells #[.int .i64 0, .slice none 0 0] 182)) := (Below.refl _ _).alloc (Nat.le_refl _) _
  have r0 := At.new w 182 #[.int .i64 0, .slice none 0 0]
  have ha0 := ha.lift hB0
  have hb0 := hb.lift hB0
  have hF0 := hF.below hB0
  have HFa := implStoreFault A n c a _ ha0 hn hF0
  obtain ⟨fa, hfa⟩ : ∃ fa, storeFaultM a = fa := ⟨_, rfl⟩
  obtain ⟨fb, hfb⟩ : ∃ fb, storeFaultM b = fb := ⟨_, rfl⟩
  rw [hfa] at HFa
  by_cases h0 : orM [fa, fb] = 0
  rotate_left
  · have hres := mergeLists_fault (a := a) (b := b) (by rw [hfa, hfb]; exact h0)
    rw [hfa, hfb] at hres
    rw [hres]
    have hne : (orM [fa, fb] != 0) = true := by rw [bne_iff_ne]; exact h0
    clear hres
    go_enter Tryz.func132, Tryz.ntmps132
    go_wp2_with fail
    refine (HFa).mono ?_
    rintro e w1 ⟨rfl, hb1⟩
    have hB1 := hB0.trans (hb1.mono hB0.size)
    have r1 := r0.below hb1 r0.lt
    have hb1' := hb0.lift hb1
    have HFb := implStoreFault B m d b _ hb1' hm (hF0.below hb1)
    rw [hfb] at HFb
    go_wp2_with fail
    refine (HFb).mono ?_
    rintro e w2 ⟨rfl, hb2⟩
    have hB2 := hB1.trans (hb2.mono hB1.size)
    have r2 := r1.below hb2 r1.lt
    go_wp2_with fail
    refine (cmpOr64 w2.heap.size 2 2 [fa, fb] _ ints_two rfl (by omega)).mono ?_
    rintro e w3 ⟨rfl, rfl⟩
    have hB3 := hB2.alloc hB2.size (.cells #[.int .i64 fa, .int .i64 fb] 2)
    have r3 := r2.alloc (.cells #[.int .i64 fa, .int .i64 fb] 2)
    obtain ⟨c0, c1, _, _⟩ := r3.two
    generalize orM [fa, fb] = sf at *
    go_wp2_with fail
    refine bodyPost_ret (v := .agg #[.int .i64 sf, .slice none 0 0]) (by simp [results, Tryz.results132, go_sem, c0, c1]) rfl ?_
    exact ⟨_, _, _, rfl, Ow.nil, (hB3.setCell (Nat.le_refl _) _).setCell (Nat.le_refl _) _⟩
  obtain ⟨ea, eb⟩ := or_none (a := a) (b := b) (by rw [hfa, hfb]; exact h0)
  have hn160 := storeFault_small ea
  have hm160 := storeFault_small eb
  have hMP := merge_perm ea eb
  have Hres := Lib.hid (show mergeListsM a b = if 160 < (byKeyM (a ++ b)).length then (7, []) else (0, mergeM a b) by
    unfold mergeListsM
    rw [if_neg (by simp [ea]), if_neg (by simp [eb]), hMP.length_eq])
  have hbig : (byKeyM (a ++ b)).length ≤ 1000 := by
    have := byKey_len (a ++ b)
    rw [List.length_append] at this
    omega
  have Hms := Lib.hid (fun (ys : List Smp) (hp : ys.Perm (byKeyM (a ++ b))) hs => merge_is ea eb hp hs)
  rw [hfa] at ea
  rw [hfb] at eb
  subst ea
  subst eb
  rw [hn] at hn160
  rw [hm] at hm160
  clear h0 hMP
  go_enter Tryz.func132, Tryz.ntmps132
  go_wp2_with fail
  refine (HFa).mono ?_
  rintro e w1 ⟨rfl, hb1⟩
  have hB1 := hB0.trans (hb1.mono hB0.size)
  have r1 := r0.below hb1 r0.lt
  have hA1 := ha0.lift hb1
  have hb1' := hb0.lift hb1
  have HFb := implStoreFault B m d b _ hb1' hm (hF0.below hb1)
  rw [hfb] at HFb
  go_wp2_with fail
  refine (HFb).mono ?_
  rintro e w2 ⟨rfl, hb2⟩
  have hB2 := hB1.trans (hb2.mono hB1.size)
  have r2 := r1.below hb2 r1.lt
  have hl3 := (Below.refl w2.heap.size w2).alloc (Nat.le_refl _) (.cells #[.int .i64 0, .int .i64 0] 2)
  have hA3 := (hA1.lift hb2).lift hl3
  have hb3' := (hb1'.lift hb2).lift hl3
  have hO : orM [0, 0] = 0 := rfl
  have hcm := cmpOr64 w2.heap.size 2 2 [0, 0] (w2.alloc (.cells #[.int .i64 0, .int .i64 0] 2)) ints_two rfl (by omega)
  rw [hO] at hcm
  go_wp2_with fail
  refine (hcm).mono ?_
  rintro e w3 ⟨rfl, hw3⟩
  have hB3 := hB2.alloc hB2.size (.cells #[.int .i64 0, .int .i64 0] 2)
  have r3 := r2.alloc (.cells #[.int .i64 0, .int .i64 0] 2)
  rw [← hw3] at hB3 r3 hA3 hb3'
  clear hw3 hl3 hcm hO
  have hR := rows_two (T := 36) (c := c) (d := d) hA3 hb3' hn hm (by omega) (by omega)
  have hB4 := hB3.alloc hB3.size (.cells #[.slice A n c, .slice B m d] 36)
  have r4 := r3.alloc (.cells #[.slice A n c, .slice B m d] 36)
  have hby := byKeyS w3.heap.size 2 2 [(A, n, c, a), (B, m, d, b)] (w3.alloc (.cells #[.slice A n c, .slice B m d] 36)) hR (by simp) rfl (by omega)
  rw [flat_two] at hby
  clear hR
  go_wp2_with fail
  refine (hby).mono ?_
  rintro e w5 ⟨bm, rfl, hcb, hs5, hb5⟩
  have hB5 := hB4.trans (hb5.mono hB4.size)
  have r5 := r4.below hb5 r4.lt
  have hlen := fun ty => hs5.len ty
  obtain ⟨L, hL⟩ : ∃ L, byKeyM (a ++ b) = L := ⟨_, rfl⟩
  rw [hL] at hs5 hlen Hres hbig Hms
  clear hL hby
  by_cases hbg : 160 < L.length
  · have Hbg := Lib.hid hbg
    have hi : (160 : Int) < (L.length : Int) := by omega
    obtain ⟨c0, c1, _, _⟩ := r5.two
    clear hbg
    go_wp2_with fail
    refine bodyPost_ret (v := .agg #[.int .i64 7, .slice none 0 0]) (by simp [results, Tryz.results132, go_sem, c0, c1]) rfl ?_
    rw [Hres.out, if_pos Hbg.out]
    exact ⟨_, _, _, rfl, Ow.nil, (hB5.setCell (Nat.le_refl _) _).setCell (Nat.le_refl _) _⟩
  · have Hbg := Lib.hid hbg
    have hi : (L.length : Int) ≤ 160 := by omega
    clear hbg
    go_wp2_with fail
    refine (valuesOf bm _).mono ?_
    rintro e w6 ⟨rfl, hw6⟩
    have hl6 := (Below.refl w5.heap.size w5).alloc (Nat.le_refl _) (.cells #[.map (some bm)] 212)
    have hm6 := At.new w5 212 #[.map (some bm)]
    have hs6 := hs5.alloc (.cells #[.map (some bm)] 212)
    rw [← hw6] at hl6 hm6 hs6
    have hB6 := hB5.trans (hl6.mono hB5.size)
    have r6 := r5.below hl6 r5.lt
    clear hw6
    go_wp2_with fail
    refine (sortedFunc bm w5.heap.size L w6 hs6 hm6 hbig).mono ?_
    rintro e w7 ⟨A7, n7, c7, ys, rfl, hp, hpw, ow7, hb7⟩
    obtain rfl := Hms.out ys hp hpw
    have hB7 := hB6.trans (hb7.mono hB6.size)
    have r7 := r6.below hb7 r6.lt
    have hl7 := r6.lt
    obtain ⟨c0, c1, _, _⟩ := r7.two
    clear hp hpw
    go_wp2_with fail
    refine bodyPost_ret (v := .agg #[.int .i64 0, .slice A7 n7 c7]) (by simp [results, Tryz.results132, go_sem, c0, c1]) rfl ?_
    rw [Hres.out, if_neg Hbg.out]
    exact ⟨_, _, _, rfl, (((ow7.under (p := ⟨w.heap.size, 0, none⟩) hl7 _).under (p := ⟨w.heap.size, 1, none⟩) hl7 _).from_ hB6.size), (hB7.setCell (Nat.le_refl _) _).setCell (Nat.le_refl _) _⟩

end Go.Proofs.YtmaillakhhdkfaaGreatDoor
/-
  The program's InsertSample: both merged.
-/
namespace Go.Proofs.YtmaillakhhdkfaaGreatDoor
set_option maxRecDepth 20000
open Go.RowKit Go.Shelf
set_option linter.unusedSimpArgs false
set_option linter.unusedVariables false

theorem fault_one (x : Smp) : storeFaultM [x] = faultM x := by
  have hr : risesM [x] = true := risesM_yes (n := 1) rfl (fun j hj => absurd hj (by omega))
  rcases faultM_or x with h | h
  · rw [h]
    unfold storeFaultM
    rw [if_neg (by simp), if_neg (by simp [rightM, h]), if_neg (by simp [hr])]
  · rw [h]
    unfold storeFaultM
    rw [if_neg (by simp), if_pos (by simp [rightM, h])]
theorem insert_is (l : List Smp) (x : Smp) : insertM l x = if (mergeListsM l [x]).1 ≠ 0 then ((mergeListsM l [x]).1, false, []) else (0, decide (l.length < (mergeListsM l [x]).2.length), (mergeListsM l [x]).2) := by
  unfold insertM
  by_cases h0 : storeFaultM l = 0
  · rw [if_neg (by simp [h0])]
    by_cases h1 : faultM x = 0
    · rw [if_neg (by simp [h1])]
      have hl := storeFault_small h0
      by_cases h2 : findI l x < 0
      · have hm : mergeM l [x] = insM l x := by simp [mergeM, mergeStep, h2]
        rw [if_neg (by omega)]
        by_cases h3 : 160 ≤ l.length
        · have e : mergeListsM l [x] = (7, []) := by
            unfold mergeListsM
            rw [if_neg (by simp [h0]), if_neg (by rw [fault_one]; simp [h1]), hm, insM_len, if_pos (by omega)]
          rw [e, if_pos h3, if_pos (by simp)]
        · have e : mergeListsM l [x] = (0, insM l x) := by
            unfold mergeListsM
            rw [if_neg (by simp [h0]), if_neg (by rw [fault_one]; simp [h1]), hm, insM_len, if_neg (by omega)]
          rw [e, if_neg h3, if_neg (by simp)]
          simp [insM_len]
      · have hm : mergeM l [x] = l := by simp [mergeM, mergeStep, h2]
        have e : mergeListsM l [x] = (0, l) := by
          unfold mergeListsM
          rw [if_neg (by simp [h0]), if_neg (by rw [fault_one]; simp [h1]), hm, if_neg (by omega)]
        rw [if_pos (by omega), e, if_neg (by simp)]
        simp
    · have e : mergeListsM l [x] = (faultM x, []) := by
        unfold mergeListsM
        rw [if_neg (by simp [h0]), fault_one, if_pos h1]
      rw [if_pos h1, e, if_pos h1]
  · have e : mergeListsM l [x] = (storeFaultM l, []) := by
      unfold mergeListsM
      rw [if_pos h0]
    rw [if_pos h0, e, if_pos h0]

set_option maxRecDepth 100000 in
set_option maxHeartbeats 4000000 in
theorem implInsertSample (A : Option Addr) (n c : Nat) (l : List Smp) (x0 x1 x2 x3 : Int) (w : World) (ha : Rd eS w w.heap.size A l) (hn : l.length = n) (hnm : n ≤ 1048576) (hF : Flds w) :
    Calls Tryz.prog 92 #[.slice A n c, .agg #[.int .i64 x0, .int .i64 x1, .int .i64 x2, .int .i64 x3]] w (RetSt (insertM l (x0, x1, x2, x3)) w) := by
  have hB0a := (Below.refl w.heap.size w).alloc (Nat.le_refl _) (.cells #[.int .i64 x0, .int .i64 x1, .int .i64 x2, .int .i64 x3] 25)
  have hB0 := hB0a.alloc hB0a.size (.cells #[.int .i64 0, .bool false, .slice none 0 0] 135)
  have r0 := At.newAt' (t := 135) (cs := #[.int .i64 0, .bool false, .slice none 0 0]) (show (w.alloc (.cells #[.int .i64 x0, .int .i64 x1, .int .i64 x2, .int .i64 x3] 25)).heap.size = w.heap.size + 1 by simp)
  obtain ⟨w0, hw0⟩ : ∃ w0, (w.alloc (.cells #[.int .i64 x0, .int .i64 x1, .int .i64 x2, .int .i64 x3] 25)).alloc (.cells #[.int .i64 0, .bool false, .slice none 0 0] 135) = w0 := ⟨_, rfl⟩
  have hl1 := (Below.refl w0.heap.size w0).alloc (Nat.le_refl _) (.cells #[.int .i64 x0, .int .i64 x1, .int .i64 x2, .int .i64 x3] 25)
  have hs0 : w0.heap.size = w.heap.size + 1 + 1 := by rw [← hw0]; simp
  rw [hw0] at hB0 r0
  have hB1 := hB0.trans (hl1.mono hB0.size)
  have r1 := r0.below hl1 r0.lt
  have hM := implMergeLists A (some ⟨w0.heap.size, 0, none⟩) n 1 c 1 l [(x0, x1, x2, x3)] _ ((ha.lift hB0).lift hl1) ((rd_lit okS w0 25 [(x0, x1, x2, x3)] #[.int .i64 x0, .int .i64 x1, .int .i64 x2, .int .i64 x3] rfl).more (by simp)) hn rfl (hF.below hB1)
  have Hins := Lib.hid (insert_is l (x0, x1, x2, x3))
  obtain ⟨⟨mc, ml⟩, hmr⟩ : ∃ r, mergeListsM l [(x0, x1, x2, x3)] = r := ⟨_, rfl⟩
  have hml := mergeLists_le l [(x0, x1, x2, x3)]
  rw [hmr] at hM Hins hml
  simp only at hml
  have Hn := Lib.hid hn
  rw [hs0] at hM
  rw [← hw0] at hM
  rw [← hw0] at hl1 hB0 hB1 r1
  clear hmr hn hw0 r0 hs0 ha hF hB0a
  go_enter Tryz.func92, Tryz.ntmps92
  go_wp2_with fail
  refine (hM).mono ?_
  rintro e w2 ⟨A2, n2, c2, rfl, ow2, hb2⟩
  have hB2 := hB1.trans (hb2.mono hB1.size)
  have r2 := r1.below hb2 r1.lt
  have hl2 := Ow.len okS ow2
  have hB3 := hB2.alloc hB2.size (.cells #[.int .i64 mc, .slice A2 n2 c2] 182)
  have r3 := r2.alloc (.cells #[.int .i64 mc, .slice A2 n2 c2] 182)
  have ow3 := ow2.alloc (.cells #[.int .i64 mc, .slice A2 n2 c2] 182)
  have m3 := At.new w2 182 #[.int .i64 mc, .slice A2 n2 c2]
  obtain ⟨c0, c1, cc2, _⟩ := r3.three
  obtain ⟨d0, d1, _, _⟩ := m3.two
  have hlt := r1.lt
  have Hl2 := Lib.hid hl2
  clear hM hl2
  by_cases h0 : mc = 0
  · subst h0
    have h00 : ((0 : Int) != 0) = false := rfl
    by_cases hgt : n < n2
    · have hi : (n : Int) < (n2 : Int) := by omega
      have Hg := Lib.hid (show insertM l (x0, x1, x2, x3) = (0, true, ml) by rw [Hins.out, if_neg (by simp)]; simp only [Hl2.out, Hn.out, hgt, decide_true])
      clear hgt
      go_wp2_with fail
      refine bodyPost_ret (v := .agg #[.int .i64 0, .bool true, .slice A2 n2 c2]) (by simp [results, Tryz.results92, go_sem, c0, c1, cc2]) rfl ?_
      rw [Hg.out]
      exact ⟨_, _, _, rfl, ((((ow3.under (p := ⟨w.heap.size + 1, 0, none⟩) hlt _).under (p := ⟨w.heap.size + 1, 1, none⟩) hlt _).under (p := ⟨w.heap.size + 1, 2, none⟩) hlt _).from_ hB1.size), ((hB3.setCell (p := ⟨w.heap.size + 1, 0, none⟩) (Nat.le_succ _) _).setCell (p := ⟨w.heap.size + 1, 1, none⟩) (Nat.le_succ _) _).setCell (p := ⟨w.heap.size + 1, 2, none⟩) (Nat.le_succ _) _⟩
    · have hi : (n2 : Int) ≤ (n : Int) := by omega
      have hle : n2 ≤ n := by omega
      have Hg := Lib.hid (show insertM l (x0, x1, x2, x3) = (0, false, ml) by rw [Hins.out, if_neg (by simp)]; rw [show decide (l.length < ml.length) = false from decide_eq_false (by rw [Hl2.out, Hn.out]; exact hgt)])
      clear hgt
      go_wp2_with fail
      refine bodyPost_ret (v := .agg #[.int .i64 0, .bool false, .slice A2 n2 c2]) (by simp [results, Tryz.results92, go_sem, c0, c1, cc2, hle]) rfl ?_
      rw [Hg.out]
      exact ⟨_, _, _, rfl, ((((ow3.under (p := ⟨w.heap.size + 1, 0, none⟩) hlt _).under (p := ⟨w.heap.size + 1, 1, none⟩) hlt _).under (p := ⟨w.heap.size + 1, 2, none⟩) hlt _).from_ hB1.size), ((hB3.setCell (p := ⟨w.heap.size + 1, 0, none⟩) (Nat.le_succ _) _).setCell (p := ⟨w.heap.size + 1, 1, none⟩) (Nat.le_succ _) _).setCell (p := ⟨w.heap.size + 1, 2, none⟩) (Nat.le_succ _) _⟩
  · have hne : (mc != 0) = true := by rw [bne_iff_ne]; exact h0
    have Hg := Lib.hid (show insertM l (x0, x1, x2, x3) = (mc, false, []) by rw [Hins.out, if_pos h0])
    clear h0
    go_wp2_with fail
    refine bodyPost_ret (v := .agg #[.int .i64 mc, .bool false, .slice none 0 0]) (by simp [results, Tryz.results92, go_sem, c0, c1, cc2]) rfl ?_
    rw [Hg.out]
    exact ⟨_, _, _, rfl, Ow.nil, ((hB3.setCell (p := ⟨w.heap.size + 1, 0, none⟩) (Nat.le_succ _) _).setCell (p := ⟨w.heap.size + 1, 1, none⟩) (Nat.le_succ _) _).setCell (p := ⟨w.heap.size + 1, 2, none⟩) (Nat.le_succ _) _⟩

end Go.Proofs.YtmaillakhhdkfaaGreatDoor
/-
  A map of queued hints by their keys, as it lies in memory: asked, filled, thinned, counted.
-/
namespace Go.Proofs.YtmaillakhhdkfaaGreatDoor
set_option maxRecDepth 20000
open Go.RowKit
open Go.ChangeMaps (setBlock heap_setBlock_same heap_setBlock_other)
set_option linter.unusedSimpArgs false
set_option linter.unusedVariables false

abbrev keyH (h : Hnt) : Value := .agg #[.int .i64 h.1, .int .i64 (idH h)]
abbrev qdV (x : Qd) : Value := .agg #[.int .i64 x.1, .int .i64 x.2.1, .int .i64 x.2.2.1.1, .int .i64 x.2.2.1.2.1, .int .i64 x.2.2.1.2.2.1, .int .i64 x.2.2.1.2.2.2, .int .i64 x.2.2.2.1, .int .i64 x.2.2.2.2]

theorem keyEqualH (x y : Hnt) (w : World) : (Op.equal 161 (keyH x) (keyH y)).run Tryz.prog w = .ok (sameH x y) w := by
  show (Op.equalIn 10000 161 (keyH x) (keyH y)).run Tryz.prog w = _
  unfold sameH
  go_simp
  by_cases h0 : x.1 = y.1 <;> by_cases h1 : idH x = idH y <;> simp [h0, h1]
theorem keyChecksH (e : Bool) (x : Hnt) (w : World) : (Instr.checkKey e 10000 161 (keyH x)).run Tryz.prog w = .ok () w := by kernel_rfl
theorem zeroQ (w : World) : (zeroValue 222).run Tryz.prog w = .ok (qdV (0, zeroH)) w := by kernel_rfl
theorem keyStaysH (x : Hnt) (w : World) : (Instr.keyThatStays (keyH x) (keyH x)).run Tryz.prog w = .ok (keyH x) w := by
  have h : Instr.sameBits 10000 (keyH x) (keyH x) = true := by
    show Instr.sameBits (9998 + 1 + 1) _ _ = true
    simp [Instr.sameBits]
  unfold Instr.keyThatStays
  rw [h]
  rfl
theorem key_of_same {x y : Hnt} (h : sameH x y = true) : keyH y = keyH x := by
  obtain ⟨h1, h2⟩ := (sameH_iff x y).1 h
  show Value.agg #[.int .i64 y.1, .int .i64 (idH y)] = Value.agg #[.int .i64 x.1, .int .i64 (idH x)]
  rw [h1, h2]

theorem findAskH (y : Hnt) (w : World) : ∀ (L : List Qd) (es : List MapEntry) (i : Nat), es.map (fun e => (e.key, e.val)) = L.map (fun x => (keyH x.2, qdV x)) →
    (firstQ L y = none ∧ (Instr.findAsking 161 (keyH y) es i).run Tryz.prog w = .ok none w) ∨
    ∃ (j : Nat) (a : Qd), L[j]? = some a ∧ firstQ L y = some a ∧ sameH y a.2 = true ∧ (∀ k b, k < j → L[k]? = some b → sameH y b.2 = false) ∧ (Instr.findAsking 161 (keyH y) es i).run Tryz.prog w = .ok (some (i + j, qdV a)) w
  | [], es, i, h => by
    obtain rfl : es = [] := by simpa using h
    exact .inl ⟨rfl, by simp [Instr.findAsking]⟩
  | x :: L, es, i, h => by
    match es, h with
    | e :: es, h =>
      simp only [List.map_cons, List.cons.injEq, Prod.mk.injEq] at h
      obtain ⟨⟨hk, hv⟩, h⟩ := h
      have he : (Op.equal 161 (keyH y) e.key).run Tryz.prog w = .ok (sameH y x.2) w := by rw [hk]; exact keyEqualH y x.2 w
      rcases hs : sameH y x.2
      · have e2 : firstQ (x :: L) y = firstQ L y := by unfold firstQ; rw [List.find?_cons, hs]
        rcases findAskH y w L es (i + 1) h with ⟨h1, h2⟩ | ⟨j, a, h1, h2, h3, h4, h5⟩
        · exact .inl ⟨by rw [e2, h1], by simp [Instr.findAsking, he, hs, h2, Result.andThen]⟩
        · refine .inr ⟨j + 1, a, by simpa using h1, by rw [e2, h2], h3, fun k b hk hb => ?_, ?_⟩
          · match k, hb with
            | 0, hb => obtain rfl : x = b := by simpa using hb
                       exact hs
            | k + 1, hb => exact h4 k b (by omega) (by simpa using hb)
          · simp [Instr.findAsking, he, hs, h5, Result.andThen]
            omega
      · exact .inr ⟨0, x, rfl, by unfold firstQ; rw [List.find?_cons, hs], hs, fun k b hk => absurd hk (by omega), by simp [Instr.findAsking, he, hs, Result.andThen, hv]⟩

theorem findKeyH (y : Hnt) (w : World) (L : List Qd) (es : List MapEntry) (h : es.map (fun e => (e.key, e.val)) = L.map (fun x => (keyH x.2, qdV x))) :
    (firstQ L y = none ∧ (Instr.findKey 161 (keyH y) es).run Tryz.prog w = .ok none w) ∨
    ∃ (j : Nat) (a : Qd), L[j]? = some a ∧ firstQ L y = some a ∧ sameH y a.2 = true ∧ (∀ k b, k < j → L[k]? = some b → sameH y b.2 = false) ∧ (Instr.findKey 161 (keyH y) es).run Tryz.prog w = .ok (some (j, qdV a)) w := by
  match es, h with
  | [], h =>
    obtain rfl : L = [] := by simpa using h
    exact .inl ⟨rfl, by simp [Instr.findKey, run_underlying Tryz.underlying161, Instr.findNow, Result.andThen]⟩
  | e :: es, h =>
    rcases findAskH y w L (e :: es) 0 h with ⟨h1, h2⟩ | ⟨j, a, h1, h2, h3, h4, h5⟩
    · refine .inl ⟨h1, ?_⟩
      simp only [Instr.findKey, Sem.run_bind, run_underlying Tryz.underlying161, Result.andThen]
      exact h2
    · refine .inr ⟨j, a, h1, h2, h3, h4, ?_⟩
      simp only [Instr.findKey, Sem.run_bind, run_underlying Tryz.underlying161, Result.andThen]
      rw [Nat.zero_add] at h5
      exact h5

theorem erase_map {α β : Type} (f : α → β) : ∀ (l : List α) (j : Nat), (l.eraseIdx j).map f = (l.map f).eraseIdx j
  | [], _ => rfl
  | _ :: _, 0 => rfl
  | x :: l, j + 1 => by
    simp only [List.eraseIdx_cons_succ, List.map_cons]
    rw [erase_map f l j]
theorem setQ_at {x : Qd} : ∀ {L : List Qd} {j : Nat} {a : Qd}, L[j]? = some a → sameH x.2 a.2 = true → (∀ k b, k < j → L[k]? = some b → sameH x.2 b.2 = false) → setQ x L = L.set j x ∧ eraseQ x.2 L = L.eraseIdx j
  | [], j, a, h, _, _ => by simp at h
  | y :: L, 0, a, h, hs, _ => by
    obtain rfl : y = a := by simpa using h
    rw [setQ, eraseQ, hs]
    simp
  | y :: L, j + 1, a, h, hs, hal => by
    have h0 := hal 0 y (by omega) rfl
    obtain ⟨h1, h2⟩ := setQ_at (x := x) (L := L) (j := j) (by simpa using h) hs (fun k b hk hb => hal (k + 1) b (by omega) (by simpa using hb))
    rw [setQ, eraseQ, h0]
    simp [h1, h2]
theorem setQ_new {x : Qd} : ∀ {L : List Qd}, firstQ L x.2 = none → setQ x L = L ++ [x] ∧ eraseQ x.2 L = L
  | [], _ => ⟨rfl, rfl⟩
  | y :: L, h => by
    unfold firstQ at h
    rw [List.find?_cons] at h
    rcases hs : sameH x.2 y.2
    · rw [hs] at h
      obtain ⟨h1, h2⟩ := setQ_new (x := x) (L := L) h
      rw [setQ, eraseQ, hs]
      simp [h1, h2]
    · rw [hs] at h
      cases h

/-- Block b is a map that holds these queued hints by their keys, the eldest first. -/
def QMap (w : World) (b : Nat) (L : List Qd) : Prop :=
  ∃ es clock, w.heap[b]? = some (.map es clock) ∧ es.toList.map (fun e => (e.key, e.val)) = L.map (fun x => (keyH x.2, qdV x)) ∧ (∀ e ∈ es.toList, e.born < clock) ∧ (es.toList.map (·.born)).Nodup

section
variable {w w' : World} {b : Nat} {L : List Qd}
theorem QMap.lt (h : QMap w b L) : b < w.heap.size := by
  obtain ⟨es, clock, hb, _⟩ := h
  exact (Array.getElem?_eq_some_iff.1 hb).1
theorem QMap.kept {row : Option Nat} (h : QMap w b L) (hg : w.grownBy w' row) (hne : some b ≠ row) : QMap w' b L := by
  have hlt := h.lt
  obtain ⟨es, clock, hb, r⟩ := h
  exact ⟨es, clock, (hg.block b hlt hne).trans hb, r⟩
theorem QMap.below {B : Nat} (h : QMap w b L) (hb : Below B w w') (hB : b < B) : QMap w' b L := by
  obtain ⟨es, clock, h1, r⟩ := h
  exact ⟨es, clock, (hb.block b hB).trans h1, r⟩
theorem QMap.alloc (h : QMap w b L) (o : Obj) : QMap (w.alloc o) b L := h.kept (World.grownBy_alloc w o none) (by simp)
theorem QMap.drew (h : QMap w b L) : QMap w.drew b L := h
theorem QMap.made (w : World) : QMap (w.alloc (.map #[] 0)) w.heap.size [] := ⟨#[], 0, heap_alloc_new w _, rfl, by simp, by simp⟩
theorem QMap.size (h : QMap w b L) : ∃ es clock, w.heap[b]? = some (.map es clock) ∧ es.size = L.length := by
  obtain ⟨es, clock, hb, hm, _⟩ := h
  refine ⟨es, clock, hb, ?_⟩
  have := congrArg List.length hm
  simpa using this
theorem QMap.len (h : QMap w b L) (ty : TypeId) : (Builtin.len_ #[194] ty #[.map (some b)]).run Tryz.prog w = .ok (.int .i64 (L.length : Int)) w := by
  obtain ⟨es, clock, hb, hs⟩ := h.size
  rw [← hs]
  simp [Builtin.len_, run_underlying Tryz.underlying194, MapKept.run_getObj_map hb, Result.andThen]
  try rfl
theorem QMap.look (h : QMap w b L) (y : Hnt) : (Instr.lookup 194 (.map (some b)) (keyH y) true).run Tryz.prog w = .ok (.tuple #[qdV ((firstQ L y).getD (0, zeroH)), .bool (firstQ L y).isSome]) w := by
  obtain ⟨es, clock, hb, hm, _⟩ := h
  rcases findKeyH y w L es.toList hm with ⟨hf, h1⟩ | ⟨j, a, _, hf, _, _, h1⟩
  · rw [hf]
    simp [Instr.lookup, run_underlying Tryz.underlying194, MapKept.run_getObj_map hb, keyChecksH, h1, zeroQ, Result.andThen]
  · rw [hf]
    simp [Instr.lookup, run_underlying Tryz.underlying194, MapKept.run_getObj_map hb, keyChecksH, h1, Result.andThen]
theorem QMap.put (h : QMap w b L) (x : Qd) : ∃ w', (Instr.mapUpdate 194 (.map (some b)) (keyH x.2) (qdV x)).run Tryz.prog w = .ok () w' ∧ QMap w' b (setQ x L) ∧ w.grownBy w' (some b) := by
  obtain ⟨es, clock, hb, hm, hc, hd⟩ := h
  rcases findKeyH x.2 w L es.toList hm with ⟨hf, h1⟩ | ⟨j, a, hj, hf, hs, hal, h1⟩
  · rw [(setQ_new hf).1]
    refine ⟨setBlock w b (.map (es.push ⟨keyH x.2, qdV x, clock⟩) (clock + 1)), ?_, ⟨_, _, heap_setBlock_same hb _, ?_, ?_, ?_⟩, ⟨rfl, rfl, rfl, by simp [setBlock], fun i _ hi => heap_setBlock_other hb _ (fun e => hi (by rw [e]))⟩⟩
    · simp [Instr.mapUpdate, run_underlying Tryz.underlying194, MapKept.run_getObj_map hb, keyChecksH, h1, MapKept.run_setObj_map _ hb, Result.andThen, setBlock]
    · simp [hm]
    · intro e he
      simp only [Array.toList_push, List.mem_append, List.mem_singleton] at he
      rcases he with he | rfl
      · have := hc e he
        omega
      · simp
    · rw [Array.toList_push, List.map_append, List.nodup_append]
      refine ⟨hd, by simp, fun a ha c hc' => ?_⟩
      obtain ⟨e, he, rfl⟩ := List.mem_map.1 ha
      obtain rfl : c = clock := by simpa using hc'
      have := hc e he
      omega
  · rw [(setQ_at hj hs hal).1]
    have hjm : (es.toList.map (fun e => (e.key, e.val)))[j]? = some (keyH a.2, qdV a) := by rw [hm, List.getElem?_map, hj]; rfl
    rw [List.getElem?_map] at hjm
    obtain ⟨e0, he0, hkv⟩ := Option.map_eq_some_iff.1 hjm
    simp only [Prod.mk.injEq] at hkv
    have hkey : e0.key = keyH x.2 := by rw [hkv.1]; exact key_of_same hs
    have hje : es[j]? = some e0 := by simpa using he0
    have hlist : (es.modify j (fun e' => { e' with key := keyH x.2, val := qdV x })).toList = es.toList.set j { e0 with key := keyH x.2, val := qdV x } := by
      rw [Array.toList_modify]
      apply List.ext_getElem?
      intro i
      rw [List.getElem?_modify, List.getElem?_set]
      by_cases hi : j = i
      · subst hi
        have : j < es.toList.length := getElem?_some_lt he0
        have h2 : j < es.size := by simpa using this
        have h3 : es[j] = e0 := Option.some.inj ((Array.getElem?_eq_getElem h2).symm.trans hje)
        simp [h2, h3]
      · simp [hi]
    refine ⟨setBlock w b (.map (es.modify j (fun e' => { e' with key := keyH x.2, val := qdV x })) clock), ?_, ⟨_, _, heap_setBlock_same hb _, ?_, ?_, ?_⟩, ⟨rfl, rfl, rfl, by simp [setBlock], fun i _ hi => heap_setBlock_other hb _ (fun e => hi (by rw [e]))⟩⟩
    · simp [Instr.mapUpdate, run_underlying Tryz.underlying194, MapKept.run_getObj_map hb, keyChecksH, h1, hje, hkey, keyStaysH, MapKept.run_setObj_map _ hb, Result.andThen, setBlock]
    · rw [hlist, List.map_set, hm, List.map_set]
    · intro e he
      rw [hlist] at he
      rcases List.mem_or_eq_of_mem_set he with h | rfl
      · exact hc e h
      · exact hc e0 (List.mem_of_getElem? he0)
    · rw [hlist, List.map_set]
      have : (es.toList.map (·.born)).set j e0.born = es.toList.map (·.born) := by
        apply List.ext_getElem?
        intro i
        rw [List.getElem?_set]
        by_cases hi : j = i
        · subst hi
          have : j < es.toList.length := getElem?_some_lt he0
          have h2 : j < es.size := by simpa using this
          have h3 : es[j] = e0 := Option.some.inj ((Array.getElem?_eq_getElem h2).symm.trans hje)
          simp [h2, h3]
        · simp [hi]
      rw [this]
      exact hd
theorem QMap.drop (h : QMap w b L) (y : Hnt) (ty : TypeId) : ∃ w', (Builtin.delete_ #[194, 161] ty #[.map (some b), keyH y]).run Tryz.prog w = .ok (.tuple #[]) w' ∧ QMap w' b (eraseQ y L) ∧ w.grownBy w' (some b) := by
  obtain ⟨es, clock, hb, hm, hc, hd⟩ := h
  rcases findKeyH y w L es.toList hm with ⟨hf, h1⟩ | ⟨j, a, hj, hf, hs, hal, h1⟩
  · rw [(setQ_new (x := (0, y)) hf).2]
    refine ⟨setBlock w b (.map es clock), ?_, ⟨_, _, heap_setBlock_same hb _, hm, hc, hd⟩, ⟨rfl, rfl, rfl, by simp [setBlock], fun i _ hi => heap_setBlock_other hb _ (fun e => hi (by rw [e]))⟩⟩
    simp [Builtin.delete_, run_underlying Tryz.underlying194, MapKept.run_getObj_map hb, keyChecksH, h1, MapKept.run_setObj_map _ hb, Result.andThen, setBlock]
  · rw [(setQ_at (x := (0, y)) hj hs hal).2]
    have hjl : j < es.size := by
      have h1 := getElem?_some_lt hj
      have h2 := congrArg List.length hm
      simp at h2
      omega
    have hsub : (es.eraseIdxIfInBounds j).toList = es.toList.eraseIdx j := by
      unfold Array.eraseIdxIfInBounds
      rw [dif_pos hjl]
      simp
    have hmap : ∀ {β : Type} (f : MapEntry → β), (es.toList.eraseIdx j).map f = (es.toList.map f).eraseIdx j := fun f => erase_map f _ _
    refine ⟨setBlock w b (.map (es.eraseIdxIfInBounds j) clock), ?_, ⟨_, _, heap_setBlock_same hb _, ?_, ?_, ?_⟩, ⟨rfl, rfl, rfl, by simp [setBlock], fun i _ hi => heap_setBlock_other hb _ (fun e => hi (by rw [e]))⟩⟩
    · simp [Builtin.delete_, run_underlying Tryz.underlying194, MapKept.run_getObj_map hb, keyChecksH, h1, MapKept.run_setObj_map _ hb, Result.andThen, setBlock]
    · rw [hsub, hmap, hm, ← erase_map]
    · intro e he
      rw [hsub] at he
      exact hc e ((List.eraseIdx_sublist _ _).subset he)
    · rw [hsub, hmap]
      exact hd.sublist (List.eraseIdx_sublist _ _)
end
end Go.Proofs.YtmaillakhhdkfaaGreatDoor
/-
  What is looked for, put, taken away and laid anew in the queue of a list, of the pure answers.
-/
namespace Go.Proofs.YtmaillakhhdkfaaGreatDoor
set_option maxRecDepth 20000
open Go.RowKit
set_option linter.unusedSimpArgs false
set_option linter.unusedVariables false

theorem find_congr {p q : Nat → Bool} : ∀ {l : List Nat}, (∀ x ∈ l, p x = q x) → l.find? p = l.find? q
  | [], _ => rfl
  | x :: l, h => by
    rw [List.find?_cons, List.find?_cons, h x (by simp), find_congr (fun y hy => h y (by simp [hy]))]
theorem zip_at {l : List Hnt} {k : Nat} {a : Hnt} (h : l[k]? = some a) : (zipQ l)[k]? = some ((k : Int), a) := by
  have hk := getElem?_some_lt h
  unfold zipQ
  rw [List.getElem?_map, List.getElem?_range hk, Option.map_some, h]
  rfl
theorem first_zip (l : List Hnt) (h : Hnt) : firstQ (zipQ l) h = (findH l h.1 (idH h)).map fun (k : Nat) => ((k : Int), (l[k]?).getD zeroH) := by
  unfold firstQ zipQ findH
  rw [List.find?_map]
  congr 1
  refine find_congr fun i hi => ?_
  have hi' := List.mem_range.1 hi
  rw [hitH_at (List.getElem?_eq_getElem hi')]
  simp only [Function.comp_def, List.getElem?_eq_getElem hi', Option.getD_some]
  show sameH h l[i] = _
  rw [sameH_comm]
  rfl
theorem zip_hit {l : List Hnt} {p i : Int} {k : Nat} (hk : findH l p i = some k) {h : Hnt} (h1 : h.1 = p) (h2 : idH h = i) : ∃ a, l[k]? = some a ∧ (zipQ l)[k]? = some ((k : Int), a) ∧ sameH h a = true ∧ ∀ j b, j < k → (zipQ l)[j]? = some b → sameH h b.2 = false := by
  obtain ⟨hlt, hh, hal⟩ := findH_is hk
  have ha : l[k]? = some l[k] := List.getElem?_eq_getElem hlt
  refine ⟨l[k], ha, zip_at ha, ?_, fun j b hj hb => ?_⟩
  · rw [hitH_at ha, ← h1, ← h2] at hh
    rw [sameH_comm]
    exact hh
  · have hjl : j < l.length := by omega
    have e := zip_at (List.getElem?_eq_getElem hjl)
    rw [e] at hb
    obtain rfl := Option.some.inj hb
    have := hal j hj
    rw [hitH_at (List.getElem?_eq_getElem hjl), ← h1, ← h2] at this
    rw [sameH_comm]
    exact this
theorem add_zip {l : List Hnt} {h : Hnt} (hf : findH l h.1 (idH h) = none) : putQ (l.length : Int) h (zipQ l) = zipQ (l ++ [h]) := by
  rw [putQ_new, zipQ_append]
  rw [first_zip, hf]
  rfl
theorem erase_zip {l : List Hnt} {p i : Int} {k : Nat} (hk : findH l p i = some k) {h : Hnt} (h1 : h.1 = p) (h2 : idH h = i) : (eraseQ h (zipQ l)).map Prod.snd = l.take k ++ l.drop (k + 1) ∧ Rises (eraseQ h (zipQ l)) := by
  obtain ⟨a, ha, hz, hs, hal⟩ := zip_hit hk h1 h2
  have e := (setQ_at (x := (0, h)) hz hs hal).2
  simp only at e
  rw [e]
  refine ⟨?_, (rises_zip l).sublist (List.eraseIdx_sublist _ _)⟩
  rw [erase_map, zipQ_snd, List.eraseIdx_eq_take_drop_succ]
theorem queue_zip {l : List Hnt} (h : hintsFaultM l = 0) : queueM l = zipQ l := (queue_all l).1 ((hintsFault_iff l).1 h).2.2
end Go.Proofs.YtmaillakhhdkfaaGreatDoor
/-
  The program's fault of one hint.
-/
namespace Go.Proofs.YtmaillakhhdkfaaGreatDoor
set_option maxRecDepth 20000
open Go.RowKit
set_option linter.unusedSimpArgs false
set_option linter.unusedVariables false

theorem bnds_three {w : World} {t : TypeId} {x lo hi x' lo' hi' x'' lo'' hi'' : Int} {g : Nat} (hg : w.heap.size = g) : Bnds (w.alloc (.cells #[.int .i64 x, .int .i64 lo, .int .i64 hi, .int .i64 x', .int .i64 lo', .int .i64 hi', .int .i64 x'', .int .i64 lo'', .int .i64 hi''] t)) g [(x, lo, hi), (x', lo', hi'), (x'', lo'', hi'')] := by
  subst hg
  intro k b hk
  match k, hk with
  | 0, hk =>
    obtain rfl : (x, lo, hi) = b := by simpa using hk
    refine ⟨?_, ?_, ?_⟩ <;> (rw [cell_of_row _ _ _ _ _ _ (heap_alloc_new w _)]; rfl)
  | 1, hk =>
    obtain rfl : (x', lo', hi') = b := by simpa using hk
    refine ⟨?_, ?_, ?_⟩ <;> (rw [cell_of_row _ _ _ _ _ _ (heap_alloc_new w _)]; rfl)
  | 2, hk =>
    obtain rfl : (x'', lo'', hi'') = b := by simpa using hk
    refine ⟨?_, ?_, ?_⟩ <;> (rw [cell_of_row _ _ _ _ _ _ (heap_alloc_new w _)]; rfl)
  | k + 3, hk => simp at hk

set_option maxHeartbeats 1000000 in
theorem implHintFault (a0 a1 a2 a3 a4 a5 a6 : Int) (w : World) (hF : Flds w) :
    Calls Tryz.prog 61 #[.agg #[.int .i64 a0, .int .i64 a1, .int .i64 a2, .int .i64 a3, .int .i64 a4, .int .i64 a5, .int .i64 a6]] w fun e w' => e = .returned (.int .i64 (hfaultM (a0, (a1, a2, a3, a4), a5, a6))) ∧ Below w.heap.size w w' := by
  have hB0 : Below w.heap.size w (w.alloc (.cells #[.int .i64 a0, .int .i64 a1, .int .i64 a2, .int .i64 a3, .int .i64 a4, .int .i64 a5, .int .i64 a6] 75)) := (Below.refl _ _).alloc (Nat.le_refl _) _
  have x0 := At.new w 75 #[.int .i64 a0, .int .i64 a1, .int .i64 a2, .int .i64 a3, .int .i64 a4, .int .i64 a5, .int .i64 a6]
  have HS := implSampleFault a1 a2 a3 a4 _ (hF.below hB0)
  rcases faultM_or (a1, a2, a3, a4) with hf | hf
  rotate_left
  · rw [hf] at HS
    have Hr := Lib.hid (hfault_smp (h := (a0, (a1, a2, a3, a4), a5, a6)) hf)
    clear hf
    go_enter Tryz.func61, Tryz.ntmps61
    go_wp2_with fail
    refine HS.mono ?_
    rintro e w1 ⟨rfl, hb1⟩
    have hB1 := hB0.trans (hb1.mono hB0.size)
    go_wp2
    go_ret
    exact ⟨by rw [Hr.out]; rfl, hB1⟩
  rw [hf] at HS
  obtain ⟨r, hr⟩ : ∃ r, rangeH (a0, (a1, a2, a3, a4), a5, a6) = r := ⟨_, rfl⟩
  have Hb := Lib.hid (show ([(a0, 0, 3), (a5, 0, 4), (a6, 0, 200000)] : List (Int × Int × Int)).all inB = r by rw [← hr]; simp [rangeH])
  have Hr := Lib.hid (show hfaultM (a0, (a1, a2, a3, a4), a5, a6) = if r then 0 else 3 by
    cases r
    · exact hfault_no hf hr
    · exact hfault_yes hf hr)
  clear hf hr
  go_enter Tryz.func61, Tryz.ntmps61
  go_wp2_with fail
  refine HS.mono ?_
  rintro e w1 ⟨rfl, hb1⟩
  have hB1 := hB0.trans (hb1.mono hB0.size)
  obtain ⟨c0, c1, c2, c3, c4, c5, c6⟩ := (x0.below hb1 x0.lt).seven
  go_wp2_with fail
  refine (areWithin_any _ 3 _ [(a0, 0, 3), (a5, 0, 4), (a6, 0, 200000)] _ (bnds_three (by simp)) (by simp) rfl (by simp)).mono ?_
  rintro e w2 ⟨rfl, hb2⟩
  have hBa := hB1.alloc hB1.size (.cells #[.int .i64 a0, .int .i64 0, .int .i64 3, .int .i64 a5, .int .i64 0, .int .i64 4, .int .i64 a6, .int .i64 0, .int .i64 200000] 99)
  have hB2 := hBa.trans (hb2.mono hBa.size)
  rw [Hb.out]
  cases r
  · go_wp2
    go_ret
    exact ⟨by rw [Hr.out]; rfl, hB2⟩
  · go_wp2
    go_ret
    exact ⟨by rw [Hr.out]; rfl, hB2⟩
end Go.Proofs.YtmaillakhhdkfaaGreatDoor
/-
  Queued hints that come out of an iterator, collected (as Seq, at queued hints).
-/
namespace Go.Proofs.YtmaillakhhdkfaaGreatDoor
set_option maxRecDepth 20000
open Go.RowKit Go.Shelf
set_option linter.unusedSimpArgs false
set_option linter.unusedVariables false

attribute [local go_sem] Oper.semAt_some

def qdCells (x : Qd) : List Value := [.int .i64 x.1, .int .i64 x.2.1, .int .i64 x.2.2.1.1, .int .i64 x.2.2.1.2.1, .int .i64 x.2.2.1.2.2.1, .int .i64 x.2.2.1.2.2.2, .int .i64 x.2.2.2.1, .int .i64 x.2.2.2.2]
/-- Queued hints. -/
def eQ : Enc Qd := ⟨222, 8, qdCells⟩
theorem okQ : EncOk eQ := ⟨fun _ => rfl, fun a u hu => by simp only [eQ, qdCells, List.mem_cons, List.not_mem_nil, or_false] at hu; rcases hu with rfl | rfl | rfl | rfl | rfl | rfl | rfl | rfl <;> rfl, by decide⟩
theorem info_qd : (Tryz.prog.info? 222).map (fun i => (i.zero, i.size, i.bytes)) = some (some (.agg #[.int .i64 0, .int .i64 0, .int .i64 0, .int .i64 0, .int .i64 0, .int .i64 0, .int .i64 0, .int .i64 0]), 8, 64) := by kernel_rfl
theorem At.eight {w : World} {g : Nat} {t : TypeId} {a b c d e f h i : Value} (k : At w g t #[a, b, c, d, e, f, h, i]) : w.cell? ⟨g, 0, none⟩ = some a ∧ w.cell? ⟨g, 1, none⟩ = some b ∧ w.cell? ⟨g, 2, none⟩ = some c ∧ w.cell? ⟨g, 3, none⟩ = some d ∧ w.cell? ⟨g, 4, none⟩ = some e ∧ w.cell? ⟨g, 5, none⟩ = some f ∧ w.cell? ⟨g, 6, none⟩ = some h ∧ w.cell? ⟨g, 7, none⟩ = some i :=
  ⟨k.cell 0, k.cell 1, k.cell 2, k.cell 3, k.cell 4, k.cell 5, k.cell 6, k.cell 7⟩
def encQ (x : Qd) : Array Value := #[qdV x]
abbrev qdArr (x : Qd) : Array Value := #[.int .i64 x.1, .int .i64 x.2.1, .int .i64 x.2.2.1.1, .int .i64 x.2.2.1.2.1, .int .i64 x.2.2.1.2.2.1, .int .i64 x.2.2.1.2.2.2, .int .i64 x.2.2.2.1, .int .i64 x.2.2.2.2]
theorem abides_belowQ {β : Type} {B : Nat} {J : β → World → Prop} (h : AbidesFrom B J) {x : β} {W W' : World} (hJ : J x W) (hb : Below W.heap.size W W') : J x W' := h x W W' none hJ (grown_below hb (Nat.le_refl _)) (fun r e => by cases e)

/-- Between two rounds: the box holds a row of the call's own: what has come. -/
def GathQ (n₀ B N : Nat) (pre : List Qd) (W : World) : Prop :=
  ∃ A c, At W B 224 #[.slice A pre.length c] ∧ Ow eQ W (n₀ + 1) A pre.length c pre ∧ pre.length ≤ N
theorem GathQ.own (n₀ B N : Nat) : Own (GathQ n₀ B N) := fun s X Y row ⟨A, c, h1, h2, h3⟩ hg hr => ⟨A, c, h1.keptBy hg hr, h2.keptBy hg hr, h3⟩

set_option maxRecDepth 100000 in
set_option maxHeartbeats 2000000 in
theorem appendSeqQ (n : Nat) (hn : 3 ≤ n) (gf : Nat) (lb : Array Value) (eg : ∀ args w, (callFunc gf args).run Tryz.prog w = .ok (.enter gf args) w) (S Sp : List Qd → Prop) (N : Nat) (hN : N ≤ 1000) (n0 : Nat) (w : World) (hn0 : n0 ≤ w.heap.size)
    (hseq : SeqStopsK Fence.wide (n - 1) Tryz.prog gf lb encQ (Kp2 n0) S Sp N w) :
    CallsIn Fence.wide n Tryz.prog 170 #[.slice none 0 0, .func (.func gf) #[] lb] w fun e W' =>
      ∃ A c xs, e = .returned (.slice A xs.length c) ∧ S xs ∧ Ow eQ W' w.heap.size A xs.length c xs ∧ Below w.heap.size w W' := by
  have hro : Fence.wide.round = none := rfl
  have h1 : 1 ≤ n := by omega
  have hT : Fence.wide.fn 170 := trivial
  refine callsIn_of_wp_marks Tryz.func170 rfl hT ?_ hro
  simp only [Tryz.ntmps170, List.size_toArray, List.length_cons, List.length_nil, Nat.reduceAdd, Nat.reduceSub, Array.replicate_succ, Array.replicate_zero, List.push_toArray, List.append_toArray, List.nil_append, List.cons_append]
  gi_wp2
  have bO := At.new w 224 #[.slice none 0 0]
  have hB0 := (Below.refl w.heap.size w).alloc (Nat.le_refl _) (.cells #[.slice none 0 0] 224)
  obtain ⟨W0, hW0⟩ : ∃ W0, w.alloc (.cells #[.slice none 0 0] 224) = W0 := ⟨_, rfl⟩
  have hsz : W0.heap.size = w.heap.size + 1 := by rw [← hW0]; simp
  rw [hW0] at bO hB0 ⊢
  clear hW0
  refine wpIn_rangeFunc_ownH hro h1 (gf := gf) (lb := lb) rfl trivial eg hseq Kp2.t (Kp2.b (by omega)) hB0 (fun _ => rfl)
    (fun pre W => GathQ w.heap.size w.heap.size N pre W ∧ Below w.heap.size w W)
    (fun _ _ _ => False)
    (OwnFrom.and (Own.from (GathQ.own _ _ _) _) (ownFrom_below (Nat.le_refl _) (by omega)))
    (fun _ _ _ _ _ hs _ _ => hs)
    ⟨⟨none, 0, bO, Ow.nil, Nat.zero_le _⟩, hB0⟩
    (fun x a' W => ∃ Bx, w.heap.size < Bx ∧ At W Bx 222 (qdArr x) ∧ a' = { tmps := #[.slice none 0 0, .func (.func gf) #[] lb, .pointer (some ⟨w.heap.size, 0, none⟩), undef, .slice none 0 0, .pointer (some ⟨Bx, 0, none⟩), .func (.func gf) #[] lb, .agg (qdArr x), undef, undef, undef, undef, undef], defers := [] })
    (fun x a' _ X Y row hs hg hr => by obtain ⟨Bx, h1, h2, h3⟩ := hs; exact ⟨Bx, h1, h2.keptBy hg (fun r e => (hr r e).2), h3⟩)
    ?assign ?body ?done ?stop
  case assign =>
    rintro l pre x W K ⟨⟨A, c, hA, hO, hN1⟩, hB⟩ hK
    have hsW := hB.size
    dsimp only [encQ]
    gi_wp2
    exact hK _ _ ((KeepsOthers.alloc _ _).from _) ⟨KeepsWalks.alloc _ _, (Below.refl _ W).alloc (by omega) _⟩ ⟨⟨A, c, hA.alloc _, hO.alloc _, hN1⟩, hB.alloc hB.size _⟩ ⟨W.heap.size, hA.lt, At.new W _ _, rfl⟩
  case body =>
    rintro l pre x a' W hl ⟨r, hr⟩ ⟨⟨A, c, hA, hO, hN1⟩, hB⟩ ⟨Bx, hBx, bX, rfl⟩ hlt
    have hsW := hB.size
    have cA := hA.cell 0
    obtain ⟨cx0, cx1, cx2, cx3, cx4, cx5, cx6, cx7⟩ := bX.eight
    gi_wp2_with (gi_at_builtin; refine wpListIn_append_ow okQ _ rfl _ _ 224 rfl (w.heap.size + 1) info_qd Tryz.underlying224 rfl A pre.length c pre rfl (hO.alloc _) (some ⟨W.heap.size, 0, none⟩) 1 1 (W.heap.size + 1) [x] rfl (rd_lit okQ W 222 [x] _ rfl) rfl (by unfold maxLen; omega) (by omega) (by simp; omega) ?_; intro A' c' w1 hO1 hg1 hA1; have hAa := hA.alloc (.cells (qdArr x) 222); have hA2 := hAa.grown hg1 (fun e => by have := (hO.lt _ e).1; omega); have cA2 := hA2.cell 0; have fA2 := hA2.frozen 0)
    have hgB : Below w.heap.size w w1 := (hB.alloc hB.size _).grown hg1 (by simp; omega) (fun k e => by have := (hO.lt k e).1; omega)
    have hlt' : ∀ g, A'.map (·.block) = some g → w.heap.size + 1 ≤ g := fun g e => (hO1.lt g e).1
    have hK : KeepsOthers W (w1.setCell ⟨w.heap.size, 0, none⟩ (.slice A' (pre.length + 1) c')) :=
      ((KeepsOthers.alloc W _).trans (KeepsOthers.of_grownBy hg1 fun j o ej hj => (hO.alloc _).cellsAt ej hj)).trans (KeepsOthers.setCell _ _ _)
    refine ⟨hK.from _, ⟨hK.walks, ?_⟩, ⟨A', c', ?_, ?_, ?_⟩, ?_⟩
    · exact (((Below.refl n0 W).alloc (by omega) _).grown hg1 (by simp; omega) (fun k e => by have := (hO.lt k e).1; omega)).setCell (p := ⟨w.heap.size, 0, none⟩) hn0 _
    · have := hA2.set 0 (.slice A' (pre.length + 1) c')
      simpa using this
    · have := hO1.under (p := ⟨w.heap.size, 0, none⟩) (by simp) (.slice A' (pre.length + 1) c')
      simpa using this
    · simp
      omega
    · exact hgB.setCell (p := ⟨w.heap.size, 0, none⟩) (Nat.le_refl _) _
  case done =>
    rintro D ys W hD hS ⟨⟨A, c, hA, hO, hN1⟩, hB⟩ hK
    have cA := hA.cell 0
    gi_wp2
    refine ⟨by simp, .inl ⟨_, _, rfl, run_takeDeferred hK, ?_⟩⟩
    exact ⟨_, results_tmp rfl _ _ _, A, c, ys, rfl, hS, (hO.keptBy (grownBy_putObj' W D _) (fun r e => by cases e; exact ⟨_, hK, rfl⟩)).from_ (by omega), hB.trans (belowK_b (w := w) (Nat.le_refl _) W D _ _ (by omega) hK rfl rfl)⟩
  case stop =>
    rintro D c pre W _ _ h _
    exact h.elim

/-- slices.Collect over whatever such iterator. -/
theorem collectSeqQ (n : Nat) (hn : 3 ≤ n) (gf : Nat) (lb : Array Value) (eg : ∀ args w, (callFunc gf args).run Tryz.prog w = .ok (.enter gf args) w) (S Sp : List Qd → Prop) (N : Nat) (hN : N ≤ 1000) (n0 : Nat) (w : World) (hn0 : n0 ≤ w.heap.size)
    (hseq : SeqStopsK Fence.wide (n - 1) Tryz.prog gf lb encQ (Kp2 n0) S Sp N w) :
    Calls Tryz.prog 163 #[.func (.func gf) #[] lb] w fun e W' =>
      ∃ A c xs, e = .returned (.slice A xs.length c) ∧ S xs ∧ Ow eQ W' w.heap.size A xs.length c xs ∧ Below w.heap.size w W' := by
  have hq := callsIn_wide.1 (appendSeqQ n hn gf lb eg S Sp N hN n0 w hn0 hseq)
  clear hseq
  go_enter Tryz.func163, Tryz.ntmps163
  go_wp2_with (go_at_call 170; refine hq.mono ?_; rintro e w1 ⟨A, c, xs, rfl, hS, hO, hB⟩)
  go_ret
  exact ⟨A, c, xs, rfl, hS, hO, hB⟩
end Go.Proofs.YtmaillakhhdkfaaGreatDoor
/-
  maps.Values over a map of queued hints: each value once, in whatever order (as Vals, at queued hints).
-/
namespace Go.Proofs.YtmaillakhhdkfaaGreatDoor
set_option maxRecDepth 20000
open Go.RowKit Go.Shelf
open Go.ChangeMaps Go.MapKept
set_option linter.unusedSimpArgs false
set_option linter.unusedVariables false

attribute [local go_sem] Oper.semAt_some

/-- A walk over the map under way: these are still to come. -/
def QRan (w : World) (b r : Nat) (left : List Qd) : Prop :=
  ∃ es clock since seen c0, w.heap[b]? = some (.map es clock) ∧ w.heap[r]? = some (.mapIter (some b) since seen c0) ∧ (∀ x ∈ es.toList, x.born < since) ∧ (es.toList.map (·.born)).Nodup ∧ since ≤ c0 ∧ since ≤ clock ∧
    (leftOf es seen).toList.map (·.val) = left.map qdV

section
variable {w w' : World} {b r : Nat} {left L : List Qd}
theorem QRan.of_walks (h : QRan w b r left) (hk : KeepsWalks w w') : QRan w' b r left := by
  obtain ⟨es, clock, since, seen, c0, h1, h2, rest⟩ := h
  exact ⟨es, clock, since, seen, c0, hk.same b _ h1 rfl, hk.same r _ h2 rfl, rest⟩
theorem QRan.lt (h : QRan w b r left) : r < w.heap.size := by
  obtain ⟨es, clock, since, seen, c0, h1, h2, rest⟩ := h
  exact (Array.getElem?_eq_some_iff.1 h2).1
theorem QRan.iter (h : QRan w b r left) : ∃ o : Obj, w.heap[r]? = some o ∧ o.isWalk = true := by
  obtain ⟨es, clock, since, seen, c0, h1, h2, rest⟩ := h
  exact ⟨_, h2, rfl⟩
theorem QRan.alloc (h : QRan w b r left) (o : Obj) : QRan (w.alloc o) b r left := h.of_walks (KeepsWalks.alloc _ _)
theorem QRan.left_eq (h : QRan w b r left) : w.rangeLeft b r = left.length := by
  obtain ⟨es, clock, since, seen, c0, h1, h2, _, _, _, _, hm⟩ := h
  simp only [World.rangeLeft, h1, h2]
  have := congrArg List.length hm
  simpa using this
theorem QMap.range (h : QMap w b L) : ∃ w', (Instr.range 194 (.map (some b))).run Tryz.prog w = .ok (.pointer (some ⟨w.heap.size, 0, none⟩)) w' ∧ QRan w' b w.heap.size L ∧ w.grownBy w' none ∧ w'.heap.size = w.heap.size + 1 := by
  have hlt := h.lt
  obtain ⟨es, clock, hb, hm, hc, hd⟩ := h
  refine ⟨_, run_range_map w _ _ _ b es clock Tryz.underlying194 hb, ⟨es, clock, clock, #[], clock, (Below.heap_alloc w _ b hlt).trans hb, heap_alloc_new w _, hc, hd, Nat.le_refl _, Nat.le_refl _, ?_⟩, World.grownBy_alloc w _ none, by simp⟩
  have h1 := congrArg (List.map Prod.snd) hm
  have h2 : leftOf es #[] = es := by
    unfold leftOf
    rw [Array.filter_eq_self]
    intro a _
    simp
  rw [h2]
  simpa [List.map_map, Function.comp_def] using h1

theorem filter_oneQ (e : MapEntry) : ∀ (l : List MapEntry), (l.map (·.born)).Nodup → e ∈ l → ∃ l1 l2, l = l1 ++ e :: l2 ∧ l.filter (fun x => !(x.born == e.born)) = l1 ++ l2
  | x :: l, hn, he => by
    have hn' : x.born ∉ l.map (·.born) ∧ (l.map (·.born)).Nodup := List.nodup_cons.1 hn
    by_cases hx : x.born = e.born
    · have hxe : e = x := by
        rcases List.mem_cons.1 he with h | h
        · exact h
        · exact absurd (List.mem_map.2 ⟨e, h, hx.symm⟩) hn'.1
      subst hxe
      refine ⟨[], l, rfl, ?_⟩
      rw [List.filter_cons]
      simp only [beq_self_eq_true, Bool.not_true, Bool.false_eq_true, if_false, List.nil_append]
      rw [List.filter_eq_self]
      intro y hy
      have : y.born ≠ e.born := fun h => hn'.1 (List.mem_map.2 ⟨y, hy, h⟩)
      simpa using this
    · have he' : e ∈ l := by
        rcases List.mem_cons.1 he with h | h
        · exact absurd (by rw [h]) hx
        · exact h
      obtain ⟨l1, l2, h1, h2⟩ := filter_oneQ e l hn'.2 he'
      refine ⟨x :: l1, l2, by rw [h1]; rfl, ?_⟩
      rw [List.filter_cons, h2]
      simp [hx]

theorem map_splitQ {l1 l2 : List MapEntry} {e : MapEntry} : ∀ {left : List Qd}, (l1 ++ e :: l2).map (·.val) = left.map qdV → ∃ m1 x m2, left = m1 ++ x :: m2 ∧ e.val = qdV x ∧ (l1 ++ l2).map (·.val) = (m1 ++ m2).map qdV := by
  intro left h
  rw [List.map_append, List.map_cons] at h
  obtain ⟨m1, m2', h1, h2, h3⟩ := List.map_eq_append_iff.1 h.symm
  obtain ⟨x, m2, h4, h5, h6⟩ := List.map_eq_cons_iff.1 h3
  exact ⟨m1, x, m2, by rw [h1, h4], h5.symm, by rw [List.map_append, List.map_append, h2, h6]⟩

theorem QRan.next (h : QRan w b r left) (hne : r ≠ b) (ty : TypeId) :
    (left = [] ∧ (Instr.next (.pointer (some ⟨r, 0, none⟩)) false ty).run Tryz.prog w = .ok (.tuple #[.bool false]) w) ∨
    ∃ (m1 : List Qd) (x : Qd) (m2 : List Qd) (key : Value) (w' : World), left = m1 ++ x :: m2 ∧ (Instr.next (.pointer (some ⟨r, 0, none⟩)) false ty).run Tryz.prog w = .ok (.tuple #[.bool true, key, qdV x]) w' ∧
      QRan w' b r (m1 ++ m2) ∧ w.grownBy w' (some r) ∧ w'.heap.size = w.heap.size ∧ (Instr.entry (.pointer (some ⟨r, 0, none⟩))).run Tryz.prog w' = .ok (.tuple #[key, qdV x]) w' := by
  obtain ⟨es, clock, since, seen, c0, hb, hr, hold, hnd, hsc, hsk, hm⟩ := h
  rcases run_next_at (P := Tryz.prog) w ty r b since c0 seen es clock hr hb hold hsc with ⟨h0, hrun⟩ | ⟨e, he, w1, hal, hrun⟩
  · left
    refine ⟨?_, hrun⟩
    have := congrArg List.length hm
    rw [List.length_map, List.length_map, Array.length_toList, h0] at this
    exact List.eq_nil_of_length_eq_zero this.symm
  · right
    obtain ⟨hem, hes⟩ := mem_left he
    have hsub : ((leftOf es seen).toList.map (·.born)).Nodup := by
      unfold leftOf
      rw [Array.toList_filter]
      exact List.Nodup.sublist (List.Sublist.map _ List.filter_sublist) hnd
    obtain ⟨l1, l2, e1, e2⟩ := filter_oneQ e _ hsub he
    rw [e1] at hm
    obtain ⟨m1, x, m2, hl, hv, hm2⟩ := map_splitQ hm
    have hr1 : w1.heap[r]? = some (.mapIter (some b) since seen c0) := by rcases hal with rfl | rfl <;> exact hr
    have hb1 : w1.heap[b]? = some (.map es clock) := by rcases hal with rfl | rfl <;> exact hb
    have hset := heap_set (o' := .mapIter (some b) since (seen.push e.born) clock) hr1
    have hb' : (setBlock w1 r (.mapIter (some b) since (seen.push e.born) clock)).heap[b]? = some (.map es clock) := (hset.2 b (fun e1 => hne e1.symm)).trans hb1
    refine ⟨m1, x, m2, e.key, _, hl, by rw [← hv]; exact hrun, ⟨es, clock, since, seen.push e.born, clock, hb', hset.1, hold, hnd, hsk, hsk, ?_⟩, ?_, ?_, ?_⟩
    · rw [← hm2, ← e2]
      congr 1
      unfold leftOf
      rw [Array.toList_filter, Array.toList_filter, List.filter_filter]
      congr 1
      funext y
      rw [contains_push]
      cases seen.contains y.born <;> cases (y.born == e.born) <;> rfl
    · rcases hal with rfl | rfl <;> exact ⟨rfl, rfl, rfl, by simp [setBlock], fun i _ hi => hset.2 i (fun e1 => hi (by rw [e1]))⟩
    · rcases hal with rfl | rfl <;> simp [setBlock]
    · rw [← hv]
      exact run_entry_at _ r b since seen es clock e hset.1 hb' hem hnd
end

section
variable {F : Fence} {k : Nat} (w : World) {ops : Array Oper} {rest : List Oper} {o : Oper} {a : Act} {Q : Exit → Act → World → Prop}
theorem wpListIn_range_q (hg : o.guard = none) (m : Operand) (hop : o.op = Op.range 194 m) (b : Nat) (L : List Qd) (hm : a.eval m = .map (some b)) (h : QMap w b L)
    (hK : ∀ w', QRan w' b w.heap.size L → w.grownBy w' none → w'.heap.size = w.heap.size + 1 → wpListIn F k Tryz.prog ops Q rest (a.put o.dst (.pointer (some ⟨w.heap.size, 0, none⟩))) w') : wpListIn F k Tryz.prog ops Q (o :: rest) a w := by
  refine wpListIn_plain hg fun K' hK' => ?_
  obtain ⟨w', hrun, hs, hg1, hs1⟩ := h.range
  unfold Oper.wpIn
  refine ⟨?_, ?_⟩
  · simp [Oper.about, hop]
  · rw [Oper.semAt_plain F _ _ (by rw [hop]; intro c hc'; cases hc')]
    simp [execOp, hop, hm, hrun, Result.andThen]
    exact hK' _ _ (hK _ hs hg1 hs1)
theorem wpListIn_next_q (hg : o.guard = none) (it : Operand) (hop : o.op = Op.next it false) (b r : Nat) (left : List Qd) (hne : r ≠ b) (hit : a.eval it = .pointer (some ⟨r, 0, none⟩)) (h : QRan w b r left)
    (hDone : left = [] → wpListIn F k Tryz.prog ops Q rest (a.put o.dst (.tuple #[.bool false])) w)
    (hMore : ∀ (m1 : List Qd) (a0 a1 a2 a3 a4 a5 a6 a7 : Int) (m2 : List Qd) (key : Value) (w' : World), left = m1 ++ (a0, a1, (a2, a3, a4, a5), a6, a7) :: m2 → QRan w' b r (m1 ++ m2) → w.grownBy w' (some r) → w'.heap.size = w.heap.size → (Instr.entry (.pointer (some ⟨r, 0, none⟩))).run Tryz.prog w' = .ok (.tuple #[key, .agg #[.int .i64 a0, .int .i64 a1, .int .i64 a2, .int .i64 a3, .int .i64 a4, .int .i64 a5, .int .i64 a6, .int .i64 a7]]) w' →
      wpListIn F k Tryz.prog ops Q rest (a.put o.dst (.tuple #[.bool true, key, .agg #[.int .i64 a0, .int .i64 a1, .int .i64 a2, .int .i64 a3, .int .i64 a4, .int .i64 a5, .int .i64 a6, .int .i64 a7]])) w') : wpListIn F k Tryz.prog ops Q (o :: rest) a w := by
  refine wpListIn_plain hg fun K' hK' => ?_
  unfold Oper.wpIn
  refine ⟨by simp [Oper.about, hop], ?_⟩
  rw [Oper.semAt_plain F _ _ (by rw [hop]; intro c hc'; cases hc')]
  rcases h.next hne o.type with ⟨h0, hrun⟩ | ⟨m1, ⟨a0, a1, ⟨a2, a3, a4, a5⟩, a6, a7⟩, m2, key, w', hl, hrun, hs, hgr, hsz, hen⟩
  · simp [execOp, hop, hit, hrun, Result.andThen]
    exact hK' _ _ (hDone h0)
  · simp [execOp, hop, hit, hrun, Result.andThen]
    exact hK' _ _ (hMore m1 a0 a1 a2 a3 a4 a5 a6 a7 m2 key w' hl hs hgr hsz hen)
end

set_option maxRecDepth 100000 in
set_option maxHeartbeats 4000000 in
theorem values_inQ (n : Nat) (hn : 1 ≤ n) (l Bm b nB : Nat) (L : List Qd) (J Jx : List Qd → World → Prop)
    (hY : ∀ pre x W, J pre W → pre.length < L.length → YieldAt Fence.wide (n - 1) Tryz.prog l (encQ x) W fun e W' =>
      (e = .returned (.bool true) ∧ J (pre ++ [x]) W' ∧ Kp2 nB W W') ∨ (e = .returned (.bool false) ∧ Jx (pre ++ [x]) W'))
    (W : World) (hJ : AbidesFrom W.heap.size J) (hm : W.cell? ⟨Bm, 0, none⟩ = some (.map (some b))) (hs : QMap W b L) (h0 : J [] W) :
    CallsIn Fence.wide n Tryz.prog 165 #[.func (.yield l) #[] #[], .pointer (some ⟨Bm, 0, none⟩)] W fun e W' => (∃ v, e = .returned v) ∧
      ((∃ xs, xs.Perm L ∧ J xs W') ∨ (∃ pre, True ∧ Jx pre W')) := by
  have hro : Fence.wide.round = none := rfl
  have hT : Fence.wide.fn 165 := trivial
  have hbW := hs.lt
  refine callsIn_of_wp Tryz.func165 rfl hT ?_ hro
  simp only [Tryz.ntmps165, List.size_toArray, List.length_cons, List.length_nil, Nat.reduceAdd, Nat.reduceSub, Array.replicate_succ, Array.replicate_zero, List.push_toArray, List.append_toArray, List.nil_append, List.cons_append]
  gi_wp2_with (first
    | (gi_at_range; refine wpListIn_range_q _ rfl _ rfl b L rfl hs ?_; intro w0 hr0 hg0 hs0)
    | gi_in)
  go_frame
  gi_loopw [4] (fun _ wr => ∃ (left ps : List Qd), QRan wr b W.heap.size left ∧ (ps ++ left).Perm L ∧ J ps wr) (fun _ wr => wr.rangeLeft b W.heap.size)
  case atStart => exact ⟨L, [], hr0, by simp, hJ [] W w0 none h0 hg0 (fun r e => by cases e)⟩
  case round =>
    obtain ⟨left, ps, hrg, hp, hJs⟩ := hrel
    gi_wp2_with (first
      | (gi_at_next; refine wpListIn_next_q _ rfl _ rfl b W.heap.size left (by omega) rfl hrg ?_ ?_)
      | gi_in)
    · intro hl
      subst hl
      gi_wp2
      go_end0
      exact ⟨⟨_, rfl⟩, .inl ⟨ps, by simpa using hp, hJs⟩⟩
    · intro m1 a0 a1 a2 a3 a4 a5 a6 a7 m2 key w2 hl hrg2 hg2 hs2 hen
      have hlen : ps.length < L.length := by
        have := hp.length_eq
        rw [hl, List.length_append, List.length_append, List.length_cons] at this
        omega
      have hJ2 : J ps w2 := hJ ps wr w2 (some W.heap.size) hJs hg2 (fun r e => by cases e; exact ⟨Nat.le_refl _, hrg.iter⟩)
      have hJ3 := abides_belowQ hJ hJ2 ((Below.refl w2.heap.size w2).alloc (Nat.le_refl _) (.cells (#[.int .i64 a0, .int .i64 a1, .int .i64 a2, .int .i64 a3, .int .i64 a4, .int .i64 a5, .int .i64 a6, .int .i64 a7]) 222))
      have hrg3 := hrg2.alloc (.cells (#[.int .i64 a0, .int .i64 a1, .int .i64 a2, .int .i64 a3, .int .i64 a4, .int .i64 a5, .int .i64 a6, .int .i64 a7]) 222)
      have Hp := Lib.hid (show (ps ++ [(a0, a1, (a2, a3, a4, a5), a6, a7)] ++ (m1 ++ m2)).Perm L from by
        rw [hl] at hp
        refine List.Perm.trans ?_ hp
        rw [List.append_assoc]
        refine List.Perm.append_left ps ?_
        rw [List.singleton_append]
        exact List.perm_middle.symm)
      have Hm := Lib.hid (show (m1 ++ m2).length < left.length by rw [hl]; simp)
      clear hl hp
      obtain ⟨fn, tmps, assign, body, hy, hR⟩ := hY ps (a0, a1, (a2, a3, a4, a5), a6, a7) _ hJ3 hlen
      dsimp only [encQ] at hy
      gi_wp2
      refine hR.mono ?_
      rintro e W3 (⟨rfl, hJ4, hk4⟩ | ⟨rfl, hJx4⟩)
      · gi_wp2
        have hrg4 := hrg3.of_walks hk4.1
        go_roundw
        case rel => exact ⟨m1 ++ m2, ps ++ [(a0, a1, (a2, a3, a4, a5), a6, a7)], hrg4, Hp.out, hJ4⟩
        case measure => rw [hrg4.left_eq, hrg.left_eq]; exact Hm.out
      · gi_wp2
        refine bodyPost_ret (results_none rfl _ _ _) rfl ?_
        exact ⟨⟨_, rfl⟩, .inr ⟨_, trivial, hJx4⟩⟩
end Go.Proofs.YtmaillakhhdkfaaGreatDoor
/-
  Queued hints sorted by their turns, and what comes out of a map of them (as SortP, MergeP, at queued hints).
-/
namespace Go.Proofs.YtmaillakhhdkfaaGreatDoor
set_option maxRecDepth 20000
open Go.RowKit Go.Sort Go.Shelf
set_option linter.unusedSimpArgs false
set_option linter.unusedVariables false

def turnM (x y : Qd) : Int := cmpM x.1 y.1
theorem ltOf_turn (x y : Qd) : ltOf turnM x y = decide (x.1 < y.1) := by
  show decide (cmpM x.1 y.1 < 0) = _
  rcases cmpM_range x.1 y.1 with ⟨h, k⟩ | ⟨h, k⟩ | ⟨h, k⟩
  · rw [h]; simp [k]
  · rw [h, k]; simp
  · rw [h]
    have : ¬ x.1 < y.1 := by omega
    simp [this]
theorem swoTurn : SWO (ltOf turnM) where
  irrefl x := by rw [ltOf_turn]; simp
  trans x y z h k := by
    rw [ltOf_turn] at *
    simp only [decide_eq_true_eq] at *
    omega
  ntrans x y z h k := by
    rw [ltOf_turn] at *
    simp only [decide_eq_false_iff_not] at *
    omega
theorem sorted_pairsQ {d : Array Qd} (h : SortedIn (ltOf turnM) 0 d.size d) : d.toList.Pairwise fun x y => ¬ y.1 < x.1 := by
  rw [List.pairwise_iff_getElem]
  intro i j hi hj hij
  have hi' : i < d.size := by simpa using hi
  have hj' : j < d.size := by simpa using hj
  have := h i j (Nat.zero_le _) hij hj'
  rw [ltOf_turn, getElem!_pos d j hj', getElem!_pos d i hi'] at this
  simpa using this
theorem grown2 (w : World) (a b : Obj) : ∃ q os', (w.alloc a).alloc b = grow (w.drewN q) os' := by
  refine ⟨0, #[a] ++ #[b], ?_⟩
  rw [alloc_eq_grow, alloc_eq_grow, grow_grow]
  rfl

set_option maxHeartbeats 1000000 in
theorem turnG (a0 a1 a2 a3 a4 a5 a6 a7 b0 b1 b2 b3 b4 b5 b6 b7 : Int) (w : World) :
    Calls Tryz.prog 155 #[.agg #[.int .i64 a0, .int .i64 a1, .int .i64 a2, .int .i64 a3, .int .i64 a4, .int .i64 a5, .int .i64 a6, .int .i64 a7], .agg #[.int .i64 b0, .int .i64 b1, .int .i64 b2, .int .i64 b3, .int .i64 b4, .int .i64 b5, .int .i64 b6, .int .i64 b7]] w fun e w' =>
      e = .returned (.int .i64 (turnM (a0, a1, (a2, a3, a4, a5), a6, a7) (b0, b1, (b2, b3, b4, b5), b6, b7))) ∧ ∃ q os', w' = grow (w.drewN q) os' := by
  go_enter Tryz.func155, Tryz.ntmps155
  go_wp2_with (go_at_call 156; refine (cmpCompare _ _ _).mono ?_; rintro e w1 ⟨rfl, rfl⟩)
  go_ret
  exact ⟨rfl, grown2 _ _ _⟩

theorem cell_rowQ {x : Qd} {j : Nat} (hj : j < 8) : (qdCells x)[j]? = some ((qdCells x)[j]!) := by
  have : j < (qdCells x).length := hj
  rw [List.getElem?_eq_getElem this, getElem!_pos (qdCells x) j this]
theorem flatK_rowQ (d : Array Qd) : (flatK qdCells 8 d).toList = eQ.row d.toList := by
  apply List.ext_getElem?
  intro i
  rcases Nat.lt_or_ge i (d.size * 8) with h | h
  · have hk : i / 8 < d.size := by omega
    have hd : d.toList[i / 8]? = some d[i / 8]! := by
      rw [Array.getElem?_toList, Array.getElem?_eq_getElem hk, getElem!_pos d _ hk]
    have h1 := okQ.row_at d.toList (i / 8) (i % 8) _ hd (Nat.mod_lt _ (by decide))
    rw [show i / 8 * eQ.size + i % 8 = i by show i / 8 * 8 + i % 8 = i; omega] at h1
    rw [h1, Array.getElem?_toList]
    have hs : i < (flatK qdCells 8 d).size := by simpa using h
    have h2 := get_flatK qdCells 8 d i h
    rw [getElem!_pos (flatK qdCells 8 d) i hs] at h2
    rw [Array.getElem?_eq_getElem hs, h2]
    exact (cell_rowQ (Nat.mod_lt _ (by decide))).symm
  · rw [List.getElem?_eq_none (by simpa using h), List.getElem?_eq_none (by rw [okQ.row_len]; simpa [eQ] using h)]
theorem holdsK_ofQ {w : World} {base g n c : Nat} {l : List Qd} (how : Ow eQ w base (some ⟨g, 0, none⟩) n c l) : HoldsK qdCells 8 w g 0 l.toArray := fun j hj => by
  have hs : (flatK qdCells 8 l.toArray).size = l.length * 8 := by simp
  have hlen := Ow.len okQ how
  have h1 : (eQ.row l)[j]? = some (flatK qdCells 8 l.toArray)[j]! := by
    have := flatK_rowQ l.toArray
    rw [show (l.toArray).toList = l from rfl] at this
    rw [← this, Array.getElem?_toList, Array.getElem?_eq_getElem hj, getElem!_pos (flatK qdCells 8 l.toArray) j hj]
  refine ⟨?_, how.frozenAt _⟩
  rw [World.ownsRow.cellAt how _ (by rw [hs] at hj; show 0 + j < n * 8; omega), Nat.zero_add, h1]
  rfl
theorem ow_sortedQ {w : World} {base g n c m : Nat} {l : List Qd} {d : Array Qd} {os : Array Obj} (how : Ow eQ w base (some ⟨g, 0, none⟩) n c l) (hd : d.size = n) :
    Ow eQ (sortWorldK qdCells 8 w g 0 m d os) base (some ⟨g, 0, none⟩) n c d.toList := by
  refine ⟨by rw [okQ.row_len]; simp [hd], .inr ?_⟩
  rcases how.2 with ⟨h0, _⟩ | ⟨g', cap, cur, hv, hb, hg, h1, h2, h3, h4⟩
  · simp at h0
  · simp only [Value.slice.injEq, Option.some.injEq, Addr.mk.injEq, true_and, and_true] at hv
    obtain ⟨rfl, rfl⟩ := hv
    have hF : (flatK qdCells 8 d).size = n * 8 := by simp [hd]
    have hlt : g < w.heap.size := (Array.getElem?_eq_some_iff.1 hg).1
    refine ⟨g, c, putCells id 0 (flatK qdCells 8 d) cur, rfl, hb, ?_, h1, h2, by unfold putCells; simpa using h3, ?_⟩
    · show ((w.heap.modify g (onCells (putCells id 0 (flatK qdCells 8 d)))) ++ os)[g]? = _
      rw [Array.getElem?_append_left (by rw [Array.size_modify]; exact hlt), Array.getElem?_modify, if_pos rfl, hg]
      rfl
    · rw [← flatK_rowQ]
      apply List.ext_getElem?
      intro j
      rw [List.getElem?_take]
      have hcs : n * 8 ≤ cur.size := by
        rw [h3]
        exact Nat.mul_le_mul_right _ h1
      split
      · rename_i hj
        have hj' : j < n * 8 := hj
        have hjc : j < cur.size := by omega
        unfold putCells
        rw [Array.getElem?_toList, Array.getElem?_mapIdx, Array.getElem?_eq_getElem hjc, Option.map_some, if_pos ⟨Nat.zero_le _, by omega⟩, Nat.sub_zero, Array.getElem?_toList, Array.getElem?_eq_getElem (by omega), getElem!_pos (flatK qdCells 8 d) j (by omega)]
        rfl
      · rename_i hj
        rw [List.getElem?_eq_none]
        have : ¬ j < n * 8 := hj
        simp
        omega

set_option maxHeartbeats 1000000 in
theorem sortQd (A : Option Addr) (n c base : Nat) (l : List Qd) (w : World) (how : Ow eQ w base A n c l) (hn : n ≤ 1000) :
    Calls Tryz.prog 164 #[.slice A n c, .func (.func 155) #[] #[]] w fun e w' =>
      e = .returned (.tuple #[]) ∧ ∃ ys : List Qd, ys.Perm l ∧ (ys.Pairwise fun x y => ¬ y.1 < x.1) ∧ Ow eQ w' base A n c ys ∧ Below base w w' := by
  have hlen := Ow.len okQ how
  rcases Nat.eq_zero_or_pos n with h0 | h0
  · subst h0
    obtain rfl : l = [] := List.eq_nil_of_length_eq_zero hlen
    have h : Calls Tryz.prog 164 #[.slice A 0 c, .func (.func 155) #[] #[]] w fun e w' => e = .returned (.tuple #[]) ∧ w' = w :=
      AnyF.slices_SortFunc_none sortQ A c _ w
    refine h.mono ?_
    rintro e w' ⟨rfl, rfl⟩
    exact ⟨rfl, [], List.Perm.refl _, List.Pairwise.nil, how, Below.refl _ _⟩
  · obtain ⟨g, rfl, hb, hg⟩ := how.form h0
    have hsz : l.toArray.size = n := by simpa using hlen
    have hcmp : CmpLays Tryz.prog 155 #[] qdCells 8 turnM g 0 l.toArray.size w := fun m os dk _ x y => by
      obtain ⟨a0, a1, ⟨a2, a3, a4, a5⟩, a6, a7⟩ := x
      obtain ⟨b0, b1, ⟨b2, b3, b4, b5⟩, b6, b7⟩ := y
      exact turnG a0 a1 a2 a3 a4 a5 a6 a7 b0 b1 b2 b3 b4 b5 b6 b7 _
    have h : Calls Tryz.prog 164 #[.slice (some ⟨g, 0, none⟩) l.toArray.size c, .func (.func 155) #[] #[]] w fun e w' =>
        e = .returned (.tuple #[]) ∧ ∃ d' n os, PermIn 0 l.toArray.size l.toArray d' ∧ SortedIn (ltOf turnM) 0 l.toArray.size d' ∧ w' = sortWorldK qdCells 8 w g 0 n d' os :=
      AnyQ.slices_SortFunc sortQ 8 (fun w => Tryz.isAgg222 w) (fun w => Tryz.sizeOf222 w) qdCells (fun _ => rfl) (fun x v hv => okQ.one x v hv) turnM swoTurn 155 #[] g 0 c l.toArray w
        (enters_of Tryz.func155 (by kernel_rfl) rfl) hcmp (holdsK_ofQ how) hg (by omega)
    rw [hsz] at h
    refine h.mono ?_
    rintro e w' ⟨rfl, d, m, os, ⟨hp1, _, hp2⟩, hso, rfl⟩
    have hds : d.size = n := hp1.trans hsz
    have e1 : d.extract 0 n = d := by rw [← hds]; exact Array.extract_size
    have e2 : l.toArray.extract 0 n = l.toArray := by rw [← hsz]; exact Array.extract_size
    rw [e1, e2] at hp2
    refine ⟨rfl, d.toList, hp2, sorted_pairsQ (by rw [hds]; exact hso), ow_sortedQ how hds, ?_⟩
    refine ⟨rfl, rfl, rfl, ?_, fun k hk => ?_⟩
    · show w.heap.size ≤ ((w.heap.modify g (onCells (putCells id 0 (flatK qdCells 8 d)))) ++ os).size
      rw [Array.size_append, Array.size_modify]
      omega
    · show ((w.heap.modify g (onCells (putCells id 0 (flatK qdCells 8 d)))) ++ os)[k]? = w.heap[k]?
      rw [Array.getElem?_append_left (by rw [Array.size_modify]; omega), Array.getElem?_modify, if_neg (by omega)]
theorem valuesOfQ (b : Nat) (w : World) :
    Calls Tryz.prog 154 #[.map (some b)] w fun e w' =>
      e = .returned (.func (.func 165) #[] #[.pointer (some ⟨w.heap.size, 0, none⟩)]) ∧ w' = w.alloc (.cells #[.map (some b)] 194) := by
  go_enter Tryz.func154, Tryz.ntmps154
  go_wp2
  go_ret
  exact ⟨rfl, rfl⟩

theorem values_stopsQ (n : Nat) (hn : 1 ≤ n) (b Bm n0 : Nat) (L : List Qd) (w : World) (hs : QMap w b L) (hm : At w Bm 194 #[.map (some b)]) :
    SeqStopsK Fence.wide n Tryz.prog 165 #[.pointer (some ⟨Bm, 0, none⟩)] encQ (Kp2 n0) (fun xs => xs.Perm L) (fun _ => True) L.length w := fun l J Jx W hW hJ hJx hY h0 =>
  values_inQ n hn l Bm b n0 L J Jx hY W hJ ((hm.below hW hm.lt).cell 0) (hs.below hW hs.lt) h0

set_option maxHeartbeats 1000000 in
theorem sortedFuncQ (b Bm : Nat) (L : List Qd) (w : World) (hs : QMap w b L) (hm : At w Bm 194 #[.map (some b)]) (hL : L.length ≤ 1000) :
    Calls Tryz.prog 153 #[.func (.func 165) #[] #[.pointer (some ⟨Bm, 0, none⟩)], .func (.func 155) #[] #[]] w fun e w' =>
      ∃ A n c ys, e = .returned (.slice A n c) ∧ ys.Perm L ∧ (ys.Pairwise fun x y => ¬ y.1 < x.1) ∧ Ow eQ w' w.heap.size A n c ys ∧ Below w.heap.size w w' := by
  have hC := collectSeqQ 4 (by omega) _ _ (enters_of Tryz.func165 (by kernel_rfl) rfl) _ _ L.length hL w.heap.size w (Nat.le_refl _) (values_stopsQ 3 (by omega) b Bm w.heap.size L w hs hm)
  clear hs hm
  go_enter Tryz.func153, Tryz.ntmps153
  go_wp2_with fail
  refine hC.mono ?_
  rintro e w1 ⟨A, c, xs, rfl, hp, ow, hb⟩
  have hS := sortQd A xs.length c w.heap.size xs w1 ow (by rw [hp.length_eq]; exact hL)
  go_wp2_with fail
  refine hS.mono ?_
  rintro e w2 ⟨rfl, ys, hp2, hpw, ow2, hb2⟩
  have hB2 := hb.trans hb2
  have Hp := Lib.hid (hp2.trans hp)
  clear hC hS hp hp2
  go_wp2
  go_ret
  first | exact ⟨A, xs.length, c, ys, rfl, Hp.out, hpw, ow2, hB2⟩ | exact ⟨A, xs.length, c, rfl, ys, Hp.out, hpw, ow2, hB2⟩

end Go.Proofs.YtmaillakhhdkfaaGreatDoor
/-
  A map's store and delete at one operation.
-/
namespace Go.Proofs.YtmaillakhhdkfaaGreatDoor
set_option maxRecDepth 20000
open Go.RowKit

theorem wp_mapPut' {P : Program} {o : Oper} {a : Act} {w w' : World} {K : Act → World → Prop} {Q : Exit → Act → World → Prop} (m k v : Operand) (t : TypeId) (hop : o.op = Op.mapUpdate t m k v) {mv kv vv : Value} (hm : a.eval m = mv) (hk : a.eval k = kv) (hv : a.eval v = vv)
    (hrun : (Instr.mapUpdate t mv kv vv).run P w = .ok () w') (h : K (a.put o.dst undef) w') : o.wp P a w K Q := by
  unfold Oper.wp
  simp [execOp, hop, hm, hk, hv, hrun, Result.andThen]
  exact h
theorem wp_mapDrop {P : Program} {o : Oper} {a : Act} {w w' : World} {K : Act → World → Prop} {Q : Exit → Act → World → Prop} (m k : Operand) (t kt : TypeId) (hop : o.op = .call { callee := .builtin .delete, args := #[m, k], argTypes := #[t, kt] }) {mv kv : Value} (hm : a.eval m = mv) (hk : a.eval k = kv)
    (hrun : (Builtin.delete_ #[t, kt] o.type #[mv, kv]).run P w = .ok (.tuple #[]) w') (h : K (a.put o.dst (.tuple #[])) w') : o.wp P a w K Q := by
  unfold Oper.wp execOp
  simp only [hop, resolve, invoke, builtin, Sem.run_bind, Sem.run_pure, Result.andThen_ok, List.map_toArray, List.map_cons, List.map_nil, hm, hk, hrun]
  exact h
end Go.Proofs.YtmaillakhhdkfaaGreatDoor
/-
  The program's queue of hints: put, looked for, taken away, counted, listed.
-/
namespace Go.Proofs.YtmaillakhhdkfaaGreatDoor
set_option maxRecDepth 20000
open Go.RowKit Go.Shelf
set_option linter.unusedSimpArgs false
set_option linter.unusedVariables false

theorem At.apart {w : World} {p b : Nat} {t : TypeId} {cs : Array Value} {L : List Qd} (h : At w p t cs) (k : QMap w b L) : p ≠ b := by
  rintro rfl
  obtain ⟨es, clock, hb, _⟩ := k
  rw [show w.heap[p]? = _ from h] at hb
  cases hb
theorem QMap.stored {w : World} {b : Nat} {L : List Qd} (h : QMap w b L) {p : Addr} (hp : p.block ≠ b) (u : Value) : QMap (w.setCell p u) b L :=
  h.kept (grown_setCell w p u) (fun e => hp (Option.some.inj e.symm))

/-- What is looked up, in plain words. -/
theorem lookQ (L : List Qd) (h : Hnt) (t : Int) : ∃ (q0 q1 q2 q3 q4 q5 q6 q7 : Int) (f : Bool), (∀ u b, QMap u b L → (Instr.lookup 194 (.map (some b)) (keyH h) true).run Tryz.prog u = .ok (.tuple #[.agg #[.int .i64 q0, .int .i64 q1, .int .i64 q2, .int .i64 q3, .int .i64 q4, .int .i64 q5, .int .i64 q6, .int .i64 q7], .bool f]) u) ∧
    turnQ t h L = (if f then q0 else t) ∧ ((firstQ L h).map Prod.snd).getD zeroH = (q1, (q2, q3, q4, q5), q6, q7) ∧ (firstQ L h).isSome = f := by
  rcases hf : firstQ L h with _ | ⟨q0, q1, ⟨q2, q3, q4, q5⟩, q6, q7⟩
  · refine ⟨0, 0, 0, 0, 0, 0, 0, 0, false, fun u b hu => ?_, ?_, rfl, rfl⟩
    · have := hu.look h
      rw [hf] at this
      exact this
    · unfold turnQ
      rw [hf]
      rfl
  · refine ⟨q0, q1, q2, q3, q4, q5, q6, q7, true, fun u b hu => ?_, ?_, rfl, rfl⟩
    · have := hu.look h
      rw [hf] at this
      exact this
    · unfold turnQ
      rw [hf]
      rfl

theorem qNew (w : World) : Calls Tryz.prog 141 #[] w fun e w' => e = .returned (.pointer (some ⟨w.heap.size + 1, 0, none⟩)) ∧ w' = (w.alloc (.map #[] 0)).alloc (.cells #[.int .i64 0, .map (some w.heap.size)] 196) := by
  have hmm := @run_makeMap Tryz.prog
  go_enter Tryz.func141, Tryz.ntmps141
  go_wp2
  go_ret
  exact ⟨by simp, rfl⟩

theorem qSize (p b : Nat) (t : Int) (L : List Qd) (w : World) (hp : At w p 196 #[.int .i64 t, .map (some b)]) (hm : QMap w b L) :
    Calls Tryz.prog 114 #[.pointer (some ⟨p, 0, none⟩)] w fun e w' => e = .returned (.int .i64 (L.length : Int)) ∧ w = w' := by
  obtain ⟨c0, c1, _, _⟩ := hp.two
  have hl := fun ty => hm.len ty
  go_enter Tryz.func114, Tryz.ntmps114
  go_wp2
  go_ret
  exact ⟨rfl, rfl⟩

set_option maxRecDepth 100000 in
set_option maxHeartbeats 4000000 in
theorem qPut (p b B : Nat) (t : Int) (L : List Qd) (a0 a1 a2 a3 a4 a5 a6 : Int) (w : World) (hp : At w p 196 #[.int .i64 t, .map (some b)]) (hm : QMap w b L) (hB : B ≤ p) (hBb : B ≤ b) (ht : 0 ≤ t ∧ t ≤ 1000) :
    Calls Tryz.prog 134 #[.pointer (some ⟨p, 0, none⟩), .agg #[.int .i64 a0, .int .i64 a3], .agg #[.int .i64 a0, .int .i64 a1, .int .i64 a2, .int .i64 a3, .int .i64 a4, .int .i64 a5, .int .i64 a6]] w fun e w' => e = .returned (.tuple #[]) ∧ At w' p 196 #[.int .i64 (t + 1), .map (some b)] ∧ QMap w' b (putQ t (a0, (a1, a2, a3, a4), a5, a6) L) ∧ Below B w w' := by
  obtain ⟨q0, q1, q2, q3, q4, q5, q6, q7, f, hl0, hturn, -, -⟩ := lookQ L (a0, (a1, a2, a3, a4), a5, a6) t
  have hl : ∀ u, QMap u b L → (Instr.lookup 194 (.map (some b)) (.agg #[.int .i64 a0, .int .i64 a3]) true).run Tryz.prog u = .ok (.tuple #[.agg #[.int .i64 q0, .int .i64 q1, .int .i64 q2, .int .i64 q3, .int .i64 q4, .int .i64 q5, .int .i64 q6, .int .i64 q7], .bool f]) u := fun u hu => hl0 u b hu
  clear hl0
  have hne := hp.apart hm
  have Hturn := Lib.hid hturn
  have Hset := Lib.hid (putQ_set t (a0, (a1, a2, a3, a4), a5, a6) L)
  clear hturn
  have p2 := (hp.alloc (.cells #[.int .i64 a0, .int .i64 a3] 161)).alloc (.cells #[.int .i64 a0, .int .i64 a1, .int .i64 a2, .int .i64 a3, .int .i64 a4, .int .i64 a5, .int .i64 a6] 75)
  have m2 := (hm.alloc (.cells #[.int .i64 a0, .int .i64 a3] 161)).alloc (.cells #[.int .i64 a0, .int .i64 a1, .int .i64 a2, .int .i64 a3, .int .i64 a4, .int .i64 a5, .int .i64 a6] 75)
  have k2 := (At.new w 161 #[.int .i64 a0, .int .i64 a3]).alloc (.cells #[.int .i64 a0, .int .i64 a1, .int .i64 a2, .int .i64 a3, .int .i64 a4, .int .i64 a5, .int .i64 a6] 75)
  have i2 : At ((w.alloc (.cells #[.int .i64 a0, .int .i64 a3] 161)).alloc (.cells #[.int .i64 a0, .int .i64 a1, .int .i64 a2, .int .i64 a3, .int .i64 a4, .int .i64 a5, .int .i64 a6] 75)) (w.heap.size + 1) 75 #[.int .i64 a0, .int .i64 a1, .int .i64 a2, .int .i64 a3, .int .i64 a4, .int .i64 a5, .int .i64 a6] := by
    have := At.new (w.alloc (.cells #[.int .i64 a0, .int .i64 a3] 161)) 75 #[.int .i64 a0, .int .i64 a1, .int .i64 a2, .int .i64 a3, .int .i64 a4, .int .i64 a5, .int .i64 a6]
    simpa using this
  have hB2 : Below B w ((w.alloc (.cells #[.int .i64 a0, .int .i64 a3] 161)).alloc (.cells #[.int .i64 a0, .int .i64 a1, .int .i64 a2, .int .i64 a3, .int .i64 a4, .int .i64 a5, .int .i64 a6] 75)) := ((Below.refl _ _).alloc (by have := hp.lt; omega) _).alloc (by have := hp.lt; simp; omega) _
  have lp := hp.lt
  have lm := hm.lt
  obtain ⟨c0, c1, d0, d1⟩ := p2.two
  clear hp hm
  go_enter Tryz.func134, Tryz.ntmps134
  go_wp2
  clear c0 c1 d0 d1
  refine wp_region_mix [(0, false), (1, false), (2, false), (3, false), (4, false), (5, false), (6, false), (7, false), (8, false), (9, true), (10, true), (11, false)] (fun u => (At u p 196 #[.int .i64 t, .map (some b)] ∧ At u w.heap.size 161 #[.int .i64 a0, .int .i64 a3]) ∧ QMap u b L) (by kernel_rfl) (by kernel_rfl) (fun _ _ _ _ _ h => h) ⟨⟨p2.drew, k2.drew⟩, m2.drew⟩ ?_
  simp only [mixOps, List.map_cons, List.map_nil, List.getElem?_cons_succ, List.getElem?_cons_zero, Option.getD_some]
  iterate 9 (
    refine mix_pure (v := ?_) (by rfl) (fun u hu => ?_) ?_
    rotate_left
    · obtain ⟨⟨h1, h2⟩, h3⟩ := hu
      obtain ⟨_, _, _, _⟩ := h1.two
      obtain ⟨_, _, _, _⟩ := h2.two
      have hlu := hl u h3
      go_simp
      (with_reducible rfl)
    (try simp only [Act.put, List.setIfInBounds_toArray, List.set_cons_zero, List.set_cons_succ]))
  refine mix_call (by rfl) (fun K hK => ?_)
  go_simp
  refine hK _ _ _ (fun _ h => h) ⟨⟨p2.drew.alloc _, k2.drew.alloc _⟩, m2.drew.alloc _⟩ ?_
  (try simp only [Act.put, List.setIfInBounds_toArray, List.set_cons_zero, List.set_cons_succ])
  refine mix_call (by rfl) (fun K hK => ?_)
  go_simp
  have p3 := p2.drew.alloc (.cells #[.int .i64 q0, .int .i64 q1, .int .i64 q2, .int .i64 q3, .int .i64 q4, .int .i64 q5, .int .i64 q6, .int .i64 q7] 222)
  have m3 := m2.drew.alloc (.cells #[.int .i64 q0, .int .i64 q1, .int .i64 q2, .int .i64 q3, .int .i64 q4, .int .i64 q5, .int .i64 q6, .int .i64 q7] 222)
  have k3 := k2.drew.alloc (.cells #[.int .i64 q0, .int .i64 q1, .int .i64 q2, .int .i64 q3, .int .i64 q4, .int .i64 q5, .int .i64 q6, .int .i64 q7] 222)
  have i3 := i2.drew.alloc (.cells #[.int .i64 q0, .int .i64 q1, .int .i64 q2, .int .i64 q3, .int .i64 q4, .int .i64 q5, .int .i64 q6, .int .i64 q7] 222)
  have hB3 := hB2.drew.alloc (by have := hB2.size; have := lp; simp; omega) (.cells #[.int .i64 q0, .int .i64 q1, .int .i64 q2, .int .i64 q3, .int .i64 q4, .int .i64 q5, .int .i64 q6, .int .i64 q7] 222)
  have v3 : At (((w.alloc (.cells #[.int .i64 a0, .int .i64 a3] 161)).alloc (.cells #[.int .i64 a0, .int .i64 a1, .int .i64 a2, .int .i64 a3, .int .i64 a4, .int .i64 a5, .int .i64 a6] 75)).drew.alloc (.cells #[.int .i64 q0, .int .i64 q1, .int .i64 q2, .int .i64 q3, .int .i64 q4, .int .i64 q5, .int .i64 q6, .int .i64 q7] 222)) (w.heap.size + 1 + 1) 222 #[.int .i64 q0, .int .i64 q1, .int .i64 q2, .int .i64 q3, .int .i64 q4, .int .i64 q5, .int .i64 q6, .int .i64 q7] := by
    have := At.new ((w.alloc (.cells #[.int .i64 a0, .int .i64 a3] 161)).alloc (.cells #[.int .i64 a0, .int .i64 a1, .int .i64 a2, .int .i64 a3, .int .i64 a4, .int .i64 a5, .int .i64 a6] 75)).drew 222 #[.int .i64 q0, .int .i64 q1, .int .i64 q2, .int .i64 q3, .int .i64 q4, .int .i64 q5, .int .i64 q6, .int .i64 q7]
    simpa using this
  refine hK _ _ _ (fun _ h => h) ⟨⟨p3, k3⟩, m3⟩ ?_
  (try simp only [Act.put, List.setIfInBounds_toArray, List.set_cons_zero, List.set_cons_succ])
  refine mix_pure (v := ?_) (by rfl) (fun u hu => ?_) ?_
  rotate_left
  · go_simp
    (with_reducible rfl)
  (try simp only [Act.put, List.setIfInBounds_toArray, List.set_cons_zero, List.set_cons_succ])
  refine mix_nil ?_
  have v30 := v3.cell 0
  cases f
  · have HT := Lib.hid (show turnQ t (a0, (a1, a2, a3, a4), a5, a6) L = t from Hturn.out)
    go_wp2
    refine wp_region_mix [(0, false), (1, false), (2, false), (3, false), (4, false), (5, false), (6, false), (7, false), (8, true)] (fun u => (At u p 196 #[.int .i64 t, .map (some b)] ∧ At u w.heap.size 161 #[.int .i64 a0, .int .i64 a3]) ∧ At u (w.heap.size + 1) 75 #[.int .i64 a0, .int .i64 a1, .int .i64 a2, .int .i64 a3, .int .i64 a4, .int .i64 a5, .int .i64 a6]) (by kernel_rfl) (by kernel_rfl) (fun _ _ _ _ _ h => h) ⟨⟨p3.drew, k3.drew⟩, i3.drew⟩ ?_
    simp only [mixOps, List.map_cons, List.map_nil, List.getElem?_cons_succ, List.getElem?_cons_zero, Option.getD_some]
    iterate 8 (
      refine mix_pure (v := ?_) (by rfl) (fun u hu => ?_) ?_
      rotate_left
      · obtain ⟨⟨h1, h2⟩, h3⟩ := hu
        obtain ⟨_, _, _, _⟩ := h1.two
        obtain ⟨_, _, _, _⟩ := h2.two
        obtain ⟨_, _, _, _, _, _, _⟩ := h3.seven
        go_simp
        (with_reducible rfl)
      (try simp only [Act.put, List.setIfInBounds_toArray, List.set_cons_zero, List.set_cons_succ]))
    obtain ⟨w5, hrun, m5, hg5⟩ := m3.drew.put (t, (a0, (a1, a2, a3, a4), a5, a6))
    have p5 := p3.drew.grown hg5 (fun e => hne (Option.some.inj e).symm)
    have hB5 := hB3.drew.grown hg5 (by have := hB3.size; have := lp; simp; omega) (fun g e => by cases e; exact hBb)
    refine mix_call (by rfl) (fun K hK => ?_)
    refine wp_mapPut' _ _ _ _ rfl rfl rfl rfl hrun ?_
    refine hK _ _ _ (fun _ h => h) ⟨⟨p5, k3.drew.grown hg5 (fun e => by have := Option.some.inj e; omega)⟩, i3.drew.grown hg5 (fun e => by have := Option.some.inj e; omega)⟩ ?_
    (try simp only [Act.put, List.setIfInBounds_toArray, List.set_cons_zero, List.set_cons_succ])
    refine mix_nil ?_
    obtain ⟨c0, c1, d0, d1⟩ := p5.two
    have hw : IntKind.i64.wrap (t + 1) = t + 1 := IntWalk.i64_in _ (by omega)
    have p6 := p5.set 0 (.int .i64 (t + 1))
    have m6 := m5.stored (p := ⟨p, 0, none⟩) hne (.int .i64 (t + 1))
    have hB6 := hB5.setCell (p := ⟨p, 0, none⟩) hB (.int .i64 (t + 1))
    go_wp2
    go_end0
    exact ⟨rfl, p6, by rw [Hset.out, HT.out]; exact m6, hB6⟩
  · have HT := Lib.hid (show turnQ t (a0, (a1, a2, a3, a4), a5, a6) L = q0 from Hturn.out)
    go_wp2
    refine wp_region_mix [(0, false), (1, false), (2, false), (3, false), (4, false), (5, false), (6, false), (7, false), (8, true)] (fun u => (At u p 196 #[.int .i64 t, .map (some b)] ∧ At u w.heap.size 161 #[.int .i64 a0, .int .i64 a3]) ∧ At u (w.heap.size + 1) 75 #[.int .i64 a0, .int .i64 a1, .int .i64 a2, .int .i64 a3, .int .i64 a4, .int .i64 a5, .int .i64 a6]) (by kernel_rfl) (by kernel_rfl) (fun _ _ _ _ _ h => h) ⟨⟨p3.drew, k3.drew⟩, i3.drew⟩ ?_
    simp only [mixOps, List.map_cons, List.map_nil, List.getElem?_cons_succ, List.getElem?_cons_zero, Option.getD_some]
    iterate 8 (
      refine mix_pure (v := ?_) (by rfl) (fun u hu => ?_) ?_
      rotate_left
      · obtain ⟨⟨h1, h2⟩, h3⟩ := hu
        obtain ⟨_, _, _, _⟩ := h1.two
        obtain ⟨_, _, _, _⟩ := h2.two
        obtain ⟨_, _, _, _, _, _, _⟩ := h3.seven
        go_simp
        (with_reducible rfl)
      (try simp only [Act.put, List.setIfInBounds_toArray, List.set_cons_zero, List.set_cons_succ]))
    obtain ⟨w5, hrun, m5, hg5⟩ := m3.drew.put (q0, (a0, (a1, a2, a3, a4), a5, a6))
    have p5 := p3.drew.grown hg5 (fun e => hne (Option.some.inj e).symm)
    have hB5 := hB3.drew.grown hg5 (by have := hB3.size; have := lp; simp; omega) (fun g e => by cases e; exact hBb)
    refine mix_call (by rfl) (fun K hK => ?_)
    refine wp_mapPut' _ _ _ _ rfl rfl rfl rfl hrun ?_
    refine hK _ _ _ (fun _ h => h) ⟨⟨p5, k3.drew.grown hg5 (fun e => by have := Option.some.inj e; omega)⟩, i3.drew.grown hg5 (fun e => by have := Option.some.inj e; omega)⟩ ?_
    (try simp only [Act.put, List.setIfInBounds_toArray, List.set_cons_zero, List.set_cons_succ])
    refine mix_nil ?_
    obtain ⟨c0, c1, d0, d1⟩ := p5.two
    have hw : IntKind.i64.wrap (t + 1) = t + 1 := IntWalk.i64_in _ (by omega)
    have p6 := p5.set 0 (.int .i64 (t + 1))
    have m6 := m5.stored (p := ⟨p, 0, none⟩) hne (.int .i64 (t + 1))
    have hB6 := hB5.setCell (p := ⟨p, 0, none⟩) hB (.int .i64 (t + 1))
    go_wp2
    go_end0
    exact ⟨rfl, p6, by rw [Hset.out, HT.out]; exact m6, hB6⟩

set_option maxRecDepth 100000 in
set_option maxHeartbeats 4000000 in
theorem qFind (p b : Nat) (t : Int) (L : List Qd) (k0 k1 q0 q1 q2 q3 q4 q5 q6 q7 : Int) (f : Bool) (w : World) (hp : At w p 196 #[.int .i64 t, .map (some b)]) (hm : QMap w b L)
    (hl : ∀ u, QMap u b L → (Instr.lookup 194 (.map (some b)) (.agg #[.int .i64 k0, .int .i64 k1]) true).run Tryz.prog u = .ok (.tuple #[.agg #[.int .i64 q0, .int .i64 q1, .int .i64 q2, .int .i64 q3, .int .i64 q4, .int .i64 q5, .int .i64 q6, .int .i64 q7], .bool f]) u) :
    Calls Tryz.prog 133 #[.pointer (some ⟨p, 0, none⟩), .agg #[.int .i64 k0, .int .i64 k1]] w fun e w' => e = .returned (.tuple #[.agg #[.int .i64 q1, .int .i64 q2, .int .i64 q3, .int .i64 q4, .int .i64 q5, .int .i64 q6, .int .i64 q7], .bool f]) ∧ Below w.heap.size w w' := by
  have p2 := (hp.alloc (.cells #[.int .i64 k0, .int .i64 k1] 161)).alloc (.cells #[.int .i64 0, .int .i64 0, .int .i64 0, .int .i64 0, .int .i64 0, .int .i64 0, .int .i64 0] 75)
  have m2 := (hm.alloc (.cells #[.int .i64 k0, .int .i64 k1] 161)).alloc (.cells #[.int .i64 0, .int .i64 0, .int .i64 0, .int .i64 0, .int .i64 0, .int .i64 0, .int .i64 0] 75)
  have k2 := (At.new w 161 #[.int .i64 k0, .int .i64 k1]).alloc (.cells #[.int .i64 0, .int .i64 0, .int .i64 0, .int .i64 0, .int .i64 0, .int .i64 0, .int .i64 0] 75)
  have i2 : At ((w.alloc (.cells #[.int .i64 k0, .int .i64 k1] 161)).alloc (.cells #[.int .i64 0, .int .i64 0, .int .i64 0, .int .i64 0, .int .i64 0, .int .i64 0, .int .i64 0] 75)) (w.heap.size + 1) 75 #[.int .i64 0, .int .i64 0, .int .i64 0, .int .i64 0, .int .i64 0, .int .i64 0, .int .i64 0] := by
    have := At.new (w.alloc (.cells #[.int .i64 k0, .int .i64 k1] 161)) 75 #[.int .i64 0, .int .i64 0, .int .i64 0, .int .i64 0, .int .i64 0, .int .i64 0, .int .i64 0]
    simpa using this
  have hB2 : Below w.heap.size w ((w.alloc (.cells #[.int .i64 k0, .int .i64 k1] 161)).alloc (.cells #[.int .i64 0, .int .i64 0, .int .i64 0, .int .i64 0, .int .i64 0, .int .i64 0, .int .i64 0] 75)) := ((Below.refl _ _).alloc (Nat.le_refl _) _).alloc (by simp) _
  obtain ⟨c0, c1, d0, d1⟩ := p2.two
  clear hp hm
  go_enter Tryz.func133, Tryz.ntmps133
  go_wp2
  clear c0 c1 d0 d1
  refine wp_region_mix [(0, false), (1, false), (2, false), (3, false), (4, false), (5, false), (6, false), (7, false), (8, false), (9, true), (10, true), (11, false)] (fun u => (At u p 196 #[.int .i64 t, .map (some b)] ∧ At u w.heap.size 161 #[.int .i64 k0, .int .i64 k1]) ∧ QMap u b L) (by kernel_rfl) (by kernel_rfl) (fun _ _ _ _ _ h => h) ⟨⟨p2.drew, k2.drew⟩, m2.drew⟩ ?_
  simp only [mixOps, List.map_cons, List.map_nil, List.getElem?_cons_succ, List.getElem?_cons_zero, Option.getD_some]
  iterate 9 (
    refine mix_pure (v := ?_) (by rfl) (fun u hu => ?_) ?_
    rotate_left
    · obtain ⟨⟨h1, h2⟩, h3⟩ := hu
      obtain ⟨_, _, _, _⟩ := h1.two
      obtain ⟨_, _, _, _⟩ := h2.two
      have hlu := hl u h3
      go_simp
      (with_reducible rfl)
    (try simp only [Act.put, List.setIfInBounds_toArray, List.set_cons_zero, List.set_cons_succ]))
  refine mix_call (by rfl) (fun K hK => ?_)
  go_simp
  refine hK _ _ _ (fun _ h => h) ⟨⟨p2.drew.alloc _, k2.drew.alloc _⟩, m2.drew.alloc _⟩ ?_
  (try simp only [Act.put, List.setIfInBounds_toArray, List.set_cons_zero, List.set_cons_succ])
  refine mix_call (by rfl) (fun K hK => ?_)
  go_simp
  have p3 := p2.drew.alloc (.cells #[.int .i64 q0, .int .i64 q1, .int .i64 q2, .int .i64 q3, .int .i64 q4, .int .i64 q5, .int .i64 q6, .int .i64 q7] 222)
  have m3 := m2.drew.alloc (.cells #[.int .i64 q0, .int .i64 q1, .int .i64 q2, .int .i64 q3, .int .i64 q4, .int .i64 q5, .int .i64 q6, .int .i64 q7] 222)
  have k3 := k2.drew.alloc (.cells #[.int .i64 q0, .int .i64 q1, .int .i64 q2, .int .i64 q3, .int .i64 q4, .int .i64 q5, .int .i64 q6, .int .i64 q7] 222)
  have i3 := i2.drew.alloc (.cells #[.int .i64 q0, .int .i64 q1, .int .i64 q2, .int .i64 q3, .int .i64 q4, .int .i64 q5, .int .i64 q6, .int .i64 q7] 222)
  have hB3 := hB2.drew.alloc (by have := hB2.size; simp; omega) (.cells #[.int .i64 q0, .int .i64 q1, .int .i64 q2, .int .i64 q3, .int .i64 q4, .int .i64 q5, .int .i64 q6, .int .i64 q7] 222)
  have v3 : At (((w.alloc (.cells #[.int .i64 k0, .int .i64 k1] 161)).alloc (.cells #[.int .i64 0, .int .i64 0, .int .i64 0, .int .i64 0, .int .i64 0, .int .i64 0, .int .i64 0] 75)).drew.alloc (.cells #[.int .i64 q0, .int .i64 q1, .int .i64 q2, .int .i64 q3, .int .i64 q4, .int .i64 q5, .int .i64 q6, .int .i64 q7] 222)) (w.heap.size + 1 + 1) 222 #[.int .i64 q0, .int .i64 q1, .int .i64 q2, .int .i64 q3, .int .i64 q4, .int .i64 q5, .int .i64 q6, .int .i64 q7] := by
    have := At.new ((w.alloc (.cells #[.int .i64 k0, .int .i64 k1] 161)).alloc (.cells #[.int .i64 0, .int .i64 0, .int .i64 0, .int .i64 0, .int .i64 0, .int .i64 0, .int .i64 0] 75)).drew 222 #[.int .i64 q0, .int .i64 q1, .int .i64 q2, .int .i64 q3, .int .i64 q4, .int .i64 q5, .int .i64 q6, .int .i64 q7]
    simpa using this
  refine hK _ _ _ (fun _ h => h) ⟨⟨p3, k3⟩, m3⟩ ?_
  (try simp only [Act.put, List.setIfInBounds_toArray, List.set_cons_zero, List.set_cons_succ])
  refine mix_pure (v := ?_) (by rfl) (fun u hu => ?_) ?_
  rotate_left
  · go_simp
    (with_reducible rfl)
  (try simp only [Act.put, List.setIfInBounds_toArray, List.set_cons_zero, List.set_cons_succ])
  refine mix_nil ?_
  obtain ⟨v0, v1, v2, v3, v4, v5, v6, v7⟩ := v3.eight
  obtain ⟨z0, z1, z2, z3, z4, z5, z6⟩ := i3.seven
  obtain ⟨y0, y1, y2, y3, y4, y5, y6⟩ := i3.sevenF
  go_wp2
  refine bodyPost_ret (v := .tuple #[.agg #[.int .i64 q1, .int .i64 q2, .int .i64 q3, .int .i64 q4, .int .i64 q5, .int .i64 q6, .int .i64 q7], .bool f]) (by simp [results, Tryz.results133, go_sem, z0, z1, z2, z3, z4, z5, z6]) rfl ?_
  exact ⟨rfl, ((((Below.refl _ _).alloc (Nat.le_refl _) _).alloc (by simp) _).alloc (by simp; omega) _).drew⟩

set_option maxRecDepth 100000 in
set_option maxHeartbeats 4000000 in
theorem qRemove (p b B : Nat) (t : Int) (L : List Qd) (k0 k1 : Int) (w : World) (hp : At w p 196 #[.int .i64 t, .map (some b)]) (hm : QMap w b L) (hB : B ≤ p) (hBb : B ≤ b) :
    Calls Tryz.prog 136 #[.pointer (some ⟨p, 0, none⟩), .agg #[.int .i64 k0, .int .i64 k1]] w fun e w' => e = .returned (.tuple #[]) ∧ At w' p 196 #[.int .i64 t, .map (some b)] ∧ QMap w' b (eraseQ (k0, (0, 0, k1, 0), 0, 0) L) ∧ Below B w w' := by
  have hne := hp.apart hm
  have lp := hp.lt
  have lm := hm.lt
  have p1 := hp.alloc (.cells #[.int .i64 k0, .int .i64 k1] 161)
  have m1 := hm.alloc (.cells #[.int .i64 k0, .int .i64 k1] 161)
  have k1' := At.new w 161 #[.int .i64 k0, .int .i64 k1]
  have hB1 := (Below.refl B w).alloc (by omega) (.cells #[.int .i64 k0, .int .i64 k1] 161)
  go_enter Tryz.func136, Tryz.ntmps136
  go_wp2
  refine wp_region_mix [(0, false), (1, false), (2, false), (3, false), (4, false), (5, true)] (fun u => At u p 196 #[.int .i64 t, .map (some b)] ∧ At u w.heap.size 161 #[.int .i64 k0, .int .i64 k1]) (by kernel_rfl) (by kernel_rfl) (fun _ _ _ _ _ h => h) ⟨p1.drew, k1'.drew⟩ ?_
  simp only [mixOps, List.map_cons, List.map_nil, List.getElem?_cons_succ, List.getElem?_cons_zero, Option.getD_some]
  iterate 5 (
    refine mix_pure (v := ?_) (by rfl) (fun u hu => ?_) ?_
    rotate_left
    · obtain ⟨h1, h2⟩ := hu
      obtain ⟨_, _, _, _⟩ := h1.two
      obtain ⟨_, _, _, _⟩ := h2.two
      go_simp
      (with_reducible rfl)
    (try simp only [Act.put, List.setIfInBounds_toArray, List.set_cons_zero, List.set_cons_succ]))
  obtain ⟨w5, hrun, m5, hg5⟩ := m1.drew.drop (k0, (0, 0, k1, 0), 0, 0) 0
  have p5 := p1.drew.grown hg5 (fun e => hne (Option.some.inj e).symm)
  have hB5 := hB1.drew.grown hg5 (by simp; omega) (fun g e => by cases e; exact hBb)
  refine mix_call (by rfl) (fun K hK => ?_)
  refine wp_mapDrop _ _ _ _ rfl rfl rfl hrun ?_
  refine hK _ _ _ (fun _ h => h) ⟨p5, k1'.drew.grown hg5 (fun e => by have := Option.some.inj e; omega)⟩ ?_
  (try simp only [Act.put, List.setIfInBounds_toArray, List.set_cons_zero, List.set_cons_succ])
  refine mix_nil ?_
  go_wp2
  go_end0
  exact ⟨rfl, p5, m5, hB5⟩

theorem rises_is {L ys : List Qd} (h : Rises L) (hp : ys.Perm L) (hs : ys.Pairwise fun x y => ¬ y.1 < x.1) : ys = L := by
  refine List.Perm.eq_of_pairwise (le := fun x y => ¬ y.1 < x.1) (fun x y hx hy h1 h2 => ?_) hs (h.imp fun {x y} k => by omega) hp
  have hx' : x ∈ L := hp.mem_iff.1 hx
  obtain ⟨i, hi, rfl⟩ := List.getElem_of_mem hx'
  obtain ⟨j, hj, rfl⟩ := List.getElem_of_mem hy
  have hk := List.pairwise_iff_getElem.1 h
  rcases Nat.lt_trichotomy i j with hij | hij | hij
  · have := hk i j hi hj hij
    omega
  · subst hij
    rfl
  · have := hk j i hj hi hij
    omega

def ListRel (w2 : World) (l : List Hnt) (n : Nat) (o i : Value) (wr : World) : Prop :=
  ∃ (k : Nat) (A : Option Addr) (c : Nat), k ≤ n ∧ i = .int .i64 k ∧ o = .slice A k c ∧ Ow eH wr w2.heap.size A k c (l.take k) ∧ Below w2.heap.size w2 wr

set_option maxRecDepth 100000 in
set_option maxHeartbeats 4000000 in
theorem qList (p b : Nat) (t : Int) (L : List Qd) (w : World) (hp : At w p 196 #[.int .i64 t, .map (some b)]) (hm : QMap w b L) (hr : Rises L) (hL : L.length ≤ 1000) :
    Calls Tryz.prog 135 #[.pointer (some ⟨p, 0, none⟩)] w fun e w' => ∃ A c, e = .returned (.slice A L.length c) ∧ Ow eH w' w.heap.size A L.length c (L.map Prod.snd) ∧ Below w.heap.size w w' := by
  obtain ⟨c0, c1, _, _⟩ := hp.two
  have hl1 := (Below.refl w.heap.size w).alloc (Nat.le_refl _) (.cells #[.map (some b)] 194)
  have hm1 := At.new w 194 #[.map (some b)]
  have hs1 := hm.alloc (.cells #[.map (some b)] 194)
  have HS := sortedFuncQ b w.heap.size L _ hs1 hm1 hL
  go_enter Tryz.func135, Tryz.ntmps135
  go_wp2_with fail
  refine (valuesOfQ b _).mono ?_
  rintro e w1 ⟨rfl, rfl⟩
  go_wp2_with fail
  refine HS.mono ?_
  rintro e w2 ⟨A2, n, c2, ys, rfl, hperm, hpw, ow2, hb2⟩
  obtain rfl := rises_is hr hperm (hpw.imp fun {x y} h => by omega)
  have hB2 := hl1.trans (hb2.mono hl1.size)
  have hrd := ow2.rd okQ
  obtain ⟨n', hn'⟩ : ∃ n', ys.length = n' := ⟨_, rfl⟩
  have hnn : n = n' := (ow2.len okQ).symm.trans hn'
  subst hnn
  have Hn := Lib.hid hn'
  rw [hn'] at hL
  have HnI := Lib.hid hn'
  clear hn' HS hm1 hs1 hl1 hb2 ow2 hperm hpw hr hm hp c0 c1
  obtain ⟨l, hl⟩ : ∃ l, ys.map Prod.snd = l := ⟨_, rfl⟩
  have Hl := Lib.hid hl
  have hll : l.length = n := by rw [← hl, List.length_map, Hn.out]
  have Hll := Lib.hid hll
  clear hl hll
  go_wp2
  go_loopw [4, 15] (fun o i wr => ListRel w2 l n o i wr) (fun _ i _ => n - (intOf i).toNat)
  case atStart => exact ⟨0, none, 0, Nat.zero_le _, rfl, rfl, Ow.nil, Below.refl _ _⟩
  case round =>
    obtain ⟨k, A1, c1, hk, rfl, rfl, how, hbel⟩ := hrel
    by_cases hlt : k < n
    · obtain ⟨g, o, ⟨q0, q1, ⟨q2, q3, q4, q5⟩, q6, q7⟩, e2, hg, hx, hc⟩ := (hrd.below hbel (Nat.le_refl _)).at_ (k := k) (by rw [Hn.out]; exact hlt)
      subst e2
      have v0 := hc 0 _ rfl
      have v1 := hc 1 _ rfl
      have v2 := hc 2 _ rfl
      have v3 := hc 3 _ rfl
      have v4 := hc 4 _ rfl
      have v5 := hc 5 _ rfl
      have v6 := hc 6 _ rfl
      have v7 := hc 7 _ rfl
      simp only [eQ, Nat.add_zero] at v0 v1 v2 v3 v4 v5 v6 v7
      have Hx := Lib.hid (show l.take (k + 1) = l.take k ++ [(q1, (q2, q3, q4, q5), q6, q7)] from take_nextH (by rw [← Hl.out, List.getElem?_map, hx]; rfl))
      clear hx hc
      have hBa := hbel.alloc hbel.size (.cells #[.int .i64 q0, .int .i64 q1, .int .i64 q2, .int .i64 q3, .int .i64 q4, .int .i64 q5, .int .i64 q6, .int .i64 q7] 222)
      have ha := how.alloc (.cells #[.int .i64 q0, .int .i64 q1, .int .i64 q2, .int .i64 q3, .int .i64 q4, .int .i64 q5, .int .i64 q6, .int .i64 q7] 222)
      have ob : Rd eH ((wr.alloc (.cells #[.int .i64 q0, .int .i64 q1, .int .i64 q2, .int .i64 q3, .int .i64 q4, .int .i64 q5, .int .i64 q6, .int .i64 q7] 222)).alloc (.cells #[.int .i64 q1, .int .i64 q2, .int .i64 q3, .int .i64 q4, .int .i64 q5, .int .i64 q6, .int .i64 q7] 75)) (wr.heap.size + 1 + 1) (some ⟨wr.heap.size + 1, 0, none⟩) [(q1, (q2, q3, q4, q5), q6, q7)] := by
        have := rd_lit okH (wr.alloc (.cells #[.int .i64 q0, .int .i64 q1, .int .i64 q2, .int .i64 q3, .int .i64 q4, .int .i64 q5, .int .i64 q6, .int .i64 q7] 222)) 75 [(q1, (q2, q3, q4, q5), q6, q7)] #[.int .i64 q1, .int .i64 q2, .int .i64 q3, .int .i64 q4, .int .i64 q5, .int .i64 q6, .int .i64 q7] rfl
        simpa using this
      have ha2 := ha.alloc (.cells #[.int .i64 q1, .int .i64 q2, .int .i64 q3, .int .i64 q4, .int .i64 q5, .int .i64 q6, .int .i64 q7] 75)
      have hBb := hBa.alloc hBa.size (.cells #[.int .i64 q1, .int .i64 q2, .int .i64 q3, .int .i64 q4, .int .i64 q5, .int .i64 q6, .int .i64 q7] 75)
      go_wp2_with (at_builtin; refine wpList_append_ow okH _ rfl (.tmp 19) (.tmp 22) _ rfl w2.heap.size info_hnt Tryz.underlying37 rfl A1 k c1 (l.take k) rfl ha2 _ 1 1 _ [(q1, (q2, q3, q4, q5), q6, q7)] rfl ob rfl (by unfold maxLen; omega) (by omega) hBb.size ?_; intro A5 c5 w5 ow5 hg5 _; have hB5 := hBb.grown hg5 hBb.size (fun g hg => (how.lt g hg).1))
      exact ⟨⟨k + 1, A5, c5, by omega, by go_num, rfl, by rw [Hx.out]; exact ow5, hB5⟩, by simp [intOf]; omega⟩
    · obtain rfl : n = k := by omega
      rw [show l.take n = l from List.take_of_length_le (by rw [Hll.out]; exact Nat.le_refl _)] at how
      go_wp2
      go_ret
      rw [HnI.out, Hl.out]
      exact ⟨_, _, rfl, how.from_ hB2.size, hB2.trans (hbel.mono hB2.size)⟩

def OfRel (w : World) (l : List Hnt) (n : Nat) (i : Value) (wr : World) : Prop :=
  ∃ k : Nat, k ≤ n ∧ i = .int .i64 k ∧ At wr (w.heap.size + 1) 196 #[.int .i64 (k : Int), .map (some w.heap.size)] ∧ QMap wr w.heap.size (queueM (l.take k)) ∧ Below w.heap.size w wr

set_option maxRecDepth 100000 in
set_option maxHeartbeats 4000000 in
theorem qOf (A : Option Addr) (n c : Nat) (l : List Hnt) (w : World) (ha : Rd eH w w.heap.size A l) (hn : l.length = n) (hm : n ≤ 1000) :
    Calls Tryz.prog 113 #[.slice A n c] w fun e w' => e = .returned (.pointer (some ⟨w.heap.size + 1, 0, none⟩)) ∧ At w' (w.heap.size + 1) 196 #[.int .i64 (n : Int), .map (some w.heap.size)] ∧ QMap w' w.heap.size (queueM l) ∧ Below w.heap.size w w' := by
  have Hn := Lib.hid hn
  clear hn
  have hB1 := ((Below.refl w.heap.size w).alloc (Nat.le_refl _) (.map #[] 0)).alloc (by simp) (.cells #[.int .i64 0, .map (some w.heap.size)] 196)
  have p1 : At ((w.alloc (.map #[] 0)).alloc (.cells #[.int .i64 0, .map (some w.heap.size)] 196)) (w.heap.size + 1) 196 #[.int .i64 0, .map (some w.heap.size)] := by
    have := At.new (w.alloc (.map #[] 0)) 196 #[.int .i64 0, .map (some w.heap.size)]
    simpa using this
  have m1 := (QMap.made w).alloc (.cells #[.int .i64 0, .map (some w.heap.size)] 196)
  go_enter Tryz.func113, Tryz.ntmps113
  go_wp2_with fail
  refine (qNew _).mono ?_
  rintro e w1 ⟨rfl, rfl⟩
  go_wp2
  go_loopw [9] (fun i wr => OfRel w l n i wr) (fun i _ => n - (intOf i).toNat)
  case atStart => exact ⟨0, Nat.zero_le _, rfl, p1, m1, hB1⟩
  case round =>
    clear p1 m1 hB1
    obtain ⟨k, hk, rfl, hp, hq, hbel⟩ := hrel
    by_cases hlt : k < n
    · obtain ⟨g, o, a0, a1, a2, a3, a4, a5, a6, rfl, hg, hx, c0, c1, c2, c3, c4, c5, c6⟩ := (ha.below hbel (Nat.le_refl _)).hnt (k := k) (by rw [Hn.out]; exact hlt)
      have Hx := Lib.hid (queue_next hx)
      clear hx
      have hp1 := hp.alloc (.cells #[.int .i64 a0, .int .i64 a1, .int .i64 a2, .int .i64 a3, .int .i64 a4, .int .i64 a5, .int .i64 a6] 75)
      have hq1 := hq.alloc (.cells #[.int .i64 a0, .int .i64 a1, .int .i64 a2, .int .i64 a3, .int .i64 a4, .int .i64 a5, .int .i64 a6] 75)
      have hB1 := hbel.alloc hbel.size (.cells #[.int .i64 a0, .int .i64 a1, .int .i64 a2, .int .i64 a3, .int .i64 a4, .int .i64 a5, .int .i64 a6] 75)
      go_wp2_with fail
      refine (qPut (w.heap.size + 1) w.heap.size w.heap.size (k : Int) _ a0 a1 a2 a3 a4 a5 a6 _ hp1 hq1 (by omega) (Nat.le_refl _) (by omega)).mono ?_
      rintro e w2 ⟨rfl, hp2, hq2, hb2⟩
      have hB2 := hB1.trans hb2
      go_wp2
      refine ⟨⟨k + 1, by omega, by go_num, ?_, by rw [Hx.out]; exact hq2, hB2⟩, by simp [intOf]; omega⟩
      rw [show ((k + 1 : Nat) : Int) = (k : Int) + 1 by omega]
      exact hp2
    · obtain rfl : n = k := by omega
      rw [show l.take n = l from List.take_of_length_le (by rw [Hn.out]; exact Nat.le_refl _)] at hq
      go_wp2
      go_ret
      exact ⟨rfl, hp, hq, hbel⟩
end Go.Proofs.YtmaillakhhdkfaaGreatDoor
