/-
  Texts of one proof, joined: each has its own namespace.
-/
import Derived.Test.YtkgbjlbhlhdhbaaDoorBFnStores3
import Derived.RangeFuncNested
import Derived.RangeFuncBound
import Derived.RangeFuncLeaves
import Derived.OwnWalkIn
import Derived.TacticsInMore
import Derived.RegionIn
import Derived.LoopNIn
import Derived.LoopIn
import Derived.Shelf.Abstract
import Derived.Shelf.AbstractIn
import Derived.Test.YtkgbjlbhlhdhbaaDoorBFnStores6
import Derived.Test.YtkgbjlbhlhdhbaaDoorBFnStores5
import Derived.Test.YtkgbjlbhlhdhbaaDoorBFnStores4
import Derived.Maps.RangeRun
import Derived.Maps.Range
import Derived.Sort.MapsRangeIn
import Derived.Test.YtkgbjlbhlhdhbaaDoorBFnStores7
/-
  Samples that come out of an iterator: the contract of an iterator (SeqStopsK, with what a round keeps: walks, and what lay below), slices.AppendSeq and slices.Collect over whatever such iterator.
-/
namespace Go.Proofs.YtkgbjlbhlhdhbaaDoor
set_option maxRecDepth 20000
open Go.RowKit Go.Shelf
set_option linter.unusedSimpArgs false
set_option linter.unusedVariables false

attribute [local go_sem] Oper.semAt_some

theorem wpListIn_append_ow {F : Fence} {k : Nat} {P : Program} {α : Type} {E : Enc α} (hE : EncOk E) (w : World) {ops : Array Oper} {rest : List Oper} {o : Oper} {a : Act} {Q : Exit → Act → World → Prop} (hgd : o.guard = none) (s x : Operand) (t : TypeId)
    (ho : o.op = .call { callee := .builtin .append, args := #[s, x], argTypes := #[t, t] })
    (base : Nat) {z : Value} {bytes : Nat} (hinfo : (P.info? E.tid).map (fun i => (i.zero, i.size, i.bytes)) = some (some z, E.size, bytes)) (ht : P.underlying t = some (.slice E.tid)) (hzs : z.cells.size = E.size)
    (A : Option Addr) (n c : Nat) (l : List α) (hs : a.eval s = .slice A n c) (hown : Ow E w base A n c l)
    (X : Option Addr) (m d hi' : Nat) (news : List α) (hx : a.eval x = .slice X m d) (hX : Rd E w hi' X news) (hm : news.length = m)
    (h63 : n + m ≤ maxLen) (hbytes : (n + m) * bytes ≤ 140737488355328) (hbase : base ≤ w.heap.size)
    (h : ∀ A' c' w', Ow E w' base A' (n + m) c' (l ++ news) → w.grownBy w' (A.map (·.block)) → (A'.map (·.block) = A.map (·.block) ∨ A'.map (·.block) = some w.heap.size) → wpListIn F k P ops Q rest (a.put o.dst (.slice A' (n + m) c')) w') : wpListIn F k P ops Q (o :: rest) a w := by
  obtain ⟨i, hi, hz, hsz, hby⟩ := info_parts hinfo
  obtain ⟨A', c', w', hrun, h2, h3, h4⟩ := run_append_ow (P := P) hE w base t o.type i z bytes ht hi hz hsz hby hzs A n c l hown X m d hi' news hX hm h63 hbytes hbase
  refine wpListIn_plain hgd fun K hK' => ?_
  unfold Oper.wpIn
  refine ⟨?_, ?_⟩
  · simp [Oper.about, ho, resolve, Target.leads, Sem.run_pure]
  · rw [Oper.semAt_plain F _ _ (by rw [ho]; intro c hc'; cases hc')]
    simp [execOp, ho, resolve, invoke, builtin, hs, hx, hrun, Result.andThen]
    exact hK' _ _ (h A' c' w' h2 h3 h4)

/-- What a round keeps: maps and walks; whatever lay below n₀. -/
def Kp2 (n₀ : Nat) (W W' : World) : Prop := KeepsWalks W W' ∧ Below n₀ W W'
theorem Kp2.t {n₀ : Nat} {A B C : World} (h : Kp2 n₀ A B) (k : Kp2 n₀ B C) : Kp2 n₀ A C := ⟨h.1.trans k.1, h.2.trans k.2⟩
theorem Kp2.b {n₀ : Nat} {w : World} (hn : n₀ ≤ w.heap.size) (W : World) (l : Nat) (o o' : Obj) (hl : w.heap.size ≤ l) (h : W.heap[l]? = some o) (h1 : o.isCells = false) (h2 : o.isWalk = false) : Kp2 n₀ W (W.putObj l o') :=
  ⟨walksK_b (w := w) W l o o' hl h h1 h2, belowK_b hn W l o o' hl h h1 h2⟩

def encS (x : Smp) : Array Value := #[.agg #[.int .i64 x.1, .int .i64 x.2.1, .int .i64 x.2.2.1, .int .i64 x.2.2.2]]
abbrev smpArr (x : Smp) : Array Value := #[.int .i64 x.1, .int .i64 x.2.1, .int .i64 x.2.2.1, .int .i64 x.2.2.2]

theorem At.keptBy {W W' : World} {row : Option Nat} {g : Nat} {t : TypeId} {cs : Array Value} (h : At W g t cs) (hg : W.grownBy W' row) (hr : ∀ r, row = some r → ∃ o : Obj, W.heap[r]? = some o ∧ o.isCells = false) : At W' g t cs := by
  refine h.grown hg (fun e => ?_)
  obtain ⟨o, ho, hc⟩ := hr g e
  rw [show W.heap[g]? = _ from h] at ho
  cases ho
  cases hc
theorem Ow.keptBy {α : Type} {E : Enc α} {W W' : World} {row : Option Nat} {base n c : Nat} {A : Option Addr} {l : List α} (h : Ow E W base A n c l) (hg : W.grownBy W' row) (hr : ∀ r, row = some r → ∃ o : Obj, W.heap[r]? = some o ∧ o.isCells = false) : Ow E W' base A n c l := by
  refine h.grown hg (fun g hA e => ?_)
  obtain ⟨o, ho, hc⟩ := hr g e
  rcases h.2 with ⟨h0, _⟩ | ⟨g', cap, cur, hv, _, hgb, _⟩
  · simp only [Value.slice.injEq] at h0
    rw [h0.1] at hA
    cases hA
  · simp only [Value.slice.injEq] at hv
    rw [hv.1] at hA
    obtain rfl : g' = g := by simpa using hA
    rw [hgb] at ho
    cases ho
    cases hc

theorem Ow.cellsAt {α : Type} {E : Enc α} {W : World} {base n c : Nat} {A : Option Addr} {l : List α} (h : Ow E W base A n c l) {j : Nat} {o : Obj} (e : A.map (·.block) = some j) (hj : W.heap[j]? = some o) : o.isCells = true := by
  rcases h.2 with ⟨h0, _⟩ | ⟨g', cap, cur, hv, _, hgb, _⟩
  · simp only [Value.slice.injEq] at h0
    rw [h0.1] at e
    cases e
  · simp only [Value.slice.injEq] at hv
    rw [hv.1] at e
    obtain rfl : g' = j := by simpa using e
    rw [hgb] at hj
    cases hj
    rfl
/-- Between two rounds: the box holds a row of the call's own: what has come. -/
def Gath (n₀ B N : Nat) (pre : List Smp) (W : World) : Prop :=
  ∃ A c, At W B 24 #[.slice A pre.length c] ∧ Ow eS W (n₀ + 1) A pre.length c pre ∧ pre.length ≤ N
theorem Gath.own (n₀ B N : Nat) : Own (Gath n₀ B N) := fun s X Y row ⟨A, c, h1, h2, h3⟩ hg hr => ⟨A, c, h1.keptBy hg hr, h2.keptBy hg hr, h3⟩

set_option maxRecDepth 100000 in
set_option maxHeartbeats 2000000 in
theorem appendSeq (n : Nat) (hn : 3 ≤ n) (gf : Nat) (lb : Array Value) (eg : ∀ args w, (callFunc gf args).run Tryd.prog w = .ok (.enter gf args) w) (S Sp : List Smp → Prop) (N : Nat) (hN : N ≤ 1000) (n0 : Nat) (w : World) (hn0 : n0 ≤ w.heap.size)
    (hseq : SeqStopsK Fence.wide (n - 1) Tryd.prog gf lb encS (Kp2 n0) S Sp N w) :
    CallsIn Fence.wide n Tryd.prog 71 #[.slice none 0 0, .func (.func gf) #[] lb] w fun e W' =>
      ∃ A c xs, e = .returned (.slice A xs.length c) ∧ S xs ∧ Ow eS W' w.heap.size A xs.length c xs ∧ Below w.heap.size w W' := by
  have hro : Fence.wide.round = none := rfl
  have h1 : 1 ≤ n := by omega
  have hT : Fence.wide.fn 71 := trivial
  refine callsIn_of_wp_marks Tryd.func71 rfl hT ?_ hro
  simp only [Tryd.ntmps71, List.size_toArray, List.length_cons, List.length_nil, Nat.reduceAdd, Nat.reduceSub, Array.replicate_succ, Array.replicate_zero, List.push_toArray, List.append_toArray, List.nil_append, List.cons_append]
  gi_wp2
  have bO := At.new w 24 #[.slice none 0 0]
  have hB0 := (Below.refl w.heap.size w).alloc (Nat.le_refl _) (.cells #[.slice none 0 0] 24)
  obtain ⟨W0, hW0⟩ : ∃ W0, w.alloc (.cells #[.slice none 0 0] 24) = W0 := ⟨_, rfl⟩
  have hsz : W0.heap.size = w.heap.size + 1 := by rw [← hW0]; simp
  rw [hW0] at bO hB0 ⊢
  clear hW0
  refine wpIn_rangeFunc_ownH hro h1 (gf := gf) (lb := lb) rfl trivial eg hseq Kp2.t (Kp2.b (by omega)) hB0 (fun _ => rfl)
    (fun pre W => Gath w.heap.size w.heap.size N pre W ∧ Below w.heap.size w W)
    (fun _ _ _ => False)
    (OwnFrom.and (Own.from (Gath.own _ _ _) _) (ownFrom_below (Nat.le_refl _) (by omega)))
    (fun _ _ _ _ _ hs _ _ => hs)
    ⟨⟨none, 0, bO, Ow.nil, Nat.zero_le _⟩, hB0⟩
    (fun x a' W => ∃ Bx, w.heap.size < Bx ∧ At W Bx 26 (smpArr x) ∧ a' = { tmps := #[.slice none 0 0, .func (.func gf) #[] lb, .pointer (some ⟨w.heap.size, 0, none⟩), undef, .slice none 0 0, .pointer (some ⟨Bx, 0, none⟩), .func (.func gf) #[] lb, .agg (smpArr x), undef, undef, undef, undef, undef], defers := [] })
    (fun x a' _ X Y row hs hg hr => by obtain ⟨Bx, h1, h2, h3⟩ := hs; exact ⟨Bx, h1, h2.keptBy hg (fun r e => (hr r e).2), h3⟩)
    ?assign ?body ?done ?stop
  case assign =>
    rintro l pre x W K ⟨⟨A, c, hA, hO, hN1⟩, hB⟩ hK
    have hsW := hB.size
    dsimp only [encS]
    gi_wp2
    exact hK _ _ ((KeepsOthers.alloc _ _).from _) ⟨KeepsWalks.alloc _ _, (Below.refl _ W).alloc (by omega) _⟩ ⟨⟨A, c, hA.alloc _, hO.alloc _, hN1⟩, hB.alloc hB.size _⟩ ⟨W.heap.size, hA.lt, At.new W _ _, rfl⟩
  case body =>
    rintro l pre x a' W hl ⟨r, hr⟩ ⟨⟨A, c, hA, hO, hN1⟩, hB⟩ ⟨Bx, hBx, bX, rfl⟩ hlt
    have hsW := hB.size
    have cA := hA.cell 0
    obtain ⟨cx0, cx1, cx2, cx3, _⟩ := bX.four
    gi_wp2_with (gi_at_builtin; refine wpListIn_append_ow okS _ rfl _ _ 24 rfl (w.heap.size + 1) info_smp Tryd.underlying24 rfl A pre.length c pre rfl (hO.alloc _) (some ⟨W.heap.size, 0, none⟩) 1 1 (W.heap.size + 1) [x] rfl (rd_lit okS W 26 [x] _ rfl) rfl (by unfold maxLen; omega) (by omega) (by simp; omega) ?_; intro A' c' w1 hO1 hg1 hA1; have hAa := hA.alloc (.cells (smpArr x) 26); have hA2 := hAa.grown hg1 (fun e => by have := (hO.lt _ e).1; omega); have cA2 := hA2.cell 0; have fA2 := hA2.frozen 0)
    have hgB : Below w.heap.size w w1 := (hB.alloc hB.size _).grown hg1 (by simp; omega) (fun k e => by have := (hO.lt k e).1; omega)
    have hlt' : ∀ g, A'.map (·.block) = some g → w.heap.size + 1 ≤ g := fun g e => (hO1.lt g e).1
    have hK : KeepsOthers W (w1.setCell ⟨w.heap.size, 0, none⟩ (.slice A' (pre.length + 1) c')) :=
      ((KeepsOthers.alloc W _).trans (KeepsOthers.of_grownBy hg1 fun j o ej hj => (hO.alloc _).cellsAt ej hj)).trans (KeepsOthers.setCell _ _ _)
    refine ⟨hK.from _, ⟨hK.walks, ?_⟩, ⟨A', c', ?_, ?_, ?_⟩, ?_⟩
    · exact (((Below.refl n0 W).alloc (by omega) _).grown hg1 (by simp; omega) (fun k e => by have := (hO.lt k e).1; omega)).setCell (p := ⟨w.heap.size, 0, none⟩) hn0 _
    · have := hA2.set 0 (.slice A' (pre.length + 1) c')
      simpa using this
    · have := hO1.under (p := ⟨w.heap.size, 0, none⟩) (by simp) (.slice A' (pre.length + 1) c')
      simpa using this
    · simp
      omega
    · exact hgB.setCell (p := ⟨w.heap.size, 0, none⟩) (Nat.le_refl _) _
  case done =>
    rintro D ys W hD hS ⟨⟨A, c, hA, hO, hN1⟩, hB⟩ hK
    have cA := hA.cell 0
    gi_wp2
    refine ⟨by simp, .inl ⟨_, _, rfl, run_takeDeferred hK, ?_⟩⟩
    exact ⟨_, results_tmp rfl _ _ _, A, c, ys, rfl, hS, (hO.keptBy (grownBy_putObj' W D _) (fun r e => by cases e; exact ⟨_, hK, rfl⟩)).from_ (by omega), hB.trans (belowK_b (w := w) (Nat.le_refl _) W D _ _ (by omega) hK rfl rfl)⟩
  case stop =>
    rintro D c pre W _ _ h _
    exact h.elim

/-- slices.Collect over whatever such iterator. -/
theorem collectSeq (n : Nat) (hn : 3 ≤ n) (gf : Nat) (lb : Array Value) (eg : ∀ args w, (callFunc gf args).run Tryd.prog w = .ok (.enter gf args) w) (S Sp : List Smp → Prop) (N : Nat) (hN : N ≤ 1000) (n0 : Nat) (w : World) (hn0 : n0 ≤ w.heap.size)
    (hseq : SeqStopsK Fence.wide (n - 1) Tryd.prog gf lb encS (Kp2 n0) S Sp N w) :
    Calls Tryd.prog 48 #[.func (.func gf) #[] lb] w fun e W' =>
      ∃ A c xs, e = .returned (.slice A xs.length c) ∧ S xs ∧ Ow eS W' w.heap.size A xs.length c xs ∧ Below w.heap.size w W' := by
  have hq := callsIn_wide.1 (appendSeq n hn gf lb eg S Sp N hN n0 w hn0 hseq)
  clear hseq
  go_enter Tryd.func48, Tryd.ntmps48
  go_wp2_with (go_at_call 71; refine hq.mono ?_; rintro e w1 ⟨A, c, xs, rfl, hS, hO, hB⟩)
  go_ret
  exact ⟨A, c, xs, rfl, hS, hO, hB⟩
end Go.Proofs.YtkgbjlbhlhdhbaaDoor
/-
  What is asked for of a store: the program's iterator over it, and QueryStore.
-/
namespace Go.Proofs.YtkgbjlbhlhdhbaaDoor
set_option maxRecDepth 20000
open Go.RowKit Go.Shelf
set_option linter.unusedSimpArgs false
set_option linter.unusedVariables false

attribute [local go_sem] Oper.semAt_some

theorem abides_below {β : Type} {B : Nat} {J : β → World → Prop} (h : AbidesFrom B J) {x : β} {W W' : World} (hJ : J x W) (hb : Below W.heap.size W W') : J x W' := h x W W' none hJ (grown_below hb (Nat.le_refl _)) (fun r e => by cases e)
theorem want_no {s f t a0 a1 a2 a3 : Int} (h : ¬ a0 = s) : wantM s f t (a0, a1, a2, a3) = false := by simp [wantM, h]
theorem want_is {f t a0 a1 a2 a3 : Int} : wantM a0 f t (a0, a1, a2, a3) = inB (a1, f, t) := by simp [wantM]
theorem query_miss {l : List Smp} {k : Nat} {a : Smp} {s f t : Int} (h : l[k]? = some a) (hw : wantM s f t a = false) : queryM (l.take (k + 1)) s f t = queryM (l.take k) s f t := by
  rw [query_next s f t h, hw]
  simp
theorem query_hit {l : List Smp} {k : Nat} {a : Smp} {s f t : Int} (h : l[k]? = some a) (hw : wantM s f t a = true) : queryM (l.take (k + 1)) s f t = queryM (l.take k) s f t ++ [a] := by
  rw [query_next s f t h, hw]
  simp
theorem query_len (l : List Smp) (k : Nat) (s f t : Int) : (queryM (l.take k) s f t).length ≤ k := by
  unfold queryM
  refine Nat.le_trans (List.length_filter_le _ _) ?_
  rw [List.length_take]
  omega

set_option maxRecDepth 100000 in
set_option maxHeartbeats 4000000 in
theorem asked_in (n : Nat) (hn : 1 ≤ n) (l b1 b2 b3 b4 nB m c : Nat) (A : Option Addr) (q : List Smp) (s f t : Int) (J Jx : List Smp → World → Prop)
    (hY : ∀ pre x W, J pre W → pre.length < m → YieldAt Fence.wide (n - 1) Tryd.prog l (encS x) W fun e W' =>
      (e = .returned (.bool true) ∧ J (pre ++ [x]) W' ∧ Kp2 nB W W') ∨ (e = .returned (.bool false) ∧ Jx (pre ++ [x]) W'))
    (W : World) (hJ : AbidesFrom W.heap.size J) (h1 : W.cell? ⟨b1, 0, none⟩ = some (.slice A m c)) (h2 : W.cell? ⟨b2, 0, none⟩ = some (.int .i64 s)) (h3 : W.cell? ⟨b3, 0, none⟩ = some (.int .i64 f)) (h4 : W.cell? ⟨b4, 0, none⟩ = some (.int .i64 t))
    (l1 : b1 < nB) (l2 : b2 < nB) (l3 : b3 < nB) (l4 : b4 < nB) (hnB : nB ≤ W.heap.size) (ha : Rd eS W nB A q) (hm : q.length = m) (hmm : m ≤ 1000) (h0 : J [] W) :
    CallsIn Fence.wide n Tryd.prog 72 #[.func (.yield l) #[] #[], .pointer (some ⟨b1, 0, none⟩), .pointer (some ⟨b2, 0, none⟩), .pointer (some ⟨b3, 0, none⟩), .pointer (some ⟨b4, 0, none⟩)] W fun e W' => (∃ v, e = .returned v) ∧
      ((∃ xs, xs = queryM q s f t ∧ J xs W') ∨ (∃ pre, True ∧ Jx pre W')) := by
  have hro : Fence.wide.round = none := rfl
  have hT : Fence.wide.fn 72 := trivial
  have hT2 : Fence.wide.fn 47 := trivial
  have Hm := Lib.hid hm
  clear hm
  refine callsIn_of_wp Tryd.func72 rfl hT ?_ hro
  simp only [Tryd.ntmps72, List.size_toArray, List.length_cons, List.length_nil, Nat.reduceAdd, Nat.reduceSub, Array.replicate_succ, Array.replicate_zero, List.push_toArray, List.append_toArray, List.nil_append, List.cons_append]
  gi_wp2
  gi_loopw [10] (fun i wr => ∃ k : Nat, k ≤ m ∧ i = .int .i64 k ∧ J (queryM (q.take k) s f t) wr ∧ Below nB W wr) (fun i _ => m - (intOf i).toNat)
  case atStart => exact ⟨0, Nat.zero_le _, rfl, h0, Below.refl _ _⟩
  case round =>
    obtain ⟨k, hk, rfl, hJk, hbel⟩ := hrel
    by_cases hlt : k < m
    · obtain ⟨g, o, a0, a1, a2, a3, rfl, hg, hx, c0, c1, c2, c3⟩ := (ha.below hbel (Nat.le_refl _)).smp (k := k) (by rw [Hm.out]; exact hlt)
      have hwr : nB ≤ wr.heap.size := Nat.le_trans hnB hbel.size
      have m2 : b2 < wr.heap.size := by omega
      have m3 : b3 < wr.heap.size := by omega
      have m4 : b4 < wr.heap.size := by omega
      have d1 := (hbel.cell (p := ⟨b1, 0, none⟩) l1).trans h1
      have d2 := (hbel.cell (p := ⟨b2, 0, none⟩) l2).trans h2
      have d3 := (hbel.cell (p := ⟨b3, 0, none⟩) l3).trans h3
      have d4 := (hbel.cell (p := ⟨b4, 0, none⟩) l4).trans h4
      have hbA := hbel.alloc hwr (.cells #[.int .i64 a0, .int .i64 a1, .int .i64 a2, .int .i64 a3] 26)
      have hJA := abides_below hJ hJk ((Below.refl wr.heap.size wr).alloc (Nat.le_refl _) (.cells #[.int .i64 a0, .int .i64 a1, .int .i64 a2, .int .i64 a3] 26))
      have atX := At.new wr 26 #[.int .i64 a0, .int .i64 a1, .int .i64 a2, .int .i64 a3]
      by_cases hs : a0 = s
      · subst hs
        have hbB := hbA.alloc (Nat.le_trans hwr (by simp)) (.cells #[.int .i64 a1, .int .i64 f, .int .i64 t] 70)
        have hJB := abides_below hJ hJA ((Below.refl (wr.alloc (.cells #[.int .i64 a0, .int .i64 a1, .int .i64 a2, .int .i64 a3] 26)).heap.size _).alloc (Nat.le_refl _) (.cells #[.int .i64 a1, .int .i64 f, .int .i64 t] 70))
        have atXB := atX.alloc (.cells #[.int .i64 a1, .int .i64 f, .int .i64 t] 70)
        have hq := areWithin_any (wr.heap.size + 1) 1 1 [(a1, f, t)] ((wr.alloc (.cells #[.int .i64 a0, .int .i64 a1, .int .i64 a2, .int .i64 a3] 26)).alloc (.cells #[.int .i64 a1, .int .i64 f, .int .i64 t] 70)) (bnds_one (by simp)) (by simp) rfl (by omega)
        rcases hw : inB (a1, f, t)
        · have e1 : [(a1, f, t)].all inB = false := by simp [hw]
          rw [e1] at hq
          have Hw := Lib.hid (query_miss (s := a0) (f := f) (t := t) hx (by rw [want_is, hw]))
          clear hx hw e1
          gi_wp2_with fail
          refine (callsIn_wide.2 hq).mono ?_
          rintro e w1 ⟨rfl, hb1⟩
          have hJ1 := abides_below hJ hJB hb1
          have hB1 := hbB.trans (hb1.mono (Nat.le_trans hwr (by simp; omega)))
          gi_wp2
          refine ⟨fun _ h => (by cases h), ?_⟩
          gi_wp2
          exact ⟨⟨k + 1, by omega, by go_num, by rw [Hw.out]; exact hJ1, hB1⟩, by simp [intOf]; omega⟩
        · have e1 : [(a1, f, t)].all inB = true := by simp [hw]
          rw [e1] at hq
          have Hw := Lib.hid (query_hit (s := a0) (f := f) (t := t) hx (by rw [want_is, hw]))
          have hlen := query_len q k a0 f t
          clear hx hw e1
          gi_wp2_with fail
          refine (callsIn_wide.2 hq).mono ?_
          rintro e w1 ⟨rfl, hb1⟩
          have hJ1 := abides_below hJ hJB hb1
          have hB1 := hbB.trans (hb1.mono (Nat.le_trans hwr (by simp; omega)))
          obtain ⟨x0, x1, x2, x3, _⟩ := (atXB.below hb1 atXB.lt).four
          obtain ⟨fn, tmps, assign, body, hy, hR⟩ := hY _ (a0, a1, a2, a3) w1 hJ1 (by omega)
          dsimp only [encS] at hy
          gi_wp2
          refine hR.mono ?_
          rintro e W3 (⟨rfl, hJ3, hk3⟩ | ⟨rfl, hJx3⟩)
          · have hB3 := hB1.trans hk3.2
            gi_wp2
            exact ⟨⟨k + 1, by omega, by go_num, by rw [Hw.out]; exact hJ3, hB3⟩, by simp [intOf]; omega⟩
          · gi_wp2
            refine bodyPost_ret (results_none rfl _ _ _) rfl ?_
            exact ⟨⟨_, rfl⟩, .inr ⟨_, trivial, hJx3⟩⟩
      · have he : (a0 == s) = false := by simpa using hs
        have Hw := Lib.hid (query_miss (s := s) (f := f) (t := t) hx (want_no hs))
        clear hx hs
        gi_wp2
        refine ⟨fun _ h => (by cases h), ?_⟩
        gi_wp2
        exact ⟨⟨k + 1, by omega, by go_num, by rw [Hw.out]; exact hJA, hbA⟩, by simp [intOf]; omega⟩
    · obtain rfl : m = k := by omega
      have Hq := Lib.hid hJk
      clear hJk
      gi_wp2
      go_end0
      refine ⟨⟨_, rfl⟩, .inl ⟨_, rfl, ?_⟩⟩
      have := Hq.out
      rwa [List.take_of_length_le (by rw [Hm.out]; exact Nat.le_refl _)] at this
/-- askedSamples: its arguments are boxed; the function value captures the boxes. -/
theorem askedSamples (A : Option Addr) (m c : Nat) (s f t : Int) (w : World) :
    Calls Tryd.prog 49 #[.slice A m c, .int .i64 s, .int .i64 f, .int .i64 t] w fun e w' =>
      e = .returned (.func (.func 72) #[] #[.pointer (some ⟨w.heap.size, 0, none⟩), .pointer (some ⟨w.heap.size + 1, 0, none⟩), .pointer (some ⟨w.heap.size + 1 + 1, 0, none⟩), .pointer (some ⟨w.heap.size + 1 + 1 + 1, 0, none⟩)]) ∧
      w' = (((w.alloc (.cells #[.slice A m c] 24)).alloc (.cells #[.int .i64 s] 2)).alloc (.cells #[.int .i64 f] 2)).alloc (.cells #[.int .i64 t] 2) := by
  go_enter Tryd.func49, Tryd.ntmps49
  go_wp2
  go_ret
  exact ⟨rfl, rfl⟩

theorem asked_stops (n : Nat) (hn : 1 ≤ n) (A : Option Addr) (m c : Nat) (q : List Smp) (s f t : Int) (w : World) (ha : Rd eS w w.heap.size A q) (hm : q.length = m) (hmm : m ≤ 1000) (b : Nat) (hb : b = w.heap.size) :
    SeqStopsK Fence.wide n Tryd.prog 72 #[.pointer (some ⟨b, 0, none⟩), .pointer (some ⟨b + 1, 0, none⟩), .pointer (some ⟨b + 1 + 1, 0, none⟩), .pointer (some ⟨b + 1 + 1 + 1, 0, none⟩)] encS (Kp2 (b + 4)) (fun xs => xs = queryM q s f t) (fun _ => True) m
      ((((w.alloc (.cells #[.slice A m c] 24)).alloc (.cells #[.int .i64 s] 2)).alloc (.cells #[.int .i64 f] 2)).alloc (.cells #[.int .i64 t] 2)) := fun l J Jx W hW hJ hJx hY h0 => by
  have s1 : (w.alloc (.cells #[.slice A m c] 24)).heap.size = b + 1 := by simp [hb]
  have s2 : ((w.alloc (.cells #[.slice A m c] 24)).alloc (.cells #[.int .i64 s] 2)).heap.size = b + 1 + 1 := by simp [hb]
  have s3 : (((w.alloc (.cells #[.slice A m c] 24)).alloc (.cells #[.int .i64 s] 2)).alloc (.cells #[.int .i64 f] 2)).heap.size = b + 1 + 1 + 1 := by simp [hb]
  have hs4 : ((((w.alloc (.cells #[.slice A m c] 24)).alloc (.cells #[.int .i64 s] 2)).alloc (.cells #[.int .i64 f] 2)).alloc (.cells #[.int .i64 t] 2)).heap.size = b + 4 := by simp [hb]
  have hs : b + 4 ≤ W.heap.size := hs4 ▸ hW.size
  have e1 := ((((At.new w 24 #[.slice A m c]).alloc (.cells #[.int .i64 s] 2)).alloc (.cells #[.int .i64 f] 2)).alloc (.cells #[.int .i64 t] 2)).below hW (by rw [hs4]; omega)
  have e2 := (((At.newAt' (t := 2) (cs := #[.int .i64 s]) s1).alloc (.cells #[.int .i64 f] 2)).alloc (.cells #[.int .i64 t] 2)).below hW (by rw [hs4]; omega)
  have e3 := ((At.newAt' (t := 2) (cs := #[.int .i64 f]) s2).alloc (.cells #[.int .i64 t] 2)).below hW (by rw [hs4]; omega)
  have e4 := (At.newAt' (t := 2) (cs := #[.int .i64 t]) s3).below hW (by rw [hs4]; omega)
  have hBw : Below w.heap.size w ((((w.alloc (.cells #[.slice A m c] 24)).alloc (.cells #[.int .i64 s] 2)).alloc (.cells #[.int .i64 f] 2)).alloc (.cells #[.int .i64 t] 2)) :=
    ((((Below.refl _ _).alloc (Nat.le_refl _) _).alloc (by simp) _).alloc (by simp; omega) _).alloc (by simp; omega) _
  have haW : Rd eS W (b + 4) A q := (ha.below (hBw.trans (hW.mono (by rw [hs4]; omega))) (Nat.le_refl _)).more (by omega)
  rw [← hb] at e1
  exact asked_in n hn l b (b + 1) (b + 1 + 1) (b + 1 + 1 + 1) (b + 4) m c A q s f t J Jx hY W hJ (e1.cell 0) (e2.cell 0) (e3.cell 0) (e4.cell 0) (by omega) (by omega) (by omega) (by omega) hs haW hm hmm h0

set_option maxRecDepth 100000 in
set_option maxHeartbeats 2000000 in
theorem implQueryStore (A : Option Addr) (n c : Nat) (l : List Smp) (s f t : Int) (w : World) (ha : Rd eS w w.heap.size A l) (hn : l.length = n) (hF : Flds w) :
    Calls Tryd.prog 14 #[.slice A n c, .int .i64 s, .int .i64 f, .int .i64 t] w fun e w' => RetSs (queryStoreM l s f t) w e w' := by
  have hB0 : Below w.heap.size w (w.alloc (.cells #[.int .i64 0, .slice none 0 0] 35)) := (Below.refl _ _).alloc (Nat.le_refl _) _
  have r0 := At.new w 35 #[.int .i64 0, .slice none 0 0]
  have ha0 := ha.lift hB0
  have HF := implStoreFault A n c l _ ha0 hn (hF.below hB0)
  by_cases h0 : storeFaultM l = 0
  rotate_left
  · rw [show queryStoreM l s f t = (storeFaultM l, []) from if_pos h0]
    have hne : (storeFaultM l != 0) = true := by rw [bne_iff_ne]; exact h0
    generalize storeFaultM l = sf at *
    clear h0
    go_enter Tryd.func14, Tryd.ntmps14
    go_wp2_with fail
    refine (HF).mono ?_
    rintro e w1 ⟨rfl, hb1⟩
    have hB1 := hB0.trans (hb1.mono hB0.size)
    have r1 := r0.below hb1 r0.lt
    have ha1 := ha0.lift hb1
    obtain ⟨c0, c1, _, _⟩ := r1.two
    go_wp2_with fail
    refine bodyPost_ret (v := .agg #[.int .i64 sf, .slice none 0 0]) (by simp [results, Tryd.results14, go_sem, c0, c1]) rfl ?_
    exact ⟨_, _, _, rfl, Ow.nil, (hB1.setCell (Nat.le_refl _) _).setCell (Nat.le_refl _) _⟩
  have hsmall : n ≤ 160 := by
    rcases Nat.lt_or_ge 160 n with h | h
    · rw [storeFault_many (by omega)] at h0
      cases h0
    · exact h
  rw [h0] at HF
  have hbd : ∀ W : World, Calls Tryd.prog 47 #[.slice (some ⟨W.heap.size, 0, none⟩) 1 1] (W.alloc (.cells #[.int .i64 s, .int .i64 0, .int .i64 9] 70)) fun e w' => e = .returned (.bool ([(s, 0, 9)].all inB)) ∧ Below (W.alloc (.cells #[.int .i64 s, .int .i64 0, .int .i64 9] 70)).heap.size (W.alloc (.cells #[.int .i64 s, .int .i64 0, .int .i64 9] 70)) w' :=
    fun W => areWithin_any W.heap.size 1 1 [(s, 0, 9)] _ (bnds_one rfl) (by simp) rfl (by omega)
  rcases hin : inB (s, 0, 9)
  · rw [show queryStoreM l s f t = (3, []) by unfold queryStoreM; rw [if_neg (by simp [h0]), if_pos hin]]
    have e1 : [(s, (0 : Int), (9 : Int))].all inB = false := by simp [hin]
    rw [e1] at hbd
    clear h0 e1 hin
    go_enter Tryd.func14, Tryd.ntmps14
    go_wp2_with fail
    refine (HF).mono ?_
    rintro e w1 ⟨rfl, hb1⟩
    have hB1 := hB0.trans (hb1.mono hB0.size)
    have r1 := r0.below hb1 r0.lt
    go_wp2_with fail
    refine (hbd _).mono ?_
    rintro e w2 ⟨rfl, hb2⟩
    have hB1a := hB1.alloc hB1.size (.cells #[.int .i64 s, .int .i64 0, .int .i64 9] 70)
    have hB2 := hB1a.trans (hb2.mono hB1a.size)
    have r2 := (r1.alloc (.cells #[.int .i64 s, .int .i64 0, .int .i64 9] 70)).below hb2 (r1.alloc _).lt
    obtain ⟨c0, c1, _, _⟩ := r2.two
    go_wp2_with fail
    refine bodyPost_ret (v := .agg #[.int .i64 3, .slice none 0 0]) (by simp [results, Tryd.results14, go_sem, c0, c1]) rfl ?_
    exact ⟨_, _, _, rfl, Ow.nil, (hB2.setCell (Nat.le_refl _) _).setCell (Nat.le_refl _) _⟩
  · rw [show queryStoreM l s f t = (0, queryM l s f t) by unfold queryStoreM; rw [if_neg (by simp [h0]), if_neg (by simp [hin])]]
    have e1 : [(s, (0 : Int), (9 : Int))].all inB = true := by simp [hin]
    rw [e1] at hbd
    clear h0 e1 hin
    go_enter Tryd.func14, Tryd.ntmps14
    go_wp2_with fail
    refine (HF).mono ?_
    rintro e w1 ⟨rfl, hb1⟩
    have hB1 := hB0.trans (hb1.mono hB0.size)
    have r1 := r0.below hb1 r0.lt
    have ha1 := ha0.lift hb1
    go_wp2_with fail
    refine (hbd _).mono ?_
    rintro e w2 ⟨rfl, hb2⟩
    have hB1a := hB1.alloc hB1.size (.cells #[.int .i64 s, .int .i64 0, .int .i64 9] 70)
    have hB2 := hB1a.trans (hb2.mono hB1a.size)
    have r2 := (r1.alloc (.cells #[.int .i64 s, .int .i64 0, .int .i64 9] 70)).below hb2 (r1.alloc _).lt
    have ha2 := (ha1.lift ((Below.refl w1.heap.size w1).alloc (Nat.le_refl _) (.cells #[.int .i64 s, .int .i64 0, .int .i64 9] 70))).lift hb2
    go_wp2_with fail
    refine (askedSamples A n c s f t _).mono ?_
    rintro e w3 ⟨rfl, hw3⟩
    have hst := asked_stops 3 (by omega) A n c l s f t w2 ha2 hn (by omega) w2.heap.size rfl
    have hbl : Below w2.heap.size w2 w3 := by
      rw [hw3]
      exact ((((Below.refl _ _).alloc (Nat.le_refl _) _).alloc (by simp) _).alloc (by simp; omega) _).alloc (by simp; omega) _
    have hs3 : w3.heap.size = w2.heap.size + 4 := by rw [hw3]; simp
    rw [← hw3] at hst
    clear hw3
    have hB3 := hB2.trans (hbl.mono hB2.size)
    have r3 := r2.below hbl r2.lt
    go_wp2_with fail
    refine (collectSeq 4 (by omega) _ _ (enters_of Tryd.func72 (by kernel_rfl) rfl) _ _ n (by omega) (w2.heap.size + 4) w3 (by omega) hst).mono ?_
    rintro e w4 ⟨A4, c4, xs, rfl, hxs, ow4, hb4⟩
    subst hxs
    have hB4 := hB3.trans (hb4.mono hB3.size)
    have r4 := r3.below hb4 r3.lt
    obtain ⟨c0, c1, _, _⟩ := r4.two
    have hl3 := r3.lt
    go_wp2_with fail
    refine bodyPost_ret (v := .agg #[.int .i64 0, .slice A4 (queryM l s f t).length c4]) (by simp [results, Tryd.results14, go_sem, c0, c1]) rfl ?_
    exact ⟨_, _, _, rfl, (((ow4.under (p := ⟨w.heap.size, 0, none⟩) hl3 _).under (p := ⟨w.heap.size, 1, none⟩) hl3 _).from_ hB3.size), (hB4.setCell (Nat.le_refl _) _).setCell (Nat.le_refl _) _⟩

theorem hiQueryStore : ∀ (A0 : Option Addr) (m0 e0 : Nat) (q0 : List Smp) (s : Int) (f : Int) (t : Int) (W : World), Rd eS W W.heap.size A0 q0 → q0.length = m0 → m0 ≤ 1048576 → Flds W → Calls Tryd.prog 14 #[.slice A0 m0 e0, .int .i64 s, .int .i64 f, .int .i64 t] W (RetSs (queryStoreM q0 s f t) W) :=
  fun A0 m0 e0 q0 s f t W ha hn _ hF => implQueryStore A0 m0 e0 q0 s f t W ha hn hF
end Go.Proofs.YtkgbjlbhlhdhbaaDoor
/-
  maps.Values over a map of samples by their keys: each value once, in whatever order.
-/
namespace Go.Proofs.YtkgbjlbhlhdhbaaDoor
set_option maxRecDepth 20000
open Go.RowKit Go.Shelf
open Go.ChangeMaps Go.MapKept
set_option linter.unusedSimpArgs false
set_option linter.unusedVariables false

attribute [local go_sem] Oper.semAt_some

/-- A walk over the map under way: these are still to come. -/
def SRan (w : World) (b r : Nat) (left : List Smp) : Prop :=
  ∃ es clock since seen c0, w.heap[b]? = some (.map es clock) ∧ w.heap[r]? = some (.mapIter (some b) since seen c0) ∧ (∀ x ∈ es.toList, x.born < since) ∧ (es.toList.map (·.born)).Nodup ∧ since ≤ c0 ∧ since ≤ clock ∧
    (leftOf es seen).toList.map (·.val) = left.map smpV

section
variable {w w' : World} {b r : Nat} {left L : List Smp}
theorem SRan.of_walks (h : SRan w b r left) (hk : KeepsWalks w w') : SRan w' b r left := by
  obtain ⟨es, clock, since, seen, c0, h1, h2, rest⟩ := h
  exact ⟨es, clock, since, seen, c0, hk.same b _ h1 rfl, hk.same r _ h2 rfl, rest⟩
theorem SRan.lt (h : SRan w b r left) : r < w.heap.size := by
  obtain ⟨es, clock, since, seen, c0, h1, h2, rest⟩ := h
  exact (Array.getElem?_eq_some_iff.1 h2).1
theorem SRan.iter (h : SRan w b r left) : ∃ o : Obj, w.heap[r]? = some o ∧ o.isWalk = true := by
  obtain ⟨es, clock, since, seen, c0, h1, h2, rest⟩ := h
  exact ⟨_, h2, rfl⟩
theorem SRan.alloc (h : SRan w b r left) (o : Obj) : SRan (w.alloc o) b r left := h.of_walks (KeepsWalks.alloc _ _)
theorem SRan.left_eq (h : SRan w b r left) : w.rangeLeft b r = left.length := by
  obtain ⟨es, clock, since, seen, c0, h1, h2, _, _, _, _, hm⟩ := h
  simp only [World.rangeLeft, h1, h2]
  have := congrArg List.length hm
  simpa using this
theorem SMap.range (h : SMap w b L) : ∃ w', (Instr.range 76 (.map (some b))).run Tryd.prog w = .ok (.pointer (some ⟨w.heap.size, 0, none⟩)) w' ∧ SRan w' b w.heap.size L ∧ w.grownBy w' none ∧ w'.heap.size = w.heap.size + 1 := by
  have hlt := h.lt
  obtain ⟨es, clock, hb, hm, hc, hd⟩ := h
  refine ⟨_, run_range_map w _ _ _ b es clock Tryd.underlying76 hb, ⟨es, clock, clock, #[], clock, (Below.heap_alloc w _ b hlt).trans hb, heap_alloc_new w _, hc, hd, Nat.le_refl _, Nat.le_refl _, ?_⟩, World.grownBy_alloc w _ none, by simp⟩
  have h1 := congrArg (List.map Prod.snd) hm
  have h2 : leftOf es #[] = es := by
    unfold leftOf
    rw [Array.filter_eq_self]
    intro a _
    simp
  rw [h2]
  simpa [List.map_map, Function.comp_def] using h1

theorem filter_one (e : MapEntry) : ∀ (l : List MapEntry), (l.map (·.born)).Nodup → e ∈ l → ∃ l1 l2, l = l1 ++ e :: l2 ∧ l.filter (fun x => !(x.born == e.born)) = l1 ++ l2
  | x :: l, hn, he => by
    have hn' : x.born ∉ l.map (·.born) ∧ (l.map (·.born)).Nodup := List.nodup_cons.1 hn
    by_cases hx : x.born = e.born
    · have hxe : e = x := by
        rcases List.mem_cons.1 he with h | h
        · exact h
        · exact absurd (List.mem_map.2 ⟨e, h, hx.symm⟩) hn'.1
      subst hxe
      refine ⟨[], l, rfl, ?_⟩
      rw [List.filter_cons]
      simp only [beq_self_eq_true, Bool.not_true, Bool.false_eq_true, if_false, List.nil_append]
      rw [List.filter_eq_self]
      intro y hy
      have : y.born ≠ e.born := fun h => hn'.1 (List.mem_map.2 ⟨y, hy, h⟩)
      simpa using this
    · have he' : e ∈ l := by
        rcases List.mem_cons.1 he with h | h
        · exact absurd (by rw [h]) hx
        · exact h
      obtain ⟨l1, l2, h1, h2⟩ := filter_one e l hn'.2 he'
      refine ⟨x :: l1, l2, by rw [h1]; rfl, ?_⟩
      rw [List.filter_cons, h2]
      simp [hx]

theorem map_split {l1 l2 : List MapEntry} {e : MapEntry} : ∀ {left : List Smp}, (l1 ++ e :: l2).map (·.val) = left.map smpV → ∃ m1 x m2, left = m1 ++ x :: m2 ∧ e.val = smpV x ∧ (l1 ++ l2).map (·.val) = (m1 ++ m2).map smpV := by
  intro left h
  rw [List.map_append, List.map_cons] at h
  obtain ⟨m1, m2', h1, h2, h3⟩ := List.map_eq_append_iff.1 h.symm
  obtain ⟨x, m2, h4, h5, h6⟩ := List.map_eq_cons_iff.1 h3
  exact ⟨m1, x, m2, by rw [h1, h4], h5.symm, by rw [List.map_append, List.map_append, h2, h6]⟩

theorem SRan.next (h : SRan w b r left) (hne : r ≠ b) (ty : TypeId) :
    (left = [] ∧ (Instr.next (.pointer (some ⟨r, 0, none⟩)) false ty).run Tryd.prog w = .ok (.tuple #[.bool false]) w) ∨
    ∃ (m1 : List Smp) (x : Smp) (m2 : List Smp) (key : Value) (w' : World), left = m1 ++ x :: m2 ∧ (Instr.next (.pointer (some ⟨r, 0, none⟩)) false ty).run Tryd.prog w = .ok (.tuple #[.bool true, key, smpV x]) w' ∧
      SRan w' b r (m1 ++ m2) ∧ w.grownBy w' (some r) ∧ w'.heap.size = w.heap.size ∧ (Instr.entry (.pointer (some ⟨r, 0, none⟩))).run Tryd.prog w' = .ok (.tuple #[key, smpV x]) w' := by
  obtain ⟨es, clock, since, seen, c0, hb, hr, hold, hnd, hsc, hsk, hm⟩ := h
  rcases run_next_at (P := Tryd.prog) w ty r b since c0 seen es clock hr hb hold hsc with ⟨h0, hrun⟩ | ⟨e, he, w1, hal, hrun⟩
  · left
    refine ⟨?_, hrun⟩
    have := congrArg List.length hm
    rw [List.length_map, List.length_map, Array.length_toList, h0] at this
    exact List.eq_nil_of_length_eq_zero this.symm
  · right
    obtain ⟨hem, hes⟩ := mem_left he
    have hsub : ((leftOf es seen).toList.map (·.born)).Nodup := by
      unfold leftOf
      rw [Array.toList_filter]
      exact List.Nodup.sublist (List.Sublist.map _ List.filter_sublist) hnd
    obtain ⟨l1, l2, e1, e2⟩ := filter_one e _ hsub he
    rw [e1] at hm
    obtain ⟨m1, x, m2, hl, hv, hm2⟩ := map_split hm
    have hr1 : w1.heap[r]? = some (.mapIter (some b) since seen c0) := by rcases hal with rfl | rfl <;> exact hr
    have hb1 : w1.heap[b]? = some (.map es clock) := by rcases hal with rfl | rfl <;> exact hb
    have hset := heap_set (o' := .mapIter (some b) since (seen.push e.born) clock) hr1
    have hb' : (setBlock w1 r (.mapIter (some b) since (seen.push e.born) clock)).heap[b]? = some (.map es clock) := (hset.2 b (fun e1 => hne e1.symm)).trans hb1
    refine ⟨m1, x, m2, e.key, _, hl, by rw [← hv]; exact hrun, ⟨es, clock, since, seen.push e.born, clock, hb', hset.1, hold, hnd, hsk, hsk, ?_⟩, ?_, ?_, ?_⟩
    · rw [← hm2, ← e2]
      congr 1
      unfold leftOf
      rw [Array.toList_filter, Array.toList_filter, List.filter_filter]
      congr 1
      funext y
      rw [contains_push]
      cases seen.contains y.born <;> cases (y.born == e.born) <;> rfl
    · rcases hal with rfl | rfl <;> exact ⟨rfl, rfl, rfl, by simp [setBlock], fun i _ hi => hset.2 i (fun e1 => hi (by rw [e1]))⟩
    · rcases hal with rfl | rfl <;> simp [setBlock]
    · rw [← hv]
      exact run_entry_at _ r b since seen es clock e hset.1 hb' hem hnd
end

section
variable {F : Fence} {k : Nat} (w : World) {ops : Array Oper} {rest : List Oper} {o : Oper} {a : Act} {Q : Exit → Act → World → Prop}
theorem wpListIn_range_s (hg : o.guard = none) (m : Operand) (hop : o.op = Op.range 76 m) (b : Nat) (L : List Smp) (hm : a.eval m = .map (some b)) (h : SMap w b L)
    (hK : ∀ w', SRan w' b w.heap.size L → w.grownBy w' none → w'.heap.size = w.heap.size + 1 → wpListIn F k Tryd.prog ops Q rest (a.put o.dst (.pointer (some ⟨w.heap.size, 0, none⟩))) w') : wpListIn F k Tryd.prog ops Q (o :: rest) a w := by
  refine wpListIn_plain hg fun K' hK' => ?_
  obtain ⟨w', hrun, hs, hg1, hs1⟩ := h.range
  unfold Oper.wpIn
  refine ⟨?_, ?_⟩
  · simp [Oper.about, hop]
  · rw [Oper.semAt_plain F _ _ (by rw [hop]; intro c hc'; cases hc')]
    simp [execOp, hop, hm, hrun, Result.andThen]
    exact hK' _ _ (hK _ hs hg1 hs1)
theorem wpListIn_next_s (hg : o.guard = none) (it : Operand) (hop : o.op = Op.next it false) (b r : Nat) (left : List Smp) (hne : r ≠ b) (hit : a.eval it = .pointer (some ⟨r, 0, none⟩)) (h : SRan w b r left)
    (hDone : left = [] → wpListIn F k Tryd.prog ops Q rest (a.put o.dst (.tuple #[.bool false])) w)
    (hMore : ∀ (m1 : List Smp) (a0 a1 a2 a3 : Int) (m2 : List Smp) (key : Value) (w' : World), left = m1 ++ (a0, a1, a2, a3) :: m2 → SRan w' b r (m1 ++ m2) → w.grownBy w' (some r) → w'.heap.size = w.heap.size → (Instr.entry (.pointer (some ⟨r, 0, none⟩))).run Tryd.prog w' = .ok (.tuple #[key, .agg #[.int .i64 a0, .int .i64 a1, .int .i64 a2, .int .i64 a3]]) w' →
      wpListIn F k Tryd.prog ops Q rest (a.put o.dst (.tuple #[.bool true, key, .agg #[.int .i64 a0, .int .i64 a1, .int .i64 a2, .int .i64 a3]])) w') : wpListIn F k Tryd.prog ops Q (o :: rest) a w := by
  refine wpListIn_plain hg fun K' hK' => ?_
  unfold Oper.wpIn
  refine ⟨by simp [Oper.about, hop], ?_⟩
  rw [Oper.semAt_plain F _ _ (by rw [hop]; intro c hc'; cases hc')]
  rcases h.next hne o.type with ⟨h0, hrun⟩ | ⟨m1, ⟨a0, a1, a2, a3⟩, m2, key, w', hl, hrun, hs, hgr, hsz, hen⟩
  · simp [execOp, hop, hit, hrun, Result.andThen]
    exact hK' _ _ (hDone h0)
  · simp [execOp, hop, hit, hrun, Result.andThen]
    exact hK' _ _ (hMore m1 a0 a1 a2 a3 m2 key w' hl hs hgr hsz hen)
end

set_option maxRecDepth 100000 in
set_option maxHeartbeats 4000000 in
theorem values_in (n : Nat) (hn : 1 ≤ n) (l Bm b nB : Nat) (L : List Smp) (J Jx : List Smp → World → Prop)
    (hY : ∀ pre x W, J pre W → pre.length < L.length → YieldAt Fence.wide (n - 1) Tryd.prog l (encS x) W fun e W' =>
      (e = .returned (.bool true) ∧ J (pre ++ [x]) W' ∧ Kp2 nB W W') ∨ (e = .returned (.bool false) ∧ Jx (pre ++ [x]) W'))
    (W : World) (hJ : AbidesFrom W.heap.size J) (hm : W.cell? ⟨Bm, 0, none⟩ = some (.map (some b))) (hs : SMap W b L) (h0 : J [] W) :
    CallsIn Fence.wide n Tryd.prog 78 #[.func (.yield l) #[] #[], .pointer (some ⟨Bm, 0, none⟩)] W fun e W' => (∃ v, e = .returned v) ∧
      ((∃ xs, xs.Perm L ∧ J xs W') ∨ (∃ pre, True ∧ Jx pre W')) := by
  have hro : Fence.wide.round = none := rfl
  have hT : Fence.wide.fn 78 := trivial
  have hbW := hs.lt
  refine callsIn_of_wp Tryd.func78 rfl hT ?_ hro
  simp only [Tryd.ntmps78, List.size_toArray, List.length_cons, List.length_nil, Nat.reduceAdd, Nat.reduceSub, Array.replicate_succ, Array.replicate_zero, List.push_toArray, List.append_toArray, List.nil_append, List.cons_append]
  gi_wp2_with (first
    | (gi_at_range; refine wpListIn_range_s _ rfl _ rfl b L rfl hs ?_; intro w0 hr0 hg0 hs0)
    | gi_in)
  go_frame
  gi_loopw [4] (fun _ wr => ∃ (left ps : List Smp), SRan wr b W.heap.size left ∧ (ps ++ left).Perm L ∧ J ps wr) (fun _ wr => wr.rangeLeft b W.heap.size)
  case atStart => exact ⟨L, [], hr0, by simp, hJ [] W w0 none h0 hg0 (fun r e => by cases e)⟩
  case round =>
    obtain ⟨left, ps, hrg, hp, hJs⟩ := hrel
    gi_wp2_with (first
      | (gi_at_next; refine wpListIn_next_s _ rfl _ rfl b W.heap.size left (by omega) rfl hrg ?_ ?_)
      | gi_in)
    · intro hl
      subst hl
      gi_wp2
      go_end0
      exact ⟨⟨_, rfl⟩, .inl ⟨ps, by simpa using hp, hJs⟩⟩
    · intro m1 a0 a1 a2 a3 m2 key w2 hl hrg2 hg2 hs2 hen
      have hlen : ps.length < L.length := by
        have := hp.length_eq
        rw [hl, List.length_append, List.length_append, List.length_cons] at this
        omega
      have hJ2 : J ps w2 := hJ ps wr w2 (some W.heap.size) hJs hg2 (fun r e => by cases e; exact ⟨Nat.le_refl _, hrg.iter⟩)
      have hJ3 := abides_below hJ hJ2 ((Below.refl w2.heap.size w2).alloc (Nat.le_refl _) (.cells (#[.int .i64 a0, .int .i64 a1, .int .i64 a2, .int .i64 a3]) 26))
      have hrg3 := hrg2.alloc (.cells (#[.int .i64 a0, .int .i64 a1, .int .i64 a2, .int .i64 a3]) 26)
      have Hp := Lib.hid (show (ps ++ [(a0, a1, a2, a3)] ++ (m1 ++ m2)).Perm L from by
        rw [hl] at hp
        refine List.Perm.trans ?_ hp
        rw [List.append_assoc]
        refine List.Perm.append_left ps ?_
        rw [List.singleton_append]
        exact List.perm_middle.symm)
      have Hm := Lib.hid (show (m1 ++ m2).length < left.length by rw [hl]; simp)
      clear hl hp
      obtain ⟨fn, tmps, assign, body, hy, hR⟩ := hY ps (a0, a1, a2, a3) _ hJ3 hlen
      dsimp only [encS] at hy
      gi_wp2
      refine hR.mono ?_
      rintro e W3 (⟨rfl, hJ4, hk4⟩ | ⟨rfl, hJx4⟩)
      · gi_wp2
        have hrg4 := hrg3.of_walks hk4.1
        go_roundw
        case rel => exact ⟨m1 ++ m2, ps ++ [(a0, a1, a2, a3)], hrg4, Hp.out, hJ4⟩
        case measure => rw [hrg4.left_eq, hrg.left_eq]; exact Hm.out
      · gi_wp2
        refine bodyPost_ret (results_none rfl _ _ _) rfl ?_
        exact ⟨⟨_, rfl⟩, .inr ⟨_, trivial, hJx4⟩⟩
end Go.Proofs.YtkgbjlbhlhdhbaaDoor
/-
  The program's MergeLists and InsertSample.
-/
namespace Go.Proofs.YtkgbjlbhlhdhbaaDoor
set_option maxRecDepth 20000
open Go.RowKit Go.Shelf
set_option linter.unusedSimpArgs false
set_option linter.unusedVariables false

theorem valuesOf (b : Nat) (w : World) :
    Calls Tryd.prog 65 #[.map (some b)] w fun e w' =>
      e = .returned (.func (.func 78) #[] #[.pointer (some ⟨w.heap.size, 0, none⟩)]) ∧ w' = w.alloc (.cells #[.map (some b)] 76) := by
  go_enter Tryd.func65, Tryd.ntmps65
  go_wp2
  go_ret
  exact ⟨rfl, rfl⟩

theorem values_stops (n : Nat) (hn : 1 ≤ n) (b Bm n0 : Nat) (L : List Smp) (w : World) (hs : SMap w b L) (hm : At w Bm 76 #[.map (some b)]) :
    SeqStopsK Fence.wide n Tryd.prog 78 #[.pointer (some ⟨Bm, 0, none⟩)] encS (Kp2 n0) (fun xs => xs.Perm L) (fun _ => True) L.length w := fun l J Jx W hW hJ hJx hY h0 =>
  values_in n hn l Bm b n0 L J Jx hY W hJ ((hm.below hW hm.lt).cell 0) (hs.below hW hs.lt) h0

set_option maxHeartbeats 1000000 in
theorem sortedFunc (b Bm : Nat) (L : List Smp) (w : World) (hs : SMap w b L) (hm : At w Bm 76 #[.map (some b)]) (hL : L.length ≤ 1000) :
    Calls Tryd.prog 64 #[.func (.func 78) #[] #[.pointer (some ⟨Bm, 0, none⟩)], .func (.func 66) #[] #[]] w fun e w' =>
      ∃ A n c ys, e = .returned (.slice A n c) ∧ ys.Perm L ∧ (ys.Pairwise fun x y => aheadM y x = false) ∧ Ow eS w' w.heap.size A n c ys ∧ Below w.heap.size w w' := by
  have hC := collectSeq 4 (by omega) _ _ (enters_of Tryd.func78 (by kernel_rfl) rfl) _ _ L.length hL w.heap.size w (Nat.le_refl _) (values_stops 3 (by omega) b Bm w.heap.size L w hs hm)
  clear hs hm
  go_enter Tryd.func64, Tryd.ntmps64
  go_wp2_with fail
  refine hC.mono ?_
  rintro e w1 ⟨A, c, xs, rfl, hp, ow, hb⟩
  have hS := sortSmp A xs.length c w.heap.size xs w1 ow (by rw [hp.length_eq]; exact hL)
  go_wp2_with fail
  refine hS.mono ?_
  rintro e w2 ⟨rfl, ys, hp2, hpw, ow2, hb2⟩
  have hB2 := hb.trans hb2
  have Hp := Lib.hid (hp2.trans hp)
  clear hC hS hp hp2
  go_wp2
  go_ret
  exact ⟨A, xs.length, c, ys, rfl, Hp.out, hpw, ow2, hB2⟩

theorem flat_two (A B : Option Addr) (n m c d : Nat) (l k : List Smp) : flat [(A, n, c, l), (B, m, d, k)] = l ++ k := by simp [flat]
theorem rows_two {w : World} {T : Nat} {A B : Option Addr} {n m c d : Nat} {l k : List Smp} (ha : Rd eS w w.heap.size A l) (hb : Rd eS w w.heap.size B k) (hn : l.length = n) (hm : k.length = m) (h1 : n ≤ 1000) (h2 : m ≤ 1000) : Rows4 (w.alloc (.cells #[.slice A n c, .slice B m d] T)) w.heap.size [(A, n, c, l), (B, m, d, k)] := fun i r hr => by
  have hB := (Below.refl w.heap.size w).alloc (Nat.le_refl _) (.cells #[.slice A n c, .slice B m d] T)
  match i, hr with
  | 0, hr =>
    obtain rfl : (A, n, c, l) = r := by simpa using hr
    exact ⟨(At.new w T _).cell 0, ha.lift hB, hn, h1⟩
  | 1, hr =>
    obtain rfl : (B, m, d, k) = r := by simpa using hr
    exact ⟨(At.new w T _).cell 1, hb.lift hB, hm, h2⟩
  | i + 2, hr => simp at hr

set_option maxHeartbeats 400000 in
theorem cmpOr64 (g n c : Nat) (l : List Int) (w : World) (hl : Ints w g l) (hn : l.length = n) (hm : n ≤ 1000) :
    Calls Tryd.prog 63 #[.slice (some ⟨g, 0, none⟩) n c] w fun e w' => e = .returned (.int .i64 (orM l)) ∧ w' = w := by
  have Hn := Lib.hid hn
  clear hn
  go_enter Tryd.func63, Tryd.ntmps63
  go_wp2
  go_loopw [8] (fun i wr => OrRel w l n i wr) (fun i _ => n - (intOf i).toNat)
  case atStart => exact ⟨0, Nat.zero_le _, rfl, rfl, rfl⟩
  case round =>
    obtain ⟨k, hk, rfl, hd, rfl⟩ := hrel
    have Hd := Lib.hid hd
    clear hd
    by_cases hlt : k < n
    · have hkl : k < l.length := by rw [Hn.out]; exact hlt
      obtain ⟨x, hx⟩ : ∃ x, l[k]? = some x := ⟨l[k], List.getElem?_eq_getElem hkl⟩
      have hc := hl k x hx
      have Ho := Lib.hid (show orM (l.drop k) = if x = 0 then orM (l.drop (k + 1)) else x by
        rw [List.drop_eq_getElem_cons hkl, orM_cons]
        rw [List.getElem?_eq_getElem hkl] at hx
        rw [Option.some.inj hx])
      clear hx
      by_cases h0 : x = 0
      · subst h0
        go_wp2
        refine ⟨⟨k + 1, by omega, by go_num, ?_, rfl⟩, by simp [intOf]; omega⟩
        have := Ho.out
        rw [if_pos rfl] at this
        rw [← this]
        exact Hd.out
      · have hne : (x != 0) = true := by simpa using h0
        have Hx := Lib.hid (show orM l = x by rw [← Hd.out, Ho.out, if_neg h0])
        clear h0
        go_wp2
        go_ret
        exact ⟨by rw [Hx.out]; rfl, rfl⟩
    · obtain rfl : k = n := by omega
      have Hf := Lib.hid (show orM l = 0 by rw [← Hd.out, List.drop_eq_nil_of_le (Nat.le_of_eq Hn.out)]; rfl)
      go_wp2
      go_ret
      exact ⟨by rw [Hf.out]; rfl, rfl⟩

theorem or_two (x y : Int) : orM [x, y] = if x ≠ 0 then x else y := by
  rw [orM_cons, orM_cons, orM_nil]
  by_cases h : x = 0 <;> by_cases k : y = 0 <;> simp [h, k]
theorem ints_two {w : World} {t : TypeId} {x y : Int} : Ints (w.alloc (.cells #[.int .i64 x, .int .i64 y] t)) w.heap.size [x, y] := by
  have h := At.new w t #[.int .i64 x, .int .i64 y]
  intro k u hk
  match k, hk with
  | 0, hk => obtain rfl : x = u := by simpa using hk
             exact h.cell 0
  | 1, hk => obtain rfl : y = u := by simpa using hk
             exact h.cell 1
  | k + 2, hk => simp at hk
theorem storeFault_small {l : List Smp} (h : storeFaultM l = 0) : l.length ≤ 160 := ((storeFault_iff l).1 h).1
theorem mergeLists_fault {a b : List Smp} (h : orM [storeFaultM a, storeFaultM b] ≠ 0) : mergeListsM a b = (orM [storeFaultM a, storeFaultM b], []) := by
  rw [or_two] at h ⊢
  unfold mergeListsM
  by_cases h1 : storeFaultM a = 0
  · rw [if_neg (by simp [h1])] at h
    rw [if_neg (by simp [h1]), if_pos h, if_neg (by simp [h1])]
  · rw [if_pos h1, if_pos h1]
theorem byKey_len (l : List Smp) : (byKeyM l).length ≤ l.length := by
  have step : ∀ (l acc : List Smp), (l.foldl keyStep acc).length ≤ acc.length + l.length := by
    intro l
    induction l with
    | nil => intro acc; simp
    | cons x l ih =>
      intro acc
      rw [List.foldl_cons]
      have h1 := ih (keyStep acc x)
      have h2 : (keyStep acc x).length ≤ acc.length + 1 := by
        unfold keyStep
        split
        · omega
        · simp
      rw [List.length_cons]
      omega
  have := step l []
  simpa [byKeyM] using this
theorem same_self (x : Smp) : sameKeyM x x = true := (same_iff x x).2 ⟨rfl, rfl, rfl⟩
theorem apart_nodup {l : List Smp} (h : Apart l) : l.Nodup := h.imp fun {a b} k e => by
  subst e
  rw [same_self] at k
  cases k
theorem merge_perm {a b : List Smp} (ha : storeFaultM a = 0) (hb : storeFaultM b = 0) : (mergeM a b).Perm (byKeyM (a ++ b)) := by
  obtain ⟨_, _, sa⟩ := (storeFault_iff a).1 ha
  obtain ⟨_, _, sb⟩ := (storeFault_iff b).1 hb
  refine (List.perm_ext_iff_of_nodup (asc_nodup (merge_asc ha hb)) (apart_nodup (byKey_apart _))).2 fun y => ?_
  rw [mem_both sa sb]
  unfold mergeM
  rw [mem_mergeFold]
theorem or_none {a b : List Smp} (h : orM [storeFaultM a, storeFaultM b] = 0) : storeFaultM a = 0 ∧ storeFaultM b = 0 := by
  rw [or_two] at h
  by_cases h1 : storeFaultM a = 0
  · rw [if_neg (by simp [h1])] at h
    exact ⟨h1, h⟩
  · rw [if_pos h1] at h
    exact absurd h h1

set_option maxRecDepth 100000 in
set_option maxHeartbeats 4000000 in
theorem implMergeLists (A B : Option Addr) (n m c d : Nat) (a b : List Smp) (w : World) (ha : Rd eS w w.heap.size A a) (hb : Rd eS w w.heap.size B b) (hn : a.length = n) (hm : b.length = m) (hF : Flds w) :
    Calls Tryd.prog 26 #[.slice A n c, .slice B m d] w (RetSs (mergeListsM a b) w) := by
  have hB0 : Below w.heap.size w (w.alloc (.cells #[.int .i64 0, .slice none 0 0] 35)) := (Below.refl _ _).alloc (Nat.le_refl _) _
  have r0 := At.new w 35 #[.int .i64 0, .slice none 0 0]
  have ha0 := ha.lift hB0
  have hb0 := hb.lift hB0
  have hF0 := hF.below hB0
  have HFa := implStoreFault A n c a _ ha0 hn hF0
  obtain ⟨fa, hfa⟩ : ∃ fa, storeFaultM a = fa := ⟨_, rfl⟩
  obtain ⟨fb, hfb⟩ : ∃ fb, storeFaultM b = fb := ⟨_, rfl⟩
  rw [hfa] at HFa
  by_cases h0 : orM [fa, fb] = 0
  rotate_left
  · have hres := mergeLists_fault (a := a) (b := b) (by rw [hfa, hfb]; exact h0)
    rw [hfa, hfb] at hres
    rw [hres]
    have hne : (orM [fa, fb] != 0) = true := by rw [bne_iff_ne]; exact h0
    clear hres
    go_enter Tryd.func26, Tryd.ntmps26
    go_wp2_with fail
    refine (HFa).mono ?_
    rintro e w1 ⟨rfl, hb1⟩
    have hB1 := hB0.trans (hb1.mono hB0.size)
    have r1 := r0.below hb1 r0.lt
    have hb1' := hb0.lift hb1
    have HFb := implStoreFault B m d b _ hb1' hm (hF0.below hb1)
    rw [hfb] at HFb
    go_wp2_with fail
    refine (HFb).mono ?_
    rintro e w2 ⟨rfl, hb2⟩
    have hB2 := hB1.trans (hb2.mono hB1.size)
    have r2 := r1.below hb2 r1.lt
    go_wp2_with fail
    refine (cmpOr64 w2.heap.size 2 2 [fa, fb] _ ints_two rfl (by omega)).mono ?_
    rintro e w3 ⟨rfl, rfl⟩
    have hB3 := hB2.alloc hB2.size (.cells #[.int .i64 fa, .int .i64 fb] 2)
    have r3 := r2.alloc (.cells #[.int .i64 fa, .int .i64 fb] 2)
    obtain ⟨c0, c1, _, _⟩ := r3.two
    generalize orM [fa, fb] = sf at *
    go_wp2_with fail
    refine bodyPost_ret (v := .agg #[.int .i64 sf, .slice none 0 0]) (by simp [results, Tryd.results26, go_sem, c0, c1]) rfl ?_
    exact ⟨_, _, _, rfl, Ow.nil, (hB3.setCell (Nat.le_refl _) _).setCell (Nat.le_refl _) _⟩
  obtain ⟨ea, eb⟩ := or_none (a := a) (b := b) (by rw [hfa, hfb]; exact h0)
  have hn160 := storeFault_small ea
  have hm160 := storeFault_small eb
  have hMP := merge_perm ea eb
  have Hres := Lib.hid (show mergeListsM a b = if 160 < (byKeyM (a ++ b)).length then (7, []) else (0, mergeM a b) by
    unfold mergeListsM
    rw [if_neg (by simp [ea]), if_neg (by simp [eb]), hMP.length_eq])
  have hbig : (byKeyM (a ++ b)).length ≤ 1000 := by
    have := byKey_len (a ++ b)
    rw [List.length_append] at this
    omega
  have Hms := Lib.hid (fun (ys : List Smp) (hp : ys.Perm (byKeyM (a ++ b))) hs => merge_is ea eb hp hs)
  rw [hfa] at ea
  rw [hfb] at eb
  subst ea
  subst eb
  rw [hn] at hn160
  rw [hm] at hm160
  clear h0 hMP
  go_enter Tryd.func26, Tryd.ntmps26
  go_wp2_with fail
  refine (HFa).mono ?_
  rintro e w1 ⟨rfl, hb1⟩
  have hB1 := hB0.trans (hb1.mono hB0.size)
  have r1 := r0.below hb1 r0.lt
  have hA1 := ha0.lift hb1
  have hb1' := hb0.lift hb1
  have HFb := implStoreFault B m d b _ hb1' hm (hF0.below hb1)
  rw [hfb] at HFb
  go_wp2_with fail
  refine (HFb).mono ?_
  rintro e w2 ⟨rfl, hb2⟩
  have hB2 := hB1.trans (hb2.mono hB1.size)
  have r2 := r1.below hb2 r1.lt
  have hl3 := (Below.refl w2.heap.size w2).alloc (Nat.le_refl _) (.cells #[.int .i64 0, .int .i64 0] 2)
  have hA3 := (hA1.lift hb2).lift hl3
  have hb3' := (hb1'.lift hb2).lift hl3
  have hO : orM [0, 0] = 0 := rfl
  have hcm := cmpOr64 w2.heap.size 2 2 [0, 0] (w2.alloc (.cells #[.int .i64 0, .int .i64 0] 2)) ints_two rfl (by omega)
  rw [hO] at hcm
  go_wp2_with fail
  refine (hcm).mono ?_
  rintro e w3 ⟨rfl, hw3⟩
  have hB3 := hB2.alloc hB2.size (.cells #[.int .i64 0, .int .i64 0] 2)
  have r3 := r2.alloc (.cells #[.int .i64 0, .int .i64 0] 2)
  rw [← hw3] at hB3 r3 hA3 hb3'
  clear hw3 hl3 hcm hO
  have hR := rows_two (T := 24) (c := c) (d := d) hA3 hb3' hn hm (by omega) (by omega)
  have hB4 := hB3.alloc hB3.size (.cells #[.slice A n c, .slice B m d] 24)
  have r4 := r3.alloc (.cells #[.slice A n c, .slice B m d] 24)
  have hby := byKeyS w3.heap.size 2 2 [(A, n, c, a), (B, m, d, b)] (w3.alloc (.cells #[.slice A n c, .slice B m d] 24)) hR (by simp) rfl (by omega)
  rw [flat_two] at hby
  clear hR
  go_wp2_with fail
  refine (hby).mono ?_
  rintro e w5 ⟨bm, rfl, hcb, hs5, hb5⟩
  have hB5 := hB4.trans (hb5.mono hB4.size)
  have r5 := r4.below hb5 r4.lt
  have hlen := fun ty => hs5.len ty
  obtain ⟨L, hL⟩ : ∃ L, byKeyM (a ++ b) = L := ⟨_, rfl⟩
  rw [hL] at hs5 hlen Hres hbig Hms
  clear hL hby
  by_cases hbg : 160 < L.length
  · have Hbg := Lib.hid hbg
    have hi : (160 : Int) < (L.length : Int) := by omega
    obtain ⟨c0, c1, _, _⟩ := r5.two
    clear hbg
    go_wp2_with fail
    refine bodyPost_ret (v := .agg #[.int .i64 7, .slice none 0 0]) (by simp [results, Tryd.results26, go_sem, c0, c1]) rfl ?_
    rw [Hres.out, if_pos Hbg.out]
    exact ⟨_, _, _, rfl, Ow.nil, (hB5.setCell (Nat.le_refl _) _).setCell (Nat.le_refl _) _⟩
  · have Hbg := Lib.hid hbg
    have hi : (L.length : Int) ≤ 160 := by omega
    clear hbg
    go_wp2_with fail
    refine (valuesOf bm _).mono ?_
    rintro e w6 ⟨rfl, hw6⟩
    have hl6 := (Below.refl w5.heap.size w5).alloc (Nat.le_refl _) (.cells #[.map (some bm)] 76)
    have hm6 := At.new w5 76 #[.map (some bm)]
    have hs6 := hs5.alloc (.cells #[.map (some bm)] 76)
    rw [← hw6] at hl6 hm6 hs6
    have hB6 := hB5.trans (hl6.mono hB5.size)
    have r6 := r5.below hl6 r5.lt
    clear hw6
    go_wp2_with fail
    refine (sortedFunc bm w5.heap.size L w6 hs6 hm6 hbig).mono ?_
    rintro e w7 ⟨A7, n7, c7, ys, rfl, hp, hpw, ow7, hb7⟩
    obtain rfl := Hms.out ys hp hpw
    have hB7 := hB6.trans (hb7.mono hB6.size)
    have r7 := r6.below hb7 r6.lt
    have hl7 := r6.lt
    obtain ⟨c0, c1, _, _⟩ := r7.two
    clear hp hpw
    go_wp2_with fail
    refine bodyPost_ret (v := .agg #[.int .i64 0, .slice A7 n7 c7]) (by simp [results, Tryd.results26, go_sem, c0, c1]) rfl ?_
    rw [Hres.out, if_neg Hbg.out]
    exact ⟨_, _, _, rfl, (((ow7.under (p := ⟨w.heap.size, 0, none⟩) hl7 _).under (p := ⟨w.heap.size, 1, none⟩) hl7 _).from_ hB6.size), (hB7.setCell (Nat.le_refl _) _).setCell (Nat.le_refl _) _⟩

theorem hiMergeLists : ∀ (A0 : Option Addr) (m0 e0 : Nat) (q0 : List Smp) (A1 : Option Addr) (m1 e1 : Nat) (q1 : List Smp)  (W : World), Rd eS W W.heap.size A0 q0 → q0.length = m0 → m0 ≤ 1048576 → Rd eS W W.heap.size A1 q1 → q1.length = m1 → m1 ≤ 1048576 → Flds W → Calls Tryd.prog 26 #[.slice A0 m0 e0, .slice A1 m1 e1] W (RetSs (mergeListsM q0 q1) W) :=
  fun A0 m0 e0 q0 A1 m1 e1 q1 W ha hn _ hb hm _ hF => implMergeLists A0 A1 m0 m1 e0 e1 q0 q1 W ha hb hn hm hF
end Go.Proofs.YtkgbjlbhlhdhbaaDoor
