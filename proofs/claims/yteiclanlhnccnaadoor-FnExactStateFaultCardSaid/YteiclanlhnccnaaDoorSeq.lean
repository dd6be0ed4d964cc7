/-
  Samples that come out of an iterator: the contract of an iterator (SeqStopsK, with what a round keeps: walks, and what lay below), slices.AppendSeq and slices.Collect over whatever such iterator.
-/
import Derived.Test.YteiclanlhnccnaaDoorSmps
import Derived.RangeFuncNested
import Derived.RangeFuncBound
import Derived.RangeFuncLeaves
import Derived.OwnWalkIn
import Derived.TacticsInMore
import Derived.RegionIn
import Derived.LoopNIn
import Derived.LoopIn
import Derived.Shelf.Abstract
import Derived.Shelf.AbstractIn
namespace Go.Proofs.YteiclanlhnccnaaDoor
set_option maxRecDepth 20000
open Go.RowKit Go.Shelf
set_option linter.unusedSimpArgs false
set_option linter.unusedVariables false

attribute [local go_sem] Oper.semAt_some

theorem wpListIn_append_ow {F : Fence} {k : Nat} {P : Program} {α : Type} {E : Enc α} (hE : EncOk E) (w : World) {ops : Array Oper} {rest : List Oper} {o : Oper} {a : Act} {Q : Exit → Act → World → Prop} (hgd : o.guard = none) (s x : Operand) (t : TypeId)
    (ho : o.op = .call { callee := .builtin .append, args := #[s, x], argTypes := #[t, t] })
    (base : Nat) {z : Value} {bytes : Nat} (hinfo : (P.info? E.tid).map (fun i => (i.zero, i.size, i.bytes)) = some (some z, E.size, bytes)) (ht : P.underlying t = some (.slice E.tid)) (hzs : z.cells.size = E.size)
    (A : Option Addr) (n c : Nat) (l : List α) (hs : a.eval s = .slice A n c) (hown : Ow E w base A n c l)
    (X : Option Addr) (m d hi' : Nat) (news : List α) (hx : a.eval x = .slice X m d) (hX : Rd E w hi' X news) (hm : news.length = m)
    (h63 : n + m ≤ maxLen) (hbytes : (n + m) * bytes ≤ 140737488355328) (hbase : base ≤ w.heap.size)
    (h : ∀ A' c' w', Ow E w' base A' (n + m) c' (l ++ news) → w.grownBy w' (A.map (·.block)) → (A'.map (·.block) = A.map (·.block) ∨ A'.map (·.block) = some w.heap.size) → wpListIn F k P ops Q rest (a.put o.dst (.slice A' (n + m) c')) w') : wpListIn F k P ops Q (o :: rest) a w := by
  obtain ⟨i, hi, hz, hsz, hby⟩ := info_parts hinfo
  obtain ⟨A', c', w', hrun, h2, h3, h4⟩ := run_append_ow (P := P) hE w base t o.type i z bytes ht hi hz hsz hby hzs A n c l hown X m d hi' news hX hm h63 hbytes hbase
  refine wpListIn_plain hgd fun K hK' => ?_
  unfold Oper.wpIn
  refine ⟨?_, ?_⟩
  · simp [Oper.about, ho, resolve, Target.leads, Sem.run_pure]
  · rw [Oper.semAt_plain F _ _ (by rw [ho]; intro c hc'; cases hc')]
    simp [execOp, ho, resolve, invoke, builtin, hs, hx, hrun, Result.andThen]
    exact hK' _ _ (h A' c' w' h2 h3 h4)

/-- What a round keeps: maps and walks; whatever lay below n₀. -/
def Kp2 (n₀ : Nat) (W W' : World) : Prop := KeepsWalks W W' ∧ Below n₀ W W'
theorem Kp2.t {n₀ : Nat} {A B C : World} (h : Kp2 n₀ A B) (k : Kp2 n₀ B C) : Kp2 n₀ A C := ⟨h.1.trans k.1, h.2.trans k.2⟩
theorem Kp2.b {n₀ : Nat} {w : World} (hn : n₀ ≤ w.heap.size) (W : World) (l : Nat) (o o' : Obj) (hl : w.heap.size ≤ l) (h : W.heap[l]? = some o) (h1 : o.isCells = false) (h2 : o.isWalk = false) : Kp2 n₀ W (W.putObj l o') :=
  ⟨walksK_b (w := w) W l o o' hl h h1 h2, belowK_b hn W l o o' hl h h1 h2⟩

def encS (x : Smp) : Array Value := #[.agg #[.int .i64 x.1, .int .i64 x.2.1, .int .i64 x.2.2.1, .int .i64 x.2.2.2]]
abbrev smpArr (x : Smp) : Array Value := #[.int .i64 x.1, .int .i64 x.2.1, .int .i64 x.2.2.1, .int .i64 x.2.2.2]

theorem At.keptBy {W W' : World} {row : Option Nat} {g : Nat} {t : TypeId} {cs : Array Value} (h : At W g t cs) (hg : W.grownBy W' row) (hr : ∀ r, row = some r → ∃ o : Obj, W.heap[r]? = some o ∧ o.isCells = false) : At W' g t cs := by
  refine h.grown hg (fun e => ?_)
  obtain ⟨o, ho, hc⟩ := hr g e
  rw [show W.heap[g]? = _ from h] at ho
  cases ho
  cases hc
theorem Ow.keptBy {α : Type} {E : Enc α} {W W' : World} {row : Option Nat} {base n c : Nat} {A : Option Addr} {l : List α} (h : Ow E W base A n c l) (hg : W.grownBy W' row) (hr : ∀ r, row = some r → ∃ o : Obj, W.heap[r]? = some o ∧ o.isCells = false) : Ow E W' base A n c l := by
  refine h.grown hg (fun g hA e => ?_)
  obtain ⟨o, ho, hc⟩ := hr g e
  rcases h.2 with ⟨h0, _⟩ | ⟨g', cap, cur, hv, _, hgb, _⟩
  · simp only [Value.slice.injEq] at h0
    rw [h0.1] at hA
    cases hA
  · simp only [Value.slice.injEq] at hv
    rw [hv.1] at hA
    obtain rfl : g' = g := by simpa using hA
    rw [hgb] at ho
    cases ho
    cases hc

theorem Ow.cellsAt {α : Type} {E : Enc α} {W : World} {base n c : Nat} {A : Option Addr} {l : List α} (h : Ow E W base A n c l) {j : Nat} {o : Obj} (e : A.map (·.block) = some j) (hj : W.heap[j]? = some o) : o.isCells = true := by
  rcases h.2 with ⟨h0, _⟩ | ⟨g', cap, cur, hv, _, hgb, _⟩
  · simp only [Value.slice.injEq] at h0
    rw [h0.1] at e
    cases e
  · simp only [Value.slice.injEq] at hv
    rw [hv.1] at e
    obtain rfl : g' = j := by simpa using e
    rw [hgb] at hj
    cases hj
    rfl
/-- Between two rounds: the box holds a row of the call's own: what has come. -/
def Gath (n₀ B N : Nat) (pre : List Smp) (W : World) : Prop :=
  ∃ A c, At W B 51 #[.slice A pre.length c] ∧ Ow eS W (n₀ + 1) A pre.length c pre ∧ pre.length ≤ N
theorem Gath.own (n₀ B N : Nat) : Own (Gath n₀ B N) := fun s X Y row ⟨A, c, h1, h2, h3⟩ hg hr => ⟨A, c, h1.keptBy hg hr, h2.keptBy hg hr, h3⟩

end Go.Proofs.YteiclanlhnccnaaDoor
