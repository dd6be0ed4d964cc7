/-
  A map of samples by their keys, as it lies in memory: asked, filled, counted.
-/
import Derived.Test.YtkgbjlbhlhdhbaaDoorSmps
import Derived.Maps.Own
namespace Go.Proofs.YtkgbjlbhlhdhbaaDoor
set_option maxRecDepth 20000
open Go.RowKit
open Go.ChangeMaps (setBlock heap_setBlock_same heap_setBlock_other)
set_option linter.unusedSimpArgs false
set_option linter.unusedVariables false

abbrev keyV (x : Smp) : Value := .agg #[.int .i64 x.1, .int .i64 x.2.1, .int .i64 x.2.2.1]
abbrev smpV (x : Smp) : Value := .agg #[.int .i64 x.1, .int .i64 x.2.1, .int .i64 x.2.2.1, .int .i64 x.2.2.2]
def firstM (L : List Smp) (y : Smp) : Option Smp := L.find? (fun x => sameKeyM y x)

theorem keyEqual (x y : Smp) (w : World) : (Op.equal 79 (keyV x) (keyV y)).run Tryd.prog w = .ok (sameKeyM x y) w := by
  show (Op.equalIn 10000 79 (keyV x) (keyV y)).run Tryd.prog w = _
  unfold sameKeyM
  go_simp
  by_cases h0 : x.1 = y.1 <;> by_cases h1 : x.2.1 = y.2.1 <;> by_cases h2 : x.2.2.1 = y.2.2.1 <;> simp [h0, h1, h2]
theorem keyChecks (e : Bool) (x : Smp) (w : World) : (Instr.checkKey e 10000 79 (keyV x)).run Tryd.prog w = .ok () w := by kernel_rfl
theorem zeroS (w : World) : (zeroValue 26).run Tryd.prog w = .ok (smpV (0, 0, 0, 0)) w := by kernel_rfl

theorem findAsk (y : Smp) (w : World) : ∀ (L : List Smp) (es : List MapEntry) (i : Nat), es.map (fun e => (e.key, e.val)) = L.map (fun x => (keyV x, smpV x)) →
    ∃ r, (Instr.findAsking 79 (keyV y) es i).run Tryd.prog w = .ok r w ∧ r.map (·.2) = (firstM L y).map smpV
  | [], es, i, h => by
    obtain rfl : es = [] := by simpa using h
    exact ⟨none, by simp [Instr.findAsking], rfl⟩
  | x :: L, es, i, h => by
    match es, h with
    | e :: es, h =>
      simp only [List.map_cons, List.cons.injEq, Prod.mk.injEq] at h
      obtain ⟨⟨hk, hv⟩, h⟩ := h
      have he : (Op.equal 79 (keyV y) e.key).run Tryd.prog w = .ok (sameKeyM y x) w := by rw [hk]; exact keyEqual y x w
      rcases hs : sameKeyM y x
      · obtain ⟨r, h1, h2⟩ := findAsk y w L es (i + 1) h
        refine ⟨r, by simp [Instr.findAsking, he, hs, h1, Result.andThen], ?_⟩
        rw [h2]
        simp [firstM, List.find?_cons, hs]
      · refine ⟨some (i, e.val), by simp [Instr.findAsking, he, hs, Result.andThen], ?_⟩
        simp [firstM, List.find?_cons, hs, hv]

theorem findKeyS (y : Smp) (w : World) (L : List Smp) (es : List MapEntry) (h : es.map (fun e => (e.key, e.val)) = L.map (fun x => (keyV x, smpV x))) :
    ∃ r, (Instr.findKey 79 (keyV y) es).run Tryd.prog w = .ok r w ∧ r.map (·.2) = (firstM L y).map smpV := by
  obtain ⟨r, h1, h2⟩ := findAsk y w L es 0 h
  match es, h with
  | [], h =>
    obtain rfl : L = [] := by simpa using h
    exact ⟨none, by simp [Instr.findKey, run_underlying Tryd.underlying79, Instr.findNow, Result.andThen], rfl⟩
  | e :: es, h =>
    refine ⟨r, ?_, h2⟩
    simp only [Instr.findKey, Sem.run_bind, run_underlying Tryd.underlying79, Result.andThen]
    exact h1

/-- Block b is a map that holds these samples by their keys, the eldest first. -/
def SMap (w : World) (b : Nat) (L : List Smp) : Prop :=
  ∃ es clock, w.heap[b]? = some (.map es clock) ∧ es.toList.map (fun e => (e.key, e.val)) = L.map (fun x => (keyV x, smpV x)) ∧ (∀ e ∈ es.toList, e.born < clock) ∧ (es.toList.map (·.born)).Nodup

section
variable {w w' : World} {b : Nat} {L : List Smp}
theorem SMap.lt (h : SMap w b L) : b < w.heap.size := by
  obtain ⟨es, clock, hb, _⟩ := h
  exact (Array.getElem?_eq_some_iff.1 hb).1
theorem SMap.kept {row : Option Nat} (h : SMap w b L) (hg : w.grownBy w' row) (hne : some b ≠ row) : SMap w' b L := by
  have hlt := h.lt
  obtain ⟨es, clock, hb, r⟩ := h
  exact ⟨es, clock, (hg.block b hlt hne).trans hb, r⟩
theorem SMap.below {B : Nat} (h : SMap w b L) (hb : Below B w w') (hB : b < B) : SMap w' b L := by
  obtain ⟨es, clock, h1, r⟩ := h
  exact ⟨es, clock, (hb.block b hB).trans h1, r⟩
theorem SMap.alloc (h : SMap w b L) (o : Obj) : SMap (w.alloc o) b L := h.kept (World.grownBy_alloc w o none) (by simp)
theorem SMap.drew (h : SMap w b L) : SMap w.drew b L := h
theorem SMap.made (w : World) : SMap (w.alloc (.map #[] 0)) w.heap.size [] := ⟨#[], 0, heap_alloc_new w _, rfl, by simp, by simp⟩
theorem SMap.size (h : SMap w b L) : ∃ es clock, w.heap[b]? = some (.map es clock) ∧ es.size = L.length := by
  obtain ⟨es, clock, hb, hm, _⟩ := h
  refine ⟨es, clock, hb, ?_⟩
  have := congrArg List.length hm
  simpa using this
theorem SMap.len (h : SMap w b L) (ty : TypeId) : (Builtin.len_ #[76] ty #[.map (some b)]).run Tryd.prog w = .ok (.int .i64 (L.length : Int)) w := by
  obtain ⟨es, clock, hb, hs⟩ := h.size
  rw [← hs]
  simp [Builtin.len_, run_underlying Tryd.underlying76, MapKept.run_getObj_map hb, Result.andThen]
  try rfl
theorem SMap.look (h : SMap w b L) (y : Smp) : (Instr.lookup 76 (.map (some b)) (keyV y) true).run Tryd.prog w = .ok (.tuple #[smpV ((firstM L y).getD (0, 0, 0, 0)), .bool (firstM L y).isSome]) w := by
  obtain ⟨es, clock, hb, hm, _⟩ := h
  obtain ⟨r, h1, h2⟩ := findKeyS y w L es.toList hm
  rcases hf : firstM L y with _ | x
  · rw [hf] at h2
    obtain rfl : r = none := by simpa using h2
    simp [Instr.lookup, run_underlying Tryd.underlying76, MapKept.run_getObj_map hb, keyChecks, h1, zeroS, Result.andThen]
  · rw [hf] at h2
    obtain ⟨⟨i, v⟩, rfl, hv⟩ := Option.map_eq_some_iff.1 h2
    simp only at hv
    subst hv
    simp [Instr.lookup, run_underlying Tryd.underlying76, MapKept.run_getObj_map hb, keyChecks, h1, Result.andThen]
theorem SMap.put (h : SMap w b L) (y : Smp) (hn : firstM L y = none) : ∃ w', (Instr.mapUpdate 76 (.map (some b)) (keyV y) (smpV y)).run Tryd.prog w = .ok () w' ∧ SMap w' b (L ++ [y]) ∧ w.grownBy w' (some b) := by
  obtain ⟨es, clock, hb, hm, hc, hd⟩ := h
  obtain ⟨r, h1, h2⟩ := findKeyS y w L es.toList hm
  rw [hn] at h2
  obtain rfl : r = none := by simpa using h2
  refine ⟨setBlock w b (.map (es.push ⟨keyV y, smpV y, clock⟩) (clock + 1)), ?_, ⟨_, _, heap_setBlock_same hb _, ?_, ?_, ?_⟩, ⟨rfl, rfl, rfl, by simp [setBlock], fun i _ hi => heap_setBlock_other hb _ (fun e => hi (by rw [e]))⟩⟩
  · simp [Instr.mapUpdate, run_underlying Tryd.underlying76, MapKept.run_getObj_map hb, keyChecks, h1, MapKept.run_setObj_map _ hb, Result.andThen, setBlock]
  · simp [hm]
  · intro e he
    simp only [Array.toList_push, List.mem_append, List.mem_singleton] at he
    rcases he with he | rfl
    · have := hc e he
      omega
    · simp
  · rw [Array.toList_push, List.map_append, List.nodup_append]
    refine ⟨hd, by simp, fun a ha c hc' => ?_⟩
    obtain ⟨e, he, rfl⟩ := List.mem_map.1 ha
    obtain rfl : c = clock := by simpa using hc'
    have := hc e he
    omega
end
end Go.Proofs.YtkgbjlbhlhdhbaaDoor
