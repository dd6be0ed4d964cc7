/-
  A map of queued hints by their keys, as it lies in memory: asked, filled, thinned, counted.
-/
import Derived.Test.YteiclanlhnccnaaDoorHPure
import Derived.Maps.Own
namespace Go.Proofs.YteiclanlhnccnaaDoor
set_option maxRecDepth 20000
open Go.RowKit
open Go.ChangeMaps (setBlock heap_setBlock_same heap_setBlock_other)
set_option linter.unusedSimpArgs false
set_option linter.unusedVariables false

abbrev keyH (h : Hnt) : Value := .agg #[.int .i64 h.1, .int .i64 (idH h)]
abbrev qdV (x : Qd) : Value := .agg #[.int .i64 x.1, .int .i64 x.2.1, .int .i64 x.2.2.1.1, .int .i64 x.2.2.1.2.1, .int .i64 x.2.2.1.2.2.1, .int .i64 x.2.2.1.2.2.2, .int .i64 x.2.2.2.1, .int .i64 x.2.2.2.2]

theorem keyEqualH (x y : Hnt) (w : World) : (Op.equal 128 (keyH x) (keyH y)).run Tryd.prog w = .ok (sameH x y) w := by
  show (Op.equalIn 10000 128 (keyH x) (keyH y)).run Tryd.prog w = _
  unfold sameH
  go_simp
  by_cases h0 : x.1 = y.1 <;> by_cases h1 : idH x = idH y <;> simp [h0, h1]
theorem keyChecksH (e : Bool) (x : Hnt) (w : World) : (Instr.checkKey e 10000 128 (keyH x)).run Tryd.prog w = .ok () w := by kernel_rfl
theorem zeroQ (w : World) : (zeroValue 143).run Tryd.prog w = .ok (qdV (0, zeroH)) w := by kernel_rfl
theorem keyStaysH (x : Hnt) (w : World) : (Instr.keyThatStays (keyH x) (keyH x)).run Tryd.prog w = .ok (keyH x) w := by
  have h : Instr.sameBits 10000 (keyH x) (keyH x) = true := by
    show Instr.sameBits (9998 + 1 + 1) _ _ = true
    simp [Instr.sameBits]
  unfold Instr.keyThatStays
  rw [h]
  rfl
theorem key_of_same {x y : Hnt} (h : sameH x y = true) : keyH y = keyH x := by
  obtain ⟨h1, h2⟩ := (sameH_iff x y).1 h
  show Value.agg #[.int .i64 y.1, .int .i64 (idH y)] = Value.agg #[.int .i64 x.1, .int .i64 (idH x)]
  rw [h1, h2]

theorem findAskH (y : Hnt) (w : World) : ∀ (L : List Qd) (es : List MapEntry) (i : Nat), es.map (fun e => (e.key, e.val)) = L.map (fun x => (keyH x.2, qdV x)) →
    (firstQ L y = none ∧ (Instr.findAsking 128 (keyH y) es i).run Tryd.prog w = .ok none w) ∨
    ∃ (j : Nat) (a : Qd), L[j]? = some a ∧ firstQ L y = some a ∧ sameH y a.2 = true ∧ (∀ k b, k < j → L[k]? = some b → sameH y b.2 = false) ∧ (Instr.findAsking 128 (keyH y) es i).run Tryd.prog w = .ok (some (i + j, qdV a)) w
  | [], es, i, h => by
    obtain rfl : es = [] := by simpa using h
    exact .inl ⟨rfl, by simp [Instr.findAsking]⟩
  | x :: L, es, i, h => by
    match es, h with
    | e :: es, h =>
      simp only [List.map_cons, List.cons.injEq, Prod.mk.injEq] at h
      obtain ⟨⟨hk, hv⟩, h⟩ := h
      have he : (Op.equal 128 (keyH y) e.key).run Tryd.prog w = .ok (sameH y x.2) w := by rw [hk]; exact keyEqualH y x.2 w
      rcases hs : sameH y x.2
      · have e2 : firstQ (x :: L) y = firstQ L y := by unfold firstQ; rw [List.find?_cons, hs]
        rcases findAskH y w L es (i + 1) h with ⟨h1, h2⟩ | ⟨j, a, h1, h2, h3, h4, h5⟩
        · exact .inl ⟨by rw [e2, h1], by simp [Instr.findAsking, he, hs, h2, Result.andThen]⟩
        · refine .inr ⟨j + 1, a, by simpa using h1, by rw [e2, h2], h3, fun k b hk hb => ?_, ?_⟩
          · match k, hb with
            | 0, hb => obtain rfl : x = b := by simpa using hb
                       exact hs
            | k + 1, hb => exact h4 k b (by omega) (by simpa using hb)
          · simp [Instr.findAsking, he, hs, h5, Result.andThen]
            omega
      · exact .inr ⟨0, x, rfl, by unfold firstQ; rw [List.find?_cons, hs], hs, fun k b hk => absurd hk (by omega), by simp [Instr.findAsking, he, hs, Result.andThen, hv]⟩

theorem findKeyH (y : Hnt) (w : World) (L : List Qd) (es : List MapEntry) (h : es.map (fun e => (e.key, e.val)) = L.map (fun x => (keyH x.2, qdV x))) :
    (firstQ L y = none ∧ (Instr.findKey 128 (keyH y) es).run Tryd.prog w = .ok none w) ∨
    ∃ (j : Nat) (a : Qd), L[j]? = some a ∧ firstQ L y = some a ∧ sameH y a.2 = true ∧ (∀ k b, k < j → L[k]? = some b → sameH y b.2 = false) ∧ (Instr.findKey 128 (keyH y) es).run Tryd.prog w = .ok (some (j, qdV a)) w := by
  match es, h with
  | [], h =>
    obtain rfl : L = [] := by simpa using h
    exact .inl ⟨rfl, by simp [Instr.findKey, run_underlying Tryd.underlying128, Instr.findNow, Result.andThen]⟩
  | e :: es, h =>
    rcases findAskH y w L (e :: es) 0 h with ⟨h1, h2⟩ | ⟨j, a, h1, h2, h3, h4, h5⟩
    · refine .inl ⟨h1, ?_⟩
      simp only [Instr.findKey, Sem.run_bind, run_underlying Tryd.underlying128, Result.andThen]
      exact h2
    · refine .inr ⟨j, a, h1, h2, h3, h4, ?_⟩
      simp only [Instr.findKey, Sem.run_bind, run_underlying Tryd.underlying128, Result.andThen]
      rw [Nat.zero_add] at h5
      exact h5

theorem erase_map {α β : Type} (f : α → β) : ∀ (l : List α) (j : Nat), (l.eraseIdx j).map f = (l.map f).eraseIdx j
  | [], _ => rfl
  | _ :: _, 0 => rfl
  | x :: l, j + 1 => by
    simp only [List.eraseIdx_cons_succ, List.map_cons]
    rw [erase_map f l j]
theorem setQ_at {x : Qd} : ∀ {L : List Qd} {j : Nat} {a : Qd}, L[j]? = some a → sameH x.2 a.2 = true → (∀ k b, k < j → L[k]? = some b → sameH x.2 b.2 = false) → setQ x L = L.set j x ∧ eraseQ x.2 L = L.eraseIdx j
  | [], j, a, h, _, _ => by simp at h
  | y :: L, 0, a, h, hs, _ => by
    obtain rfl : y = a := by simpa using h
    rw [setQ, eraseQ, hs]
    simp
  | y :: L, j + 1, a, h, hs, hal => by
    have h0 := hal 0 y (by omega) rfl
    obtain ⟨h1, h2⟩ := setQ_at (x := x) (L := L) (j := j) (by simpa using h) hs (fun k b hk hb => hal (k + 1) b (by omega) (by simpa using hb))
    rw [setQ, eraseQ, h0]
    simp [h1, h2]
theorem setQ_new {x : Qd} : ∀ {L : List Qd}, firstQ L x.2 = none → setQ x L = L ++ [x] ∧ eraseQ x.2 L = L
  | [], _ => ⟨rfl, rfl⟩
  | y :: L, h => by
    unfold firstQ at h
    rw [List.find?_cons] at h
    rcases hs : sameH x.2 y.2
    · rw [hs] at h
      obtain ⟨h1, h2⟩ := setQ_new (x := x) (L := L) h
      rw [setQ, eraseQ, hs]
      simp [h1, h2]
    · rw [hs] at h
      cases h

/-- Block b is a map that holds these queued hints by their keys, the eldest first. -/
def QMap (w : World) (b : Nat) (L : List Qd) : Prop :=
  ∃ es clock, w.heap[b]? = some (.map es clock) ∧ es.toList.map (fun e => (e.key, e.val)) = L.map (fun x => (keyH x.2, qdV x)) ∧ (∀ e ∈ es.toList, e.born < clock) ∧ (es.toList.map (·.born)).Nodup

section
variable {w w' : World} {b : Nat} {L : List Qd}
theorem QMap.lt (h : QMap w b L) : b < w.heap.size := by
  obtain ⟨es, clock, hb, _⟩ := h
  exact (Array.getElem?_eq_some_iff.1 hb).1
theorem QMap.kept {row : Option Nat} (h : QMap w b L) (hg : w.grownBy w' row) (hne : some b ≠ row) : QMap w' b L := by
  have hlt := h.lt
  obtain ⟨es, clock, hb, r⟩ := h
  exact ⟨es, clock, (hg.block b hlt hne).trans hb, r⟩
theorem QMap.below {B : Nat} (h : QMap w b L) (hb : Below B w w') (hB : b < B) : QMap w' b L := by
  obtain ⟨es, clock, h1, r⟩ := h
  exact ⟨es, clock, (hb.block b hB).trans h1, r⟩
theorem QMap.alloc (h : QMap w b L) (o : Obj) : QMap (w.alloc o) b L := h.kept (World.grownBy_alloc w o none) (by simp)
theorem QMap.drew (h : QMap w b L) : QMap w.drew b L := h
theorem QMap.made (w : World) : QMap (w.alloc (.map #[] 0)) w.heap.size [] := ⟨#[], 0, heap_alloc_new w _, rfl, by simp, by simp⟩
theorem QMap.size (h : QMap w b L) : ∃ es clock, w.heap[b]? = some (.map es clock) ∧ es.size = L.length := by
  obtain ⟨es, clock, hb, hm, _⟩ := h
  refine ⟨es, clock, hb, ?_⟩
  have := congrArg List.length hm
  simpa using this
theorem QMap.len (h : QMap w b L) (ty : TypeId) : (Builtin.len_ #[137] ty #[.map (some b)]).run Tryd.prog w = .ok (.int .i64 (L.length : Int)) w := by
  obtain ⟨es, clock, hb, hs⟩ := h.size
  rw [← hs]
  simp [Builtin.len_, run_underlying Tryd.underlying137, MapKept.run_getObj_map hb, Result.andThen]
  try rfl
theorem QMap.look (h : QMap w b L) (y : Hnt) : (Instr.lookup 137 (.map (some b)) (keyH y) true).run Tryd.prog w = .ok (.tuple #[qdV ((firstQ L y).getD (0, zeroH)), .bool (firstQ L y).isSome]) w := by
  obtain ⟨es, clock, hb, hm, _⟩ := h
  rcases findKeyH y w L es.toList hm with ⟨hf, h1⟩ | ⟨j, a, _, hf, _, _, h1⟩
  · rw [hf]
    simp [Instr.lookup, run_underlying Tryd.underlying137, MapKept.run_getObj_map hb, keyChecksH, h1, zeroQ, Result.andThen]
  · rw [hf]
    simp [Instr.lookup, run_underlying Tryd.underlying137, MapKept.run_getObj_map hb, keyChecksH, h1, Result.andThen]
theorem QMap.put (h : QMap w b L) (x : Qd) : ∃ w', (Instr.mapUpdate 137 (.map (some b)) (keyH x.2) (qdV x)).run Tryd.prog w = .ok () w' ∧ QMap w' b (setQ x L) ∧ w.grownBy w' (some b) := by
  obtain ⟨es, clock, hb, hm, hc, hd⟩ := h
  rcases findKeyH x.2 w L es.toList hm with ⟨hf, h1⟩ | ⟨j, a, hj, hf, hs, hal, h1⟩
  · rw [(setQ_new hf).1]
    refine ⟨setBlock w b (.map (es.push ⟨keyH x.2, qdV x, clock⟩) (clock + 1)), ?_, ⟨_, _, heap_setBlock_same hb _, ?_, ?_, ?_⟩, ⟨rfl, rfl, rfl, by simp [setBlock], fun i _ hi => heap_setBlock_other hb _ (fun e => hi (by rw [e]))⟩⟩
    · simp [Instr.mapUpdate, run_underlying Tryd.underlying137, MapKept.run_getObj_map hb, keyChecksH, h1, MapKept.run_setObj_map _ hb, Result.andThen, setBlock]
    · simp [hm]
    · intro e he
      simp only [Array.toList_push, List.mem_append, List.mem_singleton] at he
      rcases he with he | rfl
      · have := hc e he
        omega
      · simp
    · rw [Array.toList_push, List.map_append, List.nodup_append]
      refine ⟨hd, by simp, fun a ha c hc' => ?_⟩
      obtain ⟨e, he, rfl⟩ := List.mem_map.1 ha
      obtain rfl : c = clock := by simpa using hc'
      have := hc e he
      omega
  · rw [(setQ_at hj hs hal).1]
    have hjm : (es.toList.map (fun e => (e.key, e.val)))[j]? = some (keyH a.2, qdV a) := by rw [hm, List.getElem?_map, hj]; rfl
    rw [List.getElem?_map] at hjm
    obtain ⟨e0, he0, hkv⟩ := Option.map_eq_some_iff.1 hjm
    simp only [Prod.mk.injEq] at hkv
    have hkey : e0.key = keyH x.2 := by rw [hkv.1]; exact key_of_same hs
    have hje : es[j]? = some e0 := by simpa using he0
    have hlist : (es.modify j (fun e' => { e' with key := keyH x.2, val := qdV x })).toList = es.toList.set j { e0 with key := keyH x.2, val := qdV x } := by
      rw [Array.toList_modify]
      apply List.ext_getElem?
      intro i
      rw [List.getElem?_modify, List.getElem?_set]
      by_cases hi : j = i
      · subst hi
        have : j < es.toList.length := getElem?_some_lt he0
        have h2 : j < es.size := by simpa using this
        have h3 : es[j] = e0 := Option.some.inj ((Array.getElem?_eq_getElem h2).symm.trans hje)
        simp [h2, h3]
      · simp [hi]
    refine ⟨setBlock w b (.map (es.modify j (fun e' => { e' with key := keyH x.2, val := qdV x })) clock), ?_, ⟨_, _, heap_setBlock_same hb _, ?_, ?_, ?_⟩, ⟨rfl, rfl, rfl, by simp [setBlock], fun i _ hi => heap_setBlock_other hb _ (fun e => hi (by rw [e]))⟩⟩
    · simp [Instr.mapUpdate, run_underlying Tryd.underlying137, MapKept.run_getObj_map hb, keyChecksH, h1, hje, hkey, keyStaysH, MapKept.run_setObj_map _ hb, Result.andThen, setBlock]
    · rw [hlist, List.map_set, hm, List.map_set]
    · intro e he
      rw [hlist] at he
      rcases List.mem_or_eq_of_mem_set he with h | rfl
      · exact hc e h
      · exact hc e0 (List.mem_of_getElem? he0)
    · rw [hlist, List.map_set]
      have : (es.toList.map (·.born)).set j e0.born = es.toList.map (·.born) := by
        apply List.ext_getElem?
        intro i
        rw [List.getElem?_set]
        by_cases hi : j = i
        · subst hi
          have : j < es.toList.length := getElem?_some_lt he0
          have h2 : j < es.size := by simpa using this
          have h3 : es[j] = e0 := Option.some.inj ((Array.getElem?_eq_getElem h2).symm.trans hje)
          simp [h2, h3]
        · simp [hi]
      rw [this]
      exact hd
theorem QMap.drop (h : QMap w b L) (y : Hnt) (ty : TypeId) : ∃ w', (Builtin.delete_ #[137, 128] ty #[.map (some b), keyH y]).run Tryd.prog w = .ok (.tuple #[]) w' ∧ QMap w' b (eraseQ y L) ∧ w.grownBy w' (some b) := by
  obtain ⟨es, clock, hb, hm, hc, hd⟩ := h
  rcases findKeyH y w L es.toList hm with ⟨hf, h1⟩ | ⟨j, a, hj, hf, hs, hal, h1⟩
  · rw [(setQ_new (x := (0, y)) hf).2]
    refine ⟨setBlock w b (.map es clock), ?_, ⟨_, _, heap_setBlock_same hb _, hm, hc, hd⟩, ⟨rfl, rfl, rfl, by simp [setBlock], fun i _ hi => heap_setBlock_other hb _ (fun e => hi (by rw [e]))⟩⟩
    simp [Builtin.delete_, run_underlying Tryd.underlying137, MapKept.run_getObj_map hb, keyChecksH, h1, MapKept.run_setObj_map _ hb, Result.andThen, setBlock]
  · rw [(setQ_at (x := (0, y)) hj hs hal).2]
    have hjl : j < es.size := by
      have h1 := getElem?_some_lt hj
      have h2 := congrArg List.length hm
      simp at h2
      omega
    have hsub : (es.eraseIdxIfInBounds j).toList = es.toList.eraseIdx j := by
      unfold Array.eraseIdxIfInBounds
      rw [dif_pos hjl]
      simp
    have hmap : ∀ {β : Type} (f : MapEntry → β), (es.toList.eraseIdx j).map f = (es.toList.map f).eraseIdx j := fun f => erase_map f _ _
    refine ⟨setBlock w b (.map (es.eraseIdxIfInBounds j) clock), ?_, ⟨_, _, heap_setBlock_same hb _, ?_, ?_, ?_⟩, ⟨rfl, rfl, rfl, by simp [setBlock], fun i _ hi => heap_setBlock_other hb _ (fun e => hi (by rw [e]))⟩⟩
    · simp [Builtin.delete_, run_underlying Tryd.underlying137, MapKept.run_getObj_map hb, keyChecksH, h1, MapKept.run_setObj_map _ hb, Result.andThen, setBlock]
    · rw [hsub, hmap, hm, ← erase_map]
    · intro e he
      rw [hsub] at he
      exact hc e ((List.eraseIdx_sublist _ _).subset he)
    · rw [hsub, hmap]
      exact hd.sublist (List.eraseIdx_sublist _ _)
end
end Go.Proofs.YteiclanlhnccnaaDoor
