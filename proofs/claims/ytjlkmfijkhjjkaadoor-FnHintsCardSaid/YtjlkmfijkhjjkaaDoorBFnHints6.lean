/-
  Texts of one proof, joined: each has its own namespace.
-/
import Derived.Test.YtjlkmfijkhjjkaaDoorBFnHints3
import Derived.Maps.Own
import Derived.Test.YtjlkmfijkhjjkaaDoorBFnHints2
import Derived.RangeFuncNested
import Derived.RangeFuncBound
import Derived.RangeFuncLeaves
import Derived.OwnWalkIn
import Derived.TacticsInMore
import Derived.RegionIn
import Derived.LoopNIn
import Derived.LoopIn
import Derived.Shelf.Abstract
import Derived.Shelf.AbstractIn
import Derived.Maps.RangeRun
import Derived.Maps.Range
import Derived.Sort.MapsRangeIn
import Derived.Shelf.Spec.SlicesGrow
import Derived.Shelf.SlSortCmp.NoneTotal
import Derived.Test.YtjlkmfijkhjjkaaDoorRows
import Derived.Sort.LotA
import Derived.Sort.Grow
import Derived.Test.YtjlkmfijkhjjkaaDoorBFnHints5
/-
  A map of queued hints by their keys, as it lies in memory: asked, filled, thinned, counted.
-/
namespace Go.Proofs.YtjlkmfijkhjjkaaDoor
set_option maxRecDepth 20000
open Go.RowKit
open Go.ChangeMaps (setBlock heap_setBlock_same heap_setBlock_other)
set_option linter.unusedSimpArgs false
set_option linter.unusedVariables false

abbrev keyH (h : Hnt) : Value := .agg #[.int .i64 h.1, .int .i64 (idH h)]
abbrev qdV (x : Qd) : Value := .agg #[.int .i64 x.1, .int .i64 x.2.1, .int .i64 x.2.2.1.1, .int .i64 x.2.2.1.2.1, .int .i64 x.2.2.1.2.2.1, .int .i64 x.2.2.1.2.2.2, .int .i64 x.2.2.2.1, .int .i64 x.2.2.2.2]

theorem keyEqualH (x y : Hnt) (w : World) : (Op.equal 74 (keyH x) (keyH y)).run Tryd.prog w = .ok (sameH x y) w := by
  show (Op.equalIn 10000 74 (keyH x) (keyH y)).run Tryd.prog w = _
  unfold sameH
  go_simp
  by_cases h0 : x.1 = y.1 <;> by_cases h1 : idH x = idH y <;> simp [h0, h1]
theorem keyChecksH (e : Bool) (x : Hnt) (w : World) : (Instr.checkKey e 10000 74 (keyH x)).run Tryd.prog w = .ok () w := by kernel_rfl
theorem zeroQ (w : World) : (zeroValue 104).run Tryd.prog w = .ok (qdV (0, zeroH)) w := by kernel_rfl
theorem keyStaysH (x : Hnt) (w : World) : (Instr.keyThatStays (keyH x) (keyH x)).run Tryd.prog w = .ok (keyH x) w := by
  have h : Instr.sameBits 10000 (keyH x) (keyH x) = true := by
    show Instr.sameBits (9998 + 1 + 1) _ _ = true
    simp [Instr.sameBits]
  unfold Instr.keyThatStays
  rw [h]
  rfl
theorem key_of_same {x y : Hnt} (h : sameH x y = true) : keyH y = keyH x := by
  obtain ⟨h1, h2⟩ := (sameH_iff x y).1 h
  show Value.agg #[.int .i64 y.1, .int .i64 (idH y)] = Value.agg #[.int .i64 x.1, .int .i64 (idH x)]
  rw [h1, h2]

theorem findAskH (y : Hnt) (w : World) : ∀ (L : List Qd) (es : List MapEntry) (i : Nat), es.map (fun e => (e.key, e.val)) = L.map (fun x => (keyH x.2, qdV x)) →
    (firstQ L y = none ∧ (Instr.findAsking 74 (keyH y) es i).run Tryd.prog w = .ok none w) ∨
    ∃ (j : Nat) (a : Qd), L[j]? = some a ∧ firstQ L y = some a ∧ sameH y a.2 = true ∧ (∀ k b, k < j → L[k]? = some b → sameH y b.2 = false) ∧ (Instr.findAsking 74 (keyH y) es i).run Tryd.prog w = .ok (some (i + j, qdV a)) w
  | [], es, i, h => by
    obtain rfl : es = [] := by simpa using h
    exact .inl ⟨rfl, by simp [Instr.findAsking]⟩
  | x :: L, es, i, h => by
    match es, h with
    | e :: es, h =>
      simp only [List.map_cons, List.cons.injEq, Prod.mk.injEq] at h
      obtain ⟨⟨hk, hv⟩, h⟩ := h
      have he : (Op.equal 74 (keyH y) e.key).run Tryd.prog w = .ok (sameH y x.2) w := by rw [hk]; exact keyEqualH y x.2 w
      rcases hs : sameH y x.2
      · have e2 : firstQ (x :: L) y = firstQ L y := by unfold firstQ; rw [List.find?_cons, hs]
        rcases findAskH y w L es (i + 1) h with ⟨h1, h2⟩ | ⟨j, a, h1, h2, h3, h4, h5⟩
        · exact .inl ⟨by rw [e2, h1], by simp [Instr.findAsking, he, hs, h2, Result.andThen]⟩
        · refine .inr ⟨j + 1, a, by simpa using h1, by rw [e2, h2], h3, fun k b hk hb => ?_, ?_⟩
          · match k, hb with
            | 0, hb => obtain rfl : x = b := by simpa using hb
                       exact hs
            | k + 1, hb => exact h4 k b (by omega) (by simpa using hb)
          · simp [Instr.findAsking, he, hs, h5, Result.andThen]
            omega
      · exact .inr ⟨0, x, rfl, by unfold firstQ; rw [List.find?_cons, hs], hs, fun k b hk => absurd hk (by omega), by simp [Instr.findAsking, he, hs, Result.andThen, hv]⟩

theorem findKeyH (y : Hnt) (w : World) (L : List Qd) (es : List MapEntry) (h : es.map (fun e => (e.key, e.val)) = L.map (fun x => (keyH x.2, qdV x))) :
    (firstQ L y = none ∧ (Instr.findKey 74 (keyH y) es).run Tryd.prog w = .ok none w) ∨
    ∃ (j : Nat) (a : Qd), L[j]? = some a ∧ firstQ L y = some a ∧ sameH y a.2 = true ∧ (∀ k b, k < j → L[k]? = some b → sameH y b.2 = false) ∧ (Instr.findKey 74 (keyH y) es).run Tryd.prog w = .ok (some (j, qdV a)) w := by
  match es, h with
  | [], h =>
    obtain rfl : L = [] := by simpa using h
    exact .inl ⟨rfl, by simp [Instr.findKey, run_underlying Tryd.underlying74, Instr.findNow, Result.andThen]⟩
  | e :: es, h =>
    rcases findAskH y w L (e :: es) 0 h with ⟨h1, h2⟩ | ⟨j, a, h1, h2, h3, h4, h5⟩
    · refine .inl ⟨h1, ?_⟩
      simp only [Instr.findKey, Sem.run_bind, run_underlying Tryd.underlying74, Result.andThen]
      exact h2
    · refine .inr ⟨j, a, h1, h2, h3, h4, ?_⟩
      simp only [Instr.findKey, Sem.run_bind, run_underlying Tryd.underlying74, Result.andThen]
      rw [Nat.zero_add] at h5
      exact h5

theorem erase_map {α β : Type} (f : α → β) : ∀ (l : List α) (j : Nat), (l.eraseIdx j).map f = (l.map f).eraseIdx j
  | [], _ => rfl
  | _ :: _, 0 => rfl
  | x :: l, j + 1 => by
    simp only [List.eraseIdx_cons_succ, List.map_cons]
    rw [erase_map f l j]
theorem setQ_at {x : Qd} : ∀ {L : List Qd} {j : Nat} {a : Qd}, L[j]? = some a → sameH x.2 a.2 = true → (∀ k b, k < j → L[k]? = some b → sameH x.2 b.2 = false) → setQ x L = L.set j x ∧ eraseQ x.2 L = L.eraseIdx j
  | [], j, a, h, _, _ => by simp at h
  | y :: L, 0, a, h, hs, _ => by
    obtain rfl : y = a := by simpa using h
    rw [setQ, eraseQ, hs]
    simp
  | y :: L, j + 1, a, h, hs, hal => by
    have h0 := hal 0 y (by omega) rfl
    obtain ⟨h1, h2⟩ := setQ_at (x := x) (L := L) (j := j) (by simpa using h) hs (fun k b hk hb => hal (k + 1) b (by omega) (by simpa using hb))
    rw [setQ, eraseQ, h0]
    simp [h1, h2]
theorem setQ_new {x : Qd} : ∀ {L : List Qd}, firstQ L x.2 = none → setQ x L = L ++ [x] ∧ eraseQ x.2 L = L
  | [], _ => ⟨rfl, rfl⟩
  | y :: L, h => by
    unfold firstQ at h
    rw [List.find?_cons] at h
    rcases hs : sameH x.2 y.2
    · rw [hs] at h
      obtain ⟨h1, h2⟩ := setQ_new (x := x) (L := L) h
      rw [setQ, eraseQ, hs]
      simp [h1, h2]
    · rw [hs] at h
      cases h

/-- Block b is a map that holds these queued hints by their keys, the eldest first. -/
def QMap (w : World) (b : Nat) (L : List Qd) : Prop :=
  ∃ es clock, w.heap[b]? = some (.map es clock) ∧ es.toList.map (fun e => (e.key, e.val)) = L.map (fun x => (keyH x.2, qdV x)) ∧ (∀ e ∈ es.toList, e.born < clock) ∧ (es.toList.map (·.born)).Nodup

section
variable {w w' : World} {b : Nat} {L : List Qd}
theorem QMap.lt (h : QMap w b L) : b < w.heap.size := by
  obtain ⟨es, clock, hb, _⟩ := h
  exact (Array.getElem?_eq_some_iff.1 hb).1
theorem QMap.kept {row : Option Nat} (h : QMap w b L) (hg : w.grownBy w' row) (hne : some b ≠ row) : QMap w' b L := by
  have hlt := h.lt
  obtain ⟨es, clock, hb, r⟩ := h
  exact ⟨es, clock, (hg.block b hlt hne).trans hb, r⟩
theorem QMap.below {B : Nat} (h : QMap w b L) (hb : Below B w w') (hB : b < B) : QMap w' b L := by
  obtain ⟨es, clock, h1, r⟩ := h
  exact ⟨es, clock, (hb.block b hB).trans h1, r⟩
theorem QMap.alloc (h : QMap w b L) (o : Obj) : QMap (w.alloc o) b L := h.kept (World.grownBy_alloc w o none) (by simp)
theorem QMap.drew (h : QMap w b L) : QMap w.drew b L := h
theorem QMap.made (w : World) : QMap (w.alloc (.map #[] 0)) w.heap.size [] := ⟨#[], 0, heap_alloc_new w _, rfl, by simp, by simp⟩
theorem QMap.size (h : QMap w b L) : ∃ es clock, w.heap[b]? = some (.map es clock) ∧ es.size = L.length := by
  obtain ⟨es, clock, hb, hm, _⟩ := h
  refine ⟨es, clock, hb, ?_⟩
  have := congrArg List.length hm
  simpa using this
theorem QMap.len (h : QMap w b L) (ty : TypeId) : (Builtin.len_ #[106] ty #[.map (some b)]).run Tryd.prog w = .ok (.int .i64 (L.length : Int)) w := by
  obtain ⟨es, clock, hb, hs⟩ := h.size
  rw [← hs]
  simp [Builtin.len_, run_underlying Tryd.underlying106, MapKept.run_getObj_map hb, Result.andThen]
  try rfl
theorem QMap.look (h : QMap w b L) (y : Hnt) : (Instr.lookup 106 (.map (some b)) (keyH y) true).run Tryd.prog w = .ok (.tuple #[qdV ((firstQ L y).getD (0, zeroH)), .bool (firstQ L y).isSome]) w := by
  obtain ⟨es, clock, hb, hm, _⟩ := h
  rcases findKeyH y w L es.toList hm with ⟨hf, h1⟩ | ⟨j, a, _, hf, _, _, h1⟩
  · rw [hf]
    simp [Instr.lookup, run_underlying Tryd.underlying106, MapKept.run_getObj_map hb, keyChecksH, h1, zeroQ, Result.andThen]
  · rw [hf]
    simp [Instr.lookup, run_underlying Tryd.underlying106, MapKept.run_getObj_map hb, keyChecksH, h1, Result.andThen]
theorem QMap.put (h : QMap w b L) (x : Qd) : ∃ w', (Instr.mapUpdate 106 (.map (some b)) (keyH x.2) (qdV x)).run Tryd.prog w = .ok () w' ∧ QMap w' b (setQ x L) ∧ w.grownBy w' (some b) := by
  obtain ⟨es, clock, hb, hm, hc, hd⟩ := h
  rcases findKeyH x.2 w L es.toList hm with ⟨hf, h1⟩ | ⟨j, a, hj, hf, hs, hal, h1⟩
  · rw [(setQ_new hf).1]
    refine ⟨setBlock w b (.map (es.push ⟨keyH x.2, qdV x, clock⟩) (clock + 1)), ?_, ⟨_, _, heap_setBlock_same hb _, ?_, ?_, ?_⟩, ⟨rfl, rfl, rfl, by simp [setBlock], fun i _ hi => heap_setBlock_other hb _ (fun e => hi (by rw [e]))⟩⟩
    · simp [Instr.mapUpdate, run_underlying Tryd.underlying106, MapKept.run_getObj_map hb, keyChecksH, h1, MapKept.run_setObj_map _ hb, Result.andThen, setBlock]
    · simp [hm]
    · intro e he
      simp only [Array.toList_push, List.mem_append, List.mem_singleton] at he
      rcases he with he | rfl
      · have := hc e he
        omega
      · simp
    · rw [Array.toList_push, List.map_append, List.nodup_append]
      refine ⟨hd, by simp, fun a ha c hc' => ?_⟩
      obtain ⟨e, he, rfl⟩ := List.mem_map.1 ha
      obtain rfl : c = clock := by simpa using hc'
      have := hc e he
      omega
  · rw [(setQ_at hj hs hal).1]
    have hjm : (es.toList.map (fun e => (e.key, e.val)))[j]? = some (keyH a.2, qdV a) := by rw [hm, List.getElem?_map, hj]; rfl
    rw [List.getElem?_map] at hjm
    obtain ⟨e0, he0, hkv⟩ := Option.map_eq_some_iff.1 hjm
    simp only [Prod.mk.injEq] at hkv
    have hkey : e0.key = keyH x.2 := by rw [hkv.1]; exact key_of_same hs
    have hje : es[j]? = some e0 := by simpa using he0
    have hlist : (es.modify j (fun e' => { e' with key := keyH x.2, val := qdV x })).toList = es.toList.set j { e0 with key := keyH x.2, val := qdV x } := by
      rw [Array.toList_modify]
      apply List.ext_getElem?
      intro i
      rw [List.getElem?_modify, List.getElem?_set]
      by_cases hi : j = i
      · subst hi
        have : j < es.toList.length := getElem?_some_lt he0
        have h2 : j < es.size := by simpa using this
        have h3 : es[j] = e0 := Option.some.inj ((Array.getElem?_eq_getElem h2).symm.trans hje)
        simp [h2, h3]
      · simp [hi]
    refine ⟨setBlock w b (.map (es.modify j (fun e' => { e' with key := keyH x.2, val := qdV x })) clock), ?_, ⟨_, _, heap_setBlock_same hb _, ?_, ?_, ?_⟩, ⟨rfl, rfl, rfl, by simp [setBlock], fun i _ hi => heap_setBlock_other hb _ (fun e => hi (by rw [e]))⟩⟩
    · simp [Instr.mapUpdate, run_underlying Tryd.underlying106, MapKept.run_getObj_map hb, keyChecksH, h1, hje, hkey, keyStaysH, MapKept.run_setObj_map _ hb, Result.andThen, setBlock]
    · rw [hlist, List.map_set, hm, List.map_set]
    · intro e he
      rw [hlist] at he
      rcases List.mem_or_eq_of_mem_set he with h | rfl
      · exact hc e h
      · exact hc e0 (List.mem_of_getElem? he0)
    · rw [hlist, List.map_set]
      have : (es.toList.map (·.born)).set j e0.born = es.toList.map (·.born) := by
        apply List.ext_getElem?
        intro i
        rw [List.getElem?_set]
        by_cases hi : j = i
        · subst hi
          have : j < es.toList.length := getElem?_some_lt he0
          have h2 : j < es.size := by simpa using this
          have h3 : es[j] = e0 := Option.some.inj ((Array.getElem?_eq_getElem h2).symm.trans hje)
          simp [h2, h3]
        · simp [hi]
      rw [this]
      exact hd
theorem QMap.drop (h : QMap w b L) (y : Hnt) (ty : TypeId) : ∃ w', (Builtin.delete_ #[106, 74] ty #[.map (some b), keyH y]).run Tryd.prog w = .ok (.tuple #[]) w' ∧ QMap w' b (eraseQ y L) ∧ w.grownBy w' (some b) := by
  obtain ⟨es, clock, hb, hm, hc, hd⟩ := h
  rcases findKeyH y w L es.toList hm with ⟨hf, h1⟩ | ⟨j, a, hj, hf, hs, hal, h1⟩
  · rw [(setQ_new (x := (0, y)) hf).2]
    refine ⟨setBlock w b (.map es clock), ?_, ⟨_, _, heap_setBlock_same hb _, hm, hc, hd⟩, ⟨rfl, rfl, rfl, by simp [setBlock], fun i _ hi => heap_setBlock_other hb _ (fun e => hi (by rw [e]))⟩⟩
    simp [Builtin.delete_, run_underlying Tryd.underlying106, MapKept.run_getObj_map hb, keyChecksH, h1, MapKept.run_setObj_map _ hb, Result.andThen, setBlock]
  · rw [(setQ_at (x := (0, y)) hj hs hal).2]
    have hjl : j < es.size := by
      have h1 := getElem?_some_lt hj
      have h2 := congrArg List.length hm
      simp at h2
      omega
    have hsub : (es.eraseIdxIfInBounds j).toList = es.toList.eraseIdx j := by
      unfold Array.eraseIdxIfInBounds
      rw [dif_pos hjl]
      simp
    have hmap : ∀ {β : Type} (f : MapEntry → β), (es.toList.eraseIdx j).map f = (es.toList.map f).eraseIdx j := fun f => erase_map f _ _
    refine ⟨setBlock w b (.map (es.eraseIdxIfInBounds j) clock), ?_, ⟨_, _, heap_setBlock_same hb _, ?_, ?_, ?_⟩, ⟨rfl, rfl, rfl, by simp [setBlock], fun i _ hi => heap_setBlock_other hb _ (fun e => hi (by rw [e]))⟩⟩
    · simp [Builtin.delete_, run_underlying Tryd.underlying106, MapKept.run_getObj_map hb, keyChecksH, h1, MapKept.run_setObj_map _ hb, Result.andThen, setBlock]
    · rw [hsub, hmap, hm, ← erase_map]
    · intro e he
      rw [hsub] at he
      exact hc e ((List.eraseIdx_sublist _ _).subset he)
    · rw [hsub, hmap]
      exact hd.sublist (List.eraseIdx_sublist _ _)
end
end Go.Proofs.YtjlkmfijkhjjkaaDoor
/-
  What is looked for, put, taken away and laid anew in the queue of a list, of the pure answers.
-/
namespace Go.Proofs.YtjlkmfijkhjjkaaDoor
set_option maxRecDepth 20000
open Go.RowKit
set_option linter.unusedSimpArgs false
set_option linter.unusedVariables false

theorem find_congr {p q : Nat → Bool} : ∀ {l : List Nat}, (∀ x ∈ l, p x = q x) → l.find? p = l.find? q
  | [], _ => rfl
  | x :: l, h => by
    rw [List.find?_cons, List.find?_cons, h x (by simp), find_congr (fun y hy => h y (by simp [hy]))]
theorem zip_at {l : List Hnt} {k : Nat} {a : Hnt} (h : l[k]? = some a) : (zipQ l)[k]? = some ((k : Int), a) := by
  have hk := getElem?_some_lt h
  unfold zipQ
  rw [List.getElem?_map, List.getElem?_range hk, Option.map_some, h]
  rfl
theorem first_zip (l : List Hnt) (h : Hnt) : firstQ (zipQ l) h = (findH l h.1 (idH h)).map fun (k : Nat) => ((k : Int), (l[k]?).getD zeroH) := by
  unfold firstQ zipQ findH
  rw [List.find?_map]
  congr 1
  refine find_congr fun i hi => ?_
  have hi' := List.mem_range.1 hi
  rw [hitH_at (List.getElem?_eq_getElem hi')]
  simp only [Function.comp_def, List.getElem?_eq_getElem hi', Option.getD_some]
  show sameH h l[i] = _
  rw [sameH_comm]
  rfl
theorem zip_hit {l : List Hnt} {p i : Int} {k : Nat} (hk : findH l p i = some k) {h : Hnt} (h1 : h.1 = p) (h2 : idH h = i) : ∃ a, l[k]? = some a ∧ (zipQ l)[k]? = some ((k : Int), a) ∧ sameH h a = true ∧ ∀ j b, j < k → (zipQ l)[j]? = some b → sameH h b.2 = false := by
  obtain ⟨hlt, hh, hal⟩ := findH_is hk
  have ha : l[k]? = some l[k] := List.getElem?_eq_getElem hlt
  refine ⟨l[k], ha, zip_at ha, ?_, fun j b hj hb => ?_⟩
  · rw [hitH_at ha, ← h1, ← h2] at hh
    rw [sameH_comm]
    exact hh
  · have hjl : j < l.length := by omega
    have e := zip_at (List.getElem?_eq_getElem hjl)
    rw [e] at hb
    obtain rfl := Option.some.inj hb
    have := hal j hj
    rw [hitH_at (List.getElem?_eq_getElem hjl), ← h1, ← h2] at this
    rw [sameH_comm]
    exact this
theorem add_zip {l : List Hnt} {h : Hnt} (hf : findH l h.1 (idH h) = none) : putQ (l.length : Int) h (zipQ l) = zipQ (l ++ [h]) := by
  rw [putQ_new, zipQ_append]
  rw [first_zip, hf]
  rfl
theorem erase_zip {l : List Hnt} {p i : Int} {k : Nat} (hk : findH l p i = some k) {h : Hnt} (h1 : h.1 = p) (h2 : idH h = i) : (eraseQ h (zipQ l)).map Prod.snd = l.take k ++ l.drop (k + 1) ∧ Rises (eraseQ h (zipQ l)) := by
  obtain ⟨a, ha, hz, hs, hal⟩ := zip_hit hk h1 h2
  have e := (setQ_at (x := (0, h)) hz hs hal).2
  simp only at e
  rw [e]
  refine ⟨?_, (rises_zip l).sublist (List.eraseIdx_sublist _ _)⟩
  rw [erase_map, zipQ_snd, List.eraseIdx_eq_take_drop_succ]
theorem set_zip {l : List Hnt} {p i : Int} {k : Nat} (hk : findH l p i = some k) {h : Hnt} (h1 : h.1 = p) (h2 : idH h = i) (t : Int) : (putQ t h (zipQ l)).map Prod.snd = l.set k h ∧ Rises (putQ t h (zipQ l)) := by
  obtain ⟨a, ha, hz, hs, hal⟩ := zip_hit hk h1 h2
  have hfirst : firstQ (zipQ l) h = some ((k : Int), a) := by
    rw [first_zip, h1, h2, hk, Option.map_some, ha]
    rfl
  have hturn : turnQ t h (zipQ l) = (k : Int) := by
    unfold turnQ
    rw [hfirst]
  rw [putQ_set, hturn, (setQ_at (x := ((k : Int), h)) hz hs hal).1]
  refine ⟨?_, ?_⟩
  · rw [List.map_set, zipQ_snd]
  · have e : ∀ L : List Qd, Rises L ↔ (L.map Prod.fst).Pairwise (· < ·) := fun L => by unfold Rises; rw [List.pairwise_map]
    rw [e, List.map_set]
    have hset : ((zipQ l).map Prod.fst).set k (k : Int) = (zipQ l).map Prod.fst := by
      apply List.ext_getElem?
      intro j
      rw [List.getElem?_set]
      by_cases hj : k = j
      · subst hj
        have : k < ((zipQ l).map Prod.fst).length := by rw [List.length_map]; exact getElem?_some_lt hz
        rw [if_pos rfl, if_pos this, List.getElem?_map, hz]
        rfl
      · rw [if_neg hj]
    rw [hset, ← e]
    exact rises_zip l
theorem queue_zip {l : List Hnt} (h : hintsFaultM l = 0) : queueM l = zipQ l := (queue_all l).1 ((hintsFault_iff l).1 h).2.2
end Go.Proofs.YtjlkmfijkhjjkaaDoor
/-
  Samples that come out of an iterator: the contract of an iterator (SeqStopsK, with what a round keeps: walks, and what lay below), slices.AppendSeq and slices.Collect over whatever such iterator.
-/
namespace Go.Proofs.YtjlkmfijkhjjkaaDoor
set_option maxRecDepth 20000
open Go.RowKit Go.Shelf
set_option linter.unusedSimpArgs false
set_option linter.unusedVariables false

attribute [local go_sem] Oper.semAt_some

theorem wpListIn_append_ow {F : Fence} {k : Nat} {P : Program} {α : Type} {E : Enc α} (hE : EncOk E) (w : World) {ops : Array Oper} {rest : List Oper} {o : Oper} {a : Act} {Q : Exit → Act → World → Prop} (hgd : o.guard = none) (s x : Operand) (t : TypeId)
    (ho : o.op = .call { callee := .builtin .append, args := #[s, x], argTypes := #[t, t] })
    (base : Nat) {z : Value} {bytes : Nat} (hinfo : (P.info? E.tid).map (fun i => (i.zero, i.size, i.bytes)) = some (some z, E.size, bytes)) (ht : P.underlying t = some (.slice E.tid)) (hzs : z.cells.size = E.size)
    (A : Option Addr) (n c : Nat) (l : List α) (hs : a.eval s = .slice A n c) (hown : Ow E w base A n c l)
    (X : Option Addr) (m d hi' : Nat) (news : List α) (hx : a.eval x = .slice X m d) (hX : Rd E w hi' X news) (hm : news.length = m)
    (h63 : n + m ≤ maxLen) (hbytes : (n + m) * bytes ≤ 140737488355328) (hbase : base ≤ w.heap.size)
    (h : ∀ A' c' w', Ow E w' base A' (n + m) c' (l ++ news) → w.grownBy w' (A.map (·.block)) → (A'.map (·.block) = A.map (·.block) ∨ A'.map (·.block) = some w.heap.size) → wpListIn F k P ops Q rest (a.put o.dst (.slice A' (n + m) c')) w') : wpListIn F k P ops Q (o :: rest) a w := by
  obtain ⟨i, hi, hz, hsz, hby⟩ := info_parts hinfo
  obtain ⟨A', c', w', hrun, h2, h3, h4⟩ := run_append_ow (P := P) hE w base t o.type i z bytes ht hi hz hsz hby hzs A n c l hown X m d hi' news hX hm h63 hbytes hbase
  refine wpListIn_plain hgd fun K hK' => ?_
  unfold Oper.wpIn
  refine ⟨?_, ?_⟩
  · simp [Oper.about, ho, resolve, Target.leads, Sem.run_pure]
  · rw [Oper.semAt_plain F _ _ (by rw [ho]; intro c hc'; cases hc')]
    simp [execOp, ho, resolve, invoke, builtin, hs, hx, hrun, Result.andThen]
    exact hK' _ _ (h A' c' w' h2 h3 h4)

/-- What a round keeps: maps and walks; whatever lay below n₀. -/
def Kp2 (n₀ : Nat) (W W' : World) : Prop := KeepsWalks W W' ∧ Below n₀ W W'
theorem Kp2.t {n₀ : Nat} {A B C : World} (h : Kp2 n₀ A B) (k : Kp2 n₀ B C) : Kp2 n₀ A C := ⟨h.1.trans k.1, h.2.trans k.2⟩
theorem Kp2.b {n₀ : Nat} {w : World} (hn : n₀ ≤ w.heap.size) (W : World) (l : Nat) (o o' : Obj) (hl : w.heap.size ≤ l) (h : W.heap[l]? = some o) (h1 : o.isCells = false) (h2 : o.isWalk = false) : Kp2 n₀ W (W.putObj l o') :=
  ⟨walksK_b (w := w) W l o o' hl h h1 h2, belowK_b hn W l o o' hl h h1 h2⟩

def encS (x : Smp) : Array Value := #[.agg #[.int .i64 x.1, .int .i64 x.2.1, .int .i64 x.2.2.1, .int .i64 x.2.2.2]]
abbrev smpArr (x : Smp) : Array Value := #[.int .i64 x.1, .int .i64 x.2.1, .int .i64 x.2.2.1, .int .i64 x.2.2.2]

theorem At.keptBy {W W' : World} {row : Option Nat} {g : Nat} {t : TypeId} {cs : Array Value} (h : At W g t cs) (hg : W.grownBy W' row) (hr : ∀ r, row = some r → ∃ o : Obj, W.heap[r]? = some o ∧ o.isCells = false) : At W' g t cs := by
  refine h.grown hg (fun e => ?_)
  obtain ⟨o, ho, hc⟩ := hr g e
  rw [show W.heap[g]? = _ from h] at ho
  cases ho
  cases hc
theorem Ow.keptBy {α : Type} {E : Enc α} {W W' : World} {row : Option Nat} {base n c : Nat} {A : Option Addr} {l : List α} (h : Ow E W base A n c l) (hg : W.grownBy W' row) (hr : ∀ r, row = some r → ∃ o : Obj, W.heap[r]? = some o ∧ o.isCells = false) : Ow E W' base A n c l := by
  refine h.grown hg (fun g hA e => ?_)
  obtain ⟨o, ho, hc⟩ := hr g e
  rcases h.2 with ⟨h0, _⟩ | ⟨g', cap, cur, hv, _, hgb, _⟩
  · simp only [Value.slice.injEq] at h0
    rw [h0.1] at hA
    cases hA
  · simp only [Value.slice.injEq] at hv
    rw [hv.1] at hA
    obtain rfl : g' = g := by simpa using hA
    rw [hgb] at ho
    cases ho
    cases hc

theorem Ow.cellsAt {α : Type} {E : Enc α} {W : World} {base n c : Nat} {A : Option Addr} {l : List α} (h : Ow E W base A n c l) {j : Nat} {o : Obj} (e : A.map (·.block) = some j) (hj : W.heap[j]? = some o) : o.isCells = true := by
  rcases h.2 with ⟨h0, _⟩ | ⟨g', cap, cur, hv, _, hgb, _⟩
  · simp only [Value.slice.injEq] at h0
    rw [h0.1] at e
    cases e
  · simp only [Value.slice.injEq] at hv
    rw [hv.1] at e
    obtain rfl : g' = j := by simpa using e
    rw [hgb] at hj
    cases hj
    rfl
end Go.Proofs.YtjlkmfijkhjjkaaDoor
/-
  Queued hints that come out of an iterator, collected (as Seq, at queued hints).
-/
namespace Go.Proofs.YtjlkmfijkhjjkaaDoor
set_option maxRecDepth 20000
open Go.RowKit Go.Shelf
set_option linter.unusedSimpArgs false
set_option linter.unusedVariables false

attribute [local go_sem] Oper.semAt_some

def qdCells (x : Qd) : List Value := [.int .i64 x.1, .int .i64 x.2.1, .int .i64 x.2.2.1.1, .int .i64 x.2.2.1.2.1, .int .i64 x.2.2.1.2.2.1, .int .i64 x.2.2.1.2.2.2, .int .i64 x.2.2.2.1, .int .i64 x.2.2.2.2]
/-- Queued hints. -/
def eQ : Enc Qd := ⟨104, 8, qdCells⟩
theorem okQ : EncOk eQ := ⟨fun _ => rfl, fun a u hu => by simp only [eQ, qdCells, List.mem_cons, List.not_mem_nil, or_false] at hu; rcases hu with rfl | rfl | rfl | rfl | rfl | rfl | rfl | rfl <;> rfl, by decide⟩
theorem info_qd : (Tryd.prog.info? 104).map (fun i => (i.zero, i.size, i.bytes)) = some (some (.agg #[.int .i64 0, .int .i64 0, .int .i64 0, .int .i64 0, .int .i64 0, .int .i64 0, .int .i64 0, .int .i64 0]), 8, 64) := by kernel_rfl
theorem At.eight {w : World} {g : Nat} {t : TypeId} {a b c d e f h i : Value} (k : At w g t #[a, b, c, d, e, f, h, i]) : w.cell? ⟨g, 0, none⟩ = some a ∧ w.cell? ⟨g, 1, none⟩ = some b ∧ w.cell? ⟨g, 2, none⟩ = some c ∧ w.cell? ⟨g, 3, none⟩ = some d ∧ w.cell? ⟨g, 4, none⟩ = some e ∧ w.cell? ⟨g, 5, none⟩ = some f ∧ w.cell? ⟨g, 6, none⟩ = some h ∧ w.cell? ⟨g, 7, none⟩ = some i :=
  ⟨k.cell 0, k.cell 1, k.cell 2, k.cell 3, k.cell 4, k.cell 5, k.cell 6, k.cell 7⟩
def encQ (x : Qd) : Array Value := #[qdV x]
abbrev qdArr (x : Qd) : Array Value := #[.int .i64 x.1, .int .i64 x.2.1, .int .i64 x.2.2.1.1, .int .i64 x.2.2.1.2.1, .int .i64 x.2.2.1.2.2.1, .int .i64 x.2.2.1.2.2.2, .int .i64 x.2.2.2.1, .int .i64 x.2.2.2.2]
theorem abides_belowQ {β : Type} {B : Nat} {J : β → World → Prop} (h : AbidesFrom B J) {x : β} {W W' : World} (hJ : J x W) (hb : Below W.heap.size W W') : J x W' := h x W W' none hJ (grown_below hb (Nat.le_refl _)) (fun r e => by cases e)

/-- Between two rounds: the box holds a row of the call's own: what has come. -/
def GathQ (n₀ B N : Nat) (pre : List Qd) (W : World) : Prop :=
  ∃ A c, At W B 109 #[.slice A pre.length c] ∧ Ow eQ W (n₀ + 1) A pre.length c pre ∧ pre.length ≤ N
theorem GathQ.own (n₀ B N : Nat) : Own (GathQ n₀ B N) := fun s X Y row ⟨A, c, h1, h2, h3⟩ hg hr => ⟨A, c, h1.keptBy hg hr, h2.keptBy hg hr, h3⟩

set_option maxRecDepth 100000 in
set_option maxHeartbeats 2000000 in
theorem appendSeqQ (n : Nat) (hn : 3 ≤ n) (gf : Nat) (lb : Array Value) (eg : ∀ args w, (callFunc gf args).run Tryd.prog w = .ok (.enter gf args) w) (S Sp : List Qd → Prop) (N : Nat) (hN : N ≤ 1000) (n0 : Nat) (w : World) (hn0 : n0 ≤ w.heap.size)
    (hseq : SeqStopsK Fence.wide (n - 1) Tryd.prog gf lb encQ (Kp2 n0) S Sp N w) :
    CallsIn Fence.wide n Tryd.prog 79 #[.slice none 0 0, .func (.func gf) #[] lb] w fun e W' =>
      ∃ A c xs, e = .returned (.slice A xs.length c) ∧ S xs ∧ Ow eQ W' w.heap.size A xs.length c xs ∧ Below w.heap.size w W' := by
  have hro : Fence.wide.round = none := rfl
  have h1 : 1 ≤ n := by omega
  have hT : Fence.wide.fn 79 := trivial
  refine callsIn_of_wp_marks Tryd.func79 rfl hT ?_ hro
  simp only [Tryd.ntmps79, List.size_toArray, List.length_cons, List.length_nil, Nat.reduceAdd, Nat.reduceSub, Array.replicate_succ, Array.replicate_zero, List.push_toArray, List.append_toArray, List.nil_append, List.cons_append]
  gi_wp2
  have bO := At.new w 109 #[.slice none 0 0]
  have hB0 := (Below.refl w.heap.size w).alloc (Nat.le_refl _) (.cells #[.slice none 0 0] 109)
  obtain ⟨W0, hW0⟩ : ∃ W0, w.alloc (.cells #[.slice none 0 0] 109) = W0 := ⟨_, rfl⟩
  have hsz : W0.heap.size = w.heap.size + 1 := by rw [← hW0]; simp
  rw [hW0] at bO hB0 ⊢
  clear hW0
  refine wpIn_rangeFunc_ownH hro h1 (gf := gf) (lb := lb) rfl trivial eg hseq Kp2.t (Kp2.b (by omega)) hB0 (fun _ => rfl)
    (fun pre W => GathQ w.heap.size w.heap.size N pre W ∧ Below w.heap.size w W)
    (fun _ _ _ => False)
    (OwnFrom.and (Own.from (GathQ.own _ _ _) _) (ownFrom_below (Nat.le_refl _) (by omega)))
    (fun _ _ _ _ _ hs _ _ => hs)
    ⟨⟨none, 0, bO, Ow.nil, Nat.zero_le _⟩, hB0⟩
    (fun x a' W => ∃ Bx, w.heap.size < Bx ∧ At W Bx 104 (qdArr x) ∧ a' = { tmps := #[.slice none 0 0, .func (.func gf) #[] lb, .pointer (some ⟨w.heap.size, 0, none⟩), undef, .slice none 0 0, .pointer (some ⟨Bx, 0, none⟩), .func (.func gf) #[] lb, .agg (qdArr x), undef, undef, undef, undef, undef], defers := [] })
    (fun x a' _ X Y row hs hg hr => by obtain ⟨Bx, h1, h2, h3⟩ := hs; exact ⟨Bx, h1, h2.keptBy hg (fun r e => (hr r e).2), h3⟩)
    ?assign ?body ?done ?stop
  case assign =>
    rintro l pre x W K ⟨⟨A, c, hA, hO, hN1⟩, hB⟩ hK
    have hsW := hB.size
    dsimp only [encQ]
    gi_wp2
    exact hK _ _ ((KeepsOthers.alloc _ _).from _) ⟨KeepsWalks.alloc _ _, (Below.refl _ W).alloc (by omega) _⟩ ⟨⟨A, c, hA.alloc _, hO.alloc _, hN1⟩, hB.alloc hB.size _⟩ ⟨W.heap.size, hA.lt, At.new W _ _, rfl⟩
  case body =>
    rintro l pre x a' W hl ⟨r, hr⟩ ⟨⟨A, c, hA, hO, hN1⟩, hB⟩ ⟨Bx, hBx, bX, rfl⟩ hlt
    have hsW := hB.size
    have cA := hA.cell 0
    obtain ⟨cx0, cx1, cx2, cx3, cx4, cx5, cx6, cx7⟩ := bX.eight
    gi_wp2_with (gi_at_builtin; refine wpListIn_append_ow okQ _ rfl _ _ 109 rfl (w.heap.size + 1) info_qd Tryd.underlying109 rfl A pre.length c pre rfl (hO.alloc _) (some ⟨W.heap.size, 0, none⟩) 1 1 (W.heap.size + 1) [x] rfl (rd_lit okQ W 104 [x] _ rfl) rfl (by unfold maxLen; omega) (by omega) (by simp; omega) ?_; intro A' c' w1 hO1 hg1 hA1; have hAa := hA.alloc (.cells (qdArr x) 104); have hA2 := hAa.grown hg1 (fun e => by have := (hO.lt _ e).1; omega); have cA2 := hA2.cell 0; have fA2 := hA2.frozen 0)
    have hgB : Below w.heap.size w w1 := (hB.alloc hB.size _).grown hg1 (by simp; omega) (fun k e => by have := (hO.lt k e).1; omega)
    have hlt' : ∀ g, A'.map (·.block) = some g → w.heap.size + 1 ≤ g := fun g e => (hO1.lt g e).1
    have hK : KeepsOthers W (w1.setCell ⟨w.heap.size, 0, none⟩ (.slice A' (pre.length + 1) c')) :=
      ((KeepsOthers.alloc W _).trans (KeepsOthers.of_grownBy hg1 fun j o ej hj => (hO.alloc _).cellsAt ej hj)).trans (KeepsOthers.setCell _ _ _)
    refine ⟨hK.from _, ⟨hK.walks, ?_⟩, ⟨A', c', ?_, ?_, ?_⟩, ?_⟩
    · exact (((Below.refl n0 W).alloc (by omega) _).grown hg1 (by simp; omega) (fun k e => by have := (hO.lt k e).1; omega)).setCell (p := ⟨w.heap.size, 0, none⟩) hn0 _
    · have := hA2.set 0 (.slice A' (pre.length + 1) c')
      simpa using this
    · have := hO1.under (p := ⟨w.heap.size, 0, none⟩) (by simp) (.slice A' (pre.length + 1) c')
      simpa using this
    · simp
      omega
    · exact hgB.setCell (p := ⟨w.heap.size, 0, none⟩) (Nat.le_refl _) _
  case done =>
    rintro D ys W hD hS ⟨⟨A, c, hA, hO, hN1⟩, hB⟩ hK
    have cA := hA.cell 0
    gi_wp2
    refine ⟨by simp, .inl ⟨_, _, rfl, run_takeDeferred hK, ?_⟩⟩
    exact ⟨_, results_tmp rfl _ _ _, A, c, ys, rfl, hS, (hO.keptBy (grownBy_putObj' W D _) (fun r e => by cases e; exact ⟨_, hK, rfl⟩)).from_ (by omega), hB.trans (belowK_b (w := w) (Nat.le_refl _) W D _ _ (by omega) hK rfl rfl)⟩
  case stop =>
    rintro D c pre W _ _ h _
    exact h.elim

/-- slices.Collect over whatever such iterator. -/
theorem collectSeqQ (n : Nat) (hn : 3 ≤ n) (gf : Nat) (lb : Array Value) (eg : ∀ args w, (callFunc gf args).run Tryd.prog w = .ok (.enter gf args) w) (S Sp : List Qd → Prop) (N : Nat) (hN : N ≤ 1000) (n0 : Nat) (w : World) (hn0 : n0 ≤ w.heap.size)
    (hseq : SeqStopsK Fence.wide (n - 1) Tryd.prog gf lb encQ (Kp2 n0) S Sp N w) :
    Calls Tryd.prog 75 #[.func (.func gf) #[] lb] w fun e W' =>
      ∃ A c xs, e = .returned (.slice A xs.length c) ∧ S xs ∧ Ow eQ W' w.heap.size A xs.length c xs ∧ Below w.heap.size w W' := by
  have hq := callsIn_wide.1 (appendSeqQ n hn gf lb eg S Sp N hN n0 w hn0 hseq)
  clear hseq
  go_enter Tryd.func75, Tryd.ntmps75
  go_wp2_with (go_at_call 79; refine hq.mono ?_; rintro e w1 ⟨A, c, xs, rfl, hS, hO, hB⟩)
  go_ret
  exact ⟨A, c, xs, rfl, hS, hO, hB⟩
end Go.Proofs.YtjlkmfijkhjjkaaDoor
/-
  maps.Values over a map of queued hints: each value once, in whatever order (as Vals, at queued hints).
-/
namespace Go.Proofs.YtjlkmfijkhjjkaaDoor
set_option maxRecDepth 20000
open Go.RowKit Go.Shelf
open Go.ChangeMaps Go.MapKept
set_option linter.unusedSimpArgs false
set_option linter.unusedVariables false

attribute [local go_sem] Oper.semAt_some

/-- A walk over the map under way: these are still to come. -/
def QRan (w : World) (b r : Nat) (left : List Qd) : Prop :=
  ∃ es clock since seen c0, w.heap[b]? = some (.map es clock) ∧ w.heap[r]? = some (.mapIter (some b) since seen c0) ∧ (∀ x ∈ es.toList, x.born < since) ∧ (es.toList.map (·.born)).Nodup ∧ since ≤ c0 ∧ since ≤ clock ∧
    (leftOf es seen).toList.map (·.val) = left.map qdV

section
variable {w w' : World} {b r : Nat} {left L : List Qd}
theorem QRan.of_walks (h : QRan w b r left) (hk : KeepsWalks w w') : QRan w' b r left := by
  obtain ⟨es, clock, since, seen, c0, h1, h2, rest⟩ := h
  exact ⟨es, clock, since, seen, c0, hk.same b _ h1 rfl, hk.same r _ h2 rfl, rest⟩
theorem QRan.lt (h : QRan w b r left) : r < w.heap.size := by
  obtain ⟨es, clock, since, seen, c0, h1, h2, rest⟩ := h
  exact (Array.getElem?_eq_some_iff.1 h2).1
theorem QRan.iter (h : QRan w b r left) : ∃ o : Obj, w.heap[r]? = some o ∧ o.isWalk = true := by
  obtain ⟨es, clock, since, seen, c0, h1, h2, rest⟩ := h
  exact ⟨_, h2, rfl⟩
theorem QRan.alloc (h : QRan w b r left) (o : Obj) : QRan (w.alloc o) b r left := h.of_walks (KeepsWalks.alloc _ _)
theorem QRan.left_eq (h : QRan w b r left) : w.rangeLeft b r = left.length := by
  obtain ⟨es, clock, since, seen, c0, h1, h2, _, _, _, _, hm⟩ := h
  simp only [World.rangeLeft, h1, h2]
  have := congrArg List.length hm
  simpa using this
theorem QMap.range (h : QMap w b L) : ∃ w', (Instr.range 106 (.map (some b))).run Tryd.prog w = .ok (.pointer (some ⟨w.heap.size, 0, none⟩)) w' ∧ QRan w' b w.heap.size L ∧ w.grownBy w' none ∧ w'.heap.size = w.heap.size + 1 := by
  have hlt := h.lt
  obtain ⟨es, clock, hb, hm, hc, hd⟩ := h
  refine ⟨_, run_range_map w _ _ _ b es clock Tryd.underlying106 hb, ⟨es, clock, clock, #[], clock, (Below.heap_alloc w _ b hlt).trans hb, heap_alloc_new w _, hc, hd, Nat.le_refl _, Nat.le_refl _, ?_⟩, World.grownBy_alloc w _ none, by simp⟩
  have h1 := congrArg (List.map Prod.snd) hm
  have h2 : leftOf es #[] = es := by
    unfold leftOf
    rw [Array.filter_eq_self]
    intro a _
    simp
  rw [h2]
  simpa [List.map_map, Function.comp_def] using h1

theorem filter_oneQ (e : MapEntry) : ∀ (l : List MapEntry), (l.map (·.born)).Nodup → e ∈ l → ∃ l1 l2, l = l1 ++ e :: l2 ∧ l.filter (fun x => !(x.born == e.born)) = l1 ++ l2
  | x :: l, hn, he => by
    have hn' : x.born ∉ l.map (·.born) ∧ (l.map (·.born)).Nodup := List.nodup_cons.1 hn
    by_cases hx : x.born = e.born
    · have hxe : e = x := by
        rcases List.mem_cons.1 he with h | h
        · exact h
        · exact absurd (List.mem_map.2 ⟨e, h, hx.symm⟩) hn'.1
      subst hxe
      refine ⟨[], l, rfl, ?_⟩
      rw [List.filter_cons]
      simp only [beq_self_eq_true, Bool.not_true, Bool.false_eq_true, if_false, List.nil_append]
      rw [List.filter_eq_self]
      intro y hy
      have : y.born ≠ e.born := fun h => hn'.1 (List.mem_map.2 ⟨y, hy, h⟩)
      simpa using this
    · have he' : e ∈ l := by
        rcases List.mem_cons.1 he with h | h
        · exact absurd (by rw [h]) hx
        · exact h
      obtain ⟨l1, l2, h1, h2⟩ := filter_oneQ e l hn'.2 he'
      refine ⟨x :: l1, l2, by rw [h1]; rfl, ?_⟩
      rw [List.filter_cons, h2]
      simp [hx]

theorem map_splitQ {l1 l2 : List MapEntry} {e : MapEntry} : ∀ {left : List Qd}, (l1 ++ e :: l2).map (·.val) = left.map qdV → ∃ m1 x m2, left = m1 ++ x :: m2 ∧ e.val = qdV x ∧ (l1 ++ l2).map (·.val) = (m1 ++ m2).map qdV := by
  intro left h
  rw [List.map_append, List.map_cons] at h
  obtain ⟨m1, m2', h1, h2, h3⟩ := List.map_eq_append_iff.1 h.symm
  obtain ⟨x, m2, h4, h5, h6⟩ := List.map_eq_cons_iff.1 h3
  exact ⟨m1, x, m2, by rw [h1, h4], h5.symm, by rw [List.map_append, List.map_append, h2, h6]⟩

theorem QRan.next (h : QRan w b r left) (hne : r ≠ b) (ty : TypeId) :
    (left = [] ∧ (Instr.next (.pointer (some ⟨r, 0, none⟩)) false ty).run Tryd.prog w = .ok (.tuple #[.bool false]) w) ∨
    ∃ (m1 : List Qd) (x : Qd) (m2 : List Qd) (key : Value) (w' : World), left = m1 ++ x :: m2 ∧ (Instr.next (.pointer (some ⟨r, 0, none⟩)) false ty).run Tryd.prog w = .ok (.tuple #[.bool true, key, qdV x]) w' ∧
      QRan w' b r (m1 ++ m2) ∧ w.grownBy w' (some r) ∧ w'.heap.size = w.heap.size ∧ (Instr.entry (.pointer (some ⟨r, 0, none⟩))).run Tryd.prog w' = .ok (.tuple #[key, qdV x]) w' := by
  obtain ⟨es, clock, since, seen, c0, hb, hr, hold, hnd, hsc, hsk, hm⟩ := h
  rcases run_next_at (P := Tryd.prog) w ty r b since c0 seen es clock hr hb hold hsc with ⟨h0, hrun⟩ | ⟨e, he, w1, hal, hrun⟩
  · left
    refine ⟨?_, hrun⟩
    have := congrArg List.length hm
    rw [List.length_map, List.length_map, Array.length_toList, h0] at this
    exact List.eq_nil_of_length_eq_zero this.symm
  · right
    obtain ⟨hem, hes⟩ := mem_left he
    have hsub : ((leftOf es seen).toList.map (·.born)).Nodup := by
      unfold leftOf
      rw [Array.toList_filter]
      exact List.Nodup.sublist (List.Sublist.map _ List.filter_sublist) hnd
    obtain ⟨l1, l2, e1, e2⟩ := filter_oneQ e _ hsub he
    rw [e1] at hm
    obtain ⟨m1, x, m2, hl, hv, hm2⟩ := map_splitQ hm
    have hr1 : w1.heap[r]? = some (.mapIter (some b) since seen c0) := by rcases hal with rfl | rfl <;> exact hr
    have hb1 : w1.heap[b]? = some (.map es clock) := by rcases hal with rfl | rfl <;> exact hb
    have hset := heap_set (o' := .mapIter (some b) since (seen.push e.born) clock) hr1
    have hb' : (setBlock w1 r (.mapIter (some b) since (seen.push e.born) clock)).heap[b]? = some (.map es clock) := (hset.2 b (fun e1 => hne e1.symm)).trans hb1
    refine ⟨m1, x, m2, e.key, _, hl, by rw [← hv]; exact hrun, ⟨es, clock, since, seen.push e.born, clock, hb', hset.1, hold, hnd, hsk, hsk, ?_⟩, ?_, ?_, ?_⟩
    · rw [← hm2, ← e2]
      congr 1
      unfold leftOf
      rw [Array.toList_filter, Array.toList_filter, List.filter_filter]
      congr 1
      funext y
      rw [contains_push]
      cases seen.contains y.born <;> cases (y.born == e.born) <;> rfl
    · rcases hal with rfl | rfl <;> exact ⟨rfl, rfl, rfl, by simp [setBlock], fun i _ hi => hset.2 i (fun e1 => hi (by rw [e1]))⟩
    · rcases hal with rfl | rfl <;> simp [setBlock]
    · rw [← hv]
      exact run_entry_at _ r b since seen es clock e hset.1 hb' hem hnd
end

section
variable {F : Fence} {k : Nat} (w : World) {ops : Array Oper} {rest : List Oper} {o : Oper} {a : Act} {Q : Exit → Act → World → Prop}
theorem wpListIn_range_q (hg : o.guard = none) (m : Operand) (hop : o.op = Op.range 106 m) (b : Nat) (L : List Qd) (hm : a.eval m = .map (some b)) (h : QMap w b L)
    (hK : ∀ w', QRan w' b w.heap.size L → w.grownBy w' none → w'.heap.size = w.heap.size + 1 → wpListIn F k Tryd.prog ops Q rest (a.put o.dst (.pointer (some ⟨w.heap.size, 0, none⟩))) w') : wpListIn F k Tryd.prog ops Q (o :: rest) a w := by
  refine wpListIn_plain hg fun K' hK' => ?_
  obtain ⟨w', hrun, hs, hg1, hs1⟩ := h.range
  unfold Oper.wpIn
  refine ⟨?_, ?_⟩
  · simp [Oper.about, hop]
  · rw [Oper.semAt_plain F _ _ (by rw [hop]; intro c hc'; cases hc')]
    simp [execOp, hop, hm, hrun, Result.andThen]
    exact hK' _ _ (hK _ hs hg1 hs1)
theorem wpListIn_next_q (hg : o.guard = none) (it : Operand) (hop : o.op = Op.next it false) (b r : Nat) (left : List Qd) (hne : r ≠ b) (hit : a.eval it = .pointer (some ⟨r, 0, none⟩)) (h : QRan w b r left)
    (hDone : left = [] → wpListIn F k Tryd.prog ops Q rest (a.put o.dst (.tuple #[.bool false])) w)
    (hMore : ∀ (m1 : List Qd) (a0 a1 a2 a3 a4 a5 a6 a7 : Int) (m2 : List Qd) (key : Value) (w' : World), left = m1 ++ (a0, a1, (a2, a3, a4, a5), a6, a7) :: m2 → QRan w' b r (m1 ++ m2) → w.grownBy w' (some r) → w'.heap.size = w.heap.size → (Instr.entry (.pointer (some ⟨r, 0, none⟩))).run Tryd.prog w' = .ok (.tuple #[key, .agg #[.int .i64 a0, .int .i64 a1, .int .i64 a2, .int .i64 a3, .int .i64 a4, .int .i64 a5, .int .i64 a6, .int .i64 a7]]) w' →
      wpListIn F k Tryd.prog ops Q rest (a.put o.dst (.tuple #[.bool true, key, .agg #[.int .i64 a0, .int .i64 a1, .int .i64 a2, .int .i64 a3, .int .i64 a4, .int .i64 a5, .int .i64 a6, .int .i64 a7]])) w') : wpListIn F k Tryd.prog ops Q (o :: rest) a w := by
  refine wpListIn_plain hg fun K' hK' => ?_
  unfold Oper.wpIn
  refine ⟨by simp [Oper.about, hop], ?_⟩
  rw [Oper.semAt_plain F _ _ (by rw [hop]; intro c hc'; cases hc')]
  rcases h.next hne o.type with ⟨h0, hrun⟩ | ⟨m1, ⟨a0, a1, ⟨a2, a3, a4, a5⟩, a6, a7⟩, m2, key, w', hl, hrun, hs, hgr, hsz, hen⟩
  · simp [execOp, hop, hit, hrun, Result.andThen]
    exact hK' _ _ (hDone h0)
  · simp [execOp, hop, hit, hrun, Result.andThen]
    exact hK' _ _ (hMore m1 a0 a1 a2 a3 a4 a5 a6 a7 m2 key w' hl hs hgr hsz hen)
end

set_option maxRecDepth 100000 in
set_option maxHeartbeats 4000000 in
theorem values_inQ (n : Nat) (hn : 1 ≤ n) (l Bm b nB : Nat) (L : List Qd) (J Jx : List Qd → World → Prop)
    (hY : ∀ pre x W, J pre W → pre.length < L.length → YieldAt Fence.wide (n - 1) Tryd.prog l (encQ x) W fun e W' =>
      (e = .returned (.bool true) ∧ J (pre ++ [x]) W' ∧ Kp2 nB W W') ∨ (e = .returned (.bool false) ∧ Jx (pre ++ [x]) W'))
    (W : World) (hJ : AbidesFrom W.heap.size J) (hm : W.cell? ⟨Bm, 0, none⟩ = some (.map (some b))) (hs : QMap W b L) (h0 : J [] W) :
    CallsIn Fence.wide n Tryd.prog 77 #[.func (.yield l) #[] #[], .pointer (some ⟨Bm, 0, none⟩)] W fun e W' => (∃ v, e = .returned v) ∧
      ((∃ xs, xs.Perm L ∧ J xs W') ∨ (∃ pre, True ∧ Jx pre W')) := by
  have hro : Fence.wide.round = none := rfl
  have hT : Fence.wide.fn 77 := trivial
  have hbW := hs.lt
  refine callsIn_of_wp Tryd.func77 rfl hT ?_ hro
  simp only [Tryd.ntmps77, List.size_toArray, List.length_cons, List.length_nil, Nat.reduceAdd, Nat.reduceSub, Array.replicate_succ, Array.replicate_zero, List.push_toArray, List.append_toArray, List.nil_append, List.cons_append]
  gi_wp2_with (first
    | (gi_at_range; refine wpListIn_range_q _ rfl _ rfl b L rfl hs ?_; intro w0 hr0 hg0 hs0)
    | gi_in)
  go_frame
  gi_loopw [4] (fun _ wr => ∃ (left ps : List Qd), QRan wr b W.heap.size left ∧ (ps ++ left).Perm L ∧ J ps wr) (fun _ wr => wr.rangeLeft b W.heap.size)
  case atStart => exact ⟨L, [], hr0, by simp, hJ [] W w0 none h0 hg0 (fun r e => by cases e)⟩
  case round =>
    obtain ⟨left, ps, hrg, hp, hJs⟩ := hrel
    gi_wp2_with (first
      | (gi_at_next; refine wpListIn_next_q _ rfl _ rfl b W.heap.size left (by omega) rfl hrg ?_ ?_)
      | gi_in)
    · intro hl
      subst hl
      gi_wp2
      go_end0
      exact ⟨⟨_, rfl⟩, .inl ⟨ps, by simpa using hp, hJs⟩⟩
    · intro m1 a0 a1 a2 a3 a4 a5 a6 a7 m2 key w2 hl hrg2 hg2 hs2 hen
      have hlen : ps.length < L.length := by
        have := hp.length_eq
        rw [hl, List.length_append, List.length_append, List.length_cons] at this
        omega
      have hJ2 : J ps w2 := hJ ps wr w2 (some W.heap.size) hJs hg2 (fun r e => by cases e; exact ⟨Nat.le_refl _, hrg.iter⟩)
      have hJ3 := abides_belowQ hJ hJ2 ((Below.refl w2.heap.size w2).alloc (Nat.le_refl _) (.cells (#[.int .i64 a0, .int .i64 a1, .int .i64 a2, .int .i64 a3, .int .i64 a4, .int .i64 a5, .int .i64 a6, .int .i64 a7]) 104))
      have hrg3 := hrg2.alloc (.cells (#[.int .i64 a0, .int .i64 a1, .int .i64 a2, .int .i64 a3, .int .i64 a4, .int .i64 a5, .int .i64 a6, .int .i64 a7]) 104)
      have Hp := Lib.hid (show (ps ++ [(a0, a1, (a2, a3, a4, a5), a6, a7)] ++ (m1 ++ m2)).Perm L from by
        rw [hl] at hp
        refine List.Perm.trans ?_ hp
        rw [List.append_assoc]
        refine List.Perm.append_left ps ?_
        rw [List.singleton_append]
        exact List.perm_middle.symm)
      have Hm := Lib.hid (show (m1 ++ m2).length < left.length by rw [hl]; simp)
      clear hl hp
      obtain ⟨fn, tmps, assign, body, hy, hR⟩ := hY ps (a0, a1, (a2, a3, a4, a5), a6, a7) _ hJ3 hlen
      dsimp only [encQ] at hy
      gi_wp2
      refine hR.mono ?_
      rintro e W3 (⟨rfl, hJ4, hk4⟩ | ⟨rfl, hJx4⟩)
      · gi_wp2
        have hrg4 := hrg3.of_walks hk4.1
        go_roundw
        case rel => exact ⟨m1 ++ m2, ps ++ [(a0, a1, (a2, a3, a4, a5), a6, a7)], hrg4, Hp.out, hJ4⟩
        case measure => rw [hrg4.left_eq, hrg.left_eq]; exact Hm.out
      · gi_wp2
        refine bodyPost_ret (results_none rfl _ _ _) rfl ?_
        exact ⟨⟨_, rfl⟩, .inr ⟨_, trivial, hJx4⟩⟩
end Go.Proofs.YtjlkmfijkhjjkaaDoor
/-
  The shelf's contracts of slices.Grow and slices.SortFunc, laid at this seat, in plain words (made by the kit's own tool).
-/
namespace Go.Proofs.YtjlkmfijkhjjkaaDoor
set_option maxRecDepth 20000
open Go.Shelf
def sortQ_ren : Go.Shelf.Ren := ⟨fun | 6 => 76 | 15 => 81 | 14 => 80 | 28 => 90 | 29 => 91 | 20 => 82 | 21 => 83 | 22 => 84 | 23 => 85 | 24 => 86 | 25 => 87 | 26 => 88 | 27 => 89 | 46 => 92 | 47 => 93 | 48 => 94 | 49 => 95 | 50 => 96 | 57 => 97 | n => n, fun | 22 => 109 | 24 => 104 | 25 => 115 | 3 => 3 | 39 => 129 | 0 => 0 | 53 => 139 | 55 => 141 | 4 => 4 | 46 => 132 | 45 => 131 | 50 => 136 | 5 => 5 | 9 => 9 | 66 => 142 | 70 => 146 | 76 => 148 | 77 => 149 | n => n, fun | n => n⟩
theorem sortQ : Go.Proofs.SlLaysF0.n6 Tryd.prog sortQ_ren := {
  mixed := by kernel_rfl
  f6 := ⟨Tryd.f76.name, by decide, Tryd.func76.trans (congrArg some (by kernel_rfl))⟩
  f14 := ⟨Tryd.f80.name, by decide, Tryd.func80.trans (congrArg some (by kernel_rfl))⟩
  f15 := Tryd.func81.trans (congrArg some (by kernel_rfl))
  f20 := ⟨Tryd.f82.name, by decide, Tryd.func82.trans (congrArg some (by kernel_rfl))⟩
  f21 := ⟨Tryd.f83.name, by decide, Tryd.func83.trans (congrArg some (by kernel_rfl))⟩
  f22 := ⟨Tryd.f84.name, by decide, Tryd.func84.trans (congrArg some (by kernel_rfl))⟩
  f23 := ⟨Tryd.f85.name, by decide, Tryd.func85.trans (congrArg some (by kernel_rfl))⟩
  f24 := ⟨Tryd.f86.name, by decide, Tryd.func86.trans (congrArg some (by kernel_rfl))⟩
  f25 := ⟨Tryd.f87.name, by decide, Tryd.func87.trans (congrArg some (by kernel_rfl))⟩
  f26 := ⟨Tryd.f88.name, by decide, Tryd.func88.trans (congrArg some (by kernel_rfl))⟩
  f27 := ⟨Tryd.f89.name, by decide, Tryd.func89.trans (congrArg some (by kernel_rfl))⟩
  f28 := Tryd.func90.trans (congrArg some (by kernel_rfl))
  f29 := Tryd.func91.trans (congrArg some (by kernel_rfl))
  f46 := ⟨Tryd.f92.name, by decide, Tryd.func92.trans (congrArg some (by kernel_rfl))⟩
  f47 := Tryd.func93.trans (congrArg some (by kernel_rfl))
  f48 := Tryd.func94.trans (congrArg some (by kernel_rfl))
  f49 := ⟨Tryd.f95.name, by decide, Tryd.func95.trans (congrArg some (by kernel_rfl))⟩
  f50 := ⟨Tryd.f96.name, by decide, Tryd.func96.trans (congrArg some (by kernel_rfl))⟩
  f57 := ⟨Tryd.f97.name, by decide, Tryd.func97.trans (congrArg some (by kernel_rfl))⟩
  t0 := Tryd.underlying0
  a0 := Tryd.isAgg0
  z0 := Tryd.sizeOf0
  v0 := Tryd.zeroValue0
  t3 := Tryd.underlying3
  a3 := Tryd.isAgg3
  z3 := Tryd.sizeOf3
  v3 := Tryd.zeroValue3
  t4 := Tryd.underlying4
  a4 := Tryd.isAgg4
  z4 := Tryd.sizeOf4
  v4 := Tryd.zeroValue4
  t5 := Tryd.underlying5
  a5 := Tryd.isAgg5
  z5 := Tryd.sizeOf5
  v5 := Tryd.zeroValue5
  t9 := Tryd.underlying9
  a9 := Tryd.isAgg9
  z9 := Tryd.sizeOf9
  v9 := Tryd.zeroValue9
  t22 := Tryd.underlying109
  a22 := Tryd.isAgg109
  z22 := Tryd.sizeOf109
  v22 := Tryd.zeroValue109
  t25 := Tryd.underlying115
  a25 := Tryd.isAgg115
  z25 := Tryd.sizeOf115
  v25 := Tryd.zeroValue115
  t39 := Tryd.underlying129
  a39 := Tryd.isAgg129
  z39 := Tryd.sizeOf129
  v39 := Tryd.zeroValue129
  t45 := Tryd.underlying131
  a45 := Tryd.isAgg131
  z45 := Tryd.sizeOf131
  v45 := Tryd.zeroValue131
  t46 := Tryd.underlying132
  a46 := Tryd.isAgg132
  z46 := Tryd.sizeOf132
  v46 := Tryd.zeroValue132
  t50 := Tryd.underlying136
  a50 := Tryd.isAgg136
  z50 := Tryd.sizeOf136
  v50 := Tryd.zeroValue136
  t53 := Tryd.underlying139
  a53 := Tryd.isAgg139
  z53 := Tryd.sizeOf139
  v53 := Tryd.zeroValue139
  t55 := Tryd.underlying141
  a55 := Tryd.isAgg141
  z55 := Tryd.sizeOf141
  v55 := Tryd.zeroValue141
  t66 := Tryd.underlying142
  a66 := Tryd.isAgg142
  z66 := Tryd.sizeOf142
  v66 := Tryd.zeroValue142
  t70 := Tryd.underlying146
  a70 := Tryd.isAgg146
  z70 := Tryd.sizeOf146
  v70 := Tryd.zeroValue146
  t76 := Tryd.underlying148
  a76 := Tryd.isAgg148
  z76 := Tryd.sizeOf148
  v76 := Tryd.zeroValue148
  t77 := Tryd.underlying149
  a77 := Tryd.isAgg149
  z77 := Tryd.sizeOf149
  v77 := Tryd.zeroValue149 }
end Go.Proofs.YtjlkmfijkhjjkaaDoor
/-
  Queued hints sorted by their turns, and what comes out of a map of them (as SortP, MergeP, at queued hints).
-/
namespace Go.Proofs.YtjlkmfijkhjjkaaDoor
set_option maxRecDepth 20000
open Go.RowKit Go.Sort Go.Shelf
set_option linter.unusedSimpArgs false
set_option linter.unusedVariables false

def turnM (x y : Qd) : Int := cmpM x.1 y.1
theorem ltOf_turn (x y : Qd) : ltOf turnM x y = decide (x.1 < y.1) := by
  show decide (cmpM x.1 y.1 < 0) = _
  rcases cmpM_range x.1 y.1 with ⟨h, k⟩ | ⟨h, k⟩ | ⟨h, k⟩
  · rw [h]; simp [k]
  · rw [h, k]; simp
  · rw [h]
    have : ¬ x.1 < y.1 := by omega
    simp [this]
theorem swoTurn : SWO (ltOf turnM) where
  irrefl x := by rw [ltOf_turn]; simp
  trans x y z h k := by
    rw [ltOf_turn] at *
    simp only [decide_eq_true_eq] at *
    omega
  ntrans x y z h k := by
    rw [ltOf_turn] at *
    simp only [decide_eq_false_iff_not] at *
    omega
theorem sorted_pairsQ {d : Array Qd} (h : SortedIn (ltOf turnM) 0 d.size d) : d.toList.Pairwise fun x y => ¬ y.1 < x.1 := by
  rw [List.pairwise_iff_getElem]
  intro i j hi hj hij
  have hi' : i < d.size := by simpa using hi
  have hj' : j < d.size := by simpa using hj
  have := h i j (Nat.zero_le _) hij hj'
  rw [ltOf_turn, getElem!_pos d j hj', getElem!_pos d i hi'] at this
  simpa using this
theorem grown2 (w : World) (a b : Obj) : ∃ q os', (w.alloc a).alloc b = grow (w.drewN q) os' := by
  refine ⟨0, #[a] ++ #[b], ?_⟩
  rw [alloc_eq_grow, alloc_eq_grow, grow_grow]
  rfl

set_option maxHeartbeats 1000000 in
theorem turnG (a0 a1 a2 a3 a4 a5 a6 a7 b0 b1 b2 b3 b4 b5 b6 b7 : Int) (w : World) :
    Calls Tryd.prog 71 #[.agg #[.int .i64 a0, .int .i64 a1, .int .i64 a2, .int .i64 a3, .int .i64 a4, .int .i64 a5, .int .i64 a6, .int .i64 a7], .agg #[.int .i64 b0, .int .i64 b1, .int .i64 b2, .int .i64 b3, .int .i64 b4, .int .i64 b5, .int .i64 b6, .int .i64 b7]] w fun e w' =>
      e = .returned (.int .i64 (turnM (a0, a1, (a2, a3, a4, a5), a6, a7) (b0, b1, (b2, b3, b4, b5), b6, b7))) ∧ ∃ q os', w' = grow (w.drewN q) os' := by
  go_enter Tryd.func71, Tryd.ntmps71
  go_wp2_with (go_at_call 72; refine (cmpCompare _ _ _).mono ?_; rintro e w1 ⟨rfl, rfl⟩)
  go_ret
  exact ⟨rfl, grown2 _ _ _⟩

theorem cell_rowQ {x : Qd} {j : Nat} (hj : j < 8) : (qdCells x)[j]? = some ((qdCells x)[j]!) := by
  have : j < (qdCells x).length := hj
  rw [List.getElem?_eq_getElem this, getElem!_pos (qdCells x) j this]
theorem flatK_rowQ (d : Array Qd) : (flatK qdCells 8 d).toList = eQ.row d.toList := by
  apply List.ext_getElem?
  intro i
  rcases Nat.lt_or_ge i (d.size * 8) with h | h
  · have hk : i / 8 < d.size := by omega
    have hd : d.toList[i / 8]? = some d[i / 8]! := by
      rw [Array.getElem?_toList, Array.getElem?_eq_getElem hk, getElem!_pos d _ hk]
    have h1 := okQ.row_at d.toList (i / 8) (i % 8) _ hd (Nat.mod_lt _ (by decide))
    rw [show i / 8 * eQ.size + i % 8 = i by show i / 8 * 8 + i % 8 = i; omega] at h1
    rw [h1, Array.getElem?_toList]
    have hs : i < (flatK qdCells 8 d).size := by simpa using h
    have h2 := get_flatK qdCells 8 d i h
    rw [getElem!_pos (flatK qdCells 8 d) i hs] at h2
    rw [Array.getElem?_eq_getElem hs, h2]
    exact (cell_rowQ (Nat.mod_lt _ (by decide))).symm
  · rw [List.getElem?_eq_none (by simpa using h), List.getElem?_eq_none (by rw [okQ.row_len]; simpa [eQ] using h)]
theorem holdsK_ofQ {w : World} {base g n c : Nat} {l : List Qd} (how : Ow eQ w base (some ⟨g, 0, none⟩) n c l) : HoldsK qdCells 8 w g 0 l.toArray := fun j hj => by
  have hs : (flatK qdCells 8 l.toArray).size = l.length * 8 := by simp
  have hlen := Ow.len okQ how
  have h1 : (eQ.row l)[j]? = some (flatK qdCells 8 l.toArray)[j]! := by
    have := flatK_rowQ l.toArray
    rw [show (l.toArray).toList = l from rfl] at this
    rw [← this, Array.getElem?_toList, Array.getElem?_eq_getElem hj, getElem!_pos (flatK qdCells 8 l.toArray) j hj]
  refine ⟨?_, how.frozenAt _⟩
  rw [World.ownsRow.cellAt how _ (by rw [hs] at hj; show 0 + j < n * 8; omega), Nat.zero_add, h1]
  rfl
theorem ow_sortedQ {w : World} {base g n c m : Nat} {l : List Qd} {d : Array Qd} {os : Array Obj} (how : Ow eQ w base (some ⟨g, 0, none⟩) n c l) (hd : d.size = n) :
    Ow eQ (sortWorldK qdCells 8 w g 0 m d os) base (some ⟨g, 0, none⟩) n c d.toList := by
  refine ⟨by rw [okQ.row_len]; simp [hd], .inr ?_⟩
  rcases how.2 with ⟨h0, _⟩ | ⟨g', cap, cur, hv, hb, hg, h1, h2, h3, h4⟩
  · simp at h0
  · simp only [Value.slice.injEq, Option.some.injEq, Addr.mk.injEq, true_and, and_true] at hv
    obtain ⟨rfl, rfl⟩ := hv
    have hF : (flatK qdCells 8 d).size = n * 8 := by simp [hd]
    have hlt : g < w.heap.size := (Array.getElem?_eq_some_iff.1 hg).1
    refine ⟨g, c, putCells id 0 (flatK qdCells 8 d) cur, rfl, hb, ?_, h1, h2, by unfold putCells; simpa using h3, ?_⟩
    · show ((w.heap.modify g (onCells (putCells id 0 (flatK qdCells 8 d)))) ++ os)[g]? = _
      rw [Array.getElem?_append_left (by rw [Array.size_modify]; exact hlt), Array.getElem?_modify, if_pos rfl, hg]
      rfl
    · rw [← flatK_rowQ]
      apply List.ext_getElem?
      intro j
      rw [List.getElem?_take]
      have hcs : n * 8 ≤ cur.size := by
        rw [h3]
        exact Nat.mul_le_mul_right _ h1
      split
      · rename_i hj
        have hj' : j < n * 8 := hj
        have hjc : j < cur.size := by omega
        unfold putCells
        rw [Array.getElem?_toList, Array.getElem?_mapIdx, Array.getElem?_eq_getElem hjc, Option.map_some, if_pos ⟨Nat.zero_le _, by omega⟩, Nat.sub_zero, Array.getElem?_toList, Array.getElem?_eq_getElem (by omega), getElem!_pos (flatK qdCells 8 d) j (by omega)]
        rfl
      · rename_i hj
        rw [List.getElem?_eq_none]
        have : ¬ j < n * 8 := hj
        simp
        omega

set_option maxHeartbeats 1000000 in
theorem sortQd (A : Option Addr) (n c base : Nat) (l : List Qd) (w : World) (how : Ow eQ w base A n c l) (hn : n ≤ 1000) :
    Calls Tryd.prog 76 #[.slice A n c, .func (.func 71) #[] #[]] w fun e w' =>
      e = .returned (.tuple #[]) ∧ ∃ ys : List Qd, ys.Perm l ∧ (ys.Pairwise fun x y => ¬ y.1 < x.1) ∧ Ow eQ w' base A n c ys ∧ Below base w w' := by
  have hlen := Ow.len okQ how
  rcases Nat.eq_zero_or_pos n with h0 | h0
  · subst h0
    obtain rfl : l = [] := List.eq_nil_of_length_eq_zero hlen
    have h : Calls Tryd.prog 76 #[.slice A 0 c, .func (.func 71) #[] #[]] w fun e w' => e = .returned (.tuple #[]) ∧ w' = w :=
      AnyF.slices_SortFunc_none sortQ A c _ w
    refine h.mono ?_
    rintro e w' ⟨rfl, rfl⟩
    exact ⟨rfl, [], List.Perm.refl _, List.Pairwise.nil, how, Below.refl _ _⟩
  · obtain ⟨g, rfl, hb, hg⟩ := how.form h0
    have hsz : l.toArray.size = n := by simpa using hlen
    have hcmp : CmpLays Tryd.prog 71 #[] qdCells 8 turnM g 0 l.toArray.size w := fun m os dk _ x y => by
      obtain ⟨a0, a1, ⟨a2, a3, a4, a5⟩, a6, a7⟩ := x
      obtain ⟨b0, b1, ⟨b2, b3, b4, b5⟩, b6, b7⟩ := y
      exact turnG a0 a1 a2 a3 a4 a5 a6 a7 b0 b1 b2 b3 b4 b5 b6 b7 _
    have h : Calls Tryd.prog 76 #[.slice (some ⟨g, 0, none⟩) l.toArray.size c, .func (.func 71) #[] #[]] w fun e w' =>
        e = .returned (.tuple #[]) ∧ ∃ d' n os, PermIn 0 l.toArray.size l.toArray d' ∧ SortedIn (ltOf turnM) 0 l.toArray.size d' ∧ w' = sortWorldK qdCells 8 w g 0 n d' os :=
      AnyQ.slices_SortFunc sortQ 8 (fun w => Tryd.isAgg104 w) (fun w => Tryd.sizeOf104 w) qdCells (fun _ => rfl) (fun x v hv => okQ.one x v hv) turnM swoTurn 71 #[] g 0 c l.toArray w
        (enters_of Tryd.func71 (by kernel_rfl) rfl) hcmp (holdsK_ofQ how) hg (by omega)
    rw [hsz] at h
    refine h.mono ?_
    rintro e w' ⟨rfl, d, m, os, ⟨hp1, _, hp2⟩, hso, rfl⟩
    have hds : d.size = n := hp1.trans hsz
    have e1 : d.extract 0 n = d := by rw [← hds]; exact Array.extract_size
    have e2 : l.toArray.extract 0 n = l.toArray := by rw [← hsz]; exact Array.extract_size
    rw [e1, e2] at hp2
    refine ⟨rfl, d.toList, hp2, sorted_pairsQ (by rw [hds]; exact hso), ow_sortedQ how hds, ?_⟩
    refine ⟨rfl, rfl, rfl, ?_, fun k hk => ?_⟩
    · show w.heap.size ≤ ((w.heap.modify g (onCells (putCells id 0 (flatK qdCells 8 d)))) ++ os).size
      rw [Array.size_append, Array.size_modify]
      omega
    · show ((w.heap.modify g (onCells (putCells id 0 (flatK qdCells 8 d)))) ++ os)[k]? = w.heap[k]?
      rw [Array.getElem?_append_left (by rw [Array.size_modify]; omega), Array.getElem?_modify, if_neg (by omega)]
theorem valuesOfQ (b : Nat) (w : World) :
    Calls Tryd.prog 70 #[.map (some b)] w fun e w' =>
      e = .returned (.func (.func 77) #[] #[.pointer (some ⟨w.heap.size, 0, none⟩)]) ∧ w' = w.alloc (.cells #[.map (some b)] 106) := by
  go_enter Tryd.func70, Tryd.ntmps70
  go_wp2
  go_ret
  exact ⟨rfl, rfl⟩

theorem values_stopsQ (n : Nat) (hn : 1 ≤ n) (b Bm n0 : Nat) (L : List Qd) (w : World) (hs : QMap w b L) (hm : At w Bm 106 #[.map (some b)]) :
    SeqStopsK Fence.wide n Tryd.prog 77 #[.pointer (some ⟨Bm, 0, none⟩)] encQ (Kp2 n0) (fun xs => xs.Perm L) (fun _ => True) L.length w := fun l J Jx W hW hJ hJx hY h0 =>
  values_inQ n hn l Bm b n0 L J Jx hY W hJ ((hm.below hW hm.lt).cell 0) (hs.below hW hs.lt) h0

set_option maxHeartbeats 1000000 in
theorem sortedFuncQ (b Bm : Nat) (L : List Qd) (w : World) (hs : QMap w b L) (hm : At w Bm 106 #[.map (some b)]) (hL : L.length ≤ 1000) :
    Calls Tryd.prog 69 #[.func (.func 77) #[] #[.pointer (some ⟨Bm, 0, none⟩)], .func (.func 71) #[] #[]] w fun e w' =>
      ∃ A n c ys, e = .returned (.slice A n c) ∧ ys.Perm L ∧ (ys.Pairwise fun x y => ¬ y.1 < x.1) ∧ Ow eQ w' w.heap.size A n c ys ∧ Below w.heap.size w w' := by
  have hC := collectSeqQ 4 (by omega) _ _ (enters_of Tryd.func77 (by kernel_rfl) rfl) _ _ L.length hL w.heap.size w (Nat.le_refl _) (values_stopsQ 3 (by omega) b Bm w.heap.size L w hs hm)
  clear hs hm
  go_enter Tryd.func69, Tryd.ntmps69
  go_wp2_with fail
  refine hC.mono ?_
  rintro e w1 ⟨A, c, xs, rfl, hp, ow, hb⟩
  have hS := sortQd A xs.length c w.heap.size xs w1 ow (by rw [hp.length_eq]; exact hL)
  go_wp2_with fail
  refine hS.mono ?_
  rintro e w2 ⟨rfl, ys, hp2, hpw, ow2, hb2⟩
  have hB2 := hb.trans hb2
  have Hp := Lib.hid (hp2.trans hp)
  clear hC hS hp hp2
  go_wp2
  go_ret
  first | exact ⟨A, xs.length, c, ys, rfl, Hp.out, hpw, ow2, hB2⟩ | exact ⟨A, xs.length, c, rfl, ys, Hp.out, hpw, ow2, hB2⟩

end Go.Proofs.YtjlkmfijkhjjkaaDoor
