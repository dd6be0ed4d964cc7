/-
  Texts of one proof, joined: each has its own namespace.
-/
import Derived.Test.YtkgbjlbhlhdhbaaDoorBFnStores3
import Derived.Test.YtkgbjlbhlhdhbaaDoorBFnStores4
import Derived.Test.YtkgbjlbhlhdhbaaDoorBFnStores5
import Derived.Maps.Own
/-
  slices.Grow of nothing, and slices.Concat of rows of samples.
-/
namespace Go.Proofs.YtkgbjlbhlhdhbaaDoor
set_option maxRecDepth 20000
open Go.RowKit Go.Shelf
set_option linter.unusedSimpArgs false
set_option linter.unusedVariables false

theorem growNone (n : Nat) (hn : n ≤ 100000) (w : World) :
    Calls Tryd.prog 81 #[.slice none 0 0, .int .i64 (n : Int)] w fun e w' => ∃ A c, e = .returned (.slice A 0 c) ∧ Ow eS w' w.heap.size A 0 c [] ∧ Below w.heap.size w w' := by
  rcases Nat.eq_zero_or_pos n with h0 | h0
  · subst h0
    have h : Calls Tryd.prog 81 #[.slice none 0 0, .int .i64 ((0 : Nat) : Int)] w fun e w' => e = .returned (.slice none 0 0) ∧ w' = w :=
      Any8.slices_Grow_room growS none 0 0 0 w (by omega) (by omega) (by omega) (by omega)
    refine h.mono ?_
    rintro e w' ⟨rfl, rfl⟩
    exact ⟨none, 0, rfl, Ow.nil, Below.refl _ _⟩
  · obtain ⟨i, hi, hz, hsz, hby⟩ := info_parts info_smp
    have h : Calls Tryd.prog 81 #[.slice none 0 0, .int .i64 (n : Int)] w fun e w' => e = .returned (.slice (some ⟨w.heap.size, 0, none⟩) 0 (grownCap w (0 + n) 0 26)) ∧
        w' = w.drew.alloc (.cells (([] : List Value).toArray ++ Builtin.zeroCells (Value.agg #[.int .i64 0, .int .i64 0, .int .i64 0, .int .i64 0]).cells (0 + n - 0) ++ Builtin.zeroCells (Value.agg #[.int .i64 0, .int .i64 0, .int .i64 0, .int .i64 0]).cells (grownCap w (0 + n) 0 26 - (0 + n))) 26) :=
      Any8.slices_Grow_grow growS i _ hi hz (by omega) none 0 0 n [] w (by omega) (by omega) (by rw [hby]; omega) (by omega) (by simp) (fun _ => rfl) (fun a ha => by cases ha)
    refine h.mono ?_
    rintro e w' ⟨rfl, rfl⟩
    have hge := grownCap_ge w (0 + n) 0 26
    have hle := grownCap_le_maxLen w (0 + n) 0 26 (by unfold maxLen; omega)
    generalize grownCap w (0 + n) 0 26 = G at hge hle ⊢
    refine ⟨_, G, rfl, ?_, (Below.refl w.heap.size w).drew.alloc (Nat.le_refl _) _⟩
    have hm := World.ownsRow_made (base := w.heap.size) (e := 26) (size := 4) w.drew (([] : List Value).toArray ++ Builtin.zeroCells (Value.agg #[.int .i64 0, .int .i64 0, .int .i64 0, .int .i64 0]).cells (0 + n - 0) ++ Builtin.zeroCells (Value.agg #[.int .i64 0, .int .i64 0, .int .i64 0, .int .i64 0]).cells (G - (0 + n))) G (Nat.le_refl _) hle (by
      rw [Array.size_append, Array.size_append, size_zeroCells, size_zeroCells]
      simp [Value.cells]
      omega)
    exact hm

abbrev Row4 := Option Addr × Nat × Nat × List Smp
def flat (rows : List Row4) : List Smp := rows.flatMap (·.2.2.2)
theorem flat_next {rows : List Row4} {j : Nat} {r : Row4} (h : rows[j]? = some r) : flat (rows.take (j + 1)) = flat (rows.take j) ++ r.2.2.2 := by
  unfold flat
  rw [List.take_add_one, h, List.flatMap_append]
  simp
theorem flat_len : ∀ {rows : List Row4}, (∀ r, r ∈ rows → r.2.2.2.length ≤ 1000) → (flat rows).length ≤ rows.length * 1000
  | [], _ => by simp [flat]
  | r :: rows, h => by
    have h1 := flat_len (rows := rows) (fun x hx => h x (by simp [hx]))
    have h2 := h r (by simp)
    unfold flat at h1 ⊢
    rw [List.flatMap_cons, List.length_append, List.length_cons]
    omega

/-- Block G holds these slices, each of which reads its list. -/
def Rows4 (w : World) (G : Nat) (rows : List Row4) : Prop :=
  ∀ (i : Nat) (r : Row4), rows[i]? = some r → w.cell? ⟨G, i, none⟩ = some (.slice r.1 r.2.1 r.2.2.1) ∧ Rd eS w w.heap.size r.1 r.2.2.2 ∧ r.2.2.2.length = r.2.1 ∧ r.2.1 ≤ 1000
theorem Rows4.below {w w' : World} {G : Nat} {rows : List Row4} (h : Rows4 w G rows) (hb : Below w.heap.size w w') (hG : G < w.heap.size) : Rows4 w' G rows := fun i r hr => by
  obtain ⟨h1, h2, h3, h4⟩ := h i r hr
  exact ⟨(hb.cell (p := ⟨G, i, none⟩) hG).trans h1, h2.lift hb, h3, h4⟩

set_option maxHeartbeats 2000000 in
theorem concatS (G k c : Nat) (rows : List Row4) (w : World) (hR : Rows4 w G rows) (hG : G < w.heap.size) (hk : rows.length = k) (hk4 : k ≤ 4) :
    Calls Tryd.prog 73 #[.slice (some ⟨G, 0, none⟩) k c] w fun e w' => ∃ A n c', e = .returned (.slice A n c') ∧ Ow eS w' w.heap.size A n c' (flat rows) ∧ Below w.heap.size w w' := by
  have hlen : ∀ j, j ≤ k → (flat (rows.take j)).length ≤ 4000 := fun j hj => by
    have h1 := flat_len (rows := rows.take j) (fun r hr => by
      obtain ⟨i, hi⟩ := List.mem_iff_getElem?.1 (List.mem_of_mem_take hr)
      obtain ⟨_, _, h3, h4⟩ := hR i r hi
      omega)
    rw [List.length_take] at h1
    have : min j rows.length * 1000 ≤ 4000 := by
      have : min j rows.length ≤ 4 := by omega
      omega
    omega
  have Hlen := Lib.hid hlen
  have Hk := Lib.hid hk
  clear hk hlen
  go_enter Tryd.func73, Tryd.ntmps73
  go_wp2
  go_loopw [3, 11] (fun sz i wr => ∃ j : Nat, j ≤ k ∧ i = .int .i64 j ∧ sz = .int .i64 ((flat (rows.take j)).length : Int) ∧ w = wr) (fun _ i _ => k - (intOf i).toNat)
  case atStart => exact ⟨0, Nat.zero_le _, rfl, rfl, rfl⟩
  case round =>
    obtain ⟨j, hj, rfl, rfl, rfl⟩ := hrel
    by_cases hlt : j < k
    · obtain ⟨r, hr⟩ : ∃ r, rows[j]? = some r := ⟨rows[j]'(by rw [Hk.out]; exact hlt), List.getElem?_eq_getElem _⟩
      obtain ⟨hc, -, h3, -⟩ := hR j r hr
      have h5 := Hlen.out (j + 1) hlt
      have h6 : (flat (rows.take (j + 1))).length = (flat (rows.take j)).length + r.2.1 := by rw [flat_next hr, List.length_append, h3]
      have H6 := Lib.hid h6
      have hw : wrap64 (((flat (rows.take j)).length : Int) + (r.2.1 : Int)) = ((flat (rows.take j)).length : Int) + (r.2.1 : Int) := by unfold wrap64; omega
      have hneg : ¬ ((flat (rows.take j)).length : Int) + (r.2.1 : Int) < 0 := by omega
      clear h3 hr h6
      have Hw := Lib.hid hw
      go_wp2
      exact ⟨⟨j + 1, by omega, by go_num, by rw [Hw.out, H6.out]; simp, trivial⟩, by simp [intOf]; omega⟩
    · obtain rfl : j = k := by omega
      have hz := Hlen.out j (Nat.le_refl _)
      have hq := growNone (flat (rows.take j)).length (by omega) w
      go_wp2_with fail
      refine hq.mono ?_
      rintro e w1 ⟨A0, c0, rfl, ow0, hb0⟩
      go_wp2
      go_loopw [6, 27] (fun o i wr => ∃ (t : Nat) (A : Option Addr) (n c' : Nat), t ≤ j ∧ i = .int .i64 t ∧ o = .slice A n c' ∧ Ow eS wr w.heap.size A n c' (flat (rows.take t)) ∧ Below w.heap.size w wr) (fun _ i _ => j - (intOf i).toNat)
      case atStart => exact ⟨0, A0, 0, c0, Nat.zero_le _, rfl, rfl, ow0, hb0⟩
      case round =>
        obtain ⟨t, A, n, c', ht, rfl, rfl, how, hbel⟩ := hrel
        by_cases hlt : t < j
        · obtain ⟨r, hr⟩ : ∃ r, rows[t]? = some r := ⟨rows[t]'(by rw [Hk.out]; exact hlt), List.getElem?_eq_getElem _⟩
          obtain ⟨hc, hX, h3, h4⟩ := (hR.below hbel hG) t r hr
          have hn := Hlen.out t (by omega)
          have hnl := Ow.len okS how
          have Hf := Lib.hid (flat_next hr)
          have H3 := Lib.hid h3
          have hn4 : n ≤ 4000 := by omega
          clear hr h3 hn hnl
          go_wp2_with (at_builtin; refine wpList_append_ow okS _ rfl _ _ 24 rfl w.heap.size info_smp Tryd.underlying24 rfl A n c' (flat (rows.take t)) rfl how r.1 r.2.1 r.2.2.1 wr.heap.size r.2.2.2 rfl hX H3.out (by unfold maxLen; omega) (by omega) hbel.size ?_; intro A1 c1 w2 ow2 hg2 hA2)
          refine ⟨⟨t + 1, A1, n + r.2.1, c1, by omega, by go_num, rfl, by rw [Hf.out]; exact ow2, hbel.grown hg2 hbel.size (fun k e => (how.lt k e).1)⟩, by simp [intOf]; omega⟩
        · obtain rfl : t = j := by omega
          have Hq := Lib.hid (show flat (rows.take t) = flat rows by rw [List.take_of_length_le (by rw [Hk.out]; exact Nat.le_refl _)])
          go_wp2
          go_ret
          exact ⟨A, n, c', rfl, by rw [← Hq.out]; exact how, hbel⟩
end Go.Proofs.YtkgbjlbhlhdhbaaDoor
/-
  A map of samples by their keys, as it lies in memory: asked, filled, counted.
-/
namespace Go.Proofs.YtkgbjlbhlhdhbaaDoor
set_option maxRecDepth 20000
open Go.RowKit
open Go.ChangeMaps (setBlock heap_setBlock_same heap_setBlock_other)
set_option linter.unusedSimpArgs false
set_option linter.unusedVariables false

abbrev keyV (x : Smp) : Value := .agg #[.int .i64 x.1, .int .i64 x.2.1, .int .i64 x.2.2.1]
abbrev smpV (x : Smp) : Value := .agg #[.int .i64 x.1, .int .i64 x.2.1, .int .i64 x.2.2.1, .int .i64 x.2.2.2]
def firstM (L : List Smp) (y : Smp) : Option Smp := L.find? (fun x => sameKeyM y x)

theorem keyEqual (x y : Smp) (w : World) : (Op.equal 79 (keyV x) (keyV y)).run Tryd.prog w = .ok (sameKeyM x y) w := by
  show (Op.equalIn 10000 79 (keyV x) (keyV y)).run Tryd.prog w = _
  unfold sameKeyM
  go_simp
  by_cases h0 : x.1 = y.1 <;> by_cases h1 : x.2.1 = y.2.1 <;> by_cases h2 : x.2.2.1 = y.2.2.1 <;> simp [h0, h1, h2]
theorem keyChecks (e : Bool) (x : Smp) (w : World) : (Instr.checkKey e 10000 79 (keyV x)).run Tryd.prog w = .ok () w := by kernel_rfl
theorem zeroS (w : World) : (zeroValue 26).run Tryd.prog w = .ok (smpV (0, 0, 0, 0)) w := by kernel_rfl

theorem findAsk (y : Smp) (w : World) : ∀ (L : List Smp) (es : List MapEntry) (i : Nat), es.map (fun e => (e.key, e.val)) = L.map (fun x => (keyV x, smpV x)) →
    ∃ r, (Instr.findAsking 79 (keyV y) es i).run Tryd.prog w = .ok r w ∧ r.map (·.2) = (firstM L y).map smpV
  | [], es, i, h => by
    obtain rfl : es = [] := by simpa using h
    exact ⟨none, by simp [Instr.findAsking], rfl⟩
  | x :: L, es, i, h => by
    match es, h with
    | e :: es, h =>
      simp only [List.map_cons, List.cons.injEq, Prod.mk.injEq] at h
      obtain ⟨⟨hk, hv⟩, h⟩ := h
      have he : (Op.equal 79 (keyV y) e.key).run Tryd.prog w = .ok (sameKeyM y x) w := by rw [hk]; exact keyEqual y x w
      rcases hs : sameKeyM y x
      · obtain ⟨r, h1, h2⟩ := findAsk y w L es (i + 1) h
        refine ⟨r, by simp [Instr.findAsking, he, hs, h1, Result.andThen], ?_⟩
        rw [h2]
        simp [firstM, List.find?_cons, hs]
      · refine ⟨some (i, e.val), by simp [Instr.findAsking, he, hs, Result.andThen], ?_⟩
        simp [firstM, List.find?_cons, hs, hv]

theorem findKeyS (y : Smp) (w : World) (L : List Smp) (es : List MapEntry) (h : es.map (fun e => (e.key, e.val)) = L.map (fun x => (keyV x, smpV x))) :
    ∃ r, (Instr.findKey 79 (keyV y) es).run Tryd.prog w = .ok r w ∧ r.map (·.2) = (firstM L y).map smpV := by
  obtain ⟨r, h1, h2⟩ := findAsk y w L es 0 h
  match es, h with
  | [], h =>
    obtain rfl : L = [] := by simpa using h
    exact ⟨none, by simp [Instr.findKey, run_underlying Tryd.underlying79, Instr.findNow, Result.andThen], rfl⟩
  | e :: es, h =>
    refine ⟨r, ?_, h2⟩
    simp only [Instr.findKey, Sem.run_bind, run_underlying Tryd.underlying79, Result.andThen]
    exact h1

/-- Block b is a map that holds these samples by their keys, the eldest first. -/
def SMap (w : World) (b : Nat) (L : List Smp) : Prop :=
  ∃ es clock, w.heap[b]? = some (.map es clock) ∧ es.toList.map (fun e => (e.key, e.val)) = L.map (fun x => (keyV x, smpV x)) ∧ (∀ e ∈ es.toList, e.born < clock) ∧ (es.toList.map (·.born)).Nodup

section
variable {w w' : World} {b : Nat} {L : List Smp}
theorem SMap.lt (h : SMap w b L) : b < w.heap.size := by
  obtain ⟨es, clock, hb, _⟩ := h
  exact (Array.getElem?_eq_some_iff.1 hb).1
theorem SMap.kept {row : Option Nat} (h : SMap w b L) (hg : w.grownBy w' row) (hne : some b ≠ row) : SMap w' b L := by
  have hlt := h.lt
  obtain ⟨es, clock, hb, r⟩ := h
  exact ⟨es, clock, (hg.block b hlt hne).trans hb, r⟩
theorem SMap.below {B : Nat} (h : SMap w b L) (hb : Below B w w') (hB : b < B) : SMap w' b L := by
  obtain ⟨es, clock, h1, r⟩ := h
  exact ⟨es, clock, (hb.block b hB).trans h1, r⟩
theorem SMap.alloc (h : SMap w b L) (o : Obj) : SMap (w.alloc o) b L := h.kept (World.grownBy_alloc w o none) (by simp)
theorem SMap.drew (h : SMap w b L) : SMap w.drew b L := h
theorem SMap.made (w : World) : SMap (w.alloc (.map #[] 0)) w.heap.size [] := ⟨#[], 0, heap_alloc_new w _, rfl, by simp, by simp⟩
theorem SMap.size (h : SMap w b L) : ∃ es clock, w.heap[b]? = some (.map es clock) ∧ es.size = L.length := by
  obtain ⟨es, clock, hb, hm, _⟩ := h
  refine ⟨es, clock, hb, ?_⟩
  have := congrArg List.length hm
  simpa using this
theorem SMap.len (h : SMap w b L) (ty : TypeId) : (Builtin.len_ #[76] ty #[.map (some b)]).run Tryd.prog w = .ok (.int .i64 (L.length : Int)) w := by
  obtain ⟨es, clock, hb, hs⟩ := h.size
  rw [← hs]
  simp [Builtin.len_, run_underlying Tryd.underlying76, MapKept.run_getObj_map hb, Result.andThen]
  try rfl
theorem SMap.look (h : SMap w b L) (y : Smp) : (Instr.lookup 76 (.map (some b)) (keyV y) true).run Tryd.prog w = .ok (.tuple #[smpV ((firstM L y).getD (0, 0, 0, 0)), .bool (firstM L y).isSome]) w := by
  obtain ⟨es, clock, hb, hm, _⟩ := h
  obtain ⟨r, h1, h2⟩ := findKeyS y w L es.toList hm
  rcases hf : firstM L y with _ | x
  · rw [hf] at h2
    obtain rfl : r = none := by simpa using h2
    simp [Instr.lookup, run_underlying Tryd.underlying76, MapKept.run_getObj_map hb, keyChecks, h1, zeroS, Result.andThen]
  · rw [hf] at h2
    obtain ⟨⟨i, v⟩, rfl, hv⟩ := Option.map_eq_some_iff.1 h2
    simp only at hv
    subst hv
    simp [Instr.lookup, run_underlying Tryd.underlying76, MapKept.run_getObj_map hb, keyChecks, h1, Result.andThen]
theorem SMap.put (h : SMap w b L) (y : Smp) (hn : firstM L y = none) : ∃ w', (Instr.mapUpdate 76 (.map (some b)) (keyV y) (smpV y)).run Tryd.prog w = .ok () w' ∧ SMap w' b (L ++ [y]) ∧ w.grownBy w' (some b) := by
  obtain ⟨es, clock, hb, hm, hc, hd⟩ := h
  obtain ⟨r, h1, h2⟩ := findKeyS y w L es.toList hm
  rw [hn] at h2
  obtain rfl : r = none := by simpa using h2
  refine ⟨setBlock w b (.map (es.push ⟨keyV y, smpV y, clock⟩) (clock + 1)), ?_, ⟨_, _, heap_setBlock_same hb _, ?_, ?_, ?_⟩, ⟨rfl, rfl, rfl, by simp [setBlock], fun i _ hi => heap_setBlock_other hb _ (fun e => hi (by rw [e]))⟩⟩
  · simp [Instr.mapUpdate, run_underlying Tryd.underlying76, MapKept.run_getObj_map hb, keyChecks, h1, MapKept.run_setObj_map _ hb, Result.andThen, setBlock]
  · simp [hm]
  · intro e he
    simp only [Array.toList_push, List.mem_append, List.mem_singleton] at he
    rcases he with he | rfl
    · have := hc e he
      omega
    · simp
  · rw [Array.toList_push, List.map_append, List.nodup_append]
    refine ⟨hd, by simp, fun a ha c hc' => ?_⟩
    obtain ⟨e, he, rfl⟩ := List.mem_map.1 ha
    obtain rfl : c = clock := by simpa using hc'
    have := hc e he
    omega
end
end Go.Proofs.YtkgbjlbhlhdhbaaDoor
/-
  samplesByKey: the first sample of each key, in a map.
-/
namespace Go.Proofs.YtkgbjlbhlhdhbaaDoor
set_option maxRecDepth 20000
open Go.RowKit Go.Shelf
set_option linter.unusedSimpArgs false
set_option linter.unusedVariables false

def keyStep (acc : List Smp) (x : Smp) : List Smp := if (firstM acc x).isSome then acc else acc ++ [x]
def byKeyM (l : List Smp) : List Smp := l.foldl keyStep []
theorem byKey_next {l : List Smp} {k : Nat} {x : Smp} (h : l[k]? = some x) : byKeyM (l.take (k + 1)) = keyStep (byKeyM (l.take k)) x := by
  unfold byKeyM
  rw [take_next h, List.foldl_append]
  rfl

theorem implKeyOf (a0 a1 a2 a3 : Int) (w : World) :
    Calls Tryd.prog 51 #[.agg #[.int .i64 a0, .int .i64 a1, .int .i64 a2, .int .i64 a3]] w fun e w' => e = .returned (.agg #[.int .i64 a0, .int .i64 a1, .int .i64 a2]) ∧ Below w.heap.size w w' := by
  go_enter Tryd.func51, Tryd.ntmps51
  go_wp2
  refine bodyPost_ret (v := .agg #[.int .i64 a0, .int .i64 a1, .int .i64 a2]) (by simp [results, Tryd.results51, go_sem]) rfl ?_
  exact ⟨rfl, ((Below.refl _ _).alloc (Nat.le_refl _) _).alloc (by simp) _⟩

theorem S4.grown {w w' : World} {row : Option Nat} {g p : Nat} {a0 a1 a2 a3 : Int} (h : S4 w g p a0 a1 a2 a3) (hg : w.grownBy w' row) (hne : some g ≠ row) : S4 w' g p a0 a1 a2 a3 :=
  ⟨hg.cell h.1 hne, hg.cell h.2.1 hne, hg.cell h.2.2.1 hne, hg.cell h.2.2.2 hne⟩

theorem wp_mapPut {P : Program} {o : Oper} {a : Act} {w w' : World} {K : Act → World → Prop} {Q : Exit → Act → World → Prop} (m k v : Operand) (t : TypeId) (hop : o.op = Op.mapUpdate t m k v) {mv kv vv : Value} (hm : a.eval m = mv) (hk : a.eval k = kv) (hv : a.eval v = vv)
    (hrun : (Instr.mapUpdate t mv kv vv).run P w = .ok () w') (h : K (a.put o.dst undef) w') : o.wp P a w K Q := by
  unfold Oper.wp
  simp [execOp, hop, hm, hk, hv, hrun, Result.andThen]
  exact h

set_option maxRecDepth 100000 in
set_option maxHeartbeats 4000000 in
theorem byKeyS (G k c : Nat) (rows : List Row4) (w : World) (hR : Rows4 w G rows) (hG : G < w.heap.size) (hk : rows.length = k) (hk4 : k ≤ 4) :
    Calls Tryd.prog 50 #[.slice (some ⟨G, 0, none⟩) k c] w fun e w' => ∃ b, e = .returned (.map (some b)) ∧ w.heap.size ≤ b ∧ SMap w' b (byKeyM (flat rows)) ∧ Below w.heap.size w w' := by
  have hB0 : Below w.heap.size w (w.alloc (.map #[] 0)) := (Below.refl _ _).alloc (Nat.le_refl _) _
  have hC := concatS G k c rows (w.alloc (.map #[] 0)) (hR.below hB0 hG) (Nat.lt_of_lt_of_le hG hB0.size) hk hk4
  have hmm := @run_makeMap Tryd.prog
  have s0 := SMap.made w
  clear hR hk
  go_enter Tryd.func50, Tryd.ntmps50
  go_wp2_with fail
  refine hC.mono ?_
  rintro e w1 ⟨A, n, c', rfl, ow1, hb1⟩
  have s1 := s0.below hb1 (by simp)
  have hB1 := hB0.trans (hb1.mono hB0.size)
  have hnl := Ow.len okS ow1
  have hnm := ow1.small
  rw [World.size_alloc] at ow1
  obtain ⟨l, hl0⟩ : ∃ l, flat rows = l := ⟨_, rfl⟩
  rw [hl0] at ow1 hnl
  have Hl := Lib.hid hl0
  clear hl0
  have Hn := Lib.hid hnl
  clear hC hnl s0 hmm
  unfold maxLen at hnm
  go_wp2
  go_loopw [12] (fun i wr => ∃ t : Nat, t ≤ n ∧ i = .int .i64 t ∧ SMap wr w.heap.size (byKeyM (l.take t)) ∧ Ow eS wr (w.heap.size + 1) A n c' l ∧ Below w.heap.size w wr) (fun i _ => n - (intOf i).toNat)
  case atStart => exact ⟨0, Nat.zero_le _, rfl, s1, ow1, hB1⟩
  case round =>
    obtain ⟨t, ht, rfl, hs, how, hbel⟩ := hrel
    by_cases hlt : t < n
    · obtain ⟨g, o, a0, a1, a2, a3, rfl, hg, hx, c0, c1, c2, c3⟩ := (how.rd okS).smp (k := t) (by rw [Hn.out]; exact hlt)
      have hAl := (Below.refl wr.heap.size wr).alloc (Nat.le_refl _) (.cells #[.int .i64 a0, .int .i64 a1, .int .i64 a2, .int .i64 a3] 26)
      have hbA := hbel.trans (hAl.mono hbel.size)
      have hsA := hs.alloc (.cells #[.int .i64 a0, .int .i64 a1, .int .i64 a2, .int .i64 a3] 26)
      have owA := how.alloc (.cells #[.int .i64 a0, .int .i64 a1, .int .i64 a2, .int .i64 a3] 26)
      have atX := At.new wr 26 #[.int .i64 a0, .int .i64 a1, .int .i64 a2, .int .i64 a3]
      have Hx := Lib.hid (byKey_next hx)
      clear hx
      go_wp2_with fail
      refine (implKeyOf a0 a1 a2 a3 _).mono ?_
      rintro e w2 ⟨rfl, hb2⟩
      have hs2 := hsA.below hb2 hsA.lt
      have ow2 := owA.below hb2 (Nat.le_refl _)
      have hB2 := hbA.trans (hb2.mono hbA.size)
      have atX2 := atX.below hb2 atX.lt
      have hl : (Instr.lookup 76 (.map (some w.heap.size)) (.agg #[.int .i64 a0, .int .i64 a1, .int .i64 a2]) true).run Tryd.prog w2 = _ := hs2.look (a0, a1, a2, a3)
      rcases hf : firstM (byKeyM (l.take t)) (a0, a1, a2, a3) with _ | ⟨y0, y1, y2, y3⟩
      · rw [hf] at hl
        simp only [Option.getD_none, Option.isSome_none] at hl
        have Hst := Lib.hid (show byKeyM (l.take (t + 1)) = byKeyM (l.take t) ++ [(a0, a1, a2, a3)] by rw [Hx.out]; unfold keyStep; rw [hf]; rfl)
        have Hf := Lib.hid hf
        clear hf
        go_wp2
        have hAl5 := (Below.refl w2.heap.size w2).alloc (Nat.le_refl _) (.cells #[.int .i64 0, .int .i64 0, .int .i64 0, .int .i64 0] 26)
        have hB5 := hB2.alloc hB2.size (.cells #[.int .i64 0, .int .i64 0, .int .i64 0, .int .i64 0] 26)
        have hs5 := hs2.alloc (.cells #[.int .i64 0, .int .i64 0, .int .i64 0, .int .i64 0] 26)
        have ow5 := ow2.alloc (.cells #[.int .i64 0, .int .i64 0, .int .i64 0, .int .i64 0] 26)
        have atX5 := atX2.alloc (.cells #[.int .i64 0, .int .i64 0, .int .i64 0, .int .i64 0] 26)
        have c5 : S4 (w2.alloc (.cells #[.int .i64 0, .int .i64 0, .int .i64 0, .int .i64 0] 26)) wr.heap.size 0 a0 a1 a2 a3 := by
          obtain ⟨h0, h1, h2, h3, _⟩ := atX5.four
          exact ⟨h0, h1, h2, h3⟩
        have hg5 := atX5.lt
        refine wp_region_mix [(0, false), (1, false), (3, false), (2, true), (4, true)] (fun u => S4 u wr.heap.size 0 a0 a1 a2 a3) (by kernel_rfl) (by kernel_rfl) (fun _ _ _ _ _ h => h) c5.drew ?_
        simp only [mixOps, List.map_cons, List.map_nil, List.getElem?_cons_succ, List.getElem?_cons_zero, Option.getD_some]
        iterate 3 (
          refine mix_pure (v := ?_) (by rfl) (fun u hu => ?_) ?_
          rotate_left
          · obtain ⟨_, _, _, _⟩ := hu
            go_simp
            (with_reducible rfl)
          (try simp only [Act.put, List.setIfInBounds_toArray, List.set_cons_zero, List.set_cons_succ]))
        refine mix_call (by rfl) (fun K hK => ?_)
        go_simp
        refine (implKeyOf a0 a1 a2 a3 _).mono ?_
        rintro e w6 ⟨rfl, hb6⟩
        have hs6 := hs5.drew.below hb6 hs5.lt
        have ow6 := (ow5.drewN 1).below hb6 (Nat.le_refl _)
        have hB6 := hB5.drew.trans (hb6.mono hB5.size)
        have c6 := c5.drew.below hb6 hg5
        obtain ⟨w7, hrun, hs7, hg7⟩ := hs6.put (a0, a1, a2, a3) Hf.out
        have ow7 := ow6.grown hg7 (fun x hx e => by
          have := (ow6.lt x hx).1
          simp only [Option.some.injEq] at e
          omega)
        have hB7 := hB6.grown hg7 hB6.size (fun x e => by cases e; exact Nat.le_refl _)
        refine hK _ _ _ (fun _ h => h) c6 ?_
        (try simp only [Act.put, List.setIfInBounds_toArray, List.set_cons_zero, List.set_cons_succ])
        refine mix_call (by rfl) (fun K hK => ?_)
        refine wp_mapPut _ _ _ _ rfl rfl rfl rfl hrun ?_
        refine hK _ _ _ (fun _ h => h) (c6.grown hg7 (fun e => by
          have := hbel.size
          have := hs.lt
          simp only [Option.some.injEq] at e
          omega)) ?_
        (try simp only [Act.put, List.setIfInBounds_toArray, List.set_cons_zero, List.set_cons_succ])
        refine mix_nil ?_
        go_wp2
        exact ⟨⟨t + 1, by omega, by go_num, by rw [Hst.out]; exact hs7, ow7, hB7⟩, by simp [intOf]; omega⟩
      · rw [hf] at hl
        simp only [Option.getD_some, Option.isSome_some] at hl
        have Hst := Lib.hid (show byKeyM (l.take (t + 1)) = byKeyM (l.take t) by rw [Hx.out]; unfold keyStep; rw [hf]; rfl)
        clear hf
        go_wp2
        exact ⟨⟨t + 1, by omega, by go_num, by rw [Hst.out]; exact hs2.alloc _, ow2.alloc _, hB2.alloc hB2.size _⟩, by simp [intOf]; omega⟩
    · obtain rfl : t = n := by omega
      have Hq := Lib.hid (show l.take t = l by rw [List.take_of_length_le (by rw [Hn.out]; exact Nat.le_refl _)])
      go_wp2
      go_ret
      exact ⟨_, rfl, Nat.le_refl _, by rw [Hl.out, ← Hq.out]; exact hs, hbel⟩
end Go.Proofs.YtkgbjlbhlhdhbaaDoor
/-
  The program's StoreFault: a list held against what a store is.
-/
namespace Go.Proofs.YtkgbjlbhlhdhbaaDoor
set_option maxRecDepth 20000
open Go.RowKit
set_option linter.unusedSimpArgs false

theorem risesM_no {l : List Smp} {k : Nat} (hk : k < l.length) (hs : stepM l k = false) : risesM l = false := by
  unfold risesM
  rw [List.all_eq_false]
  exact ⟨k, List.mem_range.2 hk, by simp [hs]⟩
theorem risesM_yes {l : List Smp} {n : Nat} (hn : l.length = n) (hal : ∀ j, j + 1 < n → stepM l j = true) : risesM l = true := by
  unfold risesM
  rw [List.all_eq_true]
  intro j hj
  have hj' := List.mem_range.1 hj
  rcases Nat.lt_or_ge (j + 1) n with h1 | h1
  · exact hal j h1
  · unfold stepM
    rw [List.getElem?_eq_none (l := l) (i := j + 1) (by omega)]
    cases l[j]? <;> rfl

set_option maxHeartbeats 2000000 in
theorem implIsRising (A : Option Addr) (n c : Nat) (l : List Smp) (w : World) (ha : Rd eS w w.heap.size A l) (hn : l.length = n) (hm : n ≤ 1000) :
    Calls Tryd.prog 61 #[.slice A n c] w fun e w' => e = .returned (.bool (risesM l)) ∧ Below w.heap.size w w' := by
  have Hn := Lib.hid hn
  clear hn
  go_enter Tryd.func61, Tryd.ntmps61
  go_wp2
  go_loopw [3] (fun i wr => RiseRel w l n i wr) (fun i _ => n - (intOf i).toNat)
  case atStart => exact ⟨0, .inr rfl, rfl, fun _ h => absurd h (by omega), Below.refl _ _⟩
  case round =>
    obtain ⟨k, hk, rfl, hal, hbel⟩ := hrel
    have Hal := Lib.hid hal
    clear hal
    by_cases hlt : k + 1 < n
    · obtain ⟨g, o, a0, a1, a2, a3, rfl, hg, hx, ca⟩ := (ha.below hbel (Nat.le_refl _)).smp (k := k) (by rw [Hn.out]; omega)
      obtain ⟨g', o', b0, b1, b2, b3, e', hg', hy, cb⟩ := (ha.below hbel (Nat.le_refl _)).smp (k := k + 1) (by rw [Hn.out]; omega)
      obtain ⟨rfl, rfl⟩ : g = g' ∧ o = o' := by simpa using Option.some.inj e'
      have Hst := Lib.hid (stepM_at hx hy)
      clear hx hy e'
      have hbd := hbel.drew
      have hw : IntKind.i64.wrap (k : Int) = (k : Int) := IntWalk.i64_in _ (by omega)
      have i1 : (k : Int) < (n : Int) := by omega
      have i2 : (k : Int) + 1 < (n : Int) := by omega
      have i3 : (0 : Int) ≤ (k : Int) + 1 := by omega
      have i4 : ((k : Int) + 1).toNat = k + 1 := by omega
      go_wp2
      refine wp_region_mix [(0, false), (1, false), (2, false), (3, false), (4, false), (5, false), (6, false), (7, false), (8, false), (9, true), (10, false)] (fun u => S4 u g (o + k * 4) a0 a1 a2 a3 ∧ S4 u g (o + (k + 1) * 4) b0 b1 b2 b3) (by kernel_rfl) (by kernel_rfl) (fun _ _ _ _ _ h => h) ⟨ca.drew, cb.drew⟩ ?_
      simp only [mixOps, List.map_cons, List.map_nil, List.getElem?_cons_succ, List.getElem?_cons_zero, Option.getD_some]
      repeat (first
        | (refine mix_skip (by rfl) ?_
           (try simp only [Act.put, List.setIfInBounds_toArray, List.set_cons_zero, List.set_cons_succ]))
        | (refine mix_pure (v := ?_) (by rfl) (fun u hu => ?_) ?_
           rotate_left
           · obtain ⟨⟨_, _, _, _⟩, _, _, _, _⟩ := hu
             go_simp
             (with_reducible rfl)
           (try simp only [Act.put, List.setIfInBounds_toArray, List.set_cons_zero, List.set_cons_succ])))
      refine mix_call (by rfl) (fun K hK => ?_)
      go_simp
      refine (implIsAhead a0 a1 a2 a3 b0 b1 b2 b3 _).mono ?_
      rintro e w1 ⟨rfl, hb1⟩
      have hB1 := hbd.trans (hb1.mono hbd.size)
      refine hK _ _ _ (fun _ h => h) ⟨ca.drew.below hb1 (Nat.lt_of_lt_of_le hg hbd.size), cb.drew.below hb1 (Nat.lt_of_lt_of_le hg hbd.size)⟩ ?_
      (try simp only [Act.put, List.setIfInBounds_toArray, List.set_cons_zero, List.set_cons_succ])
      rw [← Hst.out]
      rcases hs : stepM l k
      · have Hf := Lib.hid (risesM_no (show k < l.length by rw [Hn.out]; omega) hs)
        clear hs
        refine mix_pure (v := ?_) (by rfl) (fun u hu => ?_) ?_
        rotate_left
        · go_simp
          (with_reducible rfl)
        (try simp only [Act.put, List.setIfInBounds_toArray, List.set_cons_zero, List.set_cons_succ])
        refine mix_nil ?_
        go_wp2
        go_ret
        exact ⟨by rw [Hf.out]; rfl, hB1⟩
      · have Hs := Lib.hid hs
        clear hs
        refine mix_pure (v := ?_) (by rfl) (fun u hu => ?_) ?_
        rotate_left
        · go_simp
          (with_reducible rfl)
        (try simp only [Act.put, List.setIfInBounds_toArray, List.set_cons_zero, List.set_cons_succ])
        refine mix_nil ?_
        go_wp2
        refine ⟨⟨k + 1, .inl (by omega), by go_num, fun j hj => ?_, hB1⟩, by simp [intOf]; omega⟩
        rcases Nat.lt_or_ge j k with h | h
        · exact Hal.out j h
        · obtain rfl : j = k := by omega
          exact Hs.out
    · have hq := risesM_yes Hn.out (fun j hj => Hal.out j (by omega))
      have Hq := Lib.hid hq
      clear hq
      have i5 : ¬ (k : Int) + 1 < (n : Int) := by omega
      go_wp2
      go_ret
      exact ⟨by rw [Hq.out]; rfl, hbel⟩

theorem storeFault_is {l : List Smp} (h : ¬ 160 < l.length) (hr : rightM l = true) : storeFaultM l = if risesM l = false then 1 else 0 := by
  unfold storeFaultM
  rw [if_neg h, if_neg (by simp [hr])]

set_option maxHeartbeats 2000000 in
theorem implStoreFault (A : Option Addr) (n c : Nat) (l : List Smp) (w : World) (ha : Rd eS w w.heap.size A l) (hn : l.length = n) (hF : Flds w) :
    Calls Tryd.prog 23 #[.slice A n c] w fun e w' => e = .returned (.int .i64 (storeFaultM l)) ∧ Below w.heap.size w w' := by
  by_cases hbig : 160 < n
  · have hb : (160 : Int) < (n : Int) := by omega
    rw [storeFault_many (by omega)]
    go_enter Tryd.func23, Tryd.ntmps23
    go_wp2
    go_ret
    exact ⟨rfl, Below.refl _ _⟩
  have hb : (n : Int) ≤ 160 := by omega
  have hn160 : n ≤ 160 := by omega
  have Hbig := Lib.hid (show ¬ 160 < l.length by omega)
  have Hn := Lib.hid hn
  clear hn hbig
  go_enter Tryd.func23, Tryd.ntmps23
  go_wp2
  go_loopw [11] (fun i wr => RightRel w l n i wr) (fun i _ => n - (intOf i).toNat)
  case atStart => exact ⟨0, Nat.zero_le _, rfl, fun _ _ h => absurd h (by omega), Below.refl _ _⟩
  case round =>
    obtain ⟨k, hk, rfl, hal, hbel⟩ := hrel
    have Hal := Lib.hid hal
    clear hal
    by_cases hlt : k < n
    · obtain ⟨g, o, a0, a1, a2, a3, rfl, hg, hx, c0, c1, c2, c3⟩ := (ha.below hbel (Nat.le_refl _)).smp (k := k) (by rw [Hn.out]; exact hlt)
      have hbA := hbel.alloc hbel.size (.cells #[.int .i64 a0, .int .i64 a1, .int .i64 a2, .int .i64 a3] 26)
      rcases faultM_or (a0, a1, a2, a3) with hf | hf
      · have hq := implSampleFault a0 a1 a2 a3 _ (hF.below hbA)
        rw [hf] at hq
        have Hx := Lib.hid hx
        have Hf := Lib.hid hf
        clear hx hf
        go_wp2_with fail
        refine hq.mono ?_
        rintro e w2 ⟨rfl, hb2⟩
        have hB2 := hbA.trans (hb2.mono hbA.size)
        go_wp2
        refine ⟨⟨k + 1, by omega, by go_num, fun j x hj hx => ?_, hB2⟩, by simp [intOf]; omega⟩
        rcases Nat.lt_or_ge j k with h | h
        · exact Hal.out j x h hx
        · obtain rfl : j = k := by omega
          obtain rfl := Option.some.inj (Hx.out.symm.trans hx)
          exact Hf.out
      · have hq := implSampleFault a0 a1 a2 a3 _ (hF.below hbA)
        rw [hf] at hq
        have Hr := Lib.hid (storeFault_wrong Hbig.out hx hf)
        clear hx hf
        go_wp2_with fail
        refine hq.mono ?_
        rintro e w2 ⟨rfl, hb2⟩
        have hB2 := hbA.trans (hb2.mono hbA.size)
        go_wp2
        go_ret
        exact ⟨by rw [Hr.out]; rfl, hB2⟩
    · obtain rfl : n = k := by omega
      have hright := rightM_of Hn.out Hal.out
      have Hq := Lib.hid (storeFault_is Hbig.out hright)
      have hq := implIsRising A n c l wr (ha.lift hbel) Hn.out (by omega)
      clear Hal hright
      go_wp2_with fail
      refine hq.mono ?_
      rintro e w2 ⟨rfl, hb2⟩
      have hB2 := hbel.trans (hb2.mono hbel.size)
      have Hs := Lib.hid Hq.out
      rcases hr : risesM l
      · have Hf := Lib.hid (show storeFaultM l = 1 by rw [Hq.out, hr]; rfl)
        clear hr
        go_wp2
        go_ret
        exact ⟨by rw [Hf.out]; rfl, hB2⟩
      · have Hf := Lib.hid (show storeFaultM l = 0 by rw [Hq.out, hr]; rfl)
        clear hr
        go_wp2
        go_ret
        exact ⟨by rw [Hf.out]; rfl, hB2⟩

theorem hiStoreFault : ∀ (A0 : Option Addr) (m0 e0 : Nat) (q0 : List Smp)  (W : World), Rd eS W W.heap.size A0 q0 → q0.length = m0 → m0 ≤ 1048576 → Flds W → Calls Tryd.prog 23 #[.slice A0 m0 e0] W (fun e W' => e = .returned (.int .i64 (storeFaultM q0)) ∧ Below W.heap.size W W') :=
  fun A0 m0 e0 q0 W ha hn _ hF => implStoreFault A0 m0 e0 q0 W ha hn hF
end Go.Proofs.YtkgbjlbhlhdhbaaDoor
