/-
  Queued hints sorted by their turns, and what comes out of a map of them (as SortP, MergeP, at queued hints).
-/
import Derived.Test.YteiclanlhnccnaaDoorValsQ
import Derived.Test.YteiclanlhnccnaaDoorLaid
import Derived.Sort.LotA
import Derived.Sort.Grow
namespace Go.Proofs.YteiclanlhnccnaaDoor
set_option maxRecDepth 20000
open Go.RowKit Go.Sort Go.Shelf
set_option linter.unusedSimpArgs false
set_option linter.unusedVariables false

def turnM (x y : Qd) : Int := cmpM x.1 y.1
theorem ltOf_turn (x y : Qd) : ltOf turnM x y = decide (x.1 < y.1) := by
  show decide (cmpM x.1 y.1 < 0) = _
  rcases cmpM_range x.1 y.1 with ⟨h, k⟩ | ⟨h, k⟩ | ⟨h, k⟩
  · rw [h]; simp [k]
  · rw [h, k]; simp
  · rw [h]
    have : ¬ x.1 < y.1 := by omega
    simp [this]
theorem swoTurn : SWO (ltOf turnM) where
  irrefl x := by rw [ltOf_turn]; simp
  trans x y z h k := by
    rw [ltOf_turn] at *
    simp only [decide_eq_true_eq] at *
    omega
  ntrans x y z h k := by
    rw [ltOf_turn] at *
    simp only [decide_eq_false_iff_not] at *
    omega
theorem sorted_pairsQ {d : Array Qd} (h : SortedIn (ltOf turnM) 0 d.size d) : d.toList.Pairwise fun x y => ¬ y.1 < x.1 := by
  rw [List.pairwise_iff_getElem]
  intro i j hi hj hij
  have hi' : i < d.size := by simpa using hi
  have hj' : j < d.size := by simpa using hj
  have := h i j (Nat.zero_le _) hij hj'
  rw [ltOf_turn, getElem!_pos d j hj', getElem!_pos d i hi'] at this
  simpa using this
theorem grown2 (w : World) (a b : Obj) : ∃ q os', (w.alloc a).alloc b = grow (w.drewN q) os' := by
  refine ⟨0, #[a] ++ #[b], ?_⟩
  rw [alloc_eq_grow, alloc_eq_grow, grow_grow]
  rfl

theorem cell_rowQ {x : Qd} {j : Nat} (hj : j < 8) : (qdCells x)[j]? = some ((qdCells x)[j]!) := by
  have : j < (qdCells x).length := hj
  rw [List.getElem?_eq_getElem this, getElem!_pos (qdCells x) j this]
theorem flatK_rowQ (d : Array Qd) : (flatK qdCells 8 d).toList = eQ.row d.toList := by
  apply List.ext_getElem?
  intro i
  rcases Nat.lt_or_ge i (d.size * 8) with h | h
  · have hk : i / 8 < d.size := by omega
    have hd : d.toList[i / 8]? = some d[i / 8]! := by
      rw [Array.getElem?_toList, Array.getElem?_eq_getElem hk, getElem!_pos d _ hk]
    have h1 := okQ.row_at d.toList (i / 8) (i % 8) _ hd (Nat.mod_lt _ (by decide))
    rw [show i / 8 * eQ.size + i % 8 = i by show i / 8 * 8 + i % 8 = i; omega] at h1
    rw [h1, Array.getElem?_toList]
    have hs : i < (flatK qdCells 8 d).size := by simpa using h
    have h2 := get_flatK qdCells 8 d i h
    rw [getElem!_pos (flatK qdCells 8 d) i hs] at h2
    rw [Array.getElem?_eq_getElem hs, h2]
    exact (cell_rowQ (Nat.mod_lt _ (by decide))).symm
  · rw [List.getElem?_eq_none (by simpa using h), List.getElem?_eq_none (by rw [okQ.row_len]; simpa [eQ] using h)]
theorem holdsK_ofQ {w : World} {base g n c : Nat} {l : List Qd} (how : Ow eQ w base (some ⟨g, 0, none⟩) n c l) : HoldsK qdCells 8 w g 0 l.toArray := fun j hj => by
  have hs : (flatK qdCells 8 l.toArray).size = l.length * 8 := by simp
  have hlen := Ow.len okQ how
  have h1 : (eQ.row l)[j]? = some (flatK qdCells 8 l.toArray)[j]! := by
    have := flatK_rowQ l.toArray
    rw [show (l.toArray).toList = l from rfl] at this
    rw [← this, Array.getElem?_toList, Array.getElem?_eq_getElem hj, getElem!_pos (flatK qdCells 8 l.toArray) j hj]
  refine ⟨?_, how.frozenAt _⟩
  rw [World.ownsRow.cellAt how _ (by rw [hs] at hj; show 0 + j < n * 8; omega), Nat.zero_add, h1]
  rfl
theorem ow_sortedQ {w : World} {base g n c m : Nat} {l : List Qd} {d : Array Qd} {os : Array Obj} (how : Ow eQ w base (some ⟨g, 0, none⟩) n c l) (hd : d.size = n) :
    Ow eQ (sortWorldK qdCells 8 w g 0 m d os) base (some ⟨g, 0, none⟩) n c d.toList := by
  refine ⟨by rw [okQ.row_len]; simp [hd], .inr ?_⟩
  rcases how.2 with ⟨h0, _⟩ | ⟨g', cap, cur, hv, hb, hg, h1, h2, h3, h4⟩
  · simp at h0
  · simp only [Value.slice.injEq, Option.some.injEq, Addr.mk.injEq, true_and, and_true] at hv
    obtain ⟨rfl, rfl⟩ := hv
    have hF : (flatK qdCells 8 d).size = n * 8 := by simp [hd]
    have hlt : g < w.heap.size := (Array.getElem?_eq_some_iff.1 hg).1
    refine ⟨g, c, putCells id 0 (flatK qdCells 8 d) cur, rfl, hb, ?_, h1, h2, by unfold putCells; simpa using h3, ?_⟩
    · show ((w.heap.modify g (onCells (putCells id 0 (flatK qdCells 8 d)))) ++ os)[g]? = _
      rw [Array.getElem?_append_left (by rw [Array.size_modify]; exact hlt), Array.getElem?_modify, if_pos rfl, hg]
      rfl
    · rw [← flatK_rowQ]
      apply List.ext_getElem?
      intro j
      rw [List.getElem?_take]
      have hcs : n * 8 ≤ cur.size := by
        rw [h3]
        exact Nat.mul_le_mul_right _ h1
      split
      · rename_i hj
        have hj' : j < n * 8 := hj
        have hjc : j < cur.size := by omega
        unfold putCells
        rw [Array.getElem?_toList, Array.getElem?_mapIdx, Array.getElem?_eq_getElem hjc, Option.map_some, if_pos ⟨Nat.zero_le _, by omega⟩, Nat.sub_zero, Array.getElem?_toList, Array.getElem?_eq_getElem (by omega), getElem!_pos (flatK qdCells 8 d) j (by omega)]
        rfl
      · rename_i hj
        rw [List.getElem?_eq_none]
        have : ¬ j < n * 8 := hj
        simp
        omega

end Go.Proofs.YteiclanlhnccnaaDoor
