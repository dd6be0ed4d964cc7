/-
  comparePlaces, and slices.SortFunc over a row of places of the call's own.
-/
import Derived.Test.YtbfjfjocangjeaaPlcs
import Derived.Test.YtbfjfjocangjeaaCmp
import Derived.Test.YtbfjfjocangjeaaLaid
import Derived.Sort.LotA
import Derived.Sort.Grow
namespace Go.Proofs.Ytbfjfjocangjeaa
set_option maxRecDepth 20000
open Go.RowKit Go.Sort Go.Shelf
set_option linter.unusedSimpArgs false
set_option linter.unusedVariables false

def keysP (a b : Plc) : Int := orM [cmpM a.1 b.1, cmpM a.2 b.2]
def aheadP (a b : Plc) : Bool := decide (a.1 < b.1) || (decide (a.1 = b.1) && decide (a.2 < b.2))
theorem keysP_ahead (a b : Plc) : decide (keysP a b < 0) = aheadP a b := by
  obtain ⟨a0, a1⟩ := a
  obtain ⟨b0, b1⟩ := b
  unfold keysP aheadP
  simp only [orM_cons, orM_nil]
  rcases cmpM_range a0 b0 with ⟨h0, k0⟩ | ⟨h0, k0⟩ | ⟨h0, k0⟩
  · simp [h0, k0]
  · subst k0
    rcases cmpM_range a1 b1 with ⟨h1, k1⟩ | ⟨h1, k1⟩ | ⟨h1, k1⟩
    · simp [h0, h1, k1]
    · subst k1
      simp [h0, h1]
    · have n1 : ¬ a1 < b1 := by omega
      simp [h0, h1]; omega
  · have n0 : ¬ a0 < b0 := by omega
    have n1 : ¬ a0 = b0 := by omega
    simp [h0, n0, n1]
theorem aheadP_iff (a b : Plc) : aheadP a b = true ↔ a.1 < b.1 ∨ (a.1 = b.1 ∧ a.2 < b.2) := by
  unfold aheadP
  simp
theorem ltOf_plc (x y : Plc) : ltOf keysP x y = aheadP x y := keysP_ahead x y
theorem aheadP_no {a b : Plc} (h : aheadP a b = false) : leP b a := by
  have h2 : ¬ (a.1 < b.1 ∨ (a.1 = b.1 ∧ a.2 < b.2)) := fun e => by rw [(aheadP_iff a b).2 e] at h; cases h
  unfold leP
  omega
theorem swoPlc : SWO (ltOf keysP) where
  irrefl x := by
    rw [ltOf_plc]
    rcases h : aheadP x x
    · rfl
    · have := (aheadP_iff x x).1 h; omega
  trans x y z h k := by
    rw [ltOf_plc] at *
    have h1 := (aheadP_iff x y).1 h
    have h2 := (aheadP_iff y z).1 k
    exact (aheadP_iff x z).2 (by omega)
  ntrans x y z h k := by
    rw [ltOf_plc] at *
    rcases hc : aheadP x z
    · rfl
    · have h1 := (aheadP_iff x z).1 hc
      have h2 := aheadP_no h
      have h3 := aheadP_no k
      unfold leP at h2 h3
      omega
theorem grown3Pl (w : World) (a b c : Obj) : ∃ q os', ((w.alloc a).alloc b |>.alloc c).drew = grow (w.drewN q) os' := by
  refine ⟨1, #[a] ++ #[b] ++ #[c], ?_⟩
  rw [alloc_eq_grow, alloc_eq_grow, alloc_eq_grow, grow_grow, grow_grow]
  rfl
theorem ints_twoPl {w : World} {t : TypeId} {x y : Int} {g : Nat} (hg : w.heap.size = g) : Ints ((w.alloc (.cells #[.int .i64 x, .int .i64 y] t)).drew) g [x, y] := by
  subst hg
  have h := At.new w t #[.int .i64 x, .int .i64 y]
  intro k u hk
  match k, hk with
  | 0, hk => obtain rfl : x = u := by simpa using hk
             exact h.cell 0
  | 1, hk => obtain rfl : y = u := by simpa using hk
             exact h.cell 1
  | k + 2, hk => simp at hk

set_option maxHeartbeats 1000000 in
set_option maxRecDepth 20000 in
theorem comparePlacesG (a0 a1 b0 b1 : Int) (w : World) :
    Calls Try.prog 95 #[.agg #[.int .i64 a0, .int .i64 a1], .agg #[.int .i64 b0, .int .i64 b1]] w fun e w' =>
      e = .returned (.int .i64 (keysP (a0, a1) (b0, b1))) ∧ ∃ q os', w' = grow (w.drewN q) os' := by
  go_enter Try.func95, Try.ntmps95
  go_wp2
  refine wp_region_mix [(0, false), (1, false), (2, false), (3, false), (5, false), (6, false), (7, false), (8, false), (4, true), (9, true), (10, true), (11, true), (12, false)] (fun u => u.cell? ⟨w.heap.size, 0, none⟩ = some (.int .i64 a0) ∧ u.cell? ⟨w.heap.size, 1, none⟩ = some (.int .i64 a1) ∧ u.cell? ⟨w.heap.size + 1, 0, none⟩ = some (.int .i64 b0) ∧ u.cell? ⟨w.heap.size + 1, 1, none⟩ = some (.int .i64 b1)) (by kernel_rfl) (by kernel_rfl) (fun _ _ _ _ _ h => h) (by go_simp) ?_
  simp only [mixOps, List.map_cons, List.map_nil, List.getElem?_cons_succ, List.getElem?_cons_zero, Option.getD_some]
  iterate 8
    refine mix_pure (v := ?_) (by rfl) (fun u hu => ?_) ?_
    rotate_left
    · obtain ⟨_, _, _, _⟩ := hu
      go_simp
      (with_reducible rfl)
    (try simp only [Act.put, List.setIfInBounds_toArray, List.set_cons_zero, List.set_cons_succ])
  iterate 2
    refine mix_call (by rfl) (fun K hK => ?_)
    go_simp
    refine (cmpCompare _ _ _).mono ?_
    rintro e w1 ⟨rfl, rfl⟩
    refine hK _ _ _ (fun _ h => h) (by go_simp) ?_
    (try simp only [Act.put, List.setIfInBounds_toArray, List.set_cons_zero, List.set_cons_succ])
  refine mix_call (by rfl) (fun K hK => ?_)
  go_simp
  refine hK _ _ _ (fun _ h => h) (by go_simp) ?_
  (try simp only [Act.put, List.setIfInBounds_toArray, List.set_cons_zero, List.set_cons_succ])
  refine mix_call (by rfl) (fun K hK => ?_)
  go_simp
  refine (cmpOr _ 2 _ [cmpM a0 b0, cmpM a1 b1] _ (ints_twoPl (by simp)) rfl (by omega)).mono ?_
  rintro e w1 ⟨rfl, rfl⟩
  refine hK _ _ _ (fun _ h => h) (by go_simp) ?_
  (try simp only [Act.put, List.setIfInBounds_toArray, List.set_cons_zero, List.set_cons_succ])
  refine mix_pure (v := ?_) (by rfl) (fun u hu => ?_) ?_
  rotate_left
  · go_simp
    (with_reducible rfl)
  (try simp only [Act.put, List.setIfInBounds_toArray, List.set_cons_zero, List.set_cons_succ])
  refine mix_nil ?_
  go_wp2
  go_ret
  exact ⟨rfl, grown3Pl _ _ _ _⟩
theorem sorted_pairsPl {d : Array Plc} (h : SortedIn (ltOf keysP) 0 d.size d) : d.toList.Pairwise leP := by
  rw [List.pairwise_iff_getElem]
  intro i j hi hj hij
  have hi' : i < d.size := by simpa using hi
  have hj' : j < d.size := by simpa using hj
  have := h i j (Nat.zero_le _) hij hj'
  rw [ltOf_plc, getElem!_pos d j hj', getElem!_pos d i hi'] at this
  exact aheadP_no (by simpa using this)

theorem cell_rowPl {x : Plc} {j : Nat} (hj : j < 2) : (plcCells x)[j]? = some ((plcCells x)[j]!) := by
  have : j < (plcCells x).length := hj
  rw [List.getElem?_eq_getElem this, getElem!_pos (plcCells x) j this]
theorem flatK_rowPl (d : Array Plc) : (flatK plcCells 2 d).toList = ePl.row d.toList := by
  apply List.ext_getElem?
  intro i
  rcases Nat.lt_or_ge i (d.size * 2) with h | h
  · have hk : i / 2 < d.size := by omega
    have hd : d.toList[i / 2]? = some d[i / 2]! := by
      rw [Array.getElem?_toList, Array.getElem?_eq_getElem hk, getElem!_pos d _ hk]
    have h1 := okPl.row_at d.toList (i / 2) (i % 2) _ hd (Nat.mod_lt _ (by decide))
    rw [show i / 2 * ePl.size + i % 2 = i by show i / 2 * 2 + i % 2 = i; omega] at h1
    rw [h1, Array.getElem?_toList]
    have hs : i < (flatK plcCells 2 d).size := by simpa using h
    have h2 := get_flatK plcCells 2 d i h
    rw [getElem!_pos (flatK plcCells 2 d) i hs] at h2
    rw [Array.getElem?_eq_getElem hs, h2]
    exact (cell_rowPl (Nat.mod_lt _ (by decide))).symm
  · rw [List.getElem?_eq_none (by simpa using h), List.getElem?_eq_none (by rw [okPl.row_len]; simpa [ePl] using h)]
theorem holdsK_ofPl {w : World} {base g n c : Nat} {l : List Plc} (how : Ow ePl w base (some ⟨g, 0, none⟩) n c l) : HoldsK plcCells 2 w g 0 l.toArray := fun j hj => by
  have hs : (flatK plcCells 2 l.toArray).size = l.length * 2 := by simp
  have hlen := Ow.len okPl how
  have h1 : (ePl.row l)[j]? = some (flatK plcCells 2 l.toArray)[j]! := by
    have := flatK_rowPl l.toArray
    rw [show (l.toArray).toList = l from rfl] at this
    rw [← this, Array.getElem?_toList, Array.getElem?_eq_getElem hj, getElem!_pos (flatK plcCells 2 l.toArray) j hj]
  refine ⟨?_, how.frozenAt _⟩
  rw [World.ownsRow.cellAt how _ (by rw [hs] at hj; show 0 + j < n * 2; omega), Nat.zero_add, h1]
  rfl
theorem ow_sortedPl {w : World} {base g n c m : Nat} {l : List Plc} {d : Array Plc} {os : Array Obj} (how : Ow ePl w base (some ⟨g, 0, none⟩) n c l) (hd : d.size = n) :
    Ow ePl (sortWorldK plcCells 2 w g 0 m d os) base (some ⟨g, 0, none⟩) n c d.toList := by
  refine ⟨by rw [okPl.row_len]; simp [hd], .inr ?_⟩
  rcases how.2 with ⟨h0, _⟩ | ⟨g', cap, cur, hv, hb, hg, h1, h2, h3, h4⟩
  · simp at h0
  · simp only [Value.slice.injEq, Option.some.injEq, Addr.mk.injEq, true_and, and_true] at hv
    obtain ⟨rfl, rfl⟩ := hv
    have hF : (flatK plcCells 2 d).size = n * 2 := by simp [hd]
    have hlt : g < w.heap.size := (Array.getElem?_eq_some_iff.1 hg).1
    refine ⟨g, c, putCells id 0 (flatK plcCells 2 d) cur, rfl, hb, ?_, h1, h2, by unfold putCells; simpa using h3, ?_⟩
    · show ((w.heap.modify g (onCells (putCells id 0 (flatK plcCells 2 d)))) ++ os)[g]? = _
      rw [Array.getElem?_append_left (by rw [Array.size_modify]; exact hlt), Array.getElem?_modify, if_pos rfl, hg]
      rfl
    · rw [← flatK_rowPl]
      apply List.ext_getElem?
      intro j
      rw [List.getElem?_take]
      have hcs : n * 2 ≤ cur.size := by
        rw [h3]
        exact Nat.mul_le_mul_right _ h1
      split
      · rename_i hj
        have hj' : j < n * 2 := hj
        have hjc : j < cur.size := by omega
        unfold putCells
        rw [Array.getElem?_toList, Array.getElem?_mapIdx, Array.getElem?_eq_getElem hjc, Option.map_some, if_pos ⟨Nat.zero_le _, by omega⟩, Nat.sub_zero, Array.getElem?_toList, Array.getElem?_eq_getElem (by omega), getElem!_pos (flatK plcCells 2 d) j (by omega)]
        rfl
      · rename_i hj
        rw [List.getElem?_eq_none]
        have : ¬ j < n * 2 := hj
        simp
        omega

set_option maxHeartbeats 1000000 in
theorem sortPlc (A : Option Addr) (n c base : Nat) (l : List Plc) (w : World) (how : Ow ePl w base A n c l) (hn : n ≤ 1000) :
    Calls Try.prog 94 #[.slice A n c, .func (.func 95) #[] #[]] w fun e w' =>
      e = .returned (.tuple #[]) ∧ ∃ ys : List Plc, ys.Perm l ∧ ys.Pairwise leP ∧ Ow ePl w' base A n c ys ∧ Below base w w' := by
  have hlen := Ow.len okPl how
  rcases Nat.eq_zero_or_pos n with h0 | h0
  · subst h0
    obtain rfl : l = [] := List.eq_nil_of_length_eq_zero hlen
    have h : Calls Try.prog 94 #[.slice A 0 c, .func (.func 95) #[] #[]] w fun e w' => e = .returned (.tuple #[]) ∧ w' = w :=
      AnyF.slices_SortFunc_none sortP A c _ w
    refine h.mono ?_
    rintro e w' ⟨rfl, rfl⟩
    exact ⟨rfl, [], List.Perm.refl _, List.Pairwise.nil, how, Below.refl _ _⟩
  · obtain ⟨g, rfl, hb, hg⟩ := how.form h0
    have hsz : l.toArray.size = n := by simpa using hlen
    have hcmp : CmpLays Try.prog 95 #[] plcCells 2 keysP g 0 l.toArray.size w := fun m os dk _ x y => by
      obtain ⟨a0, a1⟩ := x
      obtain ⟨b0, b1⟩ := y
      exact comparePlacesG a0 a1 b0 b1 _
    have h : Calls Try.prog 94 #[.slice (some ⟨g, 0, none⟩) l.toArray.size c, .func (.func 95) #[] #[]] w fun e w' =>
        e = .returned (.tuple #[]) ∧ ∃ d' n os, PermIn 0 l.toArray.size l.toArray d' ∧ SortedIn (ltOf keysP) 0 l.toArray.size d' ∧ w' = sortWorldK plcCells 2 w g 0 n d' os :=
      AnyQ.slices_SortFunc sortP 2 (fun w => Try.isAgg116 w) (fun w => Try.sizeOf116 w) plcCells (fun _ => rfl) (fun x v hv => okPl.one x v hv) keysP swoPlc 95 #[] g 0 c l.toArray w
        (enters_of Try.func95 (by kernel_rfl) rfl) hcmp (holdsK_ofPl how) hg (by omega)
    rw [hsz] at h
    refine h.mono ?_
    rintro e w' ⟨rfl, d, m, os, ⟨hp1, _, hp2⟩, hso, rfl⟩
    have hds : d.size = n := hp1.trans hsz
    have e1 : d.extract 0 n = d := by rw [← hds]; exact Array.extract_size
    have e2 : l.toArray.extract 0 n = l.toArray := by rw [← hsz]; exact Array.extract_size
    rw [e1, e2] at hp2
    refine ⟨rfl, d.toList, hp2, sorted_pairsPl (by rw [hds]; exact hso), ow_sortedPl how hds, ?_⟩
    refine ⟨rfl, rfl, rfl, ?_, fun k hk => ?_⟩
    · show w.heap.size ≤ ((w.heap.modify g (onCells (putCells id 0 (flatK plcCells 2 d)))) ++ os).size
      rw [Array.size_append, Array.size_modify]
      omega
    · show ((w.heap.modify g (onCells (putCells id 0 (flatK plcCells 2 d)))) ++ os)[k]? = w.heap[k]?
      rw [Array.getElem?_append_left (by rw [Array.size_modify]; omega), Array.getElem?_modify, if_neg (by omega)]
end Go.Proofs.Ytbfjfjocangjeaa
