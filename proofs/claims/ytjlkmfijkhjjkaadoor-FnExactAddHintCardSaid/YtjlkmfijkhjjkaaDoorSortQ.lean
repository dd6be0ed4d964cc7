/-
  Queued hints sorted by their turns, and what comes out of a map of them (as SortP, MergeP, at queued hints).
-/
import Derived.Test.YtjlkmfijkhjjkaaDoorValsQ
import Derived.Test.YtjlkmfijkhjjkaaDoorLaid
import Derived.Sort.LotA
import Derived.Sort.Grow
namespace Go.Proofs.YtjlkmfijkhjjkaaDoor
set_option maxRecDepth 20000
open Go.RowKit Go.Sort Go.Shelf
set_option linter.unusedSimpArgs false
set_option linter.unusedVariables false

def turnM (x y : Qd) : Int := cmpM x.1 y.1
theorem ltOf_turn (x y : Qd) : ltOf turnM x y = decide (x.1 < y.1) := by
  show decide (cmpM x.1 y.1 < 0) = _
  rcases cmpM_range x.1 y.1 with ⟨h, k⟩ | ⟨h, k⟩ | ⟨h, k⟩
  · rw [h]; simp [k]
  · rw [h, k]; simp
  · rw [h]
    have : ¬ x.1 < y.1 := by omega
    simp [this]
theorem swoTurn : SWO (ltOf turnM) where
  irrefl x := by rw [ltOf_turn]; simp
  trans x y z h k := by
    rw [ltOf_turn] at *
    simp only [decide_eq_true_eq] at *
    omega
  ntrans x y z h k := by
    rw [ltOf_turn] at *
    simp only [decide_eq_false_iff_not] at *
    omega
theorem sorted_pairsQ {d : Array Qd} (h : SortedIn (ltOf turnM) 0 d.size d) : d.toList.Pairwise fun x y => ¬ y.1 < x.1 := by
  rw [List.pairwise_iff_getElem]
  intro i j hi hj hij
  have hi' : i < d.size := by simpa using hi
  have hj' : j < d.size := by simpa using hj
  have := h i j (Nat.zero_le _) hij hj'
  rw [ltOf_turn, getElem!_pos d j hj', getElem!_pos d i hi'] at this
  simpa using this
theorem grown2 (w : World) (a b : Obj) : ∃ q os', (w.alloc a).alloc b = grow (w.drewN q) os' := by
  refine ⟨0, #[a] ++ #[b], ?_⟩
  rw [alloc_eq_grow, alloc_eq_grow, grow_grow]
  rfl

set_option maxHeartbeats 1000000 in
theorem turnG (a0 a1 a2 a3 a4 a5 a6 a7 b0 b1 b2 b3 b4 b5 b6 b7 : Int) (w : World) :
    Calls Tryd.prog 71 #[.agg #[.int .i64 a0, .int .i64 a1, .int .i64 a2, .int .i64 a3, .int .i64 a4, .int .i64 a5, .int .i64 a6, .int .i64 a7], .agg #[.int .i64 b0, .int .i64 b1, .int .i64 b2, .int .i64 b3, .int .i64 b4, .int .i64 b5, .int .i64 b6, .int .i64 b7]] w fun e w' =>
      e = .returned (.int .i64 (turnM (a0, a1, (a2, a3, a4, a5), a6, a7) (b0, b1, (b2, b3, b4, b5), b6, b7))) ∧ ∃ q os', w' = grow (w.drewN q) os' := by
  go_enter Tryd.func71, Tryd.ntmps71
  go_wp2_with (go_at_call 72; refine (cmpCompare _ _ _).mono ?_; rintro e w1 ⟨rfl, rfl⟩)
  go_ret
  exact ⟨rfl, grown2 _ _ _⟩

theorem cell_rowQ {x : Qd} {j : Nat} (hj : j < 8) : (qdCells x)[j]? = some ((qdCells x)[j]!) := by
  have : j < (qdCells x).length := hj
  rw [List.getElem?_eq_getElem this, getElem!_pos (qdCells x) j this]
theorem flatK_rowQ (d : Array Qd) : (flatK qdCells 8 d).toList = eQ.row d.toList := by
  apply List.ext_getElem?
  intro i
  rcases Nat.lt_or_ge i (d.size * 8) with h | h
  · have hk : i / 8 < d.size := by omega
    have hd : d.toList[i / 8]? = some d[i / 8]! := by
      rw [Array.getElem?_toList, Array.getElem?_eq_getElem hk, getElem!_pos d _ hk]
    have h1 := okQ.row_at d.toList (i / 8) (i % 8) _ hd (Nat.mod_lt _ (by decide))
    rw [show i / 8 * eQ.size + i % 8 = i by show i / 8 * 8 + i % 8 = i; omega] at h1
    rw [h1, Array.getElem?_toList]
    have hs : i < (flatK qdCells 8 d).size := by simpa using h
    have h2 := get_flatK qdCells 8 d i h
    rw [getElem!_pos (flatK qdCells 8 d) i hs] at h2
    rw [Array.getElem?_eq_getElem hs, h2]
    exact (cell_rowQ (Nat.mod_lt _ (by decide))).symm
  · rw [List.getElem?_eq_none (by simpa using h), List.getElem?_eq_none (by rw [okQ.row_len]; simpa [eQ] using h)]
theorem holdsK_ofQ {w : World} {base g n c : Nat} {l : List Qd} (how : Ow eQ w base (some ⟨g, 0, none⟩) n c l) : HoldsK qdCells 8 w g 0 l.toArray := fun j hj => by
  have hs : (flatK qdCells 8 l.toArray).size = l.length * 8 := by simp
  have hlen := Ow.len okQ how
  have h1 : (eQ.row l)[j]? = some (flatK qdCells 8 l.toArray)[j]! := by
    have := flatK_rowQ l.toArray
    rw [show (l.toArray).toList = l from rfl] at this
    rw [← this, Array.getElem?_toList, Array.getElem?_eq_getElem hj, getElem!_pos (flatK qdCells 8 l.toArray) j hj]
  refine ⟨?_, how.frozenAt _⟩
  rw [World.ownsRow.cellAt how _ (by rw [hs] at hj; show 0 + j < n * 8; omega), Nat.zero_add, h1]
  rfl
theorem ow_sortedQ {w : World} {base g n c m : Nat} {l : List Qd} {d : Array Qd} {os : Array Obj} (how : Ow eQ w base (some ⟨g, 0, none⟩) n c l) (hd : d.size = n) :
    Ow eQ (sortWorldK qdCells 8 w g 0 m d os) base (some ⟨g, 0, none⟩) n c d.toList := by
  refine ⟨by rw [okQ.row_len]; simp [hd], .inr ?_⟩
  rcases how.2 with ⟨h0, _⟩ | ⟨g', cap, cur, hv, hb, hg, h1, h2, h3, h4⟩
  · simp at h0
  · simp only [Value.slice.injEq, Option.some.injEq, Addr.mk.injEq, true_and, and_true] at hv
    obtain ⟨rfl, rfl⟩ := hv
    have hF : (flatK qdCells 8 d).size = n * 8 := by simp [hd]
    have hlt : g < w.heap.size := (Array.getElem?_eq_some_iff.1 hg).1
    refine ⟨g, c, putCells id 0 (flatK qdCells 8 d) cur, rfl, hb, ?_, h1, h2, by unfold putCells; simpa using h3, ?_⟩
    · show ((w.heap.modify g (onCells (putCells id 0 (flatK qdCells 8 d)))) ++ os)[g]? = _
      rw [Array.getElem?_append_left (by rw [Array.size_modify]; exact hlt), Array.getElem?_modify, if_pos rfl, hg]
      rfl
    · rw [← flatK_rowQ]
      apply List.ext_getElem?
      intro j
      rw [List.getElem?_take]
      have hcs : n * 8 ≤ cur.size := by
        rw [h3]
        exact Nat.mul_le_mul_right _ h1
      split
      · rename_i hj
        have hj' : j < n * 8 := hj
        have hjc : j < cur.size := by omega
        unfold putCells
        rw [Array.getElem?_toList, Array.getElem?_mapIdx, Array.getElem?_eq_getElem hjc, Option.map_some, if_pos ⟨Nat.zero_le _, by omega⟩, Nat.sub_zero, Array.getElem?_toList, Array.getElem?_eq_getElem (by omega), getElem!_pos (flatK qdCells 8 d) j (by omega)]
        rfl
      · rename_i hj
        rw [List.getElem?_eq_none]
        have : ¬ j < n * 8 := hj
        simp
        omega

set_option maxHeartbeats 1000000 in
theorem sortQd (A : Option Addr) (n c base : Nat) (l : List Qd) (w : World) (how : Ow eQ w base A n c l) (hn : n ≤ 1000) :
    Calls Tryd.prog 76 #[.slice A n c, .func (.func 71) #[] #[]] w fun e w' =>
      e = .returned (.tuple #[]) ∧ ∃ ys : List Qd, ys.Perm l ∧ (ys.Pairwise fun x y => ¬ y.1 < x.1) ∧ Ow eQ w' base A n c ys ∧ Below base w w' := by
  have hlen := Ow.len okQ how
  rcases Nat.eq_zero_or_pos n with h0 | h0
  · subst h0
    obtain rfl : l = [] := List.eq_nil_of_length_eq_zero hlen
    have h : Calls Tryd.prog 76 #[.slice A 0 c, .func (.func 71) #[] #[]] w fun e w' => e = .returned (.tuple #[]) ∧ w' = w :=
      AnyF.slices_SortFunc_none sortQ A c _ w
    refine h.mono ?_
    rintro e w' ⟨rfl, rfl⟩
    exact ⟨rfl, [], List.Perm.refl _, List.Pairwise.nil, how, Below.refl _ _⟩
  · obtain ⟨g, rfl, hb, hg⟩ := how.form h0
    have hsz : l.toArray.size = n := by simpa using hlen
    have hcmp : CmpLays Tryd.prog 71 #[] qdCells 8 turnM g 0 l.toArray.size w := fun m os dk _ x y => by
      obtain ⟨a0, a1, ⟨a2, a3, a4, a5⟩, a6, a7⟩ := x
      obtain ⟨b0, b1, ⟨b2, b3, b4, b5⟩, b6, b7⟩ := y
      exact turnG a0 a1 a2 a3 a4 a5 a6 a7 b0 b1 b2 b3 b4 b5 b6 b7 _
    have h : Calls Tryd.prog 76 #[.slice (some ⟨g, 0, none⟩) l.toArray.size c, .func (.func 71) #[] #[]] w fun e w' =>
        e = .returned (.tuple #[]) ∧ ∃ d' n os, PermIn 0 l.toArray.size l.toArray d' ∧ SortedIn (ltOf turnM) 0 l.toArray.size d' ∧ w' = sortWorldK qdCells 8 w g 0 n d' os :=
      AnyQ.slices_SortFunc sortQ 8 (fun w => Tryd.isAgg104 w) (fun w => Tryd.sizeOf104 w) qdCells (fun _ => rfl) (fun x v hv => okQ.one x v hv) turnM swoTurn 71 #[] g 0 c l.toArray w
        (enters_of Tryd.func71 (by kernel_rfl) rfl) hcmp (holdsK_ofQ how) hg (by omega)
    rw [hsz] at h
    refine h.mono ?_
    rintro e w' ⟨rfl, d, m, os, ⟨hp1, _, hp2⟩, hso, rfl⟩
    have hds : d.size = n := hp1.trans hsz
    have e1 : d.extract 0 n = d := by rw [← hds]; exact Array.extract_size
    have e2 : l.toArray.extract 0 n = l.toArray := by rw [← hsz]; exact Array.extract_size
    rw [e1, e2] at hp2
    refine ⟨rfl, d.toList, hp2, sorted_pairsQ (by rw [hds]; exact hso), ow_sortedQ how hds, ?_⟩
    refine ⟨rfl, rfl, rfl, ?_, fun k hk => ?_⟩
    · show w.heap.size ≤ ((w.heap.modify g (onCells (putCells id 0 (flatK qdCells 8 d)))) ++ os).size
      rw [Array.size_append, Array.size_modify]
      omega
    · show ((w.heap.modify g (onCells (putCells id 0 (flatK qdCells 8 d)))) ++ os)[k]? = w.heap[k]?
      rw [Array.getElem?_append_left (by rw [Array.size_modify]; omega), Array.getElem?_modify, if_neg (by omega)]
theorem valuesOfQ (b : Nat) (w : World) :
    Calls Tryd.prog 70 #[.map (some b)] w fun e w' =>
      e = .returned (.func (.func 77) #[] #[.pointer (some ⟨w.heap.size, 0, none⟩)]) ∧ w' = w.alloc (.cells #[.map (some b)] 106) := by
  go_enter Tryd.func70, Tryd.ntmps70
  go_wp2
  go_ret
  exact ⟨rfl, rfl⟩

theorem values_stopsQ (n : Nat) (hn : 1 ≤ n) (b Bm n0 : Nat) (L : List Qd) (w : World) (hs : QMap w b L) (hm : At w Bm 106 #[.map (some b)]) :
    SeqStopsK Fence.wide n Tryd.prog 77 #[.pointer (some ⟨Bm, 0, none⟩)] encQ (Kp2 n0) (fun xs => xs.Perm L) (fun _ => True) L.length w := fun l J Jx W hW hJ hJx hY h0 =>
  values_inQ n hn l Bm b n0 L J Jx hY W hJ ((hm.below hW hm.lt).cell 0) (hs.below hW hs.lt) h0

set_option maxHeartbeats 1000000 in
theorem sortedFuncQ (b Bm : Nat) (L : List Qd) (w : World) (hs : QMap w b L) (hm : At w Bm 106 #[.map (some b)]) (hL : L.length ≤ 1000) :
    Calls Tryd.prog 69 #[.func (.func 77) #[] #[.pointer (some ⟨Bm, 0, none⟩)], .func (.func 71) #[] #[]] w fun e w' =>
      ∃ A n c ys, e = .returned (.slice A n c) ∧ ys.Perm L ∧ (ys.Pairwise fun x y => ¬ y.1 < x.1) ∧ Ow eQ w' w.heap.size A n c ys ∧ Below w.heap.size w w' := by
  have hC := collectSeqQ 4 (by omega) _ _ (enters_of Tryd.func77 (by kernel_rfl) rfl) _ _ L.length hL w.heap.size w (Nat.le_refl _) (values_stopsQ 3 (by omega) b Bm w.heap.size L w hs hm)
  clear hs hm
  go_enter Tryd.func69, Tryd.ntmps69
  go_wp2_with fail
  refine hC.mono ?_
  rintro e w1 ⟨A, c, xs, rfl, hp, ow, hb⟩
  have hS := sortQd A xs.length c w.heap.size xs w1 ow (by rw [hp.length_eq]; exact hL)
  go_wp2_with fail
  refine hS.mono ?_
  rintro e w2 ⟨rfl, ys, hp2, hpw, ow2, hb2⟩
  have hB2 := hb.trans hb2
  have Hp := Lib.hid (hp2.trans hp)
  clear hC hS hp hp2
  go_wp2
  go_ret
  first | exact ⟨A, xs.length, c, ys, rfl, Hp.out, hpw, ow2, hB2⟩ | exact ⟨A, xs.length, c, rfl, ys, Hp.out, hpw, ow2, hB2⟩

end Go.Proofs.YtjlkmfijkhjjkaaDoor
