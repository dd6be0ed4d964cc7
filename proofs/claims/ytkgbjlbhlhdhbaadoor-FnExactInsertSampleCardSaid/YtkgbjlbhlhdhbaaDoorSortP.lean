/-
  slices.SortFunc over a row of samples of the call's own, by compareKeys.
-/
import Derived.Test.YtkgbjlbhlhdhbaaDoorPureM
import Derived.Test.YtkgbjlbhlhdhbaaDoorKeysG
import Derived.Test.YtkgbjlbhlhdhbaaDoorLaid
namespace Go.Proofs.YtkgbjlbhlhdhbaaDoor
set_option maxRecDepth 20000
open Go.RowKit Go.Sort Go.Shelf
set_option linter.unusedSimpArgs false
set_option linter.unusedVariables false

theorem cell_row {x : Smp} {j : Nat} (hj : j < 4) : (smpCells x)[j]? = some ((smpCells x)[j]!) := by
  have : j < (smpCells x).length := hj
  rw [List.getElem?_eq_getElem this, getElem!_pos (smpCells x) j this]
theorem flatK_row (d : Array Smp) : (flatK smpCells 4 d).toList = eS.row d.toList := by
  apply List.ext_getElem?
  intro i
  rcases Nat.lt_or_ge i (d.size * 4) with h | h
  · have hk : i / 4 < d.size := by omega
    have hd : d.toList[i / 4]? = some d[i / 4]! := by
      rw [Array.getElem?_toList, Array.getElem?_eq_getElem hk, getElem!_pos d _ hk]
    have h1 := okS.row_at d.toList (i / 4) (i % 4) _ hd (Nat.mod_lt _ (by decide))
    rw [show i / 4 * eS.size + i % 4 = i by show i / 4 * 4 + i % 4 = i; omega] at h1
    rw [h1, Array.getElem?_toList]
    have hs : i < (flatK smpCells 4 d).size := by simpa using h
    have h2 := get_flatK smpCells 4 d i h
    rw [getElem!_pos (flatK smpCells 4 d) i hs] at h2
    rw [Array.getElem?_eq_getElem hs, h2]
    exact (cell_row (Nat.mod_lt _ (by decide))).symm
  · rw [List.getElem?_eq_none (by simpa using h), List.getElem?_eq_none (by rw [okS.row_len]; simpa [eS] using h)]
theorem holdsK_of {w : World} {base g n c : Nat} {l : List Smp} (how : Ow eS w base (some ⟨g, 0, none⟩) n c l) : HoldsK smpCells 4 w g 0 l.toArray := fun j hj => by
  have hs : (flatK smpCells 4 l.toArray).size = l.length * 4 := by simp
  have hlen := Ow.len okS how
  have h1 : (eS.row l)[j]? = some (flatK smpCells 4 l.toArray)[j]! := by
    have := flatK_row l.toArray
    rw [show (l.toArray).toList = l from rfl] at this
    rw [← this, Array.getElem?_toList, Array.getElem?_eq_getElem hj, getElem!_pos (flatK smpCells 4 l.toArray) j hj]
  refine ⟨?_, how.frozenAt _⟩
  rw [World.ownsRow.cellAt how _ (by rw [hs] at hj; show 0 + j < n * 4; omega), Nat.zero_add, h1]
  rfl
theorem ow_sorted {w : World} {base g n c m : Nat} {l : List Smp} {d : Array Smp} {os : Array Obj} (how : Ow eS w base (some ⟨g, 0, none⟩) n c l) (hd : d.size = n) :
    Ow eS (sortWorldK smpCells 4 w g 0 m d os) base (some ⟨g, 0, none⟩) n c d.toList := by
  refine ⟨by rw [okS.row_len]; simp [hd], .inr ?_⟩
  rcases how.2 with ⟨h0, _⟩ | ⟨g', cap, cur, hv, hb, hg, h1, h2, h3, h4⟩
  · simp at h0
  · simp only [Value.slice.injEq, Option.some.injEq, Addr.mk.injEq, true_and, and_true] at hv
    obtain ⟨rfl, rfl⟩ := hv
    have hF : (flatK smpCells 4 d).size = n * 4 := by simp [hd]
    have hlt : g < w.heap.size := (Array.getElem?_eq_some_iff.1 hg).1
    refine ⟨g, c, putCells id 0 (flatK smpCells 4 d) cur, rfl, hb, ?_, h1, h2, by unfold putCells; simpa using h3, ?_⟩
    · show ((w.heap.modify g (onCells (putCells id 0 (flatK smpCells 4 d)))) ++ os)[g]? = _
      rw [Array.getElem?_append_left (by rw [Array.size_modify]; exact hlt), Array.getElem?_modify, if_pos rfl, hg]
      rfl
    · rw [← flatK_row]
      apply List.ext_getElem?
      intro j
      rw [List.getElem?_take]
      have hcs : n * 4 ≤ cur.size := by
        rw [h3]
        exact Nat.mul_le_mul_right _ h1
      split
      · rename_i hj
        have hj' : j < n * 4 := hj
        have hjc : j < cur.size := by omega
        unfold putCells
        rw [Array.getElem?_toList, Array.getElem?_mapIdx, Array.getElem?_eq_getElem hjc, Option.map_some, if_pos ⟨Nat.zero_le _, by omega⟩, Nat.sub_zero, Array.getElem?_toList, Array.getElem?_eq_getElem (by omega), getElem!_pos (flatK smpCells 4 d) j (by omega)]
        rfl
      · rename_i hj
        rw [List.getElem?_eq_none]
        have : ¬ j < n * 4 := hj
        simp
        omega

set_option maxHeartbeats 1000000 in
theorem sortSmp (A : Option Addr) (n c base : Nat) (l : List Smp) (w : World) (how : Ow eS w base A n c l) (hn : n ≤ 1000) :
    Calls Tryd.prog 77 #[.slice A n c, .func (.func 66) #[] #[]] w fun e w' =>
      e = .returned (.tuple #[]) ∧ ∃ ys : List Smp, ys.Perm l ∧ (ys.Pairwise fun x y => aheadM y x = false) ∧ Ow eS w' base A n c ys ∧ Below base w w' := by
  have hlen := Ow.len okS how
  rcases Nat.eq_zero_or_pos n with h0 | h0
  · subst h0
    obtain rfl : l = [] := List.eq_nil_of_length_eq_zero hlen
    have h : Calls Tryd.prog 77 #[.slice A 0 c, .func (.func 66) #[] #[]] w fun e w' => e = .returned (.tuple #[]) ∧ w' = w :=
      AnyF.slices_SortFunc_none sortS A c _ w
    refine h.mono ?_
    rintro e w' ⟨rfl, rfl⟩
    exact ⟨rfl, [], List.Perm.refl _, List.Pairwise.nil, how, Below.refl _ _⟩
  · obtain ⟨g, rfl, hb, hg⟩ := how.form h0
    have hsz : l.toArray.size = n := by simpa using hlen
    have hcmp : CmpLays Tryd.prog 66 #[] smpCells 4 keysM g 0 l.toArray.size w := fun m os dk _ x y => by
      obtain ⟨a0, a1, a2, a3⟩ := x
      obtain ⟨b0, b1, b2, b3⟩ := y
      exact compareKeysG a0 a1 a2 a3 b0 b1 b2 b3 _
    have h : Calls Tryd.prog 77 #[.slice (some ⟨g, 0, none⟩) l.toArray.size c, .func (.func 66) #[] #[]] w fun e w' =>
        e = .returned (.tuple #[]) ∧ ∃ d' n os, PermIn 0 l.toArray.size l.toArray d' ∧ SortedIn (ltOf keysM) 0 l.toArray.size d' ∧ w' = sortWorldK smpCells 4 w g 0 n d' os :=
      AnyQ.slices_SortFunc sortS 4 (fun w => Tryd.isAgg26 w) (fun w => Tryd.sizeOf26 w) smpCells (fun _ => rfl) (fun x v hv => okS.one x v hv) keysM swoKeys 66 #[] g 0 c l.toArray w
        (enters_of Tryd.func66 (by kernel_rfl) rfl) hcmp (holdsK_of how) hg (by omega)
    rw [hsz] at h
    refine h.mono ?_
    rintro e w' ⟨rfl, d, m, os, ⟨hp1, _, hp2⟩, hso, rfl⟩
    have hds : d.size = n := hp1.trans hsz
    have e1 : d.extract 0 n = d := by rw [← hds]; exact Array.extract_size
    have e2 : l.toArray.extract 0 n = l.toArray := by rw [← hsz]; exact Array.extract_size
    rw [e1, e2] at hp2
    refine ⟨rfl, d.toList, hp2, sorted_pairs (by rw [hds]; exact hso), ow_sorted how hds, ?_⟩
    refine ⟨rfl, rfl, rfl, ?_, fun k hk => ?_⟩
    · show w.heap.size ≤ ((w.heap.modify g (onCells (putCells id 0 (flatK smpCells 4 d)))) ++ os).size
      rw [Array.size_append, Array.size_modify]
      omega
    · show ((w.heap.modify g (onCells (putCells id 0 (flatK smpCells 4 d)))) ++ os)[k]? = w.heap[k]?
      rw [Array.getElem?_append_left (by rw [Array.size_modify]; omega), Array.getElem?_modify, if_neg (by omega)]
end Go.Proofs.YtkgbjlbhlhdhbaaDoor
