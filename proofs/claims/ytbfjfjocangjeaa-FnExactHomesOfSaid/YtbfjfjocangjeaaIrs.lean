/-
  Rows of numbers: how they lie in memory; compared, marked and held as the law does it, and an answer of a code and such a row.
-/
import Derived.Test.YtbfjfjocangjeaaPlcs
import Derived.Test.YtbfjfjocangjeaaMix
import Derived.Test.YtbfjfjocangjeaaMark
namespace Go.Proofs.Ytbfjfjocangjeaa
set_option maxRecDepth 20000
open Go.RowKit
set_option linter.unusedSimpArgs false
set_option linter.unusedVariables false

def intCell (x : Int) : List Value := [.int .i64 x]
def eIn : Enc Int := ⟨2, 1, intCell⟩
theorem okIn : EncOk eIn := ⟨fun _ => rfl, fun a u hu => by simp only [eIn, intCell, List.mem_cons, List.not_mem_nil, or_false] at hu; subst hu; rfl, by decide⟩
theorem info_int : (Try.prog.info? 2).map (fun i => (i.zero, i.size, i.bytes)) = some (some (.int .i64 0), 1, 8) := by kernel_rfl
section
variable {w w' : World} {base hi n c : Nat} {A : Option Addr} {l : List Int}
theorem Rd.int (h : Rd eIn w hi A l) {k : Nat} (hk : k < l.length) : ∃ g o x, A = some ⟨g, o, none⟩ ∧ g < hi ∧ l[k]? = some x ∧ w.cell? ⟨g, o + k, none⟩ = some (.int .i64 x) := by
  obtain ⟨g, o, a, e, hg, ha, hc⟩ := h.at_ hk
  refine ⟨g, o, a, e, hg, ha, ?_⟩
  have := hc 0 _ rfl
  simpa [eIn] using this
theorem Ow.intAt {g : Nat} (h : Ow eIn w base (some ⟨g, 0, none⟩) n c l) {k : Nat} {x : Int} (hk : l[k]? = some x) : w.cell? ⟨g, k, none⟩ = some (.int .i64 x) := by
  have := h.cellAt okIn hk (j := 0) (u := .int .i64 x) rfl
  simpa [eIn] using this
theorem Ow.intSet {g : Nat} (h : Ow eIn w base (some ⟨g, 0, none⟩) n c l) {k : Nat} (hk : k < n) (y : Int) :
    Ow eIn (w.setCell ⟨g, k, none⟩ (.int .i64 y)) base (some ⟨g, 0, none⟩) n c (l.set k y) ∧ w.grownBy (w.setCell ⟨g, k, none⟩ (.int .i64 y)) (some g) := by
  have hl := h.len okIn
  have := h.stored okIn (k := k) (j := 0) (a' := y) (u := .int .i64 y) (List.getElem?_eq_getElem (by omega)) Nat.one_pos rfl
  simpa [eIn] using this
end
theorem ow_int (w : World) (x : Int) : Ow eIn (w.alloc (.cells #[.int .i64 x] 2)) w.heap.size (some ⟨w.heap.size, 0, none⟩) 1 1 [x] :=
  Ow.lit w [x] #[.int .i64 x] 1 (Nat.le_refl _) (by unfold maxLen; omega) rfl rfl

def EqRelIn (w : World) (n : Nat) (i : Value) (wr : World) : Prop := ∃ k : Nat, k ≤ n ∧ i = .int .i64 k ∧ Below w.heap.size w wr

set_option maxHeartbeats 1000000 in
theorem eqInt64S (A B : Option Addr) (n c d : Nat) (xs : List Int) (w : World) (ha : Rd eIn w w.heap.size A xs) (hb : Rd eIn w w.heap.size B xs) (hx : xs.length = n) (hm : n ≤ maxLen) :
    Calls Try.prog 102 #[.slice A n c, .slice B n d] w fun e w' => e = .returned (.bool true) ∧ Below w.heap.size w w' := by
  have h0 : ((n : Int) != (n : Int)) = false := by simp
  have Hx := Lib.hid hx
  clear hx
  unfold maxLen at hm
  go_enter Try.func102, Try.ntmps102
  go_wp2
  go_loopw [5] (fun i wr => EqRelIn w n i wr) (fun i _ => n - (intOf i).toNat)
  case atStart => exact ⟨0, Nat.zero_le _, rfl, Below.refl _ _⟩
  case round =>
    obtain ⟨k, hk, rfl, hbel⟩ := hrel
    by_cases hlt : k < n
    · obtain ⟨g, o, a0, rfl, hg, hxk, ca⟩ := (ha.below hbel (Nat.le_refl _)).int (k := k) (by rw [Hx.out]; exact hlt)
      obtain ⟨g', o', b0, rfl, hg', hyk, cb⟩ := (hb.below hbel (Nat.le_refl _)).int (k := k) (by rw [Hx.out]; exact hlt)
      obtain rfl : a0 = b0 := Option.some.inj (hxk.symm.trans hyk)
      clear hxk hyk
      have hbd := hbel.drew
      have i5 : (k : Int) < (n : Int) := by omega
      have hne : (a0 != a0) = false := by simp
      go_wp2
      refine wp_region_mix [(0, false), (1, false), (2, false), (3, false), (4, false), (5, false), (6, false), (7, false), (8, false)] (fun u => World.cell? u ⟨g, o + k, none⟩ = some (.int .i64 a0) ∧ World.cell? u ⟨g', o' + k, none⟩ = some (.int .i64 a0)) (by kernel_rfl) (by kernel_rfl) (fun _ _ _ _ _ h => h) ⟨ca, cb⟩ ?_
      simp only [mixOps, List.map_cons, List.map_nil, List.getElem?_cons_succ, List.getElem?_cons_zero, Option.getD_some]
      iterate 9
        refine mix_pure (v := ?_) (by rfl) (fun u hu => ?_) ?_
        rotate_left
        · obtain ⟨_, _⟩ := hu
          go_simp
          (with_reducible rfl)
        (try simp only [Act.put, List.setIfInBounds_toArray, List.set_cons_zero, List.set_cons_succ])
      refine mix_nil ?_
      go_wp2
      exact ⟨⟨k + 1, by omega, by go_num, hbd⟩, by simp [intOf]; omega⟩
    · go_wp2
      go_ret
      exact ⟨rfl, hbel⟩

theorem eqIntsResult (z : Int) (A B : Option Addr) (n c d : Nat) (xs : List Int) (w : World) (ha : Rd eIn w w.heap.size A xs) (hb : Rd eIn w w.heap.size B xs) (hx : xs.length = n) (hm : n ≤ maxLen) :
    Calls Try.prog 45 #[.agg #[.int .i64 z, .slice A n c], .agg #[.int .i64 z, .slice B n d]] w fun e w' => e = .returned (.bool true) ∧ Below w.heap.size w w' := by
  have hb0 : Below w.heap.size w ((w.alloc (.cells #[.int .i64 z, .slice A n c] 61)).alloc (.cells #[.int .i64 z, .slice B n d] 61)) := ((Below.refl _ _).alloc (Nat.le_refl _) _).alloc (by simp) _
  have ha2 := ha.lift hb0
  have hb2 := hb.lift hb0
  have hzz : (z != z) = false := by simp
  go_enter Try.func45, Try.ntmps45
  go_wp2_with (go_at_call 102; refine (eqInt64S A B n c d xs _ ha2 hb2 hx hm).mono ?_; rintro e w1 ⟨rfl, hb1⟩)
  go_ret
  exact ⟨rfl, hb0.trans (hb1.mono hb0.size)⟩

def markIn (k i : Nat) : Int := (k : Int) + i
def marksIn (k n : Nat) : List Int := (List.range n).map (markIn k)
theorem marksIn_len (k n : Nat) : (marksIn k n).length = n := by simp [marksIn]
theorem marksIn_at {k n i : Nat} (h : i < n) : (marksIn k n)[i]? = some (markIn k i) := by simp [marksIn, h]

set_option maxHeartbeats 1000000 in
theorem markInt64S (A : Option Addr) (n c base : Nat) (l : List Int) (k : Nat) (w : World) (ha : Ow eIn w base A n c l) (hm : n ≤ 4294967296) (hk : k ≤ 4294967296) :
    Calls Try.prog 103 #[.slice A n c, .int .i64 k] w fun e w' => e = .returned (.int .i64 ((k : Int) + n)) ∧ Ow eIn w' base A n c (marksIn k n) ∧ w.grownBy w' (A.map (·.block)) := by
  have Hn := Lib.hid (ha.len okIn)
  go_enter Try.func103, Try.ntmps103
  go_wp2
  go_loopw [1, 5] (fun vk i wr => MarkRel eIn (markIn k) 1 w base A n c l k vk i wr) (fun _ i _ => n - (intOf i).toNat)
  case atStart => exact markRel_start _ _ _ ha
  case round =>
    obtain ⟨j, hj, rfl, rfl, hown, hgr⟩ := hrel
    rw [show (k : Int) + ((1 : Nat) : Int) * (j : Int) = (k : Int) + (j : Int) by omega]
    by_cases hlt : j < n
    · obtain ⟨g, rfl, hg, _⟩ := hown.form (by omega)
      obtain ⟨a, hz⟩ := markRel_at (markIn k) l n j hlt Hn.out
      have cb := hown.intAt hz
      have fb := hown.frozenAt j
      have hs := hown.intSet (k := j) hlt ((k : Int) + j)
      have Hset := Lib.hid (laid_set (markIn k) l n j hlt Hn.out)
      have Hgr := Lib.hid (grown_trans hgr hs.2)
      have Hst := Lib.hid hs.1
      clear hgr hs hz
      go_wp2
      exact ⟨⟨j + 1, by omega, by go_num, congrArg _ (by omega), by rw [← Hset.out]; exact Hst.out, Hgr.out⟩, by simp [intOf]; omega⟩
    · have hall := markRel_end hown (by omega) Hn.out
      obtain rfl : n = j := by omega
      clear hown
      go_wp2
      go_ret
      exact ⟨rfl, hall, hgr⟩
set_option maxHeartbeats 1000000 in
theorem heldInt64S (A : Option Addr) (n c : Nat) (k : Nat) (w : World) (ha : Rd eIn w w.heap.size A (marksIn k n)) (hm : n ≤ 4294967296) (hk : k ≤ 4294967296) :
    Calls Try.prog 104 #[.slice A n c, .int .i64 k] w fun e w' => e = .returned (.int .i64 ((k : Int) + n)) ∧ Below w.heap.size w w' := by
  go_enter Try.func104, Try.ntmps104
  go_wp2
  go_loopw [1, 5] (fun vk i wr => HeldRel w n 1 k vk i wr) (fun _ i _ => n - (intOf i).toNat)
  case atStart => exact heldRel_start _ _ _ _
  case round =>
    obtain ⟨j, hj, rfl, rfl, hbel⟩ := hrel
    rw [show (k : Int) + ((1 : Nat) : Int) * (j : Int) = (k : Int) + (j : Int) by omega]
    by_cases hlt : j < n
    · obtain ⟨g, o, a0, rfl, hg, hx, c0⟩ := (ha.below hbel (Nat.le_refl _)).int (k := j) (by rw [marksIn_len]; exact hlt)
      rw [marksIn_at hlt] at hx
      simp only [markIn, Option.some.injEq] at hx
      obtain rfl := hx
      go_wp2
      exact ⟨⟨j + 1, by omega, by go_num, congrArg _ (by omega), hbel⟩, by simp [intOf]; omega⟩
    · obtain rfl : n = j := by omega
      go_wp2
      go_ret
      exact ⟨rfl, hbel⟩
theorem markIntsResult1 (z : Int) (A : Option Addr) (n c base : Nat) (l : List Int) (w : World) (ha : Ow eIn w base A n c l) (hm : n ≤ 4294967296) :
    Calls Try.prog 46 #[.agg #[.int .i64 z, .slice A n c], .int .i64 1] w fun e w' => e = .returned (.int .i64 (1 + (n : Int))) ∧ Ow eIn w' base A n c (marksIn 1 n) ∧ w.grownBy w' (A.map (·.block)) := by
  go_enter Try.func46, Try.ntmps46
  go_wp2_with (go_at_call 103; refine (markInt64S A n c base l 1 _ (ha.alloc _) hm (by omega)).mono ?_; rintro e w1 ⟨rfl, hown, hg1⟩)
  go_ret
  exact ⟨rfl, hown, grown_trans (World.grownBy_alloc w _ _) hg1⟩
theorem heldIntsResult1 (z : Int) (A : Option Addr) (n c : Nat) (w : World) (ha : Rd eIn w w.heap.size A (marksIn 1 n)) (hm : n ≤ 4294967296) :
    Calls Try.prog 47 #[.agg #[.int .i64 z, .slice A n c], .int .i64 1] w fun e w' => e = .returned (.int .i64 (1 + (n : Int))) ∧ Below w.heap.size w w' := by
  have hb0 : Below w.heap.size w (w.alloc (.cells #[.int .i64 z, .slice A n c] 61)) := (Below.refl _ _).alloc (Nat.le_refl _) _
  have ha2 := ha.lift hb0
  have hp : (0 : Int) ≤ (1 : Int) + n := by omega
  go_enter Try.func47, Try.ntmps47
  go_wp2_with (go_at_call 104; refine (heldInt64S A n c 1 _ ha2 hm (by omega)).mono ?_; rintro e w1 ⟨rfl, hb1⟩)
  go_ret
  exact ⟨rfl, hb0.trans (hb1.mono hb0.size)⟩
/-- A code and a row of the call's own. -/
def RetIn (r : Int × List Int) (w : World) (e : Ending) (w' : World) : Prop :=
  ∃ A n c, e = .returned (.agg #[.int .i64 r.1, .slice A n c]) ∧ Ow eIn w' w.heap.size A n c r.2 ∧ Below w.heap.size w w'
end Go.Proofs.Ytbfjfjocangjeaa
