import Derived.Test.YtbfjfjocangjeaaBase
namespace Go.Proofs.Ytbfjfjocangjeaa
set_option maxRecDepth 20000
open Go.RowKit

def inB (b : Int × Int × Int) : Bool := decide (b.2.1 ≤ b.1) && decide (b.1 ≤ b.2.2)

/-- A row of bounds: three numbers each. -/
def Bnds (w : World) (g : Nat) (bs : List (Int × Int × Int)) : Prop :=
  ∀ (k : Nat) (b : Int × Int × Int), bs[k]? = some b → w.cell? ⟨g, k * 3, none⟩ = some (.int .i64 b.1) ∧ w.cell? ⟨g, k * 3 + 1, none⟩ = some (.int .i64 b.2.1) ∧ w.cell? ⟨g, k * 3 + 2, none⟩ = some (.int .i64 b.2.2)

def BoundRel (w : World) (bs : List (Int × Int × Int)) (n : Nat) (i : Value) (wr : World) : Prop :=
  ∃ k : Nat, k ≤ n ∧ i = .int .i64 k ∧ (∀ j b, j < k → bs[j]? = some b → inB b = true) ∧ Below w.heap.size w wr

theorem all_no {bs : List (Int × Int × Int)} {k : Nat} {b : Int × Int × Int} (h : bs[k]? = some b) (hb : inB b = false) : bs.all inB = false := by
  rw [List.all_eq_false]
  exact ⟨b, List.mem_of_getElem? h, by simp [hb]⟩
theorem all_yes {bs : List (Int × Int × Int)} {n : Nat} (hn : bs.length = n) (h : ∀ j b, j < n → bs[j]? = some b → inB b = true) : bs.all inB = true := by
  rw [List.all_eq_true]
  intro b hb
  obtain ⟨j, hj⟩ := List.mem_iff_getElem?.1 hb
  have hl : j < bs.length := by
    rcases Nat.lt_or_ge j bs.length with h1 | h1
    · exact h1
    · rw [List.getElem?_eq_none h1] at hj; cases hj
  exact h j b (by omega) hj

set_option maxHeartbeats 400000 in
theorem areWithin_any (g n c : Nat) (bs : List (Int × Int × Int)) (w : World) (hb : Bnds w g bs) (hg : g < w.heap.size) (hn : bs.length = n) (hm : n ≤ 1000) :
    Calls Try.prog 80 #[.slice (some ⟨g, 0, none⟩) n c] w fun e w' => e = .returned (.bool (bs.all inB)) ∧ Below w.heap.size w w' := by
  have Hn := Lib.hid hn
  clear hn
  go_enter Try.func80, Try.ntmps80
  go_wp2
  go_loopw [7] (fun i wr => BoundRel w bs n i wr) (fun i _ => n - (intOf i).toNat)
  case atStart => exact ⟨0, Nat.zero_le _, rfl, fun _ _ h => absurd h (by omega), Below.refl _ _⟩
  case round =>
    obtain ⟨k, hk, rfl, hal, hbel⟩ := hrel
    have Hal := Lib.hid hal
    clear hal
    by_cases hlt : k < n
    · obtain ⟨b, hb0⟩ : ∃ b, bs[k]? = some b := ⟨bs[k]'(by rw [Hn.out]; exact hlt), List.getElem?_eq_getElem (by rw [Hn.out]; exact hlt)⟩
      obtain ⟨c0, c1, c2⟩ := hb k b hb0
      have hsz := hbel.size
      rw [← hbel.cell (p := ⟨g, k * 3, none⟩) hg] at c0
      rw [← hbel.cell (p := ⟨g, k * 3 + 1, none⟩) hg] at c1
      rw [← hbel.cell (p := ⟨g, k * 3 + 2, none⟩) hg] at c2
      have Hb0 := Lib.hid hb0
      clear hb0
      obtain ⟨x, lo, hi⟩ := b
      go_wp2
      · have Hf := Lib.hid (all_no Hb0.out (show inB (x, lo, hi) = false by simp only [inB, Bool.and_eq_false_iff, decide_eq_false_iff_not]; omega))
        go_ret
        exact ⟨by rw [Hf.out]; rfl, hbel.alloc hsz _⟩
      · refine ⟨⟨k + 1, by omega, by go_num, fun j b hj hb => ?_, hbel.alloc hsz _⟩, by simp [intOf]; omega⟩
        rcases Nat.lt_or_ge j k with h | h
        · exact Hal.out j b h hb
        · obtain rfl : j = k := by omega
          obtain rfl : (x, lo, hi) = b := Option.some.inj (Hb0.out.symm.trans hb)
          simp only [inB, Bool.and_eq_true, decide_eq_true_eq]
          omega
      · have Hf := Lib.hid (all_no Hb0.out (show inB (x, lo, hi) = false by simp only [inB, Bool.and_eq_false_iff, decide_eq_false_iff_not]; omega))
        go_ret
        exact ⟨by rw [Hf.out]; rfl, hbel.alloc hsz _⟩
    · have hfin : bs.all inB = true := all_yes Hn.out (by obtain rfl : k = n := by omega
                                                          exact Hal.out)
      have Hf := Lib.hid hfin
      clear hfin
      go_wp2
      go_ret
      exact ⟨by rw [Hf.out]; rfl, hbel⟩

/-- One bound, told out of hand. -/
theorem bnds_one {w : World} {t : TypeId} {x lo hi : Int} {g : Nat} (hg : w.heap.size = g) : Bnds (w.alloc (.cells #[.int .i64 x, .int .i64 lo, .int .i64 hi] t)) g [(x, lo, hi)] := by
  subst hg
  intro k b hk
  match k, hk with
  | 0, hk =>
    obtain rfl : (x, lo, hi) = b := by simpa using hk
    refine ⟨?_, ?_, ?_⟩ <;> (rw [cell_of_row _ _ _ _ _ _ (heap_alloc_new w _)]; rfl)
  | k + 1, hk => simp at hk
theorem bnds_two {w : World} {t : TypeId} {x lo hi x' lo' hi' : Int} {g : Nat} (hg : w.heap.size = g) : Bnds (w.alloc (.cells #[.int .i64 x, .int .i64 lo, .int .i64 hi, .int .i64 x', .int .i64 lo', .int .i64 hi'] t)) g [(x, lo, hi), (x', lo', hi')] := by
  subst hg
  intro k b hk
  match k, hk with
  | 0, hk =>
    obtain rfl : (x, lo, hi) = b := by simpa using hk
    refine ⟨?_, ?_, ?_⟩ <;> (rw [cell_of_row _ _ _ _ _ _ (heap_alloc_new w _)]; rfl)
  | 1, hk =>
    obtain rfl : (x', lo', hi') = b := by simpa using hk
    refine ⟨?_, ?_, ?_⟩ <;> (rw [cell_of_row _ _ _ _ _ _ (heap_alloc_new w _)]; rfl)
  | k + 2, hk => simp at hk

theorem l1In_any (v lo hi : Int) (w : World) :
    Calls Try.prog 77 #[.int .i64 v, .int .i64 lo, .int .i64 hi] w fun e w' => e = .returned (.bool (inB (v, lo, hi))) ∧ w = w' := by
  by_cases h1 : lo ≤ v
  · by_cases h2 : v ≤ hi
    · have Hf := Lib.hid (show inB (v, lo, hi) = true by simp only [inB, Bool.and_eq_true, decide_eq_true_eq]; omega)
      go_enter Try.func77, Try.ntmps77
      go_wp2
      go_ret
      exact ⟨by rw [Hf.out]; simp, rfl⟩
    · have Hf := Lib.hid (show inB (v, lo, hi) = false by simp only [inB, Bool.and_eq_false_iff, decide_eq_false_iff_not]; omega)
      go_enter Try.func77, Try.ntmps77
      go_wp2
      go_ret
      exact ⟨by rw [Hf.out]; simp, rfl⟩
  · have h3 : decide (lo ≤ v) = false := by simpa using h1
    have Hf := Lib.hid (show inB (v, lo, hi) = false by simp only [inB, Bool.and_eq_false_iff, decide_eq_false_iff_not]; omega)
    go_enter Try.func77, Try.ntmps77
    go_wp2
    go_ret
    exact ⟨by rw [Hf.out]; rfl, rfl⟩
end Go.Proofs.Ytbfjfjocangjeaa
