import Derived.Test.YteiclanlhnccnaaDoorBase
namespace Go.Proofs.YteiclanlhnccnaaDoor
set_option maxRecDepth 20000
open Go.RowKit

theorem set_next {α : Type} (z : α) (xs : List α) (n k : Nat) (x : α) (hk : k < n) (hn : xs.length = n) (hx : xs[k]? = some x) :
    (xs.take k ++ List.replicate (n - k) z).set k x = xs.take (k + 1) ++ List.replicate (n - (k + 1)) z := by
  apply List.ext_getElem?
  intro i
  have hl : (xs.take k).length = k := by rw [List.length_take]; omega
  have hl' : (xs.take (k + 1)).length = k + 1 := by rw [List.length_take]; omega
  rw [List.getElem?_set]
  by_cases h1 : k = i
  · subst h1
    rw [if_pos rfl, if_pos (by simp; omega), List.getElem?_append_left (by omega), List.getElem?_take, if_pos (by omega), hx]
  · rw [if_neg h1]
    rcases Nat.lt_or_ge i k with h2 | h2
    · rw [List.getElem?_append_left (by omega), List.getElem?_append_left (by omega), List.getElem?_take, List.getElem?_take, if_pos (by omega), if_pos (by omega)]
    · rw [List.getElem?_append_right (by omega), List.getElem?_append_right (by omega), hl, hl', List.getElem?_replicate, List.getElem?_replicate]
      by_cases h3 : i < n
      · rw [if_pos (by omega), if_pos (by omega)]
      · rw [if_neg (by omega), if_neg (by omega)]
theorem part_at {α : Type} (z : α) (xs : List α) (n k : Nat) (hk : k < n) (hn : xs.length = n) : (xs.take k ++ List.replicate (n - k) z)[k]? = some z := by
  rw [List.getElem?_append_right (by simp; omega), List.length_take, hn, Nat.min_eq_left (by omega), Nat.sub_self, List.getElem?_replicate, if_pos (by omega)]

/-- Elements laid one by one into a row that was made: the first k are there. -/
def ToRel {α : Type} (E : Enc α) (z : α) (w : World) (g : Nat) (xs : List α) (n : Nat) (i : Value) (wr : World) : Prop :=
  ∃ k : Nat, k ≤ n ∧ i = .int .i64 k ∧ Ow E wr w.heap.size (some ⟨g, 0, none⟩) n n (xs.take k ++ List.replicate (n - k) z) ∧ Below w.heap.size w wr
theorem toRel_start {α : Type} {E : Enc α} (z : α) {w w1 : World} (xs : List α) {n : Nat} (h : Ow E w1 w.heap.size (some ⟨w.heap.size, 0, none⟩) n n (List.replicate n z)) (hg : w.grownBy w1 none) :
    ToRel E z w w.heap.size xs n (.int .i64 0) w1 :=
  ⟨0, Nat.zero_le _, rfl, by rw [List.take_zero, List.nil_append, Nat.sub_zero]; exact h, (Below.refl _ _).grown hg (Nat.le_refl _) (by simp)⟩
theorem toRel_end {α : Type} {E : Enc α} {z : α} {wr : World} {g base : Nat} {xs : List α} {n k : Nat} (h : Ow E wr base (some ⟨g, 0, none⟩) n n (xs.take k ++ List.replicate (n - k) z)) (hk : k = n) (hx : xs.length = n) :
    Ow E wr base (some ⟨g, 0, none⟩) n n xs := by
  subst hk
  rw [Nat.sub_self, List.replicate_zero, List.append_nil, List.take_of_length_le (by omega)] at h
  exact h

set_option maxHeartbeats 400000 in
theorem toByteS (A : Option Addr) (n c : Nat) (xs : List UInt8) (w : World) (ha : Rd eB w w.heap.size A xs) (hx : xs.length = n) (hm : n ≤ 1048576) :
    Calls Tryd.prog 16 #[.slice A n c] w fun e w' => ∃ A' c', e = .returned (.slice A' n c') ∧ Ow eB w' w.heap.size A' n c' xs ∧ Below w.heap.size w w' := by
  have Hx := Lib.hid hx
  clear hx
  go_enter Tryd.func16, Tryd.ntmps16
  go_wp2_with (refine wpList_make_ow okB _ rfl _ _ _ rfl w.heap.size info_u8 Tryd.underlying32 0 rfl .i64 .i64 n n n rfl rfl rfl rfl (by omega) (by unfold maxLen; omega) (Nat.le_refl _) ?_; intro w1 hown hg1)
  have hs1 : w.heap.size < w1.heap.size := (hown.lt w.heap.size rfl).2
  go_loopw [4] (fun i wr => ToRel eB 0 w w.heap.size xs n i wr) (fun i _ => n - (intOf i).toNat)
  case atStart => exact toRel_start 0 xs hown hg1
  case round =>
    obtain ⟨k, hk, rfl, hown, hbel⟩ := hrel
    by_cases hlt : k < n
    · obtain ⟨g, o, x, rfl, hg, hx, ca⟩ := (ha.below hbel (Nat.le_refl _)).byte (k := k) (by rw [Hx.out]; exact hlt)
      have cb := hown.byteAt (part_at 0 xs n k hlt Hx.out)
      have fb := hown.frozenAt k
      have Hst := Lib.hid (hown.byteSet hlt x).1
      have Hset := Lib.hid (set_next 0 xs n k x hlt Hx.out hx)
      have hbel2 : Below w.heap.size w (wr.setCell ⟨w.heap.size, k, none⟩ (.int .u8 (x.toNat : Int))) := hbel.setCell (Nat.le_refl _) _
      clear hx
      go_wp2
      exact ⟨⟨k + 1, by omega, by go_num, by rw [← Hset.out]; exact Hst.out, hbel2⟩, by simp [intOf]; omega⟩
    · have hall := toRel_end hown (by omega) Hx.out
      clear hown
      go_wp2
      go_ret
      exact ⟨_, _, rfl, hall, hbel⟩
end Go.Proofs.YteiclanlhnccnaaDoor
