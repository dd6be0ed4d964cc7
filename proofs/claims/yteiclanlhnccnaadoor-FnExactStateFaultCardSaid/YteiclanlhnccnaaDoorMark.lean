import Derived.Test.YteiclanlhnccnaaDoorBase
namespace Go.Proofs.YteiclanlhnccnaaDoor
set_option maxRecDepth 20000
open Go.RowKit

/-- What a mark lays: k, k + 1, .. as bytes. -/
def marks (k n : Nat) : List UInt8 := (List.range n).map fun i => UInt8.ofNat (k + i)
theorem marks_len (k n : Nat) : (marks k n).length = n := by simp [marks]
theorem marks_at {k n i : Nat} (h : i < n) : (marks k n)[i]? = some (UInt8.ofNat (k + i)) := by simp [marks, h]
theorem byte_num (n : Nat) : ((UInt8.ofNat n).toNat : Int) = (n : Int) % 256 := by
  rw [UInt8.toNat_ofNat']
  omega

theorem laid_set {α : Type} (f : Nat → α) (l : List α) (n i : Nat) (hi : i < n) (hn : l.length = n) : ((List.range i).map f ++ l.drop i).set i (f i) = (List.range (i + 1)).map f ++ l.drop (i + 1) := by
  apply List.ext_getElem?
  intro j
  have h1 : ((List.range i).map f).length = i := by simp
  have h2 : ((List.range (i + 1)).map f).length = i + 1 := by simp
  rw [List.getElem?_set]
  by_cases hj : i = j
  · subst hj
    rw [if_pos rfl, if_pos (by simp; omega), List.getElem?_append_left (by omega)]
    simp
  · rw [if_neg hj]
    rcases Nat.lt_or_ge j i with h3 | h3
    · rw [List.getElem?_append_left (by omega), List.getElem?_append_left (by omega)]
      simp [h3, show j < i + 1 by omega]
    · rw [List.getElem?_append_right (by omega), List.getElem?_append_right (by omega), h1, h2, List.getElem?_drop, List.getElem?_drop]
      congr 1
      omega

/-- Elements of a row laid over, one by one: 'f i' at place i; each bears 'per' numbers. -/
def MarkRel {α : Type} (E : Enc α) (f : Nat → α) (per : Nat) (w : World) (base : Nat) (A : Option Addr) (n c : Nat) (l : List α) (k : Nat) (vk i : Value) (wr : World) : Prop :=
  ∃ j : Nat, j ≤ n ∧ i = .int .i64 j ∧ vk = .int .i64 ((k : Int) + per * j) ∧ Ow E wr base A n c ((List.range j).map f ++ l.drop j) ∧ w.grownBy wr (A.map (·.block))
theorem markRel_start {α : Type} {E : Enc α} (f : Nat → α) (per : Nat) {w : World} {base : Nat} {A : Option Addr} {n c : Nat} {l : List α} (k : Nat) (h : Ow E w base A n c l) : MarkRel E f per w base A n c l k (.int .i64 k) (.int .i64 0) w :=
  ⟨0, Nat.zero_le _, rfl, by simp, by simpa using h, World.grownBy.refl _ _⟩
theorem markRel_at {α : Type} (f : Nat → α) (l : List α) (n j : Nat) (hj : j < n) (hn : l.length = n) : ∃ a, ((List.range j).map f ++ l.drop j)[j]? = some a := by
  refine ⟨l[j], ?_⟩
  rw [List.getElem?_append_right (by simp)]
  simp [show j < l.length by omega]
theorem markRel_end {α : Type} {E : Enc α} {f : Nat → α} {wr : World} {base : Nat} {A : Option Addr} {n c j : Nat} {l : List α} (h : Ow E wr base A n c ((List.range j).map f ++ l.drop j)) (hj : j = n) (hn : l.length = n) :
    Ow E wr base A n c ((List.range n).map f) := by
  subst hj
  rw [List.drop_of_length_le (by omega), List.append_nil] at h
  exact h

set_option maxHeartbeats 400000 in
theorem markByteS (A : Option Addr) (n c base : Nat) (l : List UInt8) (k : Nat) (w : World) (ha : Ow eB w base A n c l) (hm : n ≤ 4294967296) (hk : k ≤ 4294967296) :
    Calls Tryd.prog 35 #[.slice A n c, .int .i64 k] w fun e w' => e = .returned (.int .i64 ((k : Int) + n)) ∧ Ow eB w' base A n c (marks k n) ∧ w.grownBy w' (A.map (·.block)) := by
  have Hn := Lib.hid (ha.len okB)
  go_enter Tryd.func35, Tryd.ntmps35
  go_wp2
  go_loopw [1, 5] (fun vk i wr => MarkRel eB (fun i => UInt8.ofNat (k + i)) 1 w base A n c l k vk i wr) (fun _ i _ => n - (intOf i).toNat)
  case atStart => exact markRel_start _ _ _ ha
  case round =>
    obtain ⟨j, hj, rfl, rfl, hown, hgr⟩ := hrel
    rw [show (k : Int) + ((1 : Nat) : Int) * (j : Int) = (k : Int) + (j : Int) by omega]
    by_cases hlt : j < n
    · obtain ⟨g, rfl, hg, _⟩ := hown.form (by omega)
      obtain ⟨a, hz⟩ := markRel_at (fun i => UInt8.ofNat (k + i)) l n j hlt Hn.out
      have cb := hown.byteAt hz
      have fb := hown.frozenAt j
      clear hz
      obtain ⟨hst, hgr2⟩ := hown.byteSet hlt (UInt8.ofNat (k + j))
      have Hset := Lib.hid (laid_set (fun i => UInt8.ofNat (k + i)) l n j hlt Hn.out)
      have Hgr := Lib.hid (grown_trans hgr hgr2)
      have Hst := Lib.hid hst
      clear hgr hgr2 hst
      go_wp2
      have hcv : ((k : Int) + (j : Int)) % 256 = ((UInt8.ofNat (k + j)).toNat : Int) := by rw [byte_num]; omega
      rw [hcv]
      exact ⟨⟨j + 1, by omega, by go_num, congrArg _ (by omega), by rw [← Hset.out]; exact Hst.out, Hgr.out⟩, by simp [intOf]; omega⟩
    · have hall := markRel_end hown (by omega) Hn.out
      obtain rfl : n = j := by omega
      clear hown
      go_wp2
      go_ret
      exact ⟨rfl, hall, hgr⟩

theorem markByteS1 (A : Option Addr) (n c base : Nat) (l : List UInt8) (w : World) (ha : Ow eB w base A n c l) (hm : n ≤ 4294967296) :
    Calls Tryd.prog 35 #[.slice A n c, .int .i64 1] w fun e w' => e = .returned (.int .i64 (1 + (n : Int))) ∧ Ow eB w' base A n c (marks 1 n) ∧ w.grownBy w' (A.map (·.block)) :=
  markByteS A n c base l 1 w ha hm (by omega)

def HeldRel (w : World) (n : Nat) (per k : Nat) (vk i : Value) (wr : World) : Prop :=
  ∃ j : Nat, j ≤ n ∧ i = .int .i64 j ∧ vk = .int .i64 ((k : Int) + per * j) ∧ Below w.heap.size w wr
theorem heldRel_start (w : World) (n per k : Nat) : HeldRel w n per k (.int .i64 k) (.int .i64 0) w := ⟨0, Nat.zero_le _, rfl, by simp, Below.refl _ _⟩

set_option maxHeartbeats 400000 in
theorem heldByteS (A : Option Addr) (n c : Nat) (k : Nat) (w : World) (ha : Rd eB w w.heap.size A (marks k n)) (hm : n ≤ 4294967296) (hk : k ≤ 4294967296) :
    Calls Tryd.prog 36 #[.slice A n c, .int .i64 k] w fun e w' => e = .returned (.int .i64 ((k : Int) + n)) ∧ Below w.heap.size w w' := by
  have Hn := Lib.hid (marks_len k n)
  go_enter Tryd.func36, Tryd.ntmps36
  go_wp2
  go_loopw [1, 5] (fun vk i wr => HeldRel w n 1 k vk i wr) (fun _ i _ => n - (intOf i).toNat)
  case atStart => exact heldRel_start _ _ _ _
  case round =>
    obtain ⟨j, hj, rfl, rfl, hbel⟩ := hrel
    rw [show (k : Int) + ((1 : Nat) : Int) * (j : Int) = (k : Int) + (j : Int) by omega]
    by_cases hlt : j < n
    · obtain ⟨g, o, x, rfl, hg, hx, ca⟩ := (ha.below hbel (Nat.le_refl _)).byte (k := j) (by rw [Hn.out]; exact hlt)
      have hne : ((x.toNat : Int) != ((k : Int) + (j : Int)) % 256) = false := by
        rw [marks_at hlt] at hx
        obtain rfl := Option.some.inj hx
        rw [bne_eq_false_iff_eq, byte_num]
        omega
      clear hx
      go_wp2
      exact ⟨⟨j + 1, by omega, by go_num, congrArg _ (by omega), hbel⟩, by simp [intOf]; omega⟩
    · obtain rfl : n = j := by omega
      go_wp2
      go_ret
      exact ⟨rfl, hbel⟩
end Go.Proofs.YteiclanlhnccnaaDoor
