/-
  Draws that pick out of a list, and that draw bytes.
-/
import Derived.Test.YtkdfbaiolgndeaaSrc
import Derived.Test.YtkdfbaiolgndeaaFrame
namespace Go.Proofs.Ytkdfbaiolgndeaa
open Go.RowKit

def intCells (xs : List Int) : Array Value := (xs.map (Value.int .i64)).toArray
theorem intCells_at {xs : List Int} {j : Nat} {v : Int} (h : xs[j]? = some v) : (intCells xs)[j]? = some (.int .i64 v) := by
  simp [intCells, h]

theorem pick_cell {w w1 : World} {b g : Nat} {xs : List Int} (hb : At w b 2 (intCells xs)) (hw : Within g (g + 1) w w1) (hne : b ≠ g) {j : Nat} (hj : j < xs.length) :
    ∃ v, w1.cell? ⟨b, j, none⟩ = some (.int .i64 v) ∧ v ∈ xs := by
  have hb1 := hb.within hw (by omega)
  exact ⟨xs[j], (hb1.cell j).trans (intCells_at (List.getElem?_eq_getElem hj)), List.getElem_mem hj⟩
theorem cell_heap {w w' : World} {p : Addr} (h : w'.heap[p.block]? = w.heap[p.block]?) : w'.cell? p = w.cell? p := by
  unfold World.cell?
  rw [h]
theorem Src.within {w w' : World} {base g n c k lo hi : Nat} {A : Option Addr} {l : List UInt8} (h : Src w base g A n c k l) (hw : Within lo hi w w') (hlo : g < lo) : Src w' base g A n c k l :=
  ⟨h.at_.within hw (.inl hlo), h.rd.keep fun p hp => cell_heap (hw.block _ (by have := h.low; have := h.at_.lt; omega) (by have := h.low; omega)), h.len, h.big, h.low⟩
theorem Src.below {w w' : World} {B base g n c k : Nat} {A : Option Addr} {l : List UInt8} (h : Src w base g A n c k l) (hw : Below B w w') (hB : g < B) : Src w' base g A n c k l :=
  ⟨h.at_.below hw hB, h.rd.below hw (by have := h.low; omega), h.len, h.big, h.low⟩
theorem Src.grown {w w' : World} {row : Option Nat} {base g n c k : Nat} {A : Option Addr} {l : List UInt8} (h : Src w base g A n c k l) (hb : w.grownBy w' row) (hr : ∀ x, row = some x → g < x) : Src w' base g A n c k l :=
  ⟨h.at_.grown hb (fun e => by have := hr _ e; omega), h.rd.keep fun p hp => cell_heap (hb.block _ (by have := h.low; have := h.at_.lt; omega) (fun e => by have := hr _ e.symm; have := h.low; omega)), h.len, h.big, h.low⟩
theorem Within.push {a b w : World} {lo hi : Nat} {row : Option Nat} (h : Within lo hi w a) (hb : a.grownBy b row) (hr : ∀ g, row = some g → w.heap.size ≤ g) : Within lo hi w b :=
  ⟨hb.os.trans h.os, hb.tape.trans h.tape, hb.output.trans h.output, Nat.le_trans h.size hb.size, fun k hk hne => (hb.block k (Nat.lt_of_lt_of_le hk h.size) (fun e => by have := hr k e.symm; omega)).trans (h.block k hk hne)⟩
theorem Within.alloc {a w : World} {lo hi : Nat} (h : Within lo hi w a) (o : Obj) : Within lo hi w (a.alloc o) := h.trans (Within.of_below ((Below.refl _ _).alloc (Nat.le_refl _) o))

/-- One out of a list of numbers that was just laid. -/
theorem l1Pick (w : World) (base g : Nat) (A : Option Addr) (m c k : Nat) (l : List UInt8) (b : Nat) (cs : Array Value) (xs : List Int) (n c' : Nat) (h : Src w base g A m c k l) (hk : k < 1073741824)
    (hb : At w b 2 cs) (hcs : cs = intCells xs) (hne : b ≠ g) (hn : xs.length = n) (h1 : 1 ≤ n) (h3 : n ≤ 60000) :
    Calls Try.prog 45 #[.pointer (some ⟨g, 0, none⟩), .slice (some ⟨b, 0, none⟩) n c'] w fun e w' => ∃ v : Int, v ∈ xs ∧ e = .returned (.int .i64 v) ∧ Src w' base g A m c (k + 1) l ∧ Within g (g + 1) w w' ∧ w'.heap.size = w.heap.size := by
  subst hcs
  have Hn := Lib.hid hn
  clear hn
  go_enter Try.func45, Try.ntmps45
  go_wp2_with (go_at_call 42; refine (l1Next w base g A m c k l n h hk (by omega)).mono ?_; rintro e w1 ⟨r, rfl, hr, _, h1⟩; obtain ⟨hr0, hr1⟩ := hr (by omega); obtain ⟨j, rfl⟩ := Int.eq_ofNat_of_zero_le hr0; obtain ⟨v, hv, hx⟩ := pick_cell hb h1.2.1 hne (show j < xs.length by rw [Hn.out]; omega))
  go_ret
  exact ⟨_, hx, rfl, h1⟩

/-- What the rounds of l1Some have drawn. -/
def SomeRel (base g : Nat) (A : Option Addr) (m c k : Nat) (l : List UInt8) (n : Nat) (w : World) (vn out : Value) (wr : World) : Prop :=
  ∃ (j : Nat) (A' : Option Addr) (c' : Nat) (xs : List UInt8), j ≤ n ∧ vn = .int .i64 ((n : Int) - (j : Int)) ∧ out = .slice A' j c' ∧ Ow eB wr w.heap.size A' j c' xs ∧ Src wr base g A m c (k + j) l ∧ Within g (g + 1) w wr

set_option maxHeartbeats 1600000 in
theorem l1Some (w : World) (base g : Nat) (A : Option Addr) (m c k : Nat) (l : List UInt8) (n : Nat) (h : Src w base g A m c k l) (hk : k < 1000000000) (hn : n ≤ 60000) :
    Calls Try.prog 44 #[.pointer (some ⟨g, 0, none⟩), .int .i64 n] w fun e w' => ∃ (A' : Option Addr) (c' : Nat) (xs : List UInt8), e = .returned (.slice A' n c') ∧ xs.length = n ∧ Ow eB w' w.heap.size A' n c' xs ∧ Src w' base g A m c (k + n) l ∧ Within g (g + 1) w w' := by
  have hgl := h.at_.lt
  go_enter Try.func44, Try.ntmps44
  go_wp2
  go_loopw [1, 5] (fun vn out wr => SomeRel base g A m c k l n w vn out wr) (fun vn _ _ => (intOf vn).toNat)
  case atStart => exact ⟨0, _, _, [], Nat.zero_le _, by simp, rfl, Ow.lit w [] #[] 0 (Nat.le_refl _) (by unfold maxLen; omega) rfl rfl, h.below ((Below.refl _ _).alloc (Nat.le_refl _) _) hgl, (Within.refl _ _ _).alloc _⟩
  case round =>
    obtain ⟨j, A1, c1, xs, hj, rfl, rfl, how, hsrc, hwi⟩ := hrel
    have Hs := Lib.hid hsrc
    by_cases hlt : j < n
    · go_wp2_with (first
        | (go_at_call 42; refine (l1Next wr base g A m c (k + j) l 256 hsrc (by omega) (by omega)).mono ?_; rintro e w1 ⟨r, rfl, hr, hr', h1, hw1, hs1⟩; clear hr'; obtain ⟨hr0, hr1⟩ := hr (by omega); obtain ⟨q, rfl⟩ := Int.eq_ofNat_of_zero_le hr0
           have hq : q < 256 := by omega
           have hsz : w.heap.size ≤ w1.heap.size := Nat.le_trans hwi.size hw1.size
           have hsz1 : ∀ o, w.heap.size ≤ (w1.alloc o).heap.size := fun o => Nat.le_trans hsz ((Below.refl w1.heap.size w1).alloc (Nat.le_refl _) o).size
           clear hr hs1
           have ow1 := how.within hw1 how.lt (.inr hgl)
           have o3 := ow_one w1 (UInt8.ofNat q) (q : Int) (byte_small hq).symm)
        | (at_builtin
           refine wpList_append_ow okB _ rfl (.tmp 11) (.tmp 15) _ rfl w.heap.size info_u8 Try.underlying22 rfl A1 j c1 xs rfl (ow1.alloc _) (some ⟨w1.heap.size, 0, none⟩) 1 1 _ [UInt8.ofNat q] rfl (o3.rd okB) rfl (by unfold maxLen; omega) (by omega) (hsz1 _) ?_
           intro A2 c2 w3 ow3 hg3 _))
      have hr3 : ∀ x, A1.map (·.block) = some x → w.heap.size ≤ x := fun x hx => (how.lt x hx).1
      refine ⟨⟨j + 1, A2, c2, _, by omega, by go_num, rfl, ow3, ?_, ((hwi.trans hw1).alloc _).push hg3 hr3⟩, by simp [intOf]; omega⟩
      exact (h1.below ((Below.refl _ _).alloc (Nat.le_refl _) _) h1.at_.lt).grown hg3 fun x hx => Nat.lt_of_lt_of_le hgl (hr3 x hx)
    · have hjn : j = n := by omega
      subst hjn
      have hl := how.len okB
      go_wp2
      go_ret
      exact ⟨_, _, xs, rfl, hl, how, Hs.out, hwi⟩
end Go.Proofs.Ytkdfbaiolgndeaa
