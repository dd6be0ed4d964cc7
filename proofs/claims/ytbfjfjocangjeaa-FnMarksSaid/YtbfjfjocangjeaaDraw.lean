/-
  Draws that pick out of a list, and that draw bytes.
-/
import Derived.Test.YtbfjfjocangjeaaSrc
import Derived.Test.YtbfjfjocangjeaaFrame
namespace Go.Proofs.Ytbfjfjocangjeaa
set_option maxRecDepth 20000
open Go.RowKit

def intCells (xs : List Int) : Array Value := (xs.map (Value.int .i64)).toArray
theorem intCells_at {xs : List Int} {j : Nat} {v : Int} (h : xs[j]? = some v) : (intCells xs)[j]? = some (.int .i64 v) := by
  simp [intCells, h]

theorem pick_cell {w w1 : World} {b g : Nat} {xs : List Int} (hb : At w b 2 (intCells xs)) (hw : Within g (g + 1) w w1) (hne : b ≠ g) {j : Nat} (hj : j < xs.length) :
    ∃ v, w1.cell? ⟨b, j, none⟩ = some (.int .i64 v) ∧ v ∈ xs := by
  have hb1 := hb.within hw (by omega)
  exact ⟨xs[j], (hb1.cell j).trans (intCells_at (List.getElem?_eq_getElem hj)), List.getElem_mem hj⟩
theorem cell_heap {w w' : World} {p : Addr} (h : w'.heap[p.block]? = w.heap[p.block]?) : w'.cell? p = w.cell? p := by
  unfold World.cell?
  rw [h]
theorem Src.within {w w' : World} {base g n c k lo hi : Nat} {A : Option Addr} {l : List UInt8} (h : Src w base g A n c k l) (hw : Within lo hi w w') (hlo : g < lo) : Src w' base g A n c k l :=
  ⟨h.at_.within hw (.inl hlo), h.rd.keep fun p hp => cell_heap (hw.block _ (by have := h.low; have := h.at_.lt; omega) (by have := h.low; omega)), h.len, h.big, h.low⟩
theorem Src.below {w w' : World} {B base g n c k : Nat} {A : Option Addr} {l : List UInt8} (h : Src w base g A n c k l) (hw : Below B w w') (hB : g < B) : Src w' base g A n c k l :=
  ⟨h.at_.below hw hB, h.rd.below hw (by have := h.low; omega), h.len, h.big, h.low⟩
theorem Src.grown {w w' : World} {row : Option Nat} {base g n c k : Nat} {A : Option Addr} {l : List UInt8} (h : Src w base g A n c k l) (hb : w.grownBy w' row) (hr : ∀ x, row = some x → g < x) : Src w' base g A n c k l :=
  ⟨h.at_.grown hb (fun e => by have := hr _ e; omega), h.rd.keep fun p hp => cell_heap (hb.block _ (by have := h.low; have := h.at_.lt; omega) (fun e => by have := hr _ e.symm; have := h.low; omega)), h.len, h.big, h.low⟩
theorem Within.push {a b w : World} {lo hi : Nat} {row : Option Nat} (h : Within lo hi w a) (hb : a.grownBy b row) (hr : ∀ g, row = some g → w.heap.size ≤ g) : Within lo hi w b :=
  ⟨hb.os.trans h.os, hb.tape.trans h.tape, hb.output.trans h.output, Nat.le_trans h.size hb.size, fun k hk hne => (hb.block k (Nat.lt_of_lt_of_le hk h.size) (fun e => by have := hr k e.symm; omega)).trans (h.block k hk hne)⟩
theorem Within.alloc {a w : World} {lo hi : Nat} (h : Within lo hi w a) (o : Obj) : Within lo hi w (a.alloc o) := h.trans (Within.of_below ((Below.refl _ _).alloc (Nat.le_refl _) o))

/-- One out of a list of numbers that was just laid. -/
theorem l1Pick (w : World) (base g : Nat) (A : Option Addr) (m c k : Nat) (l : List UInt8) (b : Nat) (cs : Array Value) (xs : List Int) (n c' : Nat) (h : Src w base g A m c k l) (hk : k < 1073741824)
    (hb : At w b 2 cs) (hcs : cs = intCells xs) (hne : b ≠ g) (hn : xs.length = n) (h1 : 1 ≤ n) (h3 : n ≤ 60000) :
    Calls Try.prog 64 #[.pointer (some ⟨g, 0, none⟩), .slice (some ⟨b, 0, none⟩) n c'] w fun e w' => ∃ v : Int, v ∈ xs ∧ e = .returned (.int .i64 v) ∧ Src w' base g A m c (k + 1) l ∧ Within g (g + 1) w w' ∧ w'.heap.size = w.heap.size := by
  subst hcs
  have Hn := Lib.hid hn
  clear hn
  go_enter Try.func64, Try.ntmps64
  go_wp2_with (go_at_call 81; refine (l1Next w base g A m c k l n h hk (by omega)).mono ?_; rintro e w1 ⟨r, rfl, hr, _, h1⟩; obtain ⟨hr0, hr1⟩ := hr (by omega); obtain ⟨j, rfl⟩ := Int.eq_ofNat_of_zero_le hr0; obtain ⟨v, hv, hx⟩ := pick_cell hb h1.2.1 hne (show j < xs.length by rw [Hn.out]; omega))
  go_ret
  exact ⟨_, hx, rfl, h1⟩

/-- What the rounds of l1Some have drawn. -/
def SomeRel (base g : Nat) (A : Option Addr) (m c k : Nat) (l : List UInt8) (n : Nat) (w : World) (vn out : Value) (wr : World) : Prop :=
  ∃ (j : Nat) (A' : Option Addr) (c' : Nat) (xs : List UInt8), j ≤ n ∧ vn = .int .i64 ((n : Int) - (j : Int)) ∧ out = .slice A' j c' ∧ Ow eB wr w.heap.size A' j c' xs ∧ Src wr base g A m c (k + j) l ∧ Within g (g + 1) w wr

end Go.Proofs.Ytbfjfjocangjeaa
