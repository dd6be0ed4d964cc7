/-
  Texts of one proof, joined: each has its own namespace.
-/
import Derived.Test.YtmaillakhhdkfaaGreatDoorRows
import Derived.WalkKit
import Derived.WalkSpells
import Derived.WalkLawsBesides
import Derived.ProofKit
import Derived.Deep.QuietTactic
import Derived.Deep.DeepFit
import Derived.BigQuiet
import Derived.Lib.Hide
import Derived.Maps.AppendAt
import Derived.OrdersHeld
import Derived.Tactics2
import Derived.Tactics
import Derived.Deep.RegionHeld
import Derived.OpenShut
import Derived.ChangeOld
import Derived.Test.YtmaillakhhdkfaaGreatDoorTie
import Derived.LaidMore
import Derived.ChangeVars
import Derived.SevenTiedAt
import Derived.IntWalk
import Derived.OwnWalk
/-
  Words for memory that this seat's walks share: what the elements of a slice are (Enc), a slice that reads as a list (Rd), a slice of the call's own that holds a list (Ow); how they are kept; append and make in these words.
-/
namespace Go.Proofs.YtmaillakhhdkfaaGreatDoor
set_option maxRecDepth 20000
open Go.RowKit

theorem bdrewN {B : Nat} {a w : World} (h : Below B a w) (n : Nat) : Below B a (w.drewN n) := ⟨h.os, h.tape, h.output, h.size, h.block⟩

/-- Behind a call that left what was there as it was: old cells and old marks read as before (the walk's rules). -/
theorem bcell {W w1 : World} (hb : Below W.heap.size W w1) : (∀ b o, b < W.heap.size → w1.cell? ⟨b, o, none⟩ = W.cell? ⟨b, o, none⟩) ∧ (∀ b o, b < W.heap.size → w1.frozen? ⟨b, o, none⟩ = W.frozen? ⟨b, o, none⟩) :=
  ⟨fun b o h => hb.cell (p := ⟨b, o, none⟩) h, fun b o h => hb.frozen (p := ⟨b, o, none⟩) h⟩

/-- A block that is known whole. -/
def At (w : World) (g : Nat) (t : TypeId) (cs : Array Value) : Prop := w.heap[g]? = some (.cells cs t (0, 0))
section
variable {w w' : World} {g : Nat} {t : TypeId} {cs : Array Value}
theorem At.lt (h : At w g t cs) : g < w.heap.size := by
  rcases Nat.lt_or_ge g w.heap.size with h1 | h1
  · exact h1
  · unfold At at h; rw [Array.getElem?_eq_none h1] at h; cases h
theorem At.cell (h : At w g t cs) (i : Nat) : w.cell? ⟨g, i, none⟩ = cs[i]? := cell_of_row w g i cs t (0, 0) h
theorem At.frozen (h : At w g t cs) (i : Nat) : w.frozen? ⟨g, i, none⟩ = false := frozen_of_row w g i cs t h
theorem At.new (w : World) (t : TypeId) (cs : Array Value) : At (w.alloc (.cells cs t)) w.heap.size t cs := heap_alloc_new w _
theorem At.drewN (h : At w g t cs) (n : Nat) : At (w.drewN n) g t cs := h
theorem At.alloc (h : At w g t cs) (o : Obj) : At (w.alloc o) g t cs := (Below.heap_alloc w o g h.lt).trans h
theorem At.below {B : Nat} (h : At w g t cs) (hb : Below B w w') (hg : g < B) : At w' g t cs := (hb.block g hg).trans h
theorem At.grown {row : Option Nat} (h : At w g t cs) (hb : w.grownBy w' row) (hg : row ≠ some g) : At w' g t cs := (hb.block g h.lt (fun e => hg e.symm)).trans h
theorem At.far (h : At w g t cs) {p : Addr} (hp : g ≠ p.block) (u : Value) : At (w.setCell p u) g t cs := (Below.heap_setCell w p u g hp).trans h
theorem At.set (h : At w g t cs) (i : Nat) (u : Value) : At (w.setCell ⟨g, i, none⟩ u) g t (cs.setIfInBounds i u) := heap_setCell_same w g i cs t u h
theorem At.two {a b : Value} (h : At w g t #[a, b]) : w.cell? ⟨g, 0, none⟩ = some a ∧ w.cell? ⟨g, 1, none⟩ = some b ∧ w.frozen? ⟨g, 0, none⟩ = false ∧ w.frozen? ⟨g, 1, none⟩ = false :=
  ⟨h.cell 0, h.cell 1, h.frozen 0, h.frozen 1⟩
theorem At.three {a b c : Value} (h : At w g t #[a, b, c]) : w.cell? ⟨g, 0, none⟩ = some a ∧ w.cell? ⟨g, 1, none⟩ = some b ∧ w.cell? ⟨g, 2, none⟩ = some c ∧ w.frozen? ⟨g, 0, none⟩ = false ∧ w.frozen? ⟨g, 1, none⟩ = false ∧ w.frozen? ⟨g, 2, none⟩ = false :=
  ⟨h.cell 0, h.cell 1, h.cell 2, h.frozen 0, h.frozen 1, h.frozen 2⟩
end

/-- Nothing but blocks from 'lo' to below 'hi' has turned, and what is new. -/
structure Within (lo hi : Nat) (w w' : World) : Prop where
  os : w'.os = w.os
  tape : w'.tape = w.tape
  output : w'.output = w.output
  size : w.heap.size ≤ w'.heap.size
  block : ∀ k, k < w.heap.size → (k < lo ∨ hi ≤ k) → w'.heap[k]? = w.heap[k]?
theorem within_of {w w' : World} {row : Option Nat} {lo hi : Nat} (h : w.grownBy w' row) (hr : ∀ g, row = some g → lo ≤ g ∧ g < hi) : Within lo hi w w' :=
  ⟨h.os, h.tape, h.output, h.size, fun k hk hne => h.block k hk (fun e => by have := hr k e.symm; omega)⟩
theorem Within.grown {w w' : World} {lo hi g : Nat} (h : Within lo hi w w') (hg : g < lo ∨ hi ≤ g) (hs : g < w.heap.size) : w'.heap[g]? = w.heap[g]? := h.block g hs hg
theorem Within.trans {a b c : World} {lo hi : Nat} (h : Within lo hi a b) (k : Within lo hi b c) : Within lo hi a c :=
  ⟨k.os.trans h.os, k.tape.trans h.tape, k.output.trans h.output, Nat.le_trans h.size k.size, fun i hi' hne => (k.block i (Nat.lt_of_lt_of_le hi' h.size) hne).trans (h.block i hi' hne)⟩
theorem Within.refl (lo hi : Nat) (w : World) : Within lo hi w w := ⟨rfl, rfl, rfl, Nat.le_refl _, fun _ _ _ => rfl⟩
theorem Within.more {w w' : World} {lo hi lo' hi' : Nat} (h : Within lo hi w w') (h1 : lo' ≤ lo) (h2 : hi ≤ hi') : Within lo' hi' w w' :=
  ⟨h.os, h.tape, h.output, h.size, fun k hk hne => h.block k hk (by omega)⟩
/-- A call that left what was there as it was. -/
theorem Within.of_below {w w' : World} {lo hi : Nat} (h : Below w.heap.size w w') : Within lo hi w w' := ⟨h.os, h.tape, h.output, h.size, fun k hk _ => h.block k hk⟩
/-- The blocks that turned are all of the call's own. -/
theorem Within.below {a w w' : World} {B lo hi : Nat} (h : Below B a w) (k : Within lo hi w w') (hB : B ≤ w.heap.size) (hlo : B ≤ lo) : Below B a w' :=
  h.trans ⟨k.os, k.tape, k.output, k.size, fun i hi' => k.block i (by omega) (by omega)⟩
theorem At.within {w w' : World} {g : Nat} {t : TypeId} {cs : Array Value} {lo hi : Nat} (h : At w g t cs) (k : Within lo hi w w') (hg : g < lo ∨ hi ≤ g) : At w' g t cs := (k.block g h.lt hg).trans h

/-- How an element lies in memory: its type's number, how many cells, which. -/
structure Enc (α : Type) where
  tid : Nat
  size : Nat
  cells : α → List Value

structure EncOk {α : Type} (E : Enc α) : Prop where
  len : ∀ a, (E.cells a).length = E.size
  one : ∀ a u, u ∈ E.cells a → u.oneCell' = true
  pos : 0 < E.size

def Enc.row {α : Type} (E : Enc α) (l : List α) : List Value := l.flatMap E.cells

section
variable {α : Type} {E : Enc α}
theorem EncOk.row_len (h : EncOk E) (l : List α) : (E.row l).length = l.length * E.size := by
  induction l with
  | nil => simp [Enc.row]
  | cons a l ih =>
    unfold Enc.row at ih ⊢
    rw [List.flatMap_cons, List.length_append, h.len, ih, List.length_cons, Nat.add_mul]
    omega
theorem EncOk.row_at (h : EncOk E) : ∀ (l : List α) (k j : Nat) (a : α), l[k]? = some a → j < E.size → (E.row l)[k * E.size + j]? = (E.cells a)[j]? := by
  intro l
  induction l with
  | nil => intro k j a hk; simp at hk
  | cons b l ih =>
    intro k j a hk hj
    unfold Enc.row at ih ⊢
    rw [List.flatMap_cons]
    match k, hk with
    | 0, hk =>
      obtain rfl : b = a := by simpa using hk
      rw [Nat.zero_mul, Nat.zero_add, List.getElem?_append_left (by rw [h.len]; exact hj)]
    | k + 1, hk =>
      rw [List.getElem?_append_right (by rw [h.len, Nat.add_mul]; omega), h.len]
      rw [← ih k j a (by simpa using hk) hj]
      congr 1
      rw [Nat.add_mul]
      omega
theorem row_append (l m : List α) : E.row (l ++ m) = E.row l ++ E.row m := by simp [Enc.row]
theorem EncOk.row_one (h : EncOk E) (l : List α) : ∀ u ∈ E.row l, u.oneCell' = true := by
  intro u hu
  unfold Enc.row at hu
  obtain ⟨a, _, ha⟩ := List.mem_flatMap.1 hu
  exact h.one a u ha
/-- One cell of one element is stored: the element is another one. -/
theorem EncOk.row_set (h : EncOk E) : ∀ (l : List α) (k j : Nat) (a a' : α) (u : Value), l[k]? = some a → j < E.size → E.cells a' = (E.cells a).set j u → (E.row l).set (k * E.size + j) u = E.row (l.set k a') := by
  intro l
  induction l with
  | nil => intro k j a a' u hk; simp at hk
  | cons b l ih =>
    intro k j a a' u hk hj hc
    unfold Enc.row at ih ⊢
    match k, hk with
    | 0, hk =>
      obtain rfl : b = a := by simpa using hk
      rw [Nat.zero_mul, Nat.zero_add, List.set_cons_zero, List.flatMap_cons, List.flatMap_cons, List.set_append, if_pos (by rw [h.len]; exact hj), hc]
    | k + 1, hk =>
      rw [List.set_cons_succ, List.flatMap_cons, List.flatMap_cons, List.set_append, if_neg (by rw [h.len, Nat.add_mul]; omega), h.len, ← ih k j a a' u (by simpa using hk) hj hc]
      congr 2
      rw [Nat.add_mul]
      omega
end

/-- A slice's address reads the list 'l' in a block below 'hi'. -/
def Rd {α : Type} (E : Enc α) (w : World) (hi : Nat) (A : Option Addr) (l : List α) : Prop :=
  l ≠ [] → ∃ g o, A = some ⟨g, o, none⟩ ∧ g < hi ∧ ∀ (k j : Nat) (a : α) (u : Value), l[k]? = some a → (E.cells a)[j]? = some u → w.cell? ⟨g, o + k * E.size + j, none⟩ = some u

section
variable {α : Type} {E : Enc α} {w w' : World} {hi hi' B : Nat} {A : Option Addr} {l : List α}
theorem getElem?_some_lt {k : Nat} {a : α} (h : l[k]? = some a) : k < l.length := by
  rcases Nat.lt_or_ge k l.length with h1 | h1
  · exact h1
  · rw [List.getElem?_eq_none h1] at h; cases h
theorem Rd.at_ (h : Rd E w hi A l) {k : Nat} (hk : k < l.length) :
    ∃ g o a, A = some ⟨g, o, none⟩ ∧ g < hi ∧ l[k]? = some a ∧ ∀ (j : Nat) (u : Value), (E.cells a)[j]? = some u → w.cell? ⟨g, o + k * E.size + j, none⟩ = some u := by
  obtain ⟨g, o, e, hg, hc⟩ := h (by intro e; subst e; simp at hk)
  exact ⟨g, o, l[k], e, hg, List.getElem?_eq_getElem hk, fun j u hu => hc k j _ u (List.getElem?_eq_getElem hk) hu⟩
theorem Rd.keep (h : Rd E w hi A l) (hk : ∀ p : Addr, p.block < hi → w'.cell? p = w.cell? p) : Rd E w' hi A l := fun hn => by
  obtain ⟨g, o, e, hg, hc⟩ := h hn
  exact ⟨g, o, e, hg, fun k j a u h1 h2 => (hk _ hg).trans (hc k j a u h1 h2)⟩
theorem Rd.below (h : Rd E w hi A l) (hb : Below B w w') (hB : hi ≤ B) : Rd E w' hi A l := h.keep fun _ hp => hb.cell (Nat.lt_of_lt_of_le hp hB)
theorem Rd.alloc (h : Rd E w hi A l) (hB : hi ≤ w.heap.size) (o : Obj) : Rd E (w.alloc o) hi A l := h.keep fun p hp => World.cell?_alloc_lt w o p (Nat.lt_of_lt_of_le hp hB)
theorem Rd.drewN (h : Rd E w hi A l) (k : Nat) : Rd E (w.drewN k) hi A l := h
theorem Rd.more (h : Rd E w hi A l) (hB : hi ≤ hi') : Rd E w hi' A l := fun hn => by
  obtain ⟨g, o, e, hg, hc⟩ := h hn
  exact ⟨g, o, e, Nat.lt_of_lt_of_le hg hB, hc⟩
theorem Rd.lift (h : Rd E w w.heap.size A l) (hb : Below w.heap.size w w') : Rd E w' w'.heap.size A l := (h.below hb (Nat.le_refl _)).more hb.size
theorem Rd.nil : Rd E w hi A [] := fun h => absurd rfl h
/-- What a list of which this is a middle part reads as, from there on. -/
theorem Rd.add {k : Nat} (h : Rd E w hi A l) (_hk : k < l.length) : ∃ g o, A = some ⟨g, o, none⟩ ∧ Rd E w hi (some ⟨g, o + k * E.size, none⟩) (l.drop k) := by
  obtain ⟨g, o, e, hg, hc⟩ := h (by intro e; subst e; simp at _hk)
  refine ⟨g, o, e, fun _ => ⟨g, o + k * E.size, rfl, hg, fun i j a u h1 h2 => ?_⟩⟩
  rw [List.getElem?_drop] at h1
  have := hc (k + i) j a u h1 h2
  rw [Nat.add_mul, ← Nat.add_assoc o] at this
  exact this
theorem Rd.take (h : Rd E w hi A l) (k : Nat) : Rd E w hi A (l.take k) := fun hn => by
  obtain ⟨g, o, e, hg, hc⟩ := h (by intro e; subst e; simp at hn)
  refine ⟨g, o, e, hg, fun i j a u h1 h2 => hc i j a u ?_ h2⟩
  rw [List.getElem?_take] at h1
  split at h1
  · exact h1
  · cases h1
end

/-- A row of the call's own: the slice's value is nil or leads to the head of a block from 'base' on. -/
def Ow {α : Type} (E : Enc α) (w : World) (base : Nat) (A : Option Addr) (n c : Nat) (l : List α) : Prop :=
  w.ownsRow base E.tid E.size (.slice A n c) n (E.row l)

theorem grown_below {w w' : World} {B : Nat} (h : Below B w w') (hB : w.heap.size ≤ B) : w.grownBy w' none :=
  ⟨h.os, h.tape, h.output, h.size, fun k hk _ => h.block k (by omega)⟩
theorem grown_trans {w w' w'' : World} {row : Option Nat} (h : w.grownBy w' row) (h2 : w'.grownBy w'' row) : w.grownBy w'' row :=
  ⟨h2.os.trans h.os, h2.tape.trans h.tape, h2.output.trans h.output, Nat.le_trans h.size h2.size, fun k hk hne => (h2.block k (Nat.lt_of_lt_of_le hk h.size) hne).trans (h.block k hk hne)⟩

section
variable {α : Type} {E : Enc α} {w w' : World} {base base' n c : Nat} {A : Option Addr} {l : List α}
theorem Ow.len (hE : EncOk E) (h : Ow E w base A n c l) : l.length = n := by
  have h1 := h.1
  rw [hE.row_len] at h1
  exact Nat.eq_of_mul_eq_mul_right hE.pos h1
theorem Ow.small (h : Ow E w base A n c l) : n ≤ maxLen := by
  rcases h.2 with ⟨_, h0⟩ | ⟨g, cap, cur, _, _, _, h1, h2, _⟩
  · omega
  · exact Nat.le_trans h1 h2
theorem Ow.cap (h : Ow E w base A n c l) : n ≤ c := by
  rcases h.2 with ⟨_, h0⟩ | ⟨g, cap, cur, hv, _, _, h1, _⟩
  · omega
  · simp only [Value.slice.injEq] at hv
    omega
theorem Ow.capMax (h : Ow E w base A n c l) : c ≤ maxLen := by
  rcases h.2 with ⟨h0, _⟩ | ⟨g, cap, cur, hv, _, _, _, h2, _⟩
  · simp only [Value.slice.injEq] at h0
    omega
  · simp only [Value.slice.injEq] at hv
    omega
theorem Ow.form (h : Ow E w base A n c l) (hn : 0 < n) : ∃ g, A = some ⟨g, 0, none⟩ ∧ base ≤ g ∧ g < w.heap.size := by
  rcases h.2 with ⟨_, h0⟩ | ⟨g, cap, cur, hv, hb, hg, _⟩
  · omega
  · simp only [Value.slice.injEq] at hv
    obtain ⟨rfl, _, rfl⟩ := hv
    exact ⟨g, rfl, hb, (Array.getElem?_eq_some_iff.1 hg).1⟩
theorem Ow.lt (h : Ow E w base A n c l) : ∀ g, A.map (·.block) = some g → base ≤ g ∧ g < w.heap.size := by
  intro g hg
  refine World.ownsRow.lt h g ?_
  cases A with
  | none => simp at hg
  | some a => simpa [Value.ownBlock] using hg
theorem Ow.cellAt (hE : EncOk E) {g : Nat} (h : Ow E w base (some ⟨g, 0, none⟩) n c l) {k j : Nat} {a : α} {u : Value} (hk : l[k]? = some a) (hu : (E.cells a)[j]? = some u) : w.cell? ⟨g, k * E.size + j, none⟩ = some u := by
  have hl := getElem?_some_lt hk
  have hj : j < E.size := by rw [← hE.len a]; exact getElem?_some_lt hu
  have hn := Ow.len hE h
  have hlt : k * E.size + j < n * E.size := by
    have : (k + 1) * E.size ≤ n * E.size := Nat.mul_le_mul_right _ (by omega)
    rw [Nat.add_mul] at this
    omega
  rw [World.ownsRow.cellAt h _ hlt, hE.row_at l k j a hk hj, hu]
theorem Ow.frozenAt {g : Nat} (h : Ow E w base (some ⟨g, 0, none⟩) n c l) (j : Nat) : w.frozen? ⟨g, j, none⟩ = false := World.ownsRow.frozenAt h j
theorem Ow.rd (hE : EncOk E) (h : Ow E w base A n c l) : Rd E w w.heap.size A l := fun hne => by
  have hlen := h.len hE
  have hn : 0 < n := by
    rcases Nat.eq_zero_or_pos n with h0 | h0
    · exact absurd (List.eq_nil_of_length_eq_zero (by omega)) hne
    · exact h0
  obtain ⟨g, rfl, _, hg⟩ := h.form hn
  exact ⟨g, 0, rfl, hg, fun k j a u hk hu => by rw [Nat.zero_add]; exact h.cellAt hE hk hu⟩
theorem Ow.grown {row : Option Nat} (h : Ow E w base A n c l) (hg : w.grownBy w' row) (hne : ∀ g, A.map (·.block) = some g → row ≠ some g) : Ow E w' base A n c l := by
  refine World.ownsRow.kept h hg ?_
  cases A with
  | none => exact .inl rfl
  | some a => exact .inr fun e => hne a.block rfl (by simpa [Value.ownBlock] using e.symm)
theorem Ow.below {B : Nat} (h : Ow E w base A n c l) (hb : Below B w w') (hB : w.heap.size ≤ B) : Ow E w' base A n c l := h.grown (grown_below hb hB) (by simp)
/-- A row in blocks from 'lo' to below 'hi' is kept where other blocks alone have turned. -/
theorem Ow.within {lo hi lo' hi' : Nat} (h : Ow E w base A n c l) (k : Within lo' hi' w w') (hr : ∀ g, A.map (·.block) = some g → lo ≤ g ∧ g < hi) (hd : hi ≤ lo' ∨ hi' ≤ lo) : Ow E w' base A n c l := by
  refine ⟨h.1, ?_⟩
  rcases h.2 with h0 | ⟨g, cap, cur, hv, hb, hgg, rest⟩
  · exact .inl h0
  · refine .inr ⟨g, cap, cur, hv, hb, ?_, rest⟩
    simp only [Value.slice.injEq] at hv
    have hlt := hr g (by rw [hv.1]; rfl)
    rw [k.block g (Array.getElem?_eq_some_iff.1 hgg).1 (by omega)]
    exact hgg
theorem Ow.alloc (h : Ow E w base A n c l) (o : Obj) : Ow E (w.alloc o) base A n c l := World.ownsRow.alloc h o
theorem Ow.drewN (h : Ow E w base A n c l) (k : Nat) : Ow E (w.drewN k) base A n c l := h
theorem Ow.from_ (h : Ow E w base A n c l) (hb : base' ≤ base) : Ow E w base' A n c l := by
  refine ⟨h.1, ?_⟩
  rcases h.2 with h0 | ⟨g, cap, cur, hv, hb', rest⟩
  · exact .inl h0
  · exact .inr ⟨g, cap, cur, hv, Nat.le_trans hb hb', rest⟩
theorem grown_setCell (w : World) (p : Addr) (u : Value) : w.grownBy (w.setCell p u) (some p.block) :=
  ⟨rfl, rfl, rfl, by simp [World.setCell], fun k _ hne => Below.heap_setCell w p u k (fun e => hne (by rw [e]))⟩
/-- A store into a block below the row's base. -/
theorem Ow.under (h : Ow E w base A n c l) {p : Addr} (hp : p.block < base) (u : Value) : Ow E (w.setCell p u) base A n c l :=
  h.grown (grown_setCell w p u) (fun g hg e => by
    have h1 := (h.lt g hg).1
    simp only [Option.some.injEq] at e
    omega)
theorem Ow.nil : Ow E w base none 0 0 [] := World.ownsRow_nil w base E.tid E.size
theorem Ow.stored (hE : EncOk E) {g : Nat} (h : Ow E w base (some ⟨g, 0, none⟩) n c l) {k j : Nat} {a a' : α} {u : Value} (hk : l[k]? = some a) (hj : j < E.size) (hc : E.cells a' = (E.cells a).set j u) :
    Ow E (w.setCell ⟨g, k * E.size + j, none⟩ u) base (some ⟨g, 0, none⟩) n c (l.set k a') ∧ w.grownBy (w.setCell ⟨g, k * E.size + j, none⟩ u) (some g) := by
  obtain ⟨h1, h2⟩ := World.ownsRow.stored h (k * E.size + j) u
  refine ⟨?_, h2⟩
  unfold Ow
  rw [← hE.row_set l k j a a' u hk hj hc]
  exact h1
/-- A row that was laid at once. -/
theorem Ow.lit (w : World) (l : List α) (cs : Array Value) (n : Nat) (hb : base ≤ w.heap.size) (hm : n ≤ maxLen) (hcs : cs.toList = E.row l) (hs : cs.size = n * E.size) :
    Ow E (w.alloc (.cells cs E.tid)) base (some ⟨w.heap.size, 0, none⟩) n n l := by
  unfold Ow
  rw [← hcs]
  exact World.ownsRow_lit w cs n hb hm hs
end

theorem addr_add (g o j : Nat) : (⟨g, o, none⟩ : Addr).add j = ⟨g, o + j, none⟩ := by unfold Addr.add; split <;> simp_all

theorem rd_lit {α : Type} {E : Enc α} (hE : EncOk E) (w : World) (t : TypeId) (l : List α) (cs : Array Value) (hcs : cs.toList = E.row l) : Rd E (w.alloc (.cells cs t)) (w.heap.size + 1) (some ⟨w.heap.size, 0, none⟩) l := fun _ => by
  refine ⟨w.heap.size, 0, rfl, Nat.lt_succ_self _, fun k j a u hk hu => ?_⟩
  have hj : j < E.size := by rw [← hE.len a]; exact getElem?_some_lt hu
  rw [cell_of_row _ _ _ _ _ _ (heap_alloc_new w _), Nat.zero_add, ← Array.getElem?_toList, hcs, hE.row_at l k j a hk hj, hu]

/-- append to a row of the call's own; what is appended is read anywhere. -/
theorem run_append_ow {P : Program} {α : Type} {E : Enc α} (hE : EncOk E) (w : World) (base : Nat) (t ty : TypeId) (i : TypeInfo) (z : Value) (bytes : Nat) (ht : P.underlying t = some (.slice E.tid)) (hi : P.info? E.tid = some i) (hz : i.zero = some z)
    (hsize : i.size = E.size) (hby : i.bytes = bytes) (hzs : z.cells.size = E.size)
    (A : Option Addr) (n c : Nat) (l : List α) (hown : Ow E w base A n c l)
    (X : Option Addr) (m d hi' : Nat) (news : List α) (hX : Rd E w hi' X news) (hm : news.length = m)
    (h63 : n + m ≤ maxLen) (hbytes : (n + m) * bytes ≤ 140737488355328) (hbase : base ≤ w.heap.size) :
    ∃ A' c' w', (Builtin.append_ #[t, t] ty #[.slice A n c, .slice X m d]).run P w = .ok (.slice A' (n + m) c') w' ∧ Ow E w' base A' (n + m) c' (l ++ news) ∧ w.grownBy w' (A.map (·.block)) ∧
      (A'.map (·.block) = A.map (·.block) ∨ A'.map (·.block) = some w.heap.size) := by
  rcases Nat.eq_zero_or_pos m with h0 | h0
  · subst h0
    have hn : news = [] := List.eq_nil_of_length_eq_zero hm
    subst hn
    refine ⟨A, c, w, ?_, by simpa using hown, World.grownBy.refl _ _, .inl rfl⟩
    rcases hown.2 with ⟨h1, rfl⟩ | ⟨g, cap, cur, h1, _, _, hnc, _⟩
    · simp only [Value.slice.injEq] at h1
      obtain ⟨rfl, _, rfl⟩ := h1
      cases X <;> simp [Builtin.append_, run_underlying ht, sizeOf, typeInfo, hi, Builtin.lenOf, Builtin.firstCells, loadCells, loadCellsFrom]
    · simp only [Value.slice.injEq] at h1
      obtain ⟨rfl, _, rfl⟩ := h1
      cases X <;> simp [Builtin.append_, run_underlying ht, sizeOf, typeInfo, hi, Builtin.lenOf, Builtin.firstCells, hnc, storeCells, loadCells, loadCellsFrom]
  · obtain ⟨g, o, rfl, _, hc⟩ := hX (by rintro rfl; simp at hm; omega)
    have hcells : ∀ j u, (E.row news)[j]? = some u → w.cell? ((⟨g, o, none⟩ : Addr).add j) = some u := by
      intro j u hu
      have hj : j < (E.row news).length := getElem?_some_lt hu
      rw [hE.row_len] at hj
      have hk : j / E.size < news.length := Nat.div_lt_of_lt_mul (by rw [Nat.mul_comm]; exact hj)
      have hr : j % E.size < E.size := Nat.mod_lt _ hE.pos
      have hd : j = j / E.size * E.size + j % E.size := by rw [Nat.mul_comm]; exact (Nat.div_add_mod j E.size).symm
      rw [hd, hE.row_at news (j / E.size) (j % E.size) _ (List.getElem?_eq_getElem hk) hr] at hu
      have := hc (j / E.size) (j % E.size) _ u (List.getElem?_eq_getElem hk) hu
      rw [addr_add]
      rw [Nat.add_assoc, ← hd] at this
      exact this
    obtain ⟨v', w', hrun, h2, h3, _, h5⟩ := run_append_own_at (P := P) w base t ty E.tid i z E.size bytes ht hi hz hsize hby hzs hE.pos (.slice A n c) n (E.row l) hown ⟨g, o, none⟩ m d (E.row news) (by rw [hE.row_len, hm]) hcells (hE.row_one news) h63 hbytes hbase
    have hform : ∃ g' cap, v' = .slice (some ⟨g', 0, none⟩) (n + m) cap := by
      rcases h2.2 with ⟨_, h⟩ | ⟨g', cap, cur, h, _⟩
      · omega
      · exact ⟨g', cap, h⟩
    obtain ⟨g', cap, rfl⟩ := hform
    have hob : (Value.slice A n c).ownBlock = A.map (·.block) := by cases A <;> rfl
    rw [hob] at h3 h5
    rw [← row_append] at h2
    exact ⟨_, _, w', hrun, h2, h3, h5⟩

theorem wpList_append_ow {P : Program} {α : Type} {E : Enc α} (hE : EncOk E) (w : World) {ops : Array Oper} {rest : List Oper} {o : Oper} {a : Act} {Q : Exit → Act → World → Prop} (hgd : o.guard = none) (s x : Operand) (t : TypeId)
    (ho : o.op = .call { callee := .builtin .append, args := #[s, x], argTypes := #[t, t] })
    (base : Nat) {z : Value} {bytes : Nat} (hinfo : (P.info? E.tid).map (fun i => (i.zero, i.size, i.bytes)) = some (some z, E.size, bytes)) (ht : P.underlying t = some (.slice E.tid)) (hzs : z.cells.size = E.size)
    (A : Option Addr) (n c : Nat) (l : List α) (hs : a.eval s = .slice A n c) (hown : Ow E w base A n c l)
    (X : Option Addr) (m d hi' : Nat) (news : List α) (hx : a.eval x = .slice X m d) (hX : Rd E w hi' X news) (hm : news.length = m)
    (h63 : n + m ≤ maxLen) (hbytes : (n + m) * bytes ≤ 140737488355328) (hbase : base ≤ w.heap.size)
    (h : ∀ A' c' w', Ow E w' base A' (n + m) c' (l ++ news) → w.grownBy w' (A.map (·.block)) → (A'.map (·.block) = A.map (·.block) ∨ A'.map (·.block) = some w.heap.size) → wpList P ops Q rest (a.put o.dst (.slice A' (n + m) c')) w') : wpList P ops Q (o :: rest) a w := by
  obtain ⟨i, hi, hz, hsz, hby⟩ := info_parts hinfo
  obtain ⟨A', c', w', hrun, h2, h3, h4⟩ := run_append_ow (P := P) hE w base t o.type i z bytes ht hi hz hsz hby hzs A n c l hown X m d hi' news hX hm h63 hbytes hbase
  refine wpList_plain hgd fun _ hK => ?_
  unfold Oper.wp execOp
  simp only [ho, resolve, invoke, builtin, Sem.run_bind, Sem.run_pure, Result.andThen_ok, List.map_toArray, List.map_cons, List.map_nil, hs, hx, hrun]
  exact hK _ _ (h A' c' w' h2 h3 h4)

/-- 'make([]T, n)', n a variable: n zero elements. -/
theorem wpList_make_ow {P : Program} {α : Type} {E : Enc α} (hE : EncOk E) (w : World) {ops : Array Oper} {rest : List Oper} {o : Oper} {a : Act} {Q : Exit → Act → World → Prop} (hgd : o.guard = none) (x y : Operand) (t : TypeId) (ho : o.op = Op.makeSlice t x y)
    (base : Nat) {z : Value} {bytes : Nat} (hinfo : (P.info? E.tid).map (fun i => (i.zero, i.size, i.bytes)) = some (some z, E.size, bytes)) (ht : P.underlying t = some (.slice E.tid)) (z0 : α) (hzs : z.cells.toList = E.cells z0)
    (kl kc : IntKind) (L C : Int) (n : Nat) (hl : a.eval x = .int kl L) (hc : a.eval y = .int kc C) (hL : L = (n : Int)) (hC : C = (n : Int)) (b2 : bytes * n ≤ 281474976710656) (b3 : n ≤ maxLen) (b4 : base ≤ w.heap.size)
    (h : ∀ w', Ow E w' base (some ⟨w.heap.size, 0, none⟩) n n (List.replicate n z0) → w.grownBy w' none → wpList P ops Q rest (a.put o.dst (.slice (some ⟨w.heap.size, 0, none⟩) n n)) w') : wpList P ops Q (o :: rest) a w := by
  obtain ⟨i, hi, hz, hsz, hby⟩ := info_parts hinfo
  refine wpList_make_full w hgd x y t ho base E.tid i z E.size ht hi hz hsz kl kc L C n hl hc hL hC (by rw [hby]; exact b2) b3 b4 fun w' h1 h2 => h w' ?_ h2
  unfold Ow
  have e : (madeCells z.cells (n * E.size)).toList = E.row (List.replicate n z0) := by
    have hzl : z.cells.size = E.size := by rw [← Array.length_toList, hzs, hE.len]
    apply List.ext_getElem?
    intro j
    rcases Nat.lt_or_ge j (n * E.size) with hj | hj
    · have hk : j / E.size < n := Nat.div_lt_of_lt_mul (by rw [Nat.mul_comm]; exact hj)
      have hr : j % E.size < E.size := Nat.mod_lt _ hE.pos
      have hd : j = j / E.size * E.size + j % E.size := by rw [Nat.mul_comm]; exact (Nat.div_add_mod j E.size).symm
      have h3 := hE.row_at (List.replicate n z0) (j / E.size) (j % E.size) z0 (by rw [List.getElem?_replicate, if_pos hk]) hr
      rw [← hd] at h3
      rw [h3, ← hzs]
      have hr2 : j % E.size < z.cells.size := by omega
      simp only [madeCells, Array.toList_map, Array.toList_range, List.getElem?_map, List.getElem?_range hj, Option.map_some, hzl, Array.getElem?_toList]
      rw [getElem!_pos z.cells _ hr2, Array.getElem?_eq_getElem hr2]
    · rw [List.getElem?_eq_none (by simpa [madeCells] using hj), List.getElem?_eq_none (by rw [hE.row_len]; simpa using hj)]
  rw [← e]
  exact h1

/-- Bytes. -/
def eB : Enc UInt8 := ⟨5, 1, fun b => [.int .u8 (b.toNat : Int)]⟩
theorem okB : EncOk eB := ⟨fun _ => rfl, fun a u hu => by simp only [eB, List.mem_singleton] at hu; subst hu; rfl, Nat.one_pos⟩
theorem info_u8 : (Tryz.prog.info? 5).map (fun i => (i.zero, i.size, i.bytes)) = some (some (.int .u8 0), 1, 1) := by kernel_rfl

section
variable {w w' : World} {base hi n c : Nat} {A : Option Addr} {l : List UInt8}
/-- One byte of a slice that reads as 'l'. -/
theorem Rd.byte (h : Rd eB w hi A l) {k : Nat} (hk : k < l.length) : ∃ g o x, A = some ⟨g, o, none⟩ ∧ g < hi ∧ l[k]? = some x ∧ w.cell? ⟨g, o + k, none⟩ = some (.int .u8 (x.toNat : Int)) := by
  obtain ⟨g, o, a, e, hg, ha, hc⟩ := h.at_ hk
  refine ⟨g, o, a, e, hg, ha, ?_⟩
  have := hc 0 _ rfl
  simpa [eB] using this
theorem Ow.byteAt {g : Nat} (h : Ow eB w base (some ⟨g, 0, none⟩) n c l) {k : Nat} {x : UInt8} (hk : l[k]? = some x) : w.cell? ⟨g, k, none⟩ = some (.int .u8 (x.toNat : Int)) := by
  have := h.cellAt okB hk (j := 0) (u := .int .u8 (x.toNat : Int)) rfl
  simpa [eB] using this
theorem Ow.byteSet {g : Nat} (h : Ow eB w base (some ⟨g, 0, none⟩) n c l) {k : Nat} (hk : k < n) (y : UInt8) :
    Ow eB (w.setCell ⟨g, k, none⟩ (.int .u8 (y.toNat : Int))) base (some ⟨g, 0, none⟩) n c (l.set k y) ∧ w.grownBy (w.setCell ⟨g, k, none⟩ (.int .u8 (y.toNat : Int))) (some g) := by
  have hl := h.len okB
  have := h.stored okB (k := k) (j := 0) (a' := y) (u := .int .u8 (y.toNat : Int)) (List.getElem?_eq_getElem (by omega)) Nat.one_pos rfl
  simpa [eB] using this
end
end Go.Proofs.YtmaillakhhdkfaaGreatDoor
/-
  A region that draws its order and holds calls that make memory: one walk in an order of our own serves every order. What only computes or reads is taken as soon as it may come, by what is known of EVERY world met from there on ('S'); a call is carried out where nothing else may come, and what is known grows behind it.
-/
namespace Go.Proofs.YtmaillakhhdkfaaGreatDoor
set_option maxRecDepth 20000
open Go.RowKit

section
variable {P : Program} {md : Region.Mode} {ops : Array Oper} {Q : Exit → Act → World → Prop}

theorem held_mono {S S' : World → Prop} (hs : ∀ x, S' x → S x) : ∀ (fuel : Nat) (listed : Array Bool) (a : Act) (w : World), wpAnyH P md ops Q S' fuel listed a w → wpAnyH P md ops Q S fuel listed a w
  | 0, _, _, _, h => h
  | fuel + 1, _, _, _, h => ⟨h.1, fun i hi => wpOp_mono (fun a' w' h' => ⟨hs _ h'.1, held_mono hs fuel _ a' w' h'.2⟩) (h.2 i hi)⟩

/-- The walk: operations in an order of ours ('true': a call), what is known of every world from here on, the frame, the world at hand. -/
def mixW (P : Program) (ops : Array Oper) (Q : Exit → Act → World → Prop) : List (Oper × Bool) → (World → Prop) → Act → World → Prop
  | [], _, a, w => Q .normal a w
  | (o, c) :: rest, S, a, w =>
    if Region.wanted o (yielded ops a.tmps) = true then
      if c = true then o.wp P a w (fun a' w' => ∃ S' : World → Prop, (∀ x, S' x → S x) ∧ S' w' ∧ mixW P ops Q rest S' a' w') Q
      else ∃ v, (∀ x, S x → (execOp a.eval o).run P x = .ok (.value v) x) ∧ mixW P ops Q rest S (a.put o.dst v) w
    else mixW P ops Q rest S (a.put o.dst undef) w

/-- The order fits the region: a call comes where nothing else may come. -/
def mixB (md : Region.Mode) (ops : Array Oper) : Array Bool → List (Nat × Bool) → Bool
  | listed, [] => (Region.ready md ops listed).isEmpty
  | listed, (k, c) :: p => (if c then Region.ready md ops listed == [k] else (Region.ready md ops listed).contains k && Region.free md ops listed k) && mixB md ops (listed.setIfInBounds k true) p

def mixOps (l : List Oper) (p : List (Nat × Bool)) : List (Oper × Bool) := p.map fun x => ((l[x.1]?).getD default, x.2)

theorem held_of_mix {l : List Oper} (hsel : Region.noSelect l.toArray = true) (hQ : ∀ c a (d : Nat) v w, Q (.panic c) (Act.put a (some d) v) w → Q (.panic c) a w) :
    ∀ (p : List (Nat × Bool)) (listed : Array Bool) (S : World → Prop) (a : Act) (w : World), (∀ x ∈ p, x.1 < l.length) → mixB md l.toArray listed p = true → S w → mixW P l.toArray Q (mixOps l p) S a w →
      wpAnyH P md l.toArray Q S p.length listed a w
  | [], listed, S, a, w, _, hB, _, h => wpAnyH_done (by simpa [mixB] using hB) h 0
  | (k, c) :: p, listed, S, a, w, hl, hB, hS, h => by
    have hk : k < l.length := hl (k, c) (by simp)
    obtain ⟨o, ho⟩ : ∃ o, l[k]? = some o := ⟨_, List.getElem?_eq_getElem hk⟩
    have hoa : l.toArray[k]? = some o := by simpa using ho
    simp only [mixB, Bool.and_eq_true] at hB
    obtain ⟨hb, hB'⟩ := hB
    have hQ' : ∀ c a d v w, Q (.panic c) (Act.put a d v) w → Q (.panic c) a w := fun c a d v w h => by
      cases d with
      | none => exact h
      | some d => exact hQ c a d v w h
    have ih := fun S a w => held_of_mix hsel hQ p (listed.setIfInBounds k true) S a w (fun x hx => hl x (by simp [hx])) hB'
    simp only [mixOps, List.map_cons, ho, Option.getD_some, mixW] at h
    cases c with
    | false =>
      simp only [Bool.false_eq_true, if_false, Bool.and_eq_true] at hb h
      by_cases hw : Region.wanted o (yielded l.toArray a.tmps) = true
      · rw [if_pos hw] at h
        obtain ⟨v, hv, h⟩ := h
        exact wpAnyH_take hoa hsel hb.2 hb.1 (fun c a w => hQ' c a _ _ w) (.inl ⟨hw, hv⟩) hS (ih S _ w hS h)
      · rw [if_neg hw] at h
        exact wpAnyH_take hoa hsel hb.2 hb.1 (fun c a w => hQ' c a _ _ w) (.inr ⟨by simpa using hw, rfl⟩) hS (ih S _ w hS h)
    | true =>
      simp only [if_true] at hb h
      refine wpAnyH_all (rs := [k]) (by simpa using hb) (by simp) fun i hi => ?_
      obtain rfl : i = k := by simpa using hi
      unfold wpOp
      rw [hoa]
      simp only
      by_cases hw : Region.wanted o (yielded l.toArray a.tmps) = true
      · rw [if_pos hw] at h ⊢
        have h1 : wpOp P l.toArray Q i (fun a' w' => ∃ S' : World → Prop, (∀ x, S' x → S x) ∧ S' w' ∧ mixW P l.toArray Q (mixOps l p) S' a' w') a w := by
          unfold wpOp
          rw [hoa]
          simp only
          rw [if_pos hw]
          exact .inl h
        have h2 := wpOp_mono (K' := fun a' w' => S w' ∧ wpAnyH P md l.toArray Q S p.length (listed.setIfInBounds i true) a' w') (fun a' w' ⟨S', h1, h2, h3⟩ => ⟨h1 _ h2, held_mono h1 _ _ _ _ (ih S' a' w' h2 h3)⟩) h1
        unfold wpOp at h2
        rw [hoa] at h2
        simp only at h2
        rwa [if_pos hw] at h2
      · rw [if_neg hw] at h ⊢
        exact ⟨hS, ih S _ w hS h⟩

theorem wp_region_mix {id : Nat} {l : List Oper} {a : Act} {w : World} (p : List (Nat × Bool)) (S : World → Prop) (hm : P.follows .mixedOrders = true)
    (hB : (Region.noSelect l.toArray && (mixB .any l.toArray (Array.replicate l.length false) p && (p.length == l.length && p.all fun x => decide (x.1 < l.length)))) = true)
    (hQ : ∀ c a (d : Nat) v w, Q (.panic c) (Act.put a (some d) v) w → Q (.panic c) a w) (hS : S w.drew) (h : mixW P l.toArray Q (mixOps l p) S a w.drew) : (Code.region id l.toArray true).wp P Q a w := by
  simp only [Bool.and_eq_true, beq_iff_eq, List.all_eq_true, decide_eq_true_eq] at hB
  obtain ⟨h1, h2, h3, h4⟩ := hB
  refine wp_region_held (S := S) hm ?_
  have := held_of_mix (P := P) (md := .any) h1 hQ p (Array.replicate l.length false) S a w.drew (fun x hx => h4 x hx) h2 hS h
  rw [h3] at this
  simpa using this

theorem mix_pure {o : Oper} {rest : List (Oper × Bool)} {S : World → Prop} {a : Act} {w : World} {v : Value} (hw : Region.wanted o (yielded ops a.tmps) = true)
    (hv : ∀ x, S x → (execOp a.eval o).run P x = .ok (.value v) x) (h : mixW P ops Q rest S (a.put o.dst v) w) : mixW P ops Q ((o, false) :: rest) S a w := by
  unfold mixW
  rw [if_pos hw, if_neg (by simp)]
  exact ⟨v, hv, h⟩
theorem mix_skip {o : Oper} {c : Bool} {rest : List (Oper × Bool)} {S : World → Prop} {a : Act} {w : World} (hw : Region.wanted o (yielded ops a.tmps) = false)
    (h : mixW P ops Q rest S (a.put o.dst undef) w) : mixW P ops Q ((o, c) :: rest) S a w := by
  unfold mixW
  rw [if_neg (by simp [hw])]
  exact h
/-- A call: its contract's post, then a new 'S'. -/
theorem mix_call {o : Oper} {rest : List (Oper × Bool)} {S : World → Prop} {a : Act} {w : World} (hw : Region.wanted o (yielded ops a.tmps) = true)
    (h : ∀ K : Act → World → Prop, (∀ a' w' (S' : World → Prop), (∀ x, S' x → S x) → S' w' → mixW P ops Q rest S' a' w' → K a' w') → o.wp P a w K Q) : mixW P ops Q ((o, true) :: rest) S a w := by
  unfold mixW
  rw [if_pos hw, if_pos rfl]
  exact h _ fun a' w' S' h1 h2 h3 => ⟨S', h1, h2, h3⟩
theorem mix_nil {S : World → Prop} {a : Act} {w : World} (h : Q .normal a w) : mixW P ops Q [] S a w := h
end
end Go.Proofs.YtmaillakhhdkfaaGreatDoor
/-
  Samples and their keys: what is ahead of what; the program's compare by the first difference, and the model's.
-/
namespace Go.Proofs.YtmaillakhhdkfaaGreatDoor
set_option maxRecDepth 20000
open Go.RowKit
set_option linter.unusedSimpArgs false

/-- A sample's four numbers. -/
abbrev Smp := Int × Int × Int × Int

def cmpM (x y : Int) : Int := if x < y then -1 else if y < x then 1 else 0
def orM (l : List Int) : Int := (l.find? fun x => decide (x ≠ 0)).getD 0
def keysM (a b : Smp) : Int := orM [cmpM a.1 b.1, cmpM a.2.1 b.2.1, cmpM a.2.2.1 b.2.2.1]
def aheadM (a b : Smp) : Bool := if a.1 = b.1 then decide (a.2.1 < b.2.1) || (decide (a.2.1 = b.2.1) && decide (a.2.2.1 < b.2.2.1)) else decide (a.1 < b.1)
def sameKeyM (a b : Smp) : Bool := decide (a.1 = b.1) && (decide (a.2.1 = b.2.1) && decide (a.2.2.1 = b.2.2.1))

theorem cmpM_range (x y : Int) : cmpM x y = -1 ∧ x < y ∨ cmpM x y = 0 ∧ x = y ∨ cmpM x y = 1 ∧ y < x := by
  unfold cmpM
  split
  · exact .inl ⟨rfl, by assumption⟩
  · split
    · exact .inr (.inr ⟨rfl, by assumption⟩)
    · exact .inr (.inl ⟨rfl, by omega⟩)
theorem orM_cons (x : Int) (l : List Int) : orM (x :: l) = if x = 0 then orM l else x := by
  unfold orM
  rw [List.find?_cons]
  split
  · rename_i h
    simp only [decide_eq_true_eq] at h
    simp [h]
  · rename_i h
    simp only [decide_eq_false_iff_not, ne_eq, Decidable.not_not] at h
    simp [h]

theorem orM_nil : orM [] = 0 := rfl
theorem keysM_ahead (a b : Smp) : decide (keysM a b < 0) = aheadM a b := by
  obtain ⟨a0, a1, a2, a3⟩ := a
  obtain ⟨b0, b1, b2, b3⟩ := b
  unfold keysM aheadM
  simp only [orM_cons, orM_nil]
  rcases cmpM_range a0 b0 with ⟨h0, k0⟩ | ⟨h0, k0⟩ | ⟨h0, k0⟩
  · have n0 : ¬ a0 = b0 := by omega
    simp [h0, n0, k0]
  · subst k0
    rcases cmpM_range a1 b1 with ⟨h1, k1⟩ | ⟨h1, k1⟩ | ⟨h1, k1⟩
    · have n1 : ¬ a1 = b1 := by omega
      simp [h0, h1, n1, k1]
    · subst k1
      rcases cmpM_range a2 b2 with ⟨h2, k2⟩ | ⟨h2, k2⟩ | ⟨h2, k2⟩
      · have n2 : ¬ a2 = b2 := by omega
        simp [h0, h1, h2, n2, k2]
      · subst k2
        simp [h0, h1, h2]
      · have n2 : ¬ a2 = b2 := by omega
        have m2 : ¬ a2 < b2 := by omega
        have m2' : b2 ≤ a2 := by omega
        simp [h0, h1, h2, n2, m2, m2']
    · have n1 : ¬ a1 = b1 := by omega
      have m1 : ¬ a1 < b1 := by omega
      have m1' : b1 ≤ a1 := by omega
      simp [h0, h1, n1, m1, m1']
  · have n0 : ¬ a0 = b0 := by omega
    have m0 : ¬ a0 < b0 := by omega
    have m0' : b0 ≤ a0 := by omega
    simp [h0, n0, m0, m0']
theorem isNaN64 (a : Int) (w : World) : Calls Tryz.prog 166 #[.int .i64 a] w fun e w' => e = .returned (.bool false) ∧ w' = w := by
  have hf : (a != a) = false := by simp
  go_enter Tryz.func166, Tryz.ntmps166
  go_wp2
  go_ret
  exact ⟨rfl, rfl⟩

set_option maxHeartbeats 400000 in
theorem cmpCompare (a b : Int) (w : World) : Calls Tryz.prog 156 #[.int .i64 a, .int .i64 b] w fun e w' => e = .returned (.int .i64 (cmpM a b)) ∧ w' = w := by
  rcases cmpM_range a b with ⟨h, k⟩ | ⟨h, k⟩ | ⟨h, k⟩
  all_goals
    have H := Lib.hid h
    clear h
    first
      | (have k2 : ¬ b < a := by omega)
      | skip
    go_enter Tryz.func156, Tryz.ntmps156
    go_wp2_with (go_at_call 166; refine (isNaN64 _ _).mono ?_; rintro e w1 ⟨rfl, rfl⟩)
    go_ret
    exact ⟨by rw [H.out]; rfl, rfl⟩

/-- A row of numbers. -/
def Ints (w : World) (g : Nat) (l : List Int) : Prop := ∀ (k : Nat) (x : Int), l[k]? = some x → w.cell? ⟨g, k, none⟩ = some (.int .i64 x)
def OrRel (w : World) (l : List Int) (n : Nat) (i : Value) (wr : World) : Prop :=
  ∃ k : Nat, k ≤ n ∧ i = .int .i64 k ∧ orM (l.drop k) = orM l ∧ wr = w

set_option maxHeartbeats 400000 in
theorem cmpOr (g n c : Nat) (l : List Int) (w : World) (hl : Ints w g l) (hn : l.length = n) (hm : n ≤ 1000) :
    Calls Tryz.prog 162 #[.slice (some ⟨g, 0, none⟩) n c] w fun e w' => e = .returned (.int .i64 (orM l)) ∧ w' = w := by
  have Hn := Lib.hid hn
  clear hn
  go_enter Tryz.func162, Tryz.ntmps162
  go_wp2
  go_loopw [8] (fun i wr => OrRel w l n i wr) (fun i _ => n - (intOf i).toNat)
  case atStart => exact ⟨0, Nat.zero_le _, rfl, rfl, rfl⟩
  case round =>
    obtain ⟨k, hk, rfl, hd, rfl⟩ := hrel
    have Hd := Lib.hid hd
    clear hd
    by_cases hlt : k < n
    · have hkl : k < l.length := by rw [Hn.out]; exact hlt
      obtain ⟨x, hx⟩ : ∃ x, l[k]? = some x := ⟨l[k], List.getElem?_eq_getElem hkl⟩
      have hc := hl k x hx
      have Ho := Lib.hid (show orM (l.drop k) = if x = 0 then orM (l.drop (k + 1)) else x by
        rw [List.drop_eq_getElem_cons hkl, orM_cons]
        rw [List.getElem?_eq_getElem hkl] at hx
        rw [Option.some.inj hx])
      clear hx
      by_cases h0 : x = 0
      · subst h0
        go_wp2
        refine ⟨⟨k + 1, by omega, by go_num, ?_, rfl⟩, by simp [intOf]; omega⟩
        have := Ho.out
        rw [if_pos rfl] at this
        rw [← this]
        exact Hd.out
      · have hne : (x != 0) = true := by simpa using h0
        have Hx := Lib.hid (show orM l = x by rw [← Hd.out, Ho.out, if_neg h0])
        clear h0
        go_wp2
        go_ret
        exact ⟨by rw [Hx.out]; rfl, rfl⟩
    · obtain rfl : k = n := by omega
      have Hf := Lib.hid (show orM l = 0 by rw [← Hd.out, List.drop_eq_nil_of_le (Nat.le_of_eq Hn.out)]; rfl)
      go_wp2
      go_ret
      exact ⟨by rw [Hf.out]; rfl, rfl⟩
end Go.Proofs.YtmaillakhhdkfaaGreatDoor
/-
  What is ahead of what, and what has one key: the program's answers and the model's.
-/
namespace Go.Proofs.YtmaillakhhdkfaaGreatDoor
set_option maxRecDepth 20000
open Go.RowKit

theorem ints_three {w : World} {t : TypeId} {x y z : Int} {g : Nat} (hg : w.heap.size = g) : Ints ((w.alloc (.cells #[.int .i64 x, .int .i64 y, .int .i64 z] t)).drew) g [x, y, z] := by
  subst hg
  have h := At.new w t #[.int .i64 x, .int .i64 y, .int .i64 z]
  intro k u hk
  match k, hk with
  | 0, hk => obtain rfl : x = u := by simpa using hk
             exact h.cell 0
  | 1, hk => obtain rfl : y = u := by simpa using hk
             exact h.cell 1
  | 2, hk => obtain rfl : z = u := by simpa using hk
             exact h.cell 2
  | k + 3, hk => simp at hk

set_option maxHeartbeats 1000000 in
set_option maxRecDepth 2000 in
theorem compareKeys (a0 a1 a2 a3 b0 b1 b2 b3 : Int) (w : World) :
    Calls Tryz.prog 152 #[.agg #[.int .i64 a0, .int .i64 a1, .int .i64 a2, .int .i64 a3], .agg #[.int .i64 b0, .int .i64 b1, .int .i64 b2, .int .i64 b3]] w fun e w' =>
      e = .returned (.int .i64 (keysM (a0, a1, a2, a3) (b0, b1, b2, b3))) ∧ Below w.heap.size w w' := by
  go_enter Tryz.func152, Tryz.ntmps152
  go_wp2
  refine wp_region_mix [(0, false), (1, false), (2, false), (3, false), (5, false), (6, false), (7, false), (8, false), (10, false), (11, false), (12, false), (13, false), (4, true), (9, true), (14, true), (15, true), (16, true), (17, false)] (fun u => u.cell? ⟨w.heap.size, 0, none⟩ = some (.int .i64 a0) ∧ u.cell? ⟨w.heap.size, 1, none⟩ = some (.int .i64 a1) ∧ u.cell? ⟨w.heap.size, 2, none⟩ = some (.int .i64 a2) ∧ u.cell? ⟨w.heap.size + 1, 0, none⟩ = some (.int .i64 b0) ∧ u.cell? ⟨w.heap.size + 1, 1, none⟩ = some (.int .i64 b1) ∧ u.cell? ⟨w.heap.size + 1, 2, none⟩ = some (.int .i64 b2)) (by kernel_rfl) (by kernel_rfl) (fun _ _ _ _ _ h => h) (by go_simp) ?_
  simp only [mixOps, List.map_cons, List.map_nil, List.getElem?_cons_succ, List.getElem?_cons_zero, Option.getD_some]
  repeat (first
    | (refine mix_skip (by rfl) ?_
       (try simp only [Act.put, List.setIfInBounds_toArray, List.set_cons_zero, List.set_cons_succ]))
    | (refine mix_pure (v := ?_) (by rfl) (fun u hu => ?_) ?_
       rotate_left
       · obtain ⟨_, _, _, _, _, _⟩ := hu
         go_simp
         (with_reducible rfl)
       (try simp only [Act.put, List.setIfInBounds_toArray, List.set_cons_zero, List.set_cons_succ])))
  iterate 3
    refine mix_call (by rfl) (fun K hK => ?_)
    go_simp
    refine (cmpCompare _ _ _).mono ?_
    rintro e w1 ⟨rfl, rfl⟩
    refine hK _ _ _ (fun _ h => h) (by go_simp) ?_
    (try simp only [Act.put, List.setIfInBounds_toArray, List.set_cons_zero, List.set_cons_succ])
  refine mix_call (by rfl) (fun K hK => ?_)
  go_simp
  refine hK _ _ _ (fun _ h => h) (by go_simp) ?_
  (try simp only [Act.put, List.setIfInBounds_toArray, List.set_cons_zero, List.set_cons_succ])
  refine mix_call (by rfl) (fun K hK => ?_)
  go_simp
  refine (cmpOr _ 3 _ [cmpM a0 b0, cmpM a1 b1, cmpM a2 b2] _ (ints_three (by simp)) rfl (by omega)).mono ?_
  rintro e w1 ⟨rfl, rfl⟩
  refine hK _ _ _ (fun _ h => h) (by go_simp) ?_
  (try simp only [Act.put, List.setIfInBounds_toArray, List.set_cons_zero, List.set_cons_succ])
  refine mix_pure (v := ?_) (by rfl) (fun u hu => ?_) ?_
  rotate_left
  · go_simp
    (with_reducible rfl)
  (try simp only [Act.put, List.setIfInBounds_toArray, List.set_cons_zero, List.set_cons_succ])
  refine mix_nil ?_
  go_wp2
  go_ret
  exact ⟨rfl, (((Below.refl _ _).alloc (Nat.le_refl _) _).alloc (by simp) _).alloc (by simp; omega) _ |>.drew⟩

theorem implIsAhead (a0 a1 a2 a3 b0 b1 b2 b3 : Int) (w : World) :
    Calls Tryz.prog 140 #[.agg #[.int .i64 a0, .int .i64 a1, .int .i64 a2, .int .i64 a3], .agg #[.int .i64 b0, .int .i64 b1, .int .i64 b2, .int .i64 b3]] w fun e w' =>
      e = .returned (.bool (aheadM (a0, a1, a2, a3) (b0, b1, b2, b3))) ∧ Below w.heap.size w w' := by
  go_enter Tryz.func140, Tryz.ntmps140
  go_wp2_with (go_at_call 152; refine (compareKeys a0 a1 a2 a3 b0 b1 b2 b3 _).mono ?_; rintro e w1 ⟨rfl, hb1⟩)
  go_ret
  exact ⟨by rw [← keysM_ahead]; rfl, (((Below.refl _ _).alloc (Nat.le_refl _) _).alloc (by simp) _).trans (hb1.mono (by simp; omega))⟩

theorem specIsAhead (a0 a1 a2 a3 b0 b1 b2 b3 : Int) (w : World) :
    Calls Tryz.prog 116 #[.agg #[.int .i64 a0, .int .i64 a1, .int .i64 a2, .int .i64 a3], .agg #[.int .i64 b0, .int .i64 b1, .int .i64 b2, .int .i64 b3]] w fun e w' =>
      e = .returned (.bool (aheadM (a0, a1, a2, a3) (b0, b1, b2, b3))) ∧ Below w.heap.size w w' := by
  by_cases h0 : a0 = b0
  · subst h0
    have hm : aheadM (a0, a1, a2, a3) (a0, b1, b2, b3) = (decide (a1 < b1) || (decide (a1 = b1) && decide (a2 < b2))) := by simp [aheadM]
    have h00 : (a0 != a0) = false := by simp
    have Hm := Lib.hid hm
    clear hm
    by_cases h1 : a1 < b1
    · have d1 := decide_eq_true h1
      go_enter Tryz.func116, Tryz.ntmps116
      go_wp2
      go_ret
      exact ⟨by rw [Hm.out, d1]; rfl, ((Below.refl _ _).alloc (Nat.le_refl _) _).alloc (by simp) _⟩
    · have d1 := decide_eq_false h1
      by_cases h2 : a1 = b1
      · subst h2
        have d2 : (a1 == a1) = true := by simp
        go_enter Tryz.func116, Tryz.ntmps116
        go_wp2
        go_ret
        exact ⟨by rw [Hm.out]; simp, ((Below.refl _ _).alloc (Nat.le_refl _) _).alloc (by simp) _⟩
      · have d2 : (a1 == b1) = false := by simpa using h2
        have Hd := Lib.hid (decide_eq_false h2)
        clear h2
        go_enter Tryz.func116, Tryz.ntmps116
        go_wp2
        go_ret
        exact ⟨by rw [Hm.out, d1, Hd.out]; rfl, ((Below.refl _ _).alloc (Nat.le_refl _) _).alloc (by simp) _⟩
  · have hm : aheadM (a0, a1, a2, a3) (b0, b1, b2, b3) = decide (a0 < b0) := by simp [aheadM, h0]
    have hne : (a0 != b0) = true := by rw [bne_iff_ne]; exact h0
    have Hm := Lib.hid hm
    clear hm h0
    go_enter Tryz.func116, Tryz.ntmps116
    go_wp2
    go_ret
    exact ⟨by rw [Hm.out]; rfl, ((Below.refl _ _).alloc (Nat.le_refl _) _).alloc (by simp) _⟩

theorem specIsSameKey (a0 a1 a2 a3 b0 b1 b2 b3 : Int) (w : World) :
    Calls Tryz.prog 139 #[.agg #[.int .i64 a0, .int .i64 a1, .int .i64 a2, .int .i64 a3], .agg #[.int .i64 b0, .int .i64 b1, .int .i64 b2, .int .i64 b3]] w fun e w' =>
      e = .returned (.bool (sameKeyM (a0, a1, a2, a3) (b0, b1, b2, b3))) ∧ Below w.heap.size w w' := by
  have Hm := Lib.hid (show sameKeyM (a0, a1, a2, a3) (b0, b1, b2, b3) = (decide (a0 = b0) && (decide (a1 = b1) && decide (a2 = b2))) from rfl)
  by_cases h0 : a0 = b0
  · subst h0
    have d0 : (a0 == a0) = true := by simp
    by_cases h1 : a1 = b1
    · subst h1
      have d1 : (a1 == a1) = true := by simp
      go_enter Tryz.func139, Tryz.ntmps139
      go_wp2
      go_ret
      exact ⟨by rw [Hm.out]; simp; rfl, ((Below.refl _ _).alloc (Nat.le_refl _) _).alloc (by simp) _⟩
    · have d1 : (a1 == b1) = false := by simpa using h1
      have Hd := Lib.hid (decide_eq_false h1)
      clear h1
      go_enter Tryz.func139, Tryz.ntmps139
      go_wp2
      go_ret
      exact ⟨by rw [Hm.out, Hd.out]; simp, ((Below.refl _ _).alloc (Nat.le_refl _) _).alloc (by simp) _⟩
  · have d0 : (a0 == b0) = false := by simpa using h0
    have Hd := Lib.hid (decide_eq_false h0)
    clear h0
    go_enter Tryz.func139, Tryz.ntmps139
    go_wp2
    go_ret
    exact ⟨by rw [Hm.out, Hd.out]; rfl, ((Below.refl _ _).alloc (Nat.le_refl _) _).alloc (by simp) _⟩

theorem At.four {w : World} {g : Nat} {t : TypeId} {a b c d : Value} (h : At w g t #[a, b, c, d]) : w.cell? ⟨g, 0, none⟩ = some a ∧ w.cell? ⟨g, 1, none⟩ = some b ∧ w.cell? ⟨g, 2, none⟩ = some c ∧ w.cell? ⟨g, 3, none⟩ = some d ∧ w.frozen? ⟨g, 0, none⟩ = false ∧ w.frozen? ⟨g, 1, none⟩ = false ∧ w.frozen? ⟨g, 2, none⟩ = false ∧ w.frozen? ⟨g, 3, none⟩ = false :=
  ⟨h.cell 0, h.cell 1, h.cell 2, h.cell 3, h.frozen 0, h.frozen 1, h.frozen 2, h.frozen 3⟩
theorem At.drew {w : World} {g : Nat} {t : TypeId} {cs : Array Value} (h : At w g t cs) : At w.drew g t cs := h
end Go.Proofs.YtmaillakhhdkfaaGreatDoor
namespace Go.Proofs.YtmaillakhhdkfaaGreatDoor
set_option maxRecDepth 20000
open Go.RowKit

def inB (b : Int × Int × Int) : Bool := decide (b.2.1 ≤ b.1) && decide (b.1 ≤ b.2.2)

/-- A row of bounds: three numbers each. -/
def Bnds (w : World) (g : Nat) (bs : List (Int × Int × Int)) : Prop :=
  ∀ (k : Nat) (b : Int × Int × Int), bs[k]? = some b → w.cell? ⟨g, k * 3, none⟩ = some (.int .i64 b.1) ∧ w.cell? ⟨g, k * 3 + 1, none⟩ = some (.int .i64 b.2.1) ∧ w.cell? ⟨g, k * 3 + 2, none⟩ = some (.int .i64 b.2.2)

def BoundRel (w : World) (bs : List (Int × Int × Int)) (n : Nat) (i : Value) (wr : World) : Prop :=
  ∃ k : Nat, k ≤ n ∧ i = .int .i64 k ∧ (∀ j b, j < k → bs[j]? = some b → inB b = true) ∧ Below w.heap.size w wr

theorem all_no {bs : List (Int × Int × Int)} {k : Nat} {b : Int × Int × Int} (h : bs[k]? = some b) (hb : inB b = false) : bs.all inB = false := by
  rw [List.all_eq_false]
  exact ⟨b, List.mem_of_getElem? h, by simp [hb]⟩
theorem all_yes {bs : List (Int × Int × Int)} {n : Nat} (hn : bs.length = n) (h : ∀ j b, j < n → bs[j]? = some b → inB b = true) : bs.all inB = true := by
  rw [List.all_eq_true]
  intro b hb
  obtain ⟨j, hj⟩ := List.mem_iff_getElem?.1 hb
  have hl : j < bs.length := by
    rcases Nat.lt_or_ge j bs.length with h1 | h1
    · exact h1
    · rw [List.getElem?_eq_none h1] at hj; cases hj
  exact h j b (by omega) hj

set_option maxHeartbeats 400000 in
theorem areWithin_any (g n c : Nat) (bs : List (Int × Int × Int)) (w : World) (hb : Bnds w g bs) (hg : g < w.heap.size) (hn : bs.length = n) (hm : n ≤ 1000) :
    Calls Tryz.prog 73 #[.slice (some ⟨g, 0, none⟩) n c] w fun e w' => e = .returned (.bool (bs.all inB)) ∧ Below w.heap.size w w' := by
  have Hn := Lib.hid hn
  clear hn
  go_enter Tryz.func73, Tryz.ntmps73
  go_wp2
  go_loopw [7] (fun i wr => BoundRel w bs n i wr) (fun i _ => n - (intOf i).toNat)
  case atStart => exact ⟨0, Nat.zero_le _, rfl, fun _ _ h => absurd h (by omega), Below.refl _ _⟩
  case round =>
    obtain ⟨k, hk, rfl, hal, hbel⟩ := hrel
    have Hal := Lib.hid hal
    clear hal
    by_cases hlt : k < n
    · obtain ⟨b, hb0⟩ : ∃ b, bs[k]? = some b := ⟨bs[k]'(by rw [Hn.out]; exact hlt), List.getElem?_eq_getElem (by rw [Hn.out]; exact hlt)⟩
      obtain ⟨c0, c1, c2⟩ := hb k b hb0
      have hsz := hbel.size
      rw [← hbel.cell (p := ⟨g, k * 3, none⟩) hg] at c0
      rw [← hbel.cell (p := ⟨g, k * 3 + 1, none⟩) hg] at c1
      rw [← hbel.cell (p := ⟨g, k * 3 + 2, none⟩) hg] at c2
      have Hb0 := Lib.hid hb0
      clear hb0
      obtain ⟨x, lo, hi⟩ := b
      go_wp2
      · have Hf := Lib.hid (all_no Hb0.out (show inB (x, lo, hi) = false by simp only [inB, Bool.and_eq_false_iff, decide_eq_false_iff_not]; omega))
        go_ret
        exact ⟨by rw [Hf.out]; rfl, hbel.alloc hsz _⟩
      · refine ⟨⟨k + 1, by omega, by go_num, fun j b hj hb => ?_, hbel.alloc hsz _⟩, by simp [intOf]; omega⟩
        rcases Nat.lt_or_ge j k with h | h
        · exact Hal.out j b h hb
        · obtain rfl : j = k := by omega
          obtain rfl : (x, lo, hi) = b := Option.some.inj (Hb0.out.symm.trans hb)
          simp only [inB, Bool.and_eq_true, decide_eq_true_eq]
          omega
      · have Hf := Lib.hid (all_no Hb0.out (show inB (x, lo, hi) = false by simp only [inB, Bool.and_eq_false_iff, decide_eq_false_iff_not]; omega))
        go_ret
        exact ⟨by rw [Hf.out]; rfl, hbel.alloc hsz _⟩
    · have hfin : bs.all inB = true := all_yes Hn.out (by obtain rfl : k = n := by omega
                                                          exact Hal.out)
      have Hf := Lib.hid hfin
      clear hfin
      go_wp2
      go_ret
      exact ⟨by rw [Hf.out]; rfl, hbel⟩

/-- One bound, told out of hand. -/
theorem bnds_one {w : World} {t : TypeId} {x lo hi : Int} {g : Nat} (hg : w.heap.size = g) : Bnds (w.alloc (.cells #[.int .i64 x, .int .i64 lo, .int .i64 hi] t)) g [(x, lo, hi)] := by
  subst hg
  intro k b hk
  match k, hk with
  | 0, hk =>
    obtain rfl : (x, lo, hi) = b := by simpa using hk
    refine ⟨?_, ?_, ?_⟩ <;> (rw [cell_of_row _ _ _ _ _ _ (heap_alloc_new w _)]; rfl)
  | k + 1, hk => simp at hk
theorem bnds_two {w : World} {t : TypeId} {x lo hi x' lo' hi' : Int} {g : Nat} (hg : w.heap.size = g) : Bnds (w.alloc (.cells #[.int .i64 x, .int .i64 lo, .int .i64 hi, .int .i64 x', .int .i64 lo', .int .i64 hi'] t)) g [(x, lo, hi), (x', lo', hi')] := by
  subst hg
  intro k b hk
  match k, hk with
  | 0, hk =>
    obtain rfl : (x, lo, hi) = b := by simpa using hk
    refine ⟨?_, ?_, ?_⟩ <;> (rw [cell_of_row _ _ _ _ _ _ (heap_alloc_new w _)]; rfl)
  | 1, hk =>
    obtain rfl : (x', lo', hi') = b := by simpa using hk
    refine ⟨?_, ?_, ?_⟩ <;> (rw [cell_of_row _ _ _ _ _ _ (heap_alloc_new w _)]; rfl)
  | k + 2, hk => simp at hk

set_option maxHeartbeats 400000 in
theorem isWordSize_any (n : Int) (w : World) :
    Calls Tryz.prog 82 #[.int .i64 n] w fun e w' => e = .returned (.bool (inB (n, 1, 4))) ∧ Below w.heap.size w w' := by
  go_enter Tryz.func82, Tryz.ntmps82
  go_wp2_with (go_at_call 73; refine (areWithin_any _ _ _ [(n, 1, 4)] _ (bnds_one (by simp)) (by simp) rfl (by simp)).mono ?_; rintro e w' ⟨rfl, hb⟩)
  go_ret
  exact ⟨by simp, ((Below.refl _ _).alloc (Nat.le_refl _) _).trans (hb.mono (by simp))⟩

theorem l1In_any (v lo hi : Int) (w : World) :
    Calls Tryz.prog 67 #[.int .i64 v, .int .i64 lo, .int .i64 hi] w fun e w' => e = .returned (.bool (inB (v, lo, hi))) ∧ w = w' := by
  by_cases h1 : lo ≤ v
  · by_cases h2 : v ≤ hi
    · have Hf := Lib.hid (show inB (v, lo, hi) = true by simp only [inB, Bool.and_eq_true, decide_eq_true_eq]; omega)
      go_enter Tryz.func67, Tryz.ntmps67
      go_wp2
      go_ret
      exact ⟨by rw [Hf.out]; simp, rfl⟩
    · have Hf := Lib.hid (show inB (v, lo, hi) = false by simp only [inB, Bool.and_eq_false_iff, decide_eq_false_iff_not]; omega)
      go_enter Tryz.func67, Tryz.ntmps67
      go_wp2
      go_ret
      exact ⟨by rw [Hf.out]; simp, rfl⟩
  · have h3 : decide (lo ≤ v) = false := by simpa using h1
    have Hf := Lib.hid (show inB (v, lo, hi) = false by simp only [inB, Bool.and_eq_false_iff, decide_eq_false_iff_not]; omega)
    go_enter Tryz.func67, Tryz.ntmps67
    go_wp2
    go_ret
    exact ⟨by rw [Hf.out]; rfl, rfl⟩
end Go.Proofs.YtmaillakhhdkfaaGreatDoor
/-
  A sample's bounds: SampleFault on both sides, and the table of fields that the program reads.
-/
namespace Go.Proofs.YtmaillakhhdkfaaGreatDoor
set_option maxRecDepth 20000
open Go.RowKit

/-- The table's cells. -/
def fldCells : List Value := [.int .i64 0, .int .i64 1, .int .i64 0, .int .i64 9, .int .i64 1, .int .i64 2, .int .i64 0, .int .i64 999, .int .i64 3, .int .i64 2, .int .i64 0, .int .i64 9999, .int .i64 5, .int .i64 2, .int .i64 (-1000), .int .i64 1000]
/-- The program's table of fields, as start-up laid it. -/
def Flds (w : World) : Prop := ∀ (i : Nat) (u : Value), fldCells[i]? = some u → w.cell? ⟨1, i, none⟩ = some u
theorem Flds.pos {w : World} (h : Flds w) : 1 < w.heap.size := World.block_lt_of_cell? w ⟨1, 0, none⟩ (h 0 _ rfl)
theorem Flds.below {w w' : World} (h : Flds w) (hb : Below w.heap.size w w') : Flds w' := fun i u hu => by
  rw [hb.cell (p := ⟨1, i, none⟩) h.pos]
  exact h i u hu
theorem Flds.all {w : World} (h : Flds w) : w.cell? ⟨1, 0, none⟩ = some (.int .i64 0) ∧ w.cell? ⟨1, 1, none⟩ = some (.int .i64 1) ∧ w.cell? ⟨1, 2, none⟩ = some (.int .i64 0) ∧ w.cell? ⟨1, 3, none⟩ = some (.int .i64 9) ∧ w.cell? ⟨1, 4, none⟩ = some (.int .i64 1) ∧ w.cell? ⟨1, 5, none⟩ = some (.int .i64 2) ∧ w.cell? ⟨1, 6, none⟩ = some (.int .i64 0) ∧ w.cell? ⟨1, 7, none⟩ = some (.int .i64 999) ∧ w.cell? ⟨1, 8, none⟩ = some (.int .i64 3) ∧ w.cell? ⟨1, 9, none⟩ = some (.int .i64 2) ∧ w.cell? ⟨1, 10, none⟩ = some (.int .i64 0) ∧ w.cell? ⟨1, 11, none⟩ = some (.int .i64 9999) ∧ w.cell? ⟨1, 12, none⟩ = some (.int .i64 5) ∧ w.cell? ⟨1, 13, none⟩ = some (.int .i64 2) ∧ w.cell? ⟨1, 14, none⟩ = some (.int .i64 (-1000)) ∧ w.cell? ⟨1, 15, none⟩ = some (.int .i64 1000) :=
  ⟨h 0 _ rfl, h 1 _ rfl, h 2 _ rfl, h 3 _ rfl, h 4 _ rfl, h 5 _ rfl, h 6 _ rfl, h 7 _ rfl, h 8 _ rfl, h 9 _ rfl, h 10 _ rfl, h 11 _ rfl, h 12 _ rfl, h 13 _ rfl, h 14 _ rfl, h 15 _ rfl⟩

/-- An answer of a code and a sample. -/
def RetSR (r : Int × Smp) (w : World) (e : Ending) (w' : World) : Prop :=
  e = .returned (.agg #[.int .i64 r.1, .int .i64 r.2.1, .int .i64 r.2.2.1, .int .i64 r.2.2.2.1, .int .i64 r.2.2.2.2]) ∧ Below w.heap.size w w'
def RetS (r : Smp) (w : World) (e : Ending) (w' : World) : Prop :=
  e = .returned (.agg #[.int .i64 r.1, .int .i64 r.2.1, .int .i64 r.2.2.1, .int .i64 r.2.2.2]) ∧ Below w.heap.size w w'

theorem At.five {w : World} {g : Nat} {t : TypeId} {a b c d e : Value} (h : At w g t #[a, b, c, d, e]) : w.cell? ⟨g, 0, none⟩ = some a ∧ w.cell? ⟨g, 1, none⟩ = some b ∧ w.cell? ⟨g, 2, none⟩ = some c ∧ w.cell? ⟨g, 3, none⟩ = some d ∧ w.cell? ⟨g, 4, none⟩ = some e ∧ w.frozen? ⟨g, 0, none⟩ = false ∧ w.frozen? ⟨g, 1, none⟩ = false ∧ w.frozen? ⟨g, 2, none⟩ = false ∧ w.frozen? ⟨g, 3, none⟩ = false ∧ w.frozen? ⟨g, 4, none⟩ = false :=
  ⟨h.cell 0, h.cell 1, h.cell 2, h.cell 3, h.cell 4, h.frozen 0, h.frozen 1, h.frozen 2, h.frozen 3, h.frozen 4⟩

def bndsM (x : Smp) : List (Int × Int × Int) := [(x.1, 0, 9), (x.2.1, 0, 999), (x.2.2.1, 0, 9999), (x.2.2.2, -1000, 1000)]
def faultM (x : Smp) : Int := if (bndsM x).all inB then 0 else 3

theorem numbersOf (a0 a1 a2 a3 : Int) (w : World) :
    Calls Tryz.prog 111 #[.agg #[.int .i64 a0, .int .i64 a1, .int .i64 a2, .int .i64 a3]] w fun e w' => e = .returned (.agg #[.int .i64 a0, .int .i64 a1, .int .i64 a2, .int .i64 a3]) ∧ Below w.heap.size w w' := by
  go_enter Tryz.func111, Tryz.ntmps111
  go_wp2
  refine bodyPost_ret (v := .agg #[.int .i64 a0, .int .i64 a1, .int .i64 a2, .int .i64 a3]) (by simp [results, Tryz.results111, go_sem]) rfl ?_
  exact ⟨rfl, ((Below.refl _ _).alloc (Nat.le_refl _) _).alloc (by simp) _⟩

def FaultRel (w : World) (x : Smp) (i : Value) (wr : World) : Prop :=
  ∃ k : Nat, k ≤ 4 ∧ i = .int .i64 k ∧ (∀ j b, j < k → (bndsM x)[j]? = some b → inB b = true) ∧ Below w.heap.size w wr
theorem fault_no {x : Smp} {k : Nat} {b : Int × Int × Int} (h : (bndsM x)[k]? = some b) (hb : inB b = false) : faultM x = 3 := by
  unfold faultM
  rw [all_no h hb]
  rfl
theorem fault_yes {x : Smp} (h : ∀ j b, j < 4 → (bndsM x)[j]? = some b → inB b = true) : faultM x = 0 := by
  unfold faultM
  rw [all_yes (n := 4) rfl h]
  rfl
theorem faultM_or (x : Smp) : faultM x = 0 ∨ faultM x = 3 := by
  unfold faultM
  split
  · exact .inl rfl
  · exact .inr rfl
theorem bnds_one_drew {w : World} {t : TypeId} {x lo hi : Int} {g : Nat} (hg : w.heap.size = g) : Bnds ((w.alloc (.cells #[.int .i64 x, .int .i64 lo, .int .i64 hi] t)).drew) g [(x, lo, hi)] := bnds_one (w := w) (t := t) hg
theorem fldAt0 (u : World) : (Instr.index 155 (.agg #[.int .i64 0, .int .i64 1, .int .i64 0, .int .i64 9, .int .i64 1, .int .i64 2, .int .i64 0, .int .i64 999, .int .i64 3, .int .i64 2, .int .i64 0, .int .i64 9999, .int .i64 5, .int .i64 2, .int .i64 (-1000), .int .i64 1000]) (.int .i64 0)).run Tryz.prog u = .ok (.agg #[.int .i64 0, .int .i64 1, .int .i64 0, .int .i64 9]) u := by kernel_rfl
theorem fldAt1 (u : World) : (Instr.index 155 (.agg #[.int .i64 0, .int .i64 1, .int .i64 0, .int .i64 9, .int .i64 1, .int .i64 2, .int .i64 0, .int .i64 999, .int .i64 3, .int .i64 2, .int .i64 0, .int .i64 9999, .int .i64 5, .int .i64 2, .int .i64 (-1000), .int .i64 1000]) (.int .i64 1)).run Tryz.prog u = .ok (.agg #[.int .i64 1, .int .i64 2, .int .i64 0, .int .i64 999]) u := by kernel_rfl
theorem fldAt2 (u : World) : (Instr.index 155 (.agg #[.int .i64 0, .int .i64 1, .int .i64 0, .int .i64 9, .int .i64 1, .int .i64 2, .int .i64 0, .int .i64 999, .int .i64 3, .int .i64 2, .int .i64 0, .int .i64 9999, .int .i64 5, .int .i64 2, .int .i64 (-1000), .int .i64 1000]) (.int .i64 2)).run Tryz.prog u = .ok (.agg #[.int .i64 3, .int .i64 2, .int .i64 0, .int .i64 9999]) u := by kernel_rfl
theorem fldAt3 (u : World) : (Instr.index 155 (.agg #[.int .i64 0, .int .i64 1, .int .i64 0, .int .i64 9, .int .i64 1, .int .i64 2, .int .i64 0, .int .i64 999, .int .i64 3, .int .i64 2, .int .i64 0, .int .i64 9999, .int .i64 5, .int .i64 2, .int .i64 (-1000), .int .i64 1000]) (.int .i64 3)).run Tryz.prog u = .ok (.agg #[.int .i64 5, .int .i64 2, .int .i64 (-1000), .int .i64 1000]) u := by kernel_rfl

set_option maxRecDepth 100000 in
set_option maxHeartbeats 2000000 in
theorem implSampleFault (a0 a1 a2 a3 : Int) (w : World) (hF : Flds w) :
    Calls Tryz.prog 60 #[.agg #[.int .i64 a0, .int .i64 a1, .int .i64 a2, .int .i64 a3]] w fun e w' => e = .returned (.int .i64 (faultM (a0, a1, a2, a3))) ∧ Below w.heap.size w w' := by
  have hA0 : Below w.heap.size w (w.alloc (.cells #[.int .i64 a0, .int .i64 a1, .int .i64 a2, .int .i64 a3] 25)) := (Below.refl _ _).alloc (Nat.le_refl _) _
  go_enter Tryz.func60, Tryz.ntmps60
  go_wp2_with fail
  refine (numbersOf a0 a1 a2 a3 _).mono ?_
  rintro e w1 ⟨rfl, hb1⟩
  have hB1 : Below w.heap.size w w1 := hA0.trans (hb1.mono hA0.size)
  have hp1 := (hF.below hB1).pos
  obtain ⟨c0, c1, c2, c3, c4, c5, c6, c7, c8, c9, c10, c11, c12, c13, c14, c15⟩ := (hF.below hB1).all
  have hN := At.new w1 151 #[.int .i64 a0, .int .i64 a1, .int .i64 a2, .int .i64 a3]
  have hS2 : (w1.alloc (.cells #[.int .i64 a0, .int .i64 a1, .int .i64 a2, .int .i64 a3] 151)).heap.size = w1.heap.size + 1 := by simp
  have hB2 : Below w.heap.size w (w1.alloc (.cells #[.int .i64 a0, .int .i64 a1, .int .i64 a2, .int .i64 a3] 151)) := hB1.alloc hB1.size _
  go_wp2_with fail
  clear c0 c1 c2 c3 c4 c5 c6 c7 c8 c9 c10 c11 c12 c13 c14 c15
  go_loopw [9] (fun i wr => FaultRel (w1.alloc (.cells #[.int .i64 a0, .int .i64 a1, .int .i64 a2, .int .i64 a3] 151)) (a0, a1, a2, a3) i wr) (fun i _ => 4 - (intOf i).toNat)
  case atStart => exact ⟨0, by omega, rfl, fun _ _ h => absurd h (by omega), Below.refl _ _⟩
  case round =>
    obtain ⟨k, hk, rfl, hal, hbel⟩ := hrel
    have Hal := Lib.hid hal
    clear hal
    have hsz := hbel.size
    have hN' := hN.below hbel (by simp)
    obtain ⟨n0, n1, n2, n3, _, _, _, _⟩ := hN'.four
    have hlt := hN'.lt
    rw [hS2] at hsz
    rcases (show k = 0 ∨ k = 1 ∨ k = 2 ∨ k = 3 ∨ k = 4 by omega) with rfl | rfl | rfl | rfl | rfl
    · have Hb := Lib.hid (show (bndsM (a0, a1, a2, a3))[0]? = some (a0, 0, 9) from rfl)
      have hidx := fldAt0 wr
      go_wp2
      refine wp_region_mix [(0, false), (1, false), (2, false), (3, false), (4, false), (5, false), (6, false), (7, false), (8, true), (9, true), (10, false)] (fun u => u.cell? ⟨w1.heap.size, 0, none⟩ = some (.int .i64 a0) ∧ u.cell? ⟨wr.heap.size, 2, none⟩ = some (.int .i64 0) ∧ u.cell? ⟨wr.heap.size, 3, none⟩ = some (.int .i64 9)) (by kernel_rfl) (by kernel_rfl) (fun _ _ _ _ _ h => h) (by go_simp) ?_
      simp only [mixOps, List.map_cons, List.map_nil, List.getElem?_cons_succ, List.getElem?_cons_zero, Option.getD_some]
      repeat (first
        | (refine mix_skip (by rfl) ?_
           (try simp only [Act.put, List.setIfInBounds_toArray, List.set_cons_zero, List.set_cons_succ]))
        | (refine mix_pure (v := ?_) (by rfl) (fun u hu => ?_) ?_
           rotate_left
           · obtain ⟨_, _, _⟩ := hu
             go_simp
             (with_reducible rfl)
           (try simp only [Act.put, List.setIfInBounds_toArray, List.set_cons_zero, List.set_cons_succ])))
      refine mix_call (by rfl) (fun K hK => ?_)
      go_simp
      refine hK _ _ _ (fun _ h => h) (by go_simp) ?_
      (try simp only [Act.put, List.setIfInBounds_toArray, List.set_cons_zero, List.set_cons_succ])
      refine mix_call (by rfl) (fun K hK => ?_)
      go_simp
      refine (areWithin_any _ _ _ [(a0, 0, 9)] _ (bnds_one_drew (by simp)) (by simp) rfl (by simp)).mono ?_
      rintro e w2 ⟨rfl, hb2⟩
      have HA := hbel.alloc hbel.size (.cells #[.int .i64 0, .int .i64 1, .int .i64 0, .int .i64 9] 154)
      have HC := (HA.alloc HA.size (.cells #[.int .i64 a0, .int .i64 0, .int .i64 9] 99)).drew
      have HD := HC.trans (hb2.mono HC.size)
      refine hK _ _ _ (fun _ h => h) ⟨(hb2.cell (p := ⟨w1.heap.size, 0, none⟩) (by simp; omega)).trans (by go_simp), (hb2.cell (p := ⟨wr.heap.size, 2, none⟩) (by simp; omega)).trans (by go_simp), (hb2.cell (p := ⟨wr.heap.size, 3, none⟩) (by simp; omega)).trans (by go_simp)⟩ ?_
      (try simp only [Act.put, List.setIfInBounds_toArray, List.set_cons_zero, List.set_cons_succ])
      by_cases hin : inB (a0, 0, 9) = true
      · have hq : [(a0, 0, 9)].all inB = true := by simp [hin]
        rw [hq]
        have Hin := Lib.hid hin
        clear hin hq
        refine mix_pure (v := ?_) (by rfl) (fun u hu => ?_) ?_
        rotate_left
        · go_simp
          (with_reducible rfl)
        (try simp only [Act.put, List.setIfInBounds_toArray, List.set_cons_zero, List.set_cons_succ])
        refine mix_nil ?_
        go_wp2
        refine ⟨⟨0 + 1, by omega, by go_num, fun j b hj hb => ?_, HD⟩, by simp [intOf]⟩
        rcases Nat.lt_or_ge j 0 with h | h
        · exact Hal.out j b h hb
        · obtain rfl : j = 0 := by omega
          obtain rfl := Option.some.inj (Hb.out.symm.trans hb)
          exact Hin.out
      · have hq : [(a0, 0, 9)].all inB = false := by simpa using hin
        rw [hq]
        have Hf := Lib.hid (fault_no Hb.out (by simpa using hin))
        clear hin hq
        refine mix_pure (v := ?_) (by rfl) (fun u hu => ?_) ?_
        rotate_left
        · go_simp
          (with_reducible rfl)
        (try simp only [Act.put, List.setIfInBounds_toArray, List.set_cons_zero, List.set_cons_succ])
        refine mix_nil ?_
        go_wp2
        go_ret
        exact ⟨by rw [Hf.out]; rfl, hB2.trans (HD.mono hB2.size)⟩
    · have Hb := Lib.hid (show (bndsM (a0, a1, a2, a3))[1]? = some (a1, 0, 999) from rfl)
      have hidx := fldAt1 wr
      go_wp2
      refine wp_region_mix [(0, false), (1, false), (2, false), (3, false), (4, false), (5, false), (6, false), (7, false), (8, true), (9, true), (10, false)] (fun u => u.cell? ⟨w1.heap.size, 1, none⟩ = some (.int .i64 a1) ∧ u.cell? ⟨wr.heap.size, 2, none⟩ = some (.int .i64 0) ∧ u.cell? ⟨wr.heap.size, 3, none⟩ = some (.int .i64 999)) (by kernel_rfl) (by kernel_rfl) (fun _ _ _ _ _ h => h) (by go_simp) ?_
      simp only [mixOps, List.map_cons, List.map_nil, List.getElem?_cons_succ, List.getElem?_cons_zero, Option.getD_some]
      repeat (first
        | (refine mix_skip (by rfl) ?_
           (try simp only [Act.put, List.setIfInBounds_toArray, List.set_cons_zero, List.set_cons_succ]))
        | (refine mix_pure (v := ?_) (by rfl) (fun u hu => ?_) ?_
           rotate_left
           · obtain ⟨_, _, _⟩ := hu
             go_simp
             (with_reducible rfl)
           (try simp only [Act.put, List.setIfInBounds_toArray, List.set_cons_zero, List.set_cons_succ])))
      refine mix_call (by rfl) (fun K hK => ?_)
      go_simp
      refine hK _ _ _ (fun _ h => h) (by go_simp) ?_
      (try simp only [Act.put, List.setIfInBounds_toArray, List.set_cons_zero, List.set_cons_succ])
      refine mix_call (by rfl) (fun K hK => ?_)
      go_simp
      refine (areWithin_any _ _ _ [(a1, 0, 999)] _ (bnds_one_drew (by simp)) (by simp) rfl (by simp)).mono ?_
      rintro e w2 ⟨rfl, hb2⟩
      have HA := hbel.alloc hbel.size (.cells #[.int .i64 1, .int .i64 2, .int .i64 0, .int .i64 999] 154)
      have HC := (HA.alloc HA.size (.cells #[.int .i64 a1, .int .i64 0, .int .i64 999] 99)).drew
      have HD := HC.trans (hb2.mono HC.size)
      refine hK _ _ _ (fun _ h => h) ⟨(hb2.cell (p := ⟨w1.heap.size, 1, none⟩) (by simp; omega)).trans (by go_simp), (hb2.cell (p := ⟨wr.heap.size, 2, none⟩) (by simp; omega)).trans (by go_simp), (hb2.cell (p := ⟨wr.heap.size, 3, none⟩) (by simp; omega)).trans (by go_simp)⟩ ?_
      (try simp only [Act.put, List.setIfInBounds_toArray, List.set_cons_zero, List.set_cons_succ])
      by_cases hin : inB (a1, 0, 999) = true
      · have hq : [(a1, 0, 999)].all inB = true := by simp [hin]
        rw [hq]
        have Hin := Lib.hid hin
        clear hin hq
        refine mix_pure (v := ?_) (by rfl) (fun u hu => ?_) ?_
        rotate_left
        · go_simp
          (with_reducible rfl)
        (try simp only [Act.put, List.setIfInBounds_toArray, List.set_cons_zero, List.set_cons_succ])
        refine mix_nil ?_
        go_wp2
        refine ⟨⟨1 + 1, by omega, by go_num, fun j b hj hb => ?_, HD⟩, by simp [intOf]⟩
        rcases Nat.lt_or_ge j 1 with h | h
        · exact Hal.out j b h hb
        · obtain rfl : j = 1 := by omega
          obtain rfl := Option.some.inj (Hb.out.symm.trans hb)
          exact Hin.out
      · have hq : [(a1, 0, 999)].all inB = false := by simpa using hin
        rw [hq]
        have Hf := Lib.hid (fault_no Hb.out (by simpa using hin))
        clear hin hq
        refine mix_pure (v := ?_) (by rfl) (fun u hu => ?_) ?_
        rotate_left
        · go_simp
          (with_reducible rfl)
        (try simp only [Act.put, List.setIfInBounds_toArray, List.set_cons_zero, List.set_cons_succ])
        refine mix_nil ?_
        go_wp2
        go_ret
        exact ⟨by rw [Hf.out]; rfl, hB2.trans (HD.mono hB2.size)⟩
    · have Hb := Lib.hid (show (bndsM (a0, a1, a2, a3))[2]? = some (a2, 0, 9999) from rfl)
      have hidx := fldAt2 wr
      go_wp2
      refine wp_region_mix [(0, false), (1, false), (2, false), (3, false), (4, false), (5, false), (6, false), (7, false), (8, true), (9, true), (10, false)] (fun u => u.cell? ⟨w1.heap.size, 2, none⟩ = some (.int .i64 a2) ∧ u.cell? ⟨wr.heap.size, 2, none⟩ = some (.int .i64 0) ∧ u.cell? ⟨wr.heap.size, 3, none⟩ = some (.int .i64 9999)) (by kernel_rfl) (by kernel_rfl) (fun _ _ _ _ _ h => h) (by go_simp) ?_
      simp only [mixOps, List.map_cons, List.map_nil, List.getElem?_cons_succ, List.getElem?_cons_zero, Option.getD_some]
      repeat (first
        | (refine mix_skip (by rfl) ?_
           (try simp only [Act.put, List.setIfInBounds_toArray, List.set_cons_zero, List.set_cons_succ]))
        | (refine mix_pure (v := ?_) (by rfl) (fun u hu => ?_) ?_
           rotate_left
           · obtain ⟨_, _, _⟩ := hu
             go_simp
             (with_reducible rfl)
           (try simp only [Act.put, List.setIfInBounds_toArray, List.set_cons_zero, List.set_cons_succ])))
      refine mix_call (by rfl) (fun K hK => ?_)
      go_simp
      refine hK _ _ _ (fun _ h => h) (by go_simp) ?_
      (try simp only [Act.put, List.setIfInBounds_toArray, List.set_cons_zero, List.set_cons_succ])
      refine mix_call (by rfl) (fun K hK => ?_)
      go_simp
      refine (areWithin_any _ _ _ [(a2, 0, 9999)] _ (bnds_one_drew (by simp)) (by simp) rfl (by simp)).mono ?_
      rintro e w2 ⟨rfl, hb2⟩
      have HA := hbel.alloc hbel.size (.cells #[.int .i64 3, .int .i64 2, .int .i64 0, .int .i64 9999] 154)
      have HC := (HA.alloc HA.size (.cells #[.int .i64 a2, .int .i64 0, .int .i64 9999] 99)).drew
      have HD := HC.trans (hb2.mono HC.size)
      refine hK _ _ _ (fun _ h => h) ⟨(hb2.cell (p := ⟨w1.heap.size, 2, none⟩) (by simp; omega)).trans (by go_simp), (hb2.cell (p := ⟨wr.heap.size, 2, none⟩) (by simp; omega)).trans (by go_simp), (hb2.cell (p := ⟨wr.heap.size, 3, none⟩) (by simp; omega)).trans (by go_simp)⟩ ?_
      (try simp only [Act.put, List.setIfInBounds_toArray, List.set_cons_zero, List.set_cons_succ])
      by_cases hin : inB (a2, 0, 9999) = true
      · have hq : [(a2, 0, 9999)].all inB = true := by simp [hin]
        rw [hq]
        have Hin := Lib.hid hin
        clear hin hq
        refine mix_pure (v := ?_) (by rfl) (fun u hu => ?_) ?_
        rotate_left
        · go_simp
          (with_reducible rfl)
        (try simp only [Act.put, List.setIfInBounds_toArray, List.set_cons_zero, List.set_cons_succ])
        refine mix_nil ?_
        go_wp2
        refine ⟨⟨2 + 1, by omega, by go_num, fun j b hj hb => ?_, HD⟩, by simp [intOf]⟩
        rcases Nat.lt_or_ge j 2 with h | h
        · exact Hal.out j b h hb
        · obtain rfl : j = 2 := by omega
          obtain rfl := Option.some.inj (Hb.out.symm.trans hb)
          exact Hin.out
      · have hq : [(a2, 0, 9999)].all inB = false := by simpa using hin
        rw [hq]
        have Hf := Lib.hid (fault_no Hb.out (by simpa using hin))
        clear hin hq
        refine mix_pure (v := ?_) (by rfl) (fun u hu => ?_) ?_
        rotate_left
        · go_simp
          (with_reducible rfl)
        (try simp only [Act.put, List.setIfInBounds_toArray, List.set_cons_zero, List.set_cons_succ])
        refine mix_nil ?_
        go_wp2
        go_ret
        exact ⟨by rw [Hf.out]; rfl, hB2.trans (HD.mono hB2.size)⟩
    · have Hb := Lib.hid (show (bndsM (a0, a1, a2, a3))[3]? = some (a3, (-1000), 1000) from rfl)
      have hidx := fldAt3 wr
      go_wp2
      refine wp_region_mix [(0, false), (1, false), (2, false), (3, false), (4, false), (5, false), (6, false), (7, false), (8, true), (9, true), (10, false)] (fun u => u.cell? ⟨w1.heap.size, 3, none⟩ = some (.int .i64 a3) ∧ u.cell? ⟨wr.heap.size, 2, none⟩ = some (.int .i64 (-1000)) ∧ u.cell? ⟨wr.heap.size, 3, none⟩ = some (.int .i64 1000)) (by kernel_rfl) (by kernel_rfl) (fun _ _ _ _ _ h => h) (by go_simp) ?_
      simp only [mixOps, List.map_cons, List.map_nil, List.getElem?_cons_succ, List.getElem?_cons_zero, Option.getD_some]
      repeat (first
        | (refine mix_skip (by rfl) ?_
           (try simp only [Act.put, List.setIfInBounds_toArray, List.set_cons_zero, List.set_cons_succ]))
        | (refine mix_pure (v := ?_) (by rfl) (fun u hu => ?_) ?_
           rotate_left
           · obtain ⟨_, _, _⟩ := hu
             go_simp
             (with_reducible rfl)
           (try simp only [Act.put, List.setIfInBounds_toArray, List.set_cons_zero, List.set_cons_succ])))
      refine mix_call (by rfl) (fun K hK => ?_)
      go_simp
      refine hK _ _ _ (fun _ h => h) (by go_simp) ?_
      (try simp only [Act.put, List.setIfInBounds_toArray, List.set_cons_zero, List.set_cons_succ])
      refine mix_call (by rfl) (fun K hK => ?_)
      go_simp
      refine (areWithin_any _ _ _ [(a3, (-1000), 1000)] _ (bnds_one_drew (by simp)) (by simp) rfl (by simp)).mono ?_
      rintro e w2 ⟨rfl, hb2⟩
      have HA := hbel.alloc hbel.size (.cells #[.int .i64 5, .int .i64 2, .int .i64 (-1000), .int .i64 1000] 154)
      have HC := (HA.alloc HA.size (.cells #[.int .i64 a3, .int .i64 (-1000), .int .i64 1000] 99)).drew
      have HD := HC.trans (hb2.mono HC.size)
      refine hK _ _ _ (fun _ h => h) ⟨(hb2.cell (p := ⟨w1.heap.size, 3, none⟩) (by simp; omega)).trans (by go_simp), (hb2.cell (p := ⟨wr.heap.size, 2, none⟩) (by simp; omega)).trans (by go_simp), (hb2.cell (p := ⟨wr.heap.size, 3, none⟩) (by simp; omega)).trans (by go_simp)⟩ ?_
      (try simp only [Act.put, List.setIfInBounds_toArray, List.set_cons_zero, List.set_cons_succ])
      by_cases hin : inB (a3, (-1000), 1000) = true
      · have hq : [(a3, (-1000), 1000)].all inB = true := by simp [hin]
        rw [hq]
        have Hin := Lib.hid hin
        clear hin hq
        refine mix_pure (v := ?_) (by rfl) (fun u hu => ?_) ?_
        rotate_left
        · go_simp
          (with_reducible rfl)
        (try simp only [Act.put, List.setIfInBounds_toArray, List.set_cons_zero, List.set_cons_succ])
        refine mix_nil ?_
        go_wp2
        refine ⟨⟨3 + 1, by omega, by go_num, fun j b hj hb => ?_, HD⟩, by simp [intOf]⟩
        rcases Nat.lt_or_ge j 3 with h | h
        · exact Hal.out j b h hb
        · obtain rfl : j = 3 := by omega
          obtain rfl := Option.some.inj (Hb.out.symm.trans hb)
          exact Hin.out
      · have hq : [(a3, (-1000), 1000)].all inB = false := by simpa using hin
        rw [hq]
        have Hf := Lib.hid (fault_no Hb.out (by simpa using hin))
        clear hin hq
        refine mix_pure (v := ?_) (by rfl) (fun u hu => ?_) ?_
        rotate_left
        · go_simp
          (with_reducible rfl)
        (try simp only [Act.put, List.setIfInBounds_toArray, List.set_cons_zero, List.set_cons_succ])
        refine mix_nil ?_
        go_wp2
        go_ret
        exact ⟨by rw [Hf.out]; rfl, hB2.trans (HD.mono hB2.size)⟩
    · have Hf := Lib.hid (fault_yes Hal.out)
      go_wp2
      go_ret
      exact ⟨by rw [Hf.out]; rfl, hB2.trans (hbel.mono hB2.size)⟩

theorem specSampleFault (a0 a1 a2 a3 : Int) (w : World) :
    Calls Tryz.prog 115 #[.agg #[.int .i64 a0, .int .i64 a1, .int .i64 a2, .int .i64 a3]] w fun e w' => e = .returned (.int .i64 (faultM (a0, a1, a2, a3))) ∧ Below w.heap.size w w' := by
  by_cases h0 : inB (a0, 0, 9) = true
  rotate_left
  · have Hf := Lib.hid (fault_no (show (bndsM (a0, a1, a2, a3))[0]? = some (a0, 0, 9) from rfl) (by simpa using h0))
    have g0 : inB (a0, 0, 9) = false := by simpa using h0
    clear h0
    go_enter Tryz.func115, Tryz.ntmps115
    go_wp2_with (go_at_call 67; refine (l1In_any _ _ _ _).mono ?_; rintro e w1 ⟨rfl, rfl⟩)
    go_ret
    exact ⟨by rw [Hf.out]; rfl, (Below.refl _ _).alloc (Nat.le_refl _) _⟩
  by_cases h1 : inB (a1, 0, 999) = true
  rotate_left
  · have Hf := Lib.hid (fault_no (show (bndsM (a0, a1, a2, a3))[1]? = some (a1, 0, 999) from rfl) (by simpa using h1))
    have g1 : inB (a1, 0, 999) = false := by simpa using h1
    clear h1
    go_enter Tryz.func115, Tryz.ntmps115
    go_wp2_with (go_at_call 67; refine (l1In_any _ _ _ _).mono ?_; rintro e w1 ⟨rfl, rfl⟩)
    go_ret
    exact ⟨by rw [Hf.out]; rfl, (Below.refl _ _).alloc (Nat.le_refl _) _⟩
  by_cases h2 : inB (a2, 0, 9999) = true
  rotate_left
  · have Hf := Lib.hid (fault_no (show (bndsM (a0, a1, a2, a3))[2]? = some (a2, 0, 9999) from rfl) (by simpa using h2))
    have g2 : inB (a2, 0, 9999) = false := by simpa using h2
    clear h2
    go_enter Tryz.func115, Tryz.ntmps115
    go_wp2_with (go_at_call 67; refine (l1In_any _ _ _ _).mono ?_; rintro e w1 ⟨rfl, rfl⟩)
    go_ret
    exact ⟨by rw [Hf.out]; rfl, (Below.refl _ _).alloc (Nat.le_refl _) _⟩
  by_cases h3 : inB (a3, (-1000), 1000) = true
  rotate_left
  · have Hf := Lib.hid (fault_no (show (bndsM (a0, a1, a2, a3))[3]? = some (a3, (-1000), 1000) from rfl) (by simpa using h3))
    have g3 : inB (a3, (-1000), 1000) = false := by simpa using h3
    clear h3
    go_enter Tryz.func115, Tryz.ntmps115
    go_wp2_with (go_at_call 67; refine (l1In_any _ _ _ _).mono ?_; rintro e w1 ⟨rfl, rfl⟩)
    go_ret
    exact ⟨by rw [Hf.out]; rfl, (Below.refl _ _).alloc (Nat.le_refl _) _⟩
  have Hf := Lib.hid (show faultM (a0, a1, a2, a3) = 0 by simp [faultM, bndsM, h0, h1, h2, h3])
  go_enter Tryz.func115, Tryz.ntmps115
  go_wp2_with (go_at_call 67; refine (l1In_any _ _ _ _).mono ?_; rintro e w1 ⟨rfl, rfl⟩)
  go_ret
  exact ⟨by rw [Hf.out]; rfl, (Below.refl _ _).alloc (Nat.le_refl _) _⟩

end Go.Proofs.YtmaillakhhdkfaaGreatDoor
namespace Go.Proofs.YtmaillakhhdkfaaGreatDoor
set_option maxRecDepth 20000
open Go.ChangeShapes Go.WideShapes Go.ChangeAt Go.RowKit

theorem own : ownKnob Tryz.prog.godebug = none := by kernel_rfl
theorem laidOut : laidOutB Tryz.prog = true := by kernel_rfl

/-- A slice of bytes that came in reads as a list. -/
theorem rd_of_ints {W : World} {x : Addr} {len cap : Nat} {zs : List Int} (hl : len ≤ cap) (hz : zs.length = cap) (hcell : ∀ i, i < zs.length → W.cell? (x.add i) = some (.int .u8 (zs.getD i 0))) (hwz : ∀ n ∈ zs, (Lit.int .u8 n).wf = true) :
    ∃ l : List UInt8, l.length = len ∧ Rd eB W W.heap.size (some x) l := by
  refine ⟨(zs.take len).map fun z => UInt8.ofNat z.toNat, by simp; omega, fun hne => ?_⟩
  have hlen : 0 < len := by
    rcases Nat.eq_zero_or_pos len with h0 | h0
    · subst h0; simp at hne
    · exact h0
  obtain ⟨b, off, spot⟩ := x
  have h0 := hcell 0 (by omega)
  have hspot : spot = none := by simpa [Addr.add] using World.cell?_spot h0
  subst hspot
  have hb : b < W.heap.size := by
    have := World.block_lt_of_cell? W _ h0
    rw [addr_add] at this
    exact this
  refine ⟨b, off, rfl, hb, fun k j a u hk hu => ?_⟩
  rw [List.getElem?_map] at hk
  have hkl : k < len := by
    rcases Nat.lt_or_ge k len with h1 | h1
    · exact h1
    · rw [List.getElem?_eq_none (by simp; omega)] at hk; simp at hk
  have hkz : k < zs.length := by omega
  rw [List.getElem?_take, if_pos hkl, List.getElem?_eq_getElem hkz] at hk
  simp only [Option.map_some, Option.some.injEq] at hk
  subst hk
  match j, hu with
  | 0, hu =>
    simp only [eB, List.getElem?_cons_zero, Option.some.injEq] at hu
    subst hu
    have h1 := hcell k hkz
    rw [addr_add] at h1
    simp only [eB, Nat.mul_one, Nat.add_zero]
    rw [h1]
    have hw := hwz zs[k] (List.getElem_mem hkz)
    simp [Lit.wf, IntKind.min, IntKind.max, IntKind.signed, IntKind.bits] at hw
    simp only [List.getD_eq_getElem?_getD, List.getElem?_eq_getElem hkz, Option.getD_some, Option.some.injEq, Value.int.injEq, true_and, UInt8.toNat_ofNat']
    omega
  | j + 1, hu => simp [eB] at hu

/-- The bytes of an argument. -/
theorem open_bytes {H : Type} {enc : TypeId × Value → H} {W : World} {base : Nat} {held : Bool} {A : Option Addr} {n c : Nat} {d : DataW H} {p : List MemPlace} (h : DataW.Trod enc Tryz.prog W base (fun _ => true) held 22 (.slice A n c) d p) :
    ∃ l : List UInt8, l.length = n ∧ Rd eB W W.heap.size A l := by
  obtain ⟨fuel, hf⟩ := h
  rcases open_ints Tryz.underlying22 Tryz.underlying5 (by kernel_rfl) hf with ⟨hcs, _⟩ | ⟨x, l, c, zs, hcs, _, hl, hm, hz, _, hcell, hwz⟩
  · simp [Value.cells] at hcs
    obtain ⟨rfl, rfl, rfl⟩ := hcs
    exact ⟨[], rfl, Rd.nil⟩
  · simp [Value.cells] at hcs
    obtain ⟨rfl, rfl, rfl⟩ := hcs
    exact rd_of_ints hl (by simpa using hz) hcell hwz
end Go.Proofs.YtmaillakhhdkfaaGreatDoor
/-
  A sample that came in: four numbers.
-/
namespace Go.Proofs.YtmaillakhhdkfaaGreatDoor
set_option maxRecDepth 20000
open Go.ChangeShapes Go.WideShapes Go.ChangeAt Go.RowKit

end Go.Proofs.YtmaillakhhdkfaaGreatDoor
/-
  The program's table of fields: what start-up laid gives the walks' word; how a named variable is opened and shut.
-/
namespace Go.Proofs.YtmaillakhhdkfaaGreatDoor
set_option maxRecDepth 20000
open Go.ChangeShapes Go.WideShapes Go.ChangeAt Go.RowKit

def fldName : String := "loop.example/g00791/impl.sampleFields"
theorem gF : Tryz.prog.globalNamed fldName = some 1 := by kernel_rfl
theorem tF : (Tryz.prog.globals[1]?).map (·.type) = some 155 := by kernel_rfl
def laidF : List (String × DataW Unit) := [(fldName, Rows.laid_loop_example_g00791_impl_sampleFields)]

theorem var_below {P : Program} {w w' : World} {n : String} {g B : Nat} {cs : Array Value} (h : w.var? P n = some cs) (hg : P.globalNamed n = some g) (hb : Below B w w') (hlt : g < B) : w'.var? P n = some cs := by
  simp only [World.var?, hg, Option.bind_some] at h ⊢
  rw [hb.block g hlt]
  exact h

theorem int_cell {H : Type} {enc : TypeId × Value → H} {w : World} {base fuel : Nat} {sp : Nat → Bool} {held : Bool} {u : Value} {x : DataW H × List MemPlace} {n : Int} (h : DataW.trod enc Tryz.prog w base sp held fuel 2 [u] = some x) (hx : x.1 = .lit (.int .i64 n)) : u = .int .i64 n := by
  obtain ⟨k, hk, hx', _⟩ := DataW.trod_int Tryz.underlying2 h
  subst hx'
  simp only [DataW.lit.injEq, Lit.int.injEq, true_and] at hx
  subst hx
  simpa using hk

theorem four_list {l : List Value} (h : l.length = 4) : ∃ a b c d, l = [a, b, c, d] := by
  match l, h with
  | [a, b, c, d], _ => exact ⟨a, b, c, d, rfl⟩

theorem field_cells {H : Type} {enc : TypeId × Value → H} {w : World} {base fuel : Nat} {sp : Nat → Bool} {held : Bool} {cs : List Value} {x : DataW H × List MemPlace} {a b c d : Int} (h : DataW.trod enc Tryz.prog w base sp held fuel 154 cs = some x)
    (hx : x.1 = .agg [.lit (.int .i64 a), .lit (.int .i64 b), .lit (.int .i64 c), .lit (.int .i64 d)]) : cs = [.int .i64 a, .int .i64 b, .int .i64 c, .int .i64 d] := by
  obtain ⟨xs, n, _, rfl, hl, hlen, hel⟩ := DataW.trod_struct Tryz.underlying154 h
  have c4 : Tryz.prog.cellsOf 154 = 4 := by kernel_rfl
  have c1 : Tryz.prog.cellsOf 2 = 1 := by kernel_rfl
  rw [c4] at hl
  obtain ⟨u0, u1, u2, u3, rfl⟩ := four_list hl
  match xs, hlen, hx with
  | [x0, x1, x2, x3], _, hx =>
    simp only [List.map_cons, List.map_nil, DataW.agg.injEq, List.cons.injEq, and_true] at hx
    obtain ⟨h0, h1, h2, h3⟩ := hx
    obtain rfl := int_cell (u := u0) (by simpa [c1] using hel 0 _ rfl) h0
    obtain rfl := int_cell (u := u1) (by simpa [c1] using hel 1 _ rfl) h1
    obtain rfl := int_cell (u := u2) (by simpa [c1] using hel 2 _ rfl) h2
    obtain rfl := int_cell (u := u3) (by simpa [c1] using hel 3 _ rfl) h3
    rfl

theorem of_laid {W : World} (h : laidMetH Tryz.prog laidF W) : ∃ cs : Array Value, W.var? Tryz.prog fldName = some cs ∧ cs.toList = fldCells := by
  rw [MakeChecks.laidMetH_plain _ _ _ (by kernel_rfl)] at h
  obtain ⟨ps, ⟨g0, t0, cs0, f0, p0, q0, hg0, ht0, hv0, hd0, _⟩, _⟩ := h
  obtain rfl := Option.some.inj (gF.symm.trans hg0)
  obtain rfl := Option.some.inj (tF.symm.trans ht0)
  refine ⟨cs0, hv0, ?_⟩
  obtain ⟨xs, m, _, hx, hl, hn, hel⟩ := DataW.trod_array Tryz.underlying155 hd0
  have c16 : Tryz.prog.cellsOf 155 = 16 := by kernel_rfl
  have c4 : Tryz.prog.cellsOf 154 = 4 := by kernel_rfl
  rw [c16] at hl
  rw [c4] at hel
  generalize cs0.toList = l at *
  match xs, hn, hx with
  | [x0, x1, x2, x3], _, hx =>
    simp only [Prod.mk.injEq, Rows.laid_loop_example_g00791_impl_sampleFields, List.map_cons, List.map_nil, DataW.agg.injEq, List.cons.injEq, and_true] at hx
    obtain ⟨⟨h0, h1, h2, h3⟩, _⟩ := hx
    have e0 := field_cells (hel 0 (by decide)) h0.symm
    have e1 := field_cells (hel 1 (by decide)) h1.symm
    have e2 := field_cells (hel 2 (by decide)) h2.symm
    have e3 := field_cells (hel 3 (by decide)) h3.symm
    have b1 : l.drop (1 * 4) = (l.drop (1 * 4)).take 4 ++ l.drop (2 * 4) := by
      have := (List.take_append_drop 4 (l.drop (1 * 4))).symm
      rwa [List.drop_drop] at this
    have b2 : l.drop (2 * 4) = (l.drop (2 * 4)).take 4 ++ l.drop (3 * 4) := by
      have := (List.take_append_drop 4 (l.drop (2 * 4))).symm
      rwa [List.drop_drop] at this
    have b3 : (l.drop (3 * 4)).take 4 = l.drop (3 * 4) := List.take_of_length_le (by simp [hl])
    have hs : l = (l.drop (0 * 4)).take 4 ++ ((l.drop (1 * 4)).take 4 ++ ((l.drop (2 * 4)).take 4 ++ (l.drop (3 * 4)).take 4)) := by
      rw [b3, ← b2, ← b1]
      exact (List.take_append_drop 4 l).symm
    rw [hs, e0, e1, e2, e3]
    rfl

theorem flds_of_var {W : World} {cs : Array Value} (h : W.var? Tryz.prog fldName = some cs) (hc : cs.toList = fldCells) : Flds W := fun i u hu => by
  rw [World.var?_cell gF h i, ← Array.getElem?_toList, hc]
  exact hu

/-- The door's own heap meets the condition. -/
theorem door_met (os : Os) (args : Array Value) : laidMetH Tryz.prog laidF ((World.doorLaid Tryz.prog 37 os).forCall (fun _ _ => 0) ⟨#[], args, []⟩).memory :=
  laidMetH_of_parts3 (fuel := 8) (laidMet_of_run' 8 (by kernel_rfl) (by kernel_rfl)) (by kernel_rfl) (by kernel_rfl)

/-- The variable, opened and shut: it reads behind the call as it read ahead of it. -/
theorem vars_stay {H : Type} {enc : TypeId × Value → H} {W : World} {gs : List (DataW H)} {q : List MemPlace} (hV : DataW.TrodVars enc Tryz.prog W (fun _ => true) [fldName] gs q) :
    ∃ d, gs = [d] ∧ ∀ W', Below W.heap.size W W' → DataW.TrodVars enc Tryz.prog W' (fun b => decide (b < W.heap.size)) [fldName] [d] q := by
  obtain ⟨g, t, cs, fuel, d, p', rfl, hg, ht, hvar, hd, rfl⟩ := trodVars_one hV
  obtain rfl := Option.some.inj (gF.symm.trans hg)
  obtain rfl := Option.some.inj (tF.symm.trans ht)
  have hlt : 1 < W.heap.size := by
    simp only [World.var?, hg, Option.bind_some] at hvar
    rcases Nat.lt_or_ge 1 W.heap.size with h0 | h0
    · exact h0
    · rw [Array.getElem?_eq_none (by omega)] at hvar
      cases hvar
  refine ⟨d, rfl, fun W' bel => ?_⟩
  have hT : DataW.Trod enc Tryz.prog W 0 (fun _ => true) true 155 (.agg cs) d p' := ⟨fuel, by simpa [Value.cells] using hd⟩
  obtain ⟨f2, h2⟩ := Below.trod laidOut (by kernel_rfl) (of_decide_eq_true (by kernel_rfl)) hT bel (DataW.trod_lt fuel _ _ _ hd)
  exact trodVars_mk1 gF tF (var_below hvar gF bel hlt) (by simpa [Value.cells] using h2)
end Go.Proofs.YtmaillakhhdkfaaGreatDoor
namespace Go.Proofs.YtmaillakhhdkfaaGreatDoor
set_option maxRecDepth 20000
open Go.RowKit

/-- An answer of a code and a number. -/
def RetIR (r : Int × Int) (w : World) (e : Ending) (w' : World) : Prop :=
  e = .returned (.agg #[.int .i64 r.1, .int .i64 r.2]) ∧ Below w.heap.size w w'

end Go.Proofs.YtmaillakhhdkfaaGreatDoor
namespace Go.Proofs.YtmaillakhhdkfaaGreatDoor
set_option maxRecDepth 20000
open Go.RowKit

/-! ### impl -/
end Go.Proofs.YtmaillakhhdkfaaGreatDoor
/-
  The bytes of a code, read one by one: what a draw answers is within its bounds, and only the reader's own block turns.
-/
namespace Go.Proofs.YtmaillakhhdkfaaGreatDoor
set_option maxRecDepth 20000
open Go.RowKit

/-- A reader of the bytes 'l' at the place 'k'; its bytes lie below 'base', its block from there on. -/
structure Src (w : World) (base g : Nat) (A : Option Addr) (n c k : Nat) (l : List UInt8) : Prop where
  at_ : At w g 122 #[.slice A n c, .int .i64 (k : Nat)]
  rd : Rd eB w base A l
  len : l.length = n
  big : n ≤ 1048576
  low : base ≤ g

/-- A number of a draw. -/
def RetDraw (base g : Nat) (A : Option Addr) (m c k : Nat) (l : List UInt8) (n : Int) (w : World) (e : Ending) (w' : World) : Prop :=
  ∃ r : Int, e = .returned (.int .i64 r) ∧ (1 ≤ n → 0 ≤ r ∧ r < n) ∧ (n < 1 → r = 0) ∧ Src w' base g A m c (k + 1) l ∧ Within g (g + 1) w w' ∧ w'.heap.size = w.heap.size

theorem src_next {w : World} {base g n c k : Nat} {A : Option Addr} {l : List UInt8} (h : Src w base g A n c k l) (v : Int) (hv : v = ((k + 1 : Nat) : Int)) (d : Nat) :
    Src ((w.setCell ⟨g, 1, none⟩ (.int .i64 v)).drewN d) base g A n c (k + 1) l ∧ Within g (g + 1) w ((w.setCell ⟨g, 1, none⟩ (.int .i64 v)).drewN d) ∧ ((w.setCell ⟨g, 1, none⟩ (.int .i64 v)).drewN d).heap.size = w.heap.size := by
  subst hv
  refine ⟨⟨by simpa using (h.at_.set 1 _).drewN d, ?_, h.len, h.big, h.low⟩, ?_, by simp [World.setCell, World.drewN]⟩
  · exact (h.rd.keep fun p hp => World.cell?_setCell_other w _ _ _ (by intro e; subst e; have := h.low; simp at hp; omega)).drewN d
  · have := grown_setCell w ⟨g, 1, none⟩ (.int .i64 ((k + 1 : Nat) : Int))
    have h2 := within_of (lo := g) (hi := g + 1) this (fun x e => by simp at e; omega)
    exact ⟨h2.os, h2.tape, h2.output, h2.size, h2.block⟩

theorem l1Next_none (w : World) (base g : Nat) (A : Option Addr) (m c k : Nat) (l : List UInt8) (n : Int) (h : Src w base g A m c k l) (hk : k < 1073741824) (hn : n < 1) :
    Calls Tryz.prog 41 #[.pointer (some ⟨g, 0, none⟩), .int .i64 n] w (RetDraw base g A m c k l n w) := by
  obtain ⟨r0, r1, f0, f1⟩ := h.at_.two
  go_enter Tryz.func41, Tryz.ntmps41
  go_wp2
  go_ret
  exact ⟨0, rfl, fun h => absurd h (by omega), fun _ => rfl, src_next h _ (by omega) 0⟩

set_option maxHeartbeats 800000 in
theorem l1Next_zero (w : World) (base g : Nat) (A : Option Addr) (m c k : Nat) (l : List UInt8) (n : Int) (h : Src w base g A m c k l) (hk : k < 1073741824) (hn : 1 ≤ n) (h0 : m = 0) :
    Calls Tryz.prog 41 #[.pointer (some ⟨g, 0, none⟩), .int .i64 n] w (RetDraw base g A m c k l n w) := by
  obtain ⟨r0, r1, f0, f1⟩ := h.at_.two
  have h1 := (src_next h ((k : Int) + 1) (by omega) 0).1
  obtain ⟨s0, s1, _, _⟩ := h1.at_.two
  subst h0
  simp only [show ∀ x : World, x.drewN 0 = x from fun x => rfl] at s0 s1
  push_cast at s1
  have m0 : 0 ≤ ((k : Int) * 7) % n := Int.emod_nonneg _ (by omega)
  have m1 : ((k : Int) * 7) % n < n := Int.emod_lt_of_pos _ (by omega)
  go_enter Tryz.func41, Tryz.ntmps41
  go_wp2
  go_ret
  exact ⟨_, rfl, fun _ => ⟨m0, m1⟩, fun h => absurd h (by omega), src_next h _ (by omega) 0⟩

set_option maxHeartbeats 800000 in
theorem l1Next_small (w : World) (base g : Nat) (A : Option Addr) (m c k : Nat) (l : List UInt8) (n : Int) (h : Src w base g A m c k l) (hk : k < 1073741824) (hn : 1 ≤ n) (h2 : n ≤ 200) (h0 : m ≠ 0) :
    Calls Tryz.prog 41 #[.pointer (some ⟨g, 0, none⟩), .int .i64 n] w (RetDraw base g A m c k l n w) := by
  obtain ⟨r0, r1, f0, f1⟩ := h.at_.two
  have h1 := (src_next h ((k : Int) + 1) (by omega) 0).1
  obtain ⟨s0, s1, _, _⟩ := h1.at_.two
  have hlt : k % m < m := Nat.mod_lt _ (by omega)
  obtain ⟨g', o', x, rfl, hg', _, ca⟩ := h1.rd.byte (k := k % m) (by rw [h.len]; exact hlt)
  simp only [show ∀ x : World, x.drewN 0 = x from fun x => rfl] at s0 s1 ca
  push_cast at s1
  have hbig := h.big
  have hx := x.toNat_lt
  have hm1 : (1 : Int) ≤ (m : Int) := by omega
  have i0 : 0 ≤ (k : Int) % (m : Int) := Int.emod_nonneg _ (by omega)
  have i1 : (k : Int) % (m : Int) < (m : Int) := Int.emod_lt_of_pos _ (by omega)
  have q0 : 0 ≤ (k : Int) / (m : Int) := Int.ediv_nonneg (by omega) (by omega)
  have q1 : (k : Int) / (m : Int) ≤ (k : Int) := Int.ediv_le_self _ (by omega)
  have m0 : 0 ≤ ((x.toNat : Int) + (k : Int) / (m : Int) * 37) % n := Int.emod_nonneg _ (by omega)
  have m1 : ((x.toNat : Int) + (k : Int) / (m : Int) * 37) % n < n := Int.emod_lt_of_pos _ (by omega)
  go_enter Tryz.func41, Tryz.ntmps41
  go_wp2
  go_quiet (fail)
  go_wp2
  go_ret
  exact ⟨_, rfl, fun _ => ⟨m0, m1⟩, fun h => absurd h (by omega), src_next h _ (by omega) _⟩

set_option maxHeartbeats 1600000 in
theorem l1Next_mid (w : World) (base g : Nat) (A : Option Addr) (m c k : Nat) (l : List UInt8) (n : Int) (h : Src w base g A m c k l) (hk : k < 1073741824) (h2 : 200 < n) (h3 : n ≤ 60000) (h0 : m ≠ 0) :
    Calls Tryz.prog 41 #[.pointer (some ⟨g, 0, none⟩), .int .i64 n] w (RetDraw base g A m c k l n w) := by
  obtain ⟨r0, r1, f0, f1⟩ := h.at_.two
  have h1 := (src_next h ((k : Int) + 1) (by omega) 0).1
  obtain ⟨s0, s1, _, _⟩ := h1.at_.two
  have hlt : k % m < m := Nat.mod_lt _ (by omega)
  have hlt2 : (k + 1) % m < m := Nat.mod_lt _ (by omega)
  obtain ⟨g', o', x, rfl, hg', _, ca⟩ := h1.rd.byte (k := k % m) (by rw [h.len]; exact hlt)
  obtain ⟨g'', o'', y, e, _, _, cb⟩ := h1.rd.byte (k := (k + 1) % m) (by rw [h.len]; exact hlt2)
  simp only [Option.some.injEq, Addr.mk.injEq, and_true] at e
  obtain ⟨rfl, rfl⟩ := e
  simp only [show ∀ x : World, x.drewN 0 = x from fun x => rfl] at s0 s1 ca cb
  push_cast at s1
  have hbig := h.big
  have hx := x.toNat_lt
  have hy := y.toNat_lt
  have hm1 : (1 : Int) ≤ (m : Int) := by omega
  have i0 : 0 ≤ (k : Int) % (m : Int) := Int.emod_nonneg _ (by omega)
  have i1 : (k : Int) % (m : Int) < (m : Int) := Int.emod_lt_of_pos _ (by omega)
  have j0 : 0 ≤ ((k : Int) + 1) % (m : Int) := Int.emod_nonneg _ (by omega)
  have j1 : ((k : Int) + 1) % (m : Int) < (m : Int) := Int.emod_lt_of_pos _ (by omega)
  have q0 : 0 ≤ (k : Int) / (m : Int) := Int.ediv_nonneg (by omega) (by omega)
  have q1 : (k : Int) / (m : Int) ≤ (k : Int) := Int.ediv_le_self _ (by omega)
  have m0 : 0 ≤ (((x.toNat : Int) + (k : Int) / (m : Int) * 37) * 251 + (y.toNat : Int) * 13 + (k : Int)) % n := Int.emod_nonneg _ (by omega)
  have m1 : (((x.toNat : Int) + (k : Int) / (m : Int) * 37) * 251 + (y.toNat : Int) * 13 + (k : Int)) % n < n := Int.emod_lt_of_pos _ (by omega)
  go_enter Tryz.func41, Tryz.ntmps41
  go_wp2
  go_quiet (fail)
  go_wp2
  go_quiet (fail)
  go_wp2
  go_ret
  exact ⟨_, rfl, fun _ => ⟨m0, m1⟩, fun h => absurd h (by omega), src_next h _ (by omega) _⟩

theorem l1Next (w : World) (base g : Nat) (A : Option Addr) (m c k : Nat) (l : List UInt8) (n : Int) (h : Src w base g A m c k l) (hk : k < 1073741824) (h3 : n ≤ 60000) :
    Calls Tryz.prog 41 #[.pointer (some ⟨g, 0, none⟩), .int .i64 n] w (RetDraw base g A m c k l n w) := by
  by_cases h1 : n < 1
  · exact l1Next_none w base g A m c k l n h hk h1
  · by_cases h0 : m = 0
    · exact l1Next_zero w base g A m c k l n h hk (by omega) h0
    · by_cases h2 : n ≤ 200
      · exact l1Next_small w base g A m c k l n h hk (by omega) h2 h0
      · exact l1Next_mid w base g A m c k l n h hk (by omega) h3 h0

/-- A new reader of a code. -/
theorem l1Source (A : Option Addr) (m c : Nat) (l : List UInt8) (w : World) (ha : Rd eB w w.heap.size A l) (hn : l.length = m) (hm : m ≤ 1048576) :
    Calls Tryz.prog 35 #[.slice A m c] w fun e w' => e = .returned (.pointer (some ⟨w.heap.size, 0, none⟩)) ∧ Src w' w.heap.size w.heap.size A m c 0 l ∧ Below w.heap.size w w' ∧ w'.heap.size = w.heap.size + 1 := by
  go_enter Tryz.func35, Tryz.ntmps35
  go_wp2
  go_ret
  exact ⟨rfl, ⟨At.new _ _ _, ha.alloc (Nat.le_refl _) _, hn, hm, Nat.le_refl _⟩, (Below.refl _ _).alloc (Nat.le_refl _) _, by simp⟩

/-- One chance out of so many. -/
theorem l1Chance (w : World) (base g : Nat) (A : Option Addr) (m c k : Nat) (l : List UInt8) (n : Int) (h : Src w base g A m c k l) (hk : k < 1073741824) (h3 : n ≤ 60000) :
    Calls Tryz.prog 46 #[.pointer (some ⟨g, 0, none⟩), .int .i64 n] w fun e w' => ∃ b : Bool, e = .returned (.bool b) ∧ Src w' base g A m c (k + 1) l ∧ Within g (g + 1) w w' ∧ w'.heap.size = w.heap.size := by
  go_enter Tryz.func46, Tryz.ntmps46
  go_wp2_with (go_at_call 41; refine (l1Next w base g A m c k l n h hk h3).mono ?_; rintro e w1 ⟨r, rfl, _, _, h1⟩)
  go_ret
  exact ⟨_, rfl, h1⟩
end Go.Proofs.YtmaillakhhdkfaaGreatDoor
namespace Go.Proofs.YtmaillakhhdkfaaGreatDoor
set_option maxRecDepth 20000
open Go.RowKit

end Go.Proofs.YtmaillakhhdkfaaGreatDoor
/-
  Draws that pick out of a list, and that draw bytes.
-/
namespace Go.Proofs.YtmaillakhhdkfaaGreatDoor
set_option maxRecDepth 20000
open Go.RowKit

def intCells (xs : List Int) : Array Value := (xs.map (Value.int .i64)).toArray
theorem intCells_at {xs : List Int} {j : Nat} {v : Int} (h : xs[j]? = some v) : (intCells xs)[j]? = some (.int .i64 v) := by
  simp [intCells, h]

theorem pick_cell {w w1 : World} {b g : Nat} {xs : List Int} (hb : At w b 2 (intCells xs)) (hw : Within g (g + 1) w w1) (hne : b ≠ g) {j : Nat} (hj : j < xs.length) :
    ∃ v, w1.cell? ⟨b, j, none⟩ = some (.int .i64 v) ∧ v ∈ xs := by
  have hb1 := hb.within hw (by omega)
  exact ⟨xs[j], (hb1.cell j).trans (intCells_at (List.getElem?_eq_getElem hj)), List.getElem_mem hj⟩
theorem cell_heap {w w' : World} {p : Addr} (h : w'.heap[p.block]? = w.heap[p.block]?) : w'.cell? p = w.cell? p := by
  unfold World.cell?
  rw [h]
theorem Src.within {w w' : World} {base g n c k lo hi : Nat} {A : Option Addr} {l : List UInt8} (h : Src w base g A n c k l) (hw : Within lo hi w w') (hlo : g < lo) : Src w' base g A n c k l :=
  ⟨h.at_.within hw (.inl hlo), h.rd.keep fun p hp => cell_heap (hw.block _ (by have := h.low; have := h.at_.lt; omega) (by have := h.low; omega)), h.len, h.big, h.low⟩
theorem Src.below {w w' : World} {B base g n c k : Nat} {A : Option Addr} {l : List UInt8} (h : Src w base g A n c k l) (hw : Below B w w') (hB : g < B) : Src w' base g A n c k l :=
  ⟨h.at_.below hw hB, h.rd.below hw (by have := h.low; omega), h.len, h.big, h.low⟩
theorem Src.grown {w w' : World} {row : Option Nat} {base g n c k : Nat} {A : Option Addr} {l : List UInt8} (h : Src w base g A n c k l) (hb : w.grownBy w' row) (hr : ∀ x, row = some x → g < x) : Src w' base g A n c k l :=
  ⟨h.at_.grown hb (fun e => by have := hr _ e; omega), h.rd.keep fun p hp => cell_heap (hb.block _ (by have := h.low; have := h.at_.lt; omega) (fun e => by have := hr _ e.symm; have := h.low; omega)), h.len, h.big, h.low⟩
theorem Within.push {a b w : World} {lo hi : Nat} {row : Option Nat} (h : Within lo hi w a) (hb : a.grownBy b row) (hr : ∀ g, row = some g → w.heap.size ≤ g) : Within lo hi w b :=
  ⟨hb.os.trans h.os, hb.tape.trans h.tape, hb.output.trans h.output, Nat.le_trans h.size hb.size, fun k hk hne => (hb.block k (Nat.lt_of_lt_of_le hk h.size) (fun e => by have := hr k e.symm; omega)).trans (h.block k hk hne)⟩
theorem Within.alloc {a w : World} {lo hi : Nat} (h : Within lo hi w a) (o : Obj) : Within lo hi w (a.alloc o) := h.trans (Within.of_below ((Below.refl _ _).alloc (Nat.le_refl _) o))

/-- One out of a list of numbers that was just laid. -/
theorem l1Pick (w : World) (base g : Nat) (A : Option Addr) (m c k : Nat) (l : List UInt8) (b : Nat) (cs : Array Value) (xs : List Int) (n c' : Nat) (h : Src w base g A m c k l) (hk : k < 1073741824)
    (hb : At w b 2 cs) (hcs : cs = intCells xs) (hne : b ≠ g) (hn : xs.length = n) (h1 : 1 ≤ n) (h3 : n ≤ 60000) :
    Calls Tryz.prog 42 #[.pointer (some ⟨g, 0, none⟩), .slice (some ⟨b, 0, none⟩) n c'] w fun e w' => ∃ v : Int, v ∈ xs ∧ e = .returned (.int .i64 v) ∧ Src w' base g A m c (k + 1) l ∧ Within g (g + 1) w w' ∧ w'.heap.size = w.heap.size := by
  subst hcs
  have Hn := Lib.hid hn
  clear hn
  go_enter Tryz.func42, Tryz.ntmps42
  go_wp2_with (go_at_call 41; refine (l1Next w base g A m c k l n h hk (by omega)).mono ?_; rintro e w1 ⟨r, rfl, hr, _, h1⟩; obtain ⟨hr0, hr1⟩ := hr (by omega); obtain ⟨j, rfl⟩ := Int.eq_ofNat_of_zero_le hr0; obtain ⟨v, hv, hx⟩ := pick_cell hb h1.2.1 hne (show j < xs.length by rw [Hn.out]; omega))
  go_ret
  exact ⟨_, hx, rfl, h1⟩

end Go.Proofs.YtmaillakhhdkfaaGreatDoor
/-
  The law's draws of arguments.
-/
namespace Go.Proofs.YtmaillakhhdkfaaGreatDoor
set_option maxRecDepth 20000
open Go.RowKit

theorem pick_nat {xs : List Int} {v : Int} (N : Nat) (h : v ∈ xs) (ha : (xs.all fun x => decide (0 ≤ x ∧ x ≤ (N : Int))) = true) : ∃ q : Nat, v = (q : Int) ∧ q ≤ N := by
  have := List.all_eq_true.1 ha v h
  simp only [decide_eq_true_eq] at this
  exact ⟨v.toNat, by omega, by omega⟩
theorem Src.alloc {w : World} {base g n c k : Nat} {A : Option Addr} {l : List UInt8} (h : Src w base g A n c k l) (o : Obj) : Src (w.alloc o) base g A n c k l := h.below ((Below.refl _ _).alloc (Nat.le_refl _) o) h.at_.lt

end Go.Proofs.YtmaillakhhdkfaaGreatDoor
/-
  A region in which a load may stand on either side of a call, and a store ends it: both orders are walked from there on.
-/
namespace Go.Proofs.YtmaillakhhdkfaaGreatDoor
set_option maxRecDepth 20000
open Go.RowKit

section
variable {P : Program} {md : Region.Mode} {ops : Array Oper} {Q : Exit → Act → World → Prop}

/-- The order fits the region. -/
def forkB (md : Region.Mode) (ops : Array Oper) : Array Bool → List (Nat × Bool) → Bool
  | _, [] => true
  | listed, (k, c) :: p => (if c then Region.ready md ops listed == [k] else (Region.ready md ops listed).contains k && Region.free md ops listed k) && forkB md ops (listed.setIfInBounds k true) p
def listedBy (listed : Array Bool) (p : List (Nat × Bool)) : Array Bool := p.foldl (fun t x => t.setIfInBounds x.1 true) listed

/-- Both of two. -/
def forkAll (md : Region.Mode) (ops : Array Oper) (n : Nat) (p p1 p2 : List (Nat × Bool)) (i j : Nat) : Bool :=
  Region.noSelect ops && (forkB md ops (Array.replicate n false) p && ((Region.ready md ops (listedBy (Array.replicate n false) p) == [i, j]) &&
    ((forkB md ops ((listedBy (Array.replicate n false) p).setIfInBounds i true) p1 && (Region.ready md ops (listedBy ((listedBy (Array.replicate n false) p).setIfInBounds i true) p1)).isEmpty) &&
     (forkB md ops ((listedBy (Array.replicate n false) p).setIfInBounds j true) p2 && (Region.ready md ops (listedBy ((listedBy (Array.replicate n false) p).setIfInBounds j true) p2)).isEmpty)) &&
    (p.length + (p1.length + 1) == n && p1.length == p2.length && decide (i < n) && decide (j < n) && (p ++ p1 ++ p2).all fun x => decide (x.1 < n))))

end
end Go.Proofs.YtmaillakhhdkfaaGreatDoor
/-
  As Mix, but two that make memory may come in either order: both are walked from there on, and what is known of every world goes along.
-/
namespace Go.Proofs.YtmaillakhhdkfaaGreatDoor
set_option maxRecDepth 20000
open Go.RowKit

section
variable {P : Program} {md : Region.Mode} {ops : Array Oper} {Q : Exit → Act → World → Prop}

/-- As 'mixW'; behind it R. -/
def mixRW (P : Program) (ops : Array Oper) (Q : Exit → Act → World → Prop) (R : (World → Prop) → Act → World → Prop) : List (Oper × Bool) → (World → Prop) → Act → World → Prop
  | [], S, a, w => R S a w
  | (o, c) :: rest, S, a, w =>
    if Region.wanted o (yielded ops a.tmps) = true then
      if c = true then o.wp P a w (fun a' w' => ∃ S' : World → Prop, (∀ x, S' x → S x) ∧ S' w' ∧ mixRW P ops Q R rest S' a' w') Q
      else ∃ v, (∀ x, S x → (execOp a.eval o).run P x = .ok (.value v) x) ∧ mixRW P ops Q R rest S (a.put o.dst v) w
    else mixRW P ops Q R rest S (a.put o.dst undef) w

theorem held_of_mixR {l : List Oper} {R : (World → Prop) → Act → World → Prop} (hsel : Region.noSelect l.toArray = true) (hQ : ∀ c a (d : Nat) v w, Q (.panic c) (Act.put a (some d) v) w → Q (.panic c) a w) (fuel : Nat) :
    ∀ (p : List (Nat × Bool)) (listed : Array Bool) (S : World → Prop) (a : Act) (w : World), (∀ x ∈ p, x.1 < l.length) → forkB md l.toArray listed p = true →
      (∀ S a w, S w → R S a w → wpAnyH P md l.toArray Q S fuel (listedBy listed p) a w) → S w → mixRW P l.toArray Q R (mixOps l p) S a w →
      wpAnyH P md l.toArray Q S (p.length + fuel) listed a w
  | [], listed, S, a, w, _, _, hR, hS, h => by
    rw [List.length_nil, Nat.zero_add]
    exact hR S a w hS h
  | (k, c) :: p, listed, S, a, w, hl, hB, hR, hS, h => by
    have hk : k < l.length := hl (k, c) (by simp)
    obtain ⟨o, ho⟩ : ∃ o, l[k]? = some o := ⟨_, List.getElem?_eq_getElem hk⟩
    have hoa : l.toArray[k]? = some o := by simpa using ho
    simp only [forkB, Bool.and_eq_true] at hB
    obtain ⟨hb, hB'⟩ := hB
    have hQ' : ∀ c a d v w, Q (.panic c) (Act.put a d v) w → Q (.panic c) a w := fun c a d v w h => by
      cases d with
      | none => exact h
      | some d => exact hQ c a d v w h
    have ih := fun S a w => held_of_mixR hsel hQ fuel p (listed.setIfInBounds k true) S a w (fun x hx => hl x (by simp [hx])) hB' hR
    have e : ((k, c) :: p).length + fuel = p.length + fuel + 1 := by rw [List.length_cons]; omega
    rw [e]
    simp only [mixOps, List.map_cons, ho, Option.getD_some, mixRW] at h
    cases c with
    | false =>
      simp only [Bool.false_eq_true, if_false, Bool.and_eq_true] at hb h
      by_cases hw : Region.wanted o (yielded l.toArray a.tmps) = true
      · rw [if_pos hw] at h
        obtain ⟨v, hv, h⟩ := h
        exact wpAnyH_take hoa hsel hb.2 hb.1 (fun c a w => hQ' c a _ _ w) (.inl ⟨hw, hv⟩) hS (ih S _ w hS h)
      · rw [if_neg hw] at h
        exact wpAnyH_take hoa hsel hb.2 hb.1 (fun c a w => hQ' c a _ _ w) (.inr ⟨by simpa using hw, rfl⟩) hS (ih S _ w hS h)
    | true =>
      simp only [if_true] at hb h
      refine wpAnyH_all (rs := [k]) (by simpa using hb) (by simp) fun i hi => ?_
      obtain rfl : i = k := by simpa using hi
      unfold wpOp
      rw [hoa]
      simp only
      by_cases hw : Region.wanted o (yielded l.toArray a.tmps) = true
      · rw [if_pos hw] at h ⊢
        have h1 : wpOp P l.toArray Q i (fun a' w' => ∃ S' : World → Prop, (∀ x, S' x → S x) ∧ S' w' ∧ mixRW P l.toArray Q R (mixOps l p) S' a' w') a w := by
          unfold wpOp
          rw [hoa]
          simp only
          rw [if_pos hw]
          exact .inl h
        have h2 := wpOp_mono (K' := fun a' w' => S w' ∧ wpAnyH P md l.toArray Q S (p.length + fuel) (listed.setIfInBounds i true) a' w') (fun a' w' ⟨S', h1, h2, h3⟩ => ⟨h1 _ h2, held_mono h1 _ _ _ _ (ih S' a' w' h2 h3)⟩) h1
        unfold wpOp at h2
        rw [hoa] at h2
        simp only at h2
        rwa [if_pos hw] at h2
      · rw [if_neg hw] at h ⊢
        exact ⟨hS, ih S _ w hS h⟩

theorem wpOp_of_mixR {l : List Oper} {R : (World → Prop) → Act → World → Prop} {i : Nat} {o : Oper} {rest : List (Oper × Bool)} {S : World → Prop} {a : Act} {w : World} (hoa : l.toArray[i]? = some o) (hS : S w)
    (h : mixRW P l.toArray Q R ((o, true) :: rest) S a w) : wpOp P l.toArray Q i (fun a' w' => ∃ S' : World → Prop, (∀ x, S' x → S x) ∧ S' w' ∧ mixRW P l.toArray Q R rest S' a' w') a w := by
  unfold wpOp
  rw [hoa]
  simp only
  unfold mixRW at h
  by_cases hw : Region.wanted o (yielded l.toArray a.tmps) = true
  · rw [if_pos hw] at h ⊢
    rw [if_pos rfl] at h
    exact .inl h
  · rw [if_neg hw] at h ⊢
    exact ⟨S, fun _ h => h, hS, h⟩

theorem wp_region_fork2 {id : Nat} {l : List Oper} {a : Act} {w : World} (p p1 p2 : List (Nat × Bool)) (i j : Nat) (S : World → Prop) (hm : P.follows .mixedOrders = true) (hB : forkAll .any l.toArray l.length p p1 p2 i j = true)
    (hQ : ∀ c a (d : Nat) v w, Q (.panic c) (Act.put a (some d) v) w → Q (.panic c) a w) (hS : S w.drew)
    (h : mixRW P l.toArray Q (fun S a w => mixRW P l.toArray Q (fun _ a w => Q .normal a w) (mixOps l ((i, true) :: p1)) S a w ∧ mixRW P l.toArray Q (fun _ a w => Q .normal a w) (mixOps l ((j, true) :: p2)) S a w) (mixOps l p) S a w.drew) :
    (Code.region id l.toArray true).wp P Q a w := by
  unfold forkAll at hB
  simp only [Bool.and_eq_true, beq_iff_eq, List.all_eq_true, decide_eq_true_eq, List.mem_append] at hB
  obtain ⟨h1, h2, ⟨h3, ⟨h4, h5⟩, h6, h7⟩, ⟨⟨⟨h8, h9⟩, h10⟩, h11⟩, h12⟩ := hB
  refine wp_region_held (S := S) hm ?_
  have hi : l[i]? = some l[i] := List.getElem?_eq_getElem h10
  have hj : l[j]? = some l[j] := List.getElem?_eq_getElem h11
  have go := held_of_mixR (P := P) (md := .any) (R := fun S a w => mixRW P l.toArray Q (fun _ a w => Q .normal a w) (mixOps l ((i, true) :: p1)) S a w ∧ mixRW P l.toArray Q (fun _ a w => Q .normal a w) (mixOps l ((j, true) :: p2)) S a w) h1 hQ (p1.length + 1) p
    (Array.replicate l.length false) S a w.drew (fun x hx => h12 x (.inl (.inl hx))) h2 (fun S a w hS hR => by
      refine wpAnyH_all (rs := [i, j]) h3 (by simp) fun k hk => ?_
      rcases (show k = i ∨ k = j by simpa using hk) with rfl | rfl
      · have hR1 := hR.1
        simp only [mixOps, List.map_cons, hi, Option.getD_some] at hR1
        refine wpOp_mono (fun a' w' ⟨S', g1, g2, g3⟩ => ⟨g1 _ g2, held_mono g1 _ _ _ _ ?_⟩) (wpOp_of_mixR (by simp) hS hR1)
        exact held_of_mixR h1 hQ 0 p1 _ S' a' w' (fun x hx => h12 x (.inl (.inr hx))) h4 (fun S a w _ hq => wpAnyH_done (by simpa using h5) hq 0) g2 g3
      · have hR1 := hR.2
        simp only [mixOps, List.map_cons, hj, Option.getD_some] at hR1
        refine wpOp_mono (fun a' w' ⟨S', g1, g2, g3⟩ => ⟨g1 _ g2, held_mono g1 _ _ _ _ ?_⟩) (wpOp_of_mixR (by simp) hS hR1)
        have := held_of_mixR h1 hQ 0 p2 _ S' a' w' (fun x hx => h12 x (.inr hx)) h6 (fun S a w _ hq => wpAnyH_done (by simpa using h7) hq 0) g2 g3
        rwa [← h9] at this) hS h
  rw [h8] at go
  simpa using go

theorem mixR_pure {R : (World → Prop) → Act → World → Prop} {o : Oper} {rest : List (Oper × Bool)} {S : World → Prop} {a : Act} {w : World} {v : Value} (hw : Region.wanted o (yielded ops a.tmps) = true)
    (hv : ∀ x, S x → (execOp a.eval o).run P x = .ok (.value v) x) (h : mixRW P ops Q R rest S (a.put o.dst v) w) : mixRW P ops Q R ((o, false) :: rest) S a w := by
  unfold mixRW
  rw [if_pos hw, if_neg (by simp)]
  exact ⟨v, hv, h⟩
theorem mixR_skip {R : (World → Prop) → Act → World → Prop} {o : Oper} {c : Bool} {rest : List (Oper × Bool)} {S : World → Prop} {a : Act} {w : World} (hw : Region.wanted o (yielded ops a.tmps) = false)
    (h : mixRW P ops Q R rest S (a.put o.dst undef) w) : mixRW P ops Q R ((o, c) :: rest) S a w := by
  unfold mixRW
  rw [if_neg (by simp [hw])]
  exact h
theorem mixR_call {R : (World → Prop) → Act → World → Prop} {o : Oper} {rest : List (Oper × Bool)} {S : World → Prop} {a : Act} {w : World} (hw : Region.wanted o (yielded ops a.tmps) = true)
    (h : ∀ K : Act → World → Prop, (∀ a' w' (S' : World → Prop), (∀ x, S' x → S x) → S' w' → mixRW P ops Q R rest S' a' w' → K a' w') → o.wp P a w K Q) : mixRW P ops Q R ((o, true) :: rest) S a w := by
  unfold mixRW
  rw [if_pos hw, if_pos rfl]
  exact h _ fun a' w' S' h1 h2 h3 => ⟨S', h1, h2, h3⟩
theorem mixR_nil {R : (World → Prop) → Act → World → Prop} {S : World → Prop} {a : Act} {w : World} (h : R S a w) : mixRW P ops Q R [] S a w := h
end
end Go.Proofs.YtmaillakhhdkfaaGreatDoor
namespace Go.Proofs.YtmaillakhhdkfaaGreatDoor
set_option maxRecDepth 20000
open Go.RowKit

end Go.Proofs.YtmaillakhhdkfaaGreatDoor
namespace Go.Proofs.YtmaillakhhdkfaaGreatDoor
set_option maxRecDepth 20000
open Go.RowKit

/-- What a mark lays: k, k + 1, .. as bytes. -/
def marks (k n : Nat) : List UInt8 := (List.range n).map fun i => UInt8.ofNat (k + i)
theorem byte_num (n : Nat) : ((UInt8.ofNat n).toNat : Int) = (n : Int) % 256 := by
  rw [UInt8.toNat_ofNat']
  omega

end Go.Proofs.YtmaillakhhdkfaaGreatDoor
namespace Go.Proofs.YtmaillakhhdkfaaGreatDoor
set_option maxRecDepth 20000
open Go.RowKit

/-- An answer of a code and bytes of the call's own. -/
def RetBR (r : Int × List UInt8) (w : World) (e : Ending) (w' : World) : Prop :=
  ∃ A n c, e = .returned (.agg #[.int .i64 r.1, .slice A n c]) ∧ Ow eB w' w.heap.size A n c r.2 ∧ Below w.heap.size w w'

end Go.Proofs.YtmaillakhhdkfaaGreatDoor
namespace Go.Proofs.YtmaillakhhdkfaaGreatDoor
set_option maxRecDepth 20000
open Go.RowKit

theorem set_next {α : Type} (z : α) (xs : List α) (n k : Nat) (x : α) (hk : k < n) (hn : xs.length = n) (hx : xs[k]? = some x) :
    (xs.take k ++ List.replicate (n - k) z).set k x = xs.take (k + 1) ++ List.replicate (n - (k + 1)) z := by
  apply List.ext_getElem?
  intro i
  have hl : (xs.take k).length = k := by rw [List.length_take]; omega
  have hl' : (xs.take (k + 1)).length = k + 1 := by rw [List.length_take]; omega
  rw [List.getElem?_set]
  by_cases h1 : k = i
  · subst h1
    rw [if_pos rfl, if_pos (by simp; omega), List.getElem?_append_left (by omega), List.getElem?_take, if_pos (by omega), hx]
  · rw [if_neg h1]
    rcases Nat.lt_or_ge i k with h2 | h2
    · rw [List.getElem?_append_left (by omega), List.getElem?_append_left (by omega), List.getElem?_take, List.getElem?_take, if_pos (by omega), if_pos (by omega)]
    · rw [List.getElem?_append_right (by omega), List.getElem?_append_right (by omega), hl, hl', List.getElem?_replicate, List.getElem?_replicate]
      by_cases h3 : i < n
      · rw [if_pos (by omega), if_pos (by omega)]
      · rw [if_neg (by omega), if_neg (by omega)]
theorem part_at {α : Type} (z : α) (xs : List α) (n k : Nat) (hk : k < n) (hn : xs.length = n) : (xs.take k ++ List.replicate (n - k) z)[k]? = some z := by
  rw [List.getElem?_append_right (by simp; omega), List.length_take, hn, Nat.min_eq_left (by omega), Nat.sub_self, List.getElem?_replicate, if_pos (by omega)]

/-- Elements laid one by one into a row that was made: the first k are there. -/
def ToRel {α : Type} (E : Enc α) (z : α) (w : World) (g : Nat) (xs : List α) (n : Nat) (i : Value) (wr : World) : Prop :=
  ∃ k : Nat, k ≤ n ∧ i = .int .i64 k ∧ Ow E wr w.heap.size (some ⟨g, 0, none⟩) n n (xs.take k ++ List.replicate (n - k) z) ∧ Below w.heap.size w wr
theorem toRel_end {α : Type} {E : Enc α} {z : α} {wr : World} {g base : Nat} {xs : List α} {n k : Nat} (h : Ow E wr base (some ⟨g, 0, none⟩) n n (xs.take k ++ List.replicate (n - k) z)) (hk : k = n) (hx : xs.length = n) :
    Ow E wr base (some ⟨g, 0, none⟩) n n xs := by
  subst hk
  rw [Nat.sub_self, List.replicate_zero, List.append_nil, List.take_of_length_le (by omega)] at h
  exact h

end Go.Proofs.YtmaillakhhdkfaaGreatDoor
