/-
  Texts of one proof, joined: each has its own namespace.
-/
import Derived.Test.YtmaillakhhdkfaaGreatDoorRows
import Derived.WalkKit
import Derived.WalkSpells
import Derived.WalkLawsBesides
import Derived.ProofKit
import Derived.Deep.QuietTactic
import Derived.Deep.DeepFit
import Derived.BigQuiet
import Derived.Lib.Hide
import Derived.Maps.AppendAt
import Derived.IntWalk
import Derived.OwnWalk
/-
  Words for memory that this seat's walks share: what the elements of a slice are (Enc), a slice that reads as a list (Rd), a slice of the call's own that holds a list (Ow); how they are kept; append and make in these words.
-/
namespace Go.Proofs.YtmaillakhhdkfaaGreatDoor
set_option maxRecDepth 20000
open Go.RowKit

theorem bdrewN {B : Nat} {a w : World} (h : Below B a w) (n : Nat) : Below B a (w.drewN n) := ⟨h.os, h.tape, h.output, h.size, h.block⟩

/-- Behind a call that left what was there as it was: old cells and old marks read as before (the walk's rules). -/
theorem bcell {W w1 : World} (hb : Below W.heap.size W w1) : (∀ b o, b < W.heap.size → w1.cell? ⟨b, o, none⟩ = W.cell? ⟨b, o, none⟩) ∧ (∀ b o, b < W.heap.size → w1.frozen? ⟨b, o, none⟩ = W.frozen? ⟨b, o, none⟩) :=
  ⟨fun b o h => hb.cell (p := ⟨b, o, none⟩) h, fun b o h => hb.frozen (p := ⟨b, o, none⟩) h⟩

/-- A block that is known whole. -/
def At (w : World) (g : Nat) (t : TypeId) (cs : Array Value) : Prop := w.heap[g]? = some (.cells cs t (0, 0))
section
variable {w w' : World} {g : Nat} {t : TypeId} {cs : Array Value}
theorem At.lt (h : At w g t cs) : g < w.heap.size := by
  rcases Nat.lt_or_ge g w.heap.size with h1 | h1
  · exact h1
  · unfold At at h; rw [Array.getElem?_eq_none h1] at h; cases h
theorem At.cell (h : At w g t cs) (i : Nat) : w.cell? ⟨g, i, none⟩ = cs[i]? := cell_of_row w g i cs t (0, 0) h
theorem At.frozen (h : At w g t cs) (i : Nat) : w.frozen? ⟨g, i, none⟩ = false := frozen_of_row w g i cs t h
theorem At.new (w : World) (t : TypeId) (cs : Array Value) : At (w.alloc (.cells cs t)) w.heap.size t cs := heap_alloc_new w _
theorem At.drewN (h : At w g t cs) (n : Nat) : At (w.drewN n) g t cs := h
theorem At.alloc (h : At w g t cs) (o : Obj) : At (w.alloc o) g t cs := (Below.heap_alloc w o g h.lt).trans h
theorem At.below {B : Nat} (h : At w g t cs) (hb : Below B w w') (hg : g < B) : At w' g t cs := (hb.block g hg).trans h
theorem At.grown {row : Option Nat} (h : At w g t cs) (hb : w.grownBy w' row) (hg : row ≠ some g) : At w' g t cs := (hb.block g h.lt (fun e => hg e.symm)).trans h
theorem At.far (h : At w g t cs) {p : Addr} (hp : g ≠ p.block) (u : Value) : At (w.setCell p u) g t cs := (Below.heap_setCell w p u g hp).trans h
theorem At.set (h : At w g t cs) (i : Nat) (u : Value) : At (w.setCell ⟨g, i, none⟩ u) g t (cs.setIfInBounds i u) := heap_setCell_same w g i cs t u h
theorem At.two {a b : Value} (h : At w g t #[a, b]) : w.cell? ⟨g, 0, none⟩ = some a ∧ w.cell? ⟨g, 1, none⟩ = some b ∧ w.frozen? ⟨g, 0, none⟩ = false ∧ w.frozen? ⟨g, 1, none⟩ = false :=
  ⟨h.cell 0, h.cell 1, h.frozen 0, h.frozen 1⟩
theorem At.three {a b c : Value} (h : At w g t #[a, b, c]) : w.cell? ⟨g, 0, none⟩ = some a ∧ w.cell? ⟨g, 1, none⟩ = some b ∧ w.cell? ⟨g, 2, none⟩ = some c ∧ w.frozen? ⟨g, 0, none⟩ = false ∧ w.frozen? ⟨g, 1, none⟩ = false ∧ w.frozen? ⟨g, 2, none⟩ = false :=
  ⟨h.cell 0, h.cell 1, h.cell 2, h.frozen 0, h.frozen 1, h.frozen 2⟩
end

/-- Nothing but blocks from 'lo' to below 'hi' has turned, and what is new. -/
structure Within (lo hi : Nat) (w w' : World) : Prop where
  os : w'.os = w.os
  tape : w'.tape = w.tape
  output : w'.output = w.output
  size : w.heap.size ≤ w'.heap.size
  block : ∀ k, k < w.heap.size → (k < lo ∨ hi ≤ k) → w'.heap[k]? = w.heap[k]?
theorem within_of {w w' : World} {row : Option Nat} {lo hi : Nat} (h : w.grownBy w' row) (hr : ∀ g, row = some g → lo ≤ g ∧ g < hi) : Within lo hi w w' :=
  ⟨h.os, h.tape, h.output, h.size, fun k hk hne => h.block k hk (fun e => by have := hr k e.symm; omega)⟩
theorem Within.grown {w w' : World} {lo hi g : Nat} (h : Within lo hi w w') (hg : g < lo ∨ hi ≤ g) (hs : g < w.heap.size) : w'.heap[g]? = w.heap[g]? := h.block g hs hg
theorem Within.trans {a b c : World} {lo hi : Nat} (h : Within lo hi a b) (k : Within lo hi b c) : Within lo hi a c :=
  ⟨k.os.trans h.os, k.tape.trans h.tape, k.output.trans h.output, Nat.le_trans h.size k.size, fun i hi' hne => (k.block i (Nat.lt_of_lt_of_le hi' h.size) hne).trans (h.block i hi' hne)⟩
theorem Within.refl (lo hi : Nat) (w : World) : Within lo hi w w := ⟨rfl, rfl, rfl, Nat.le_refl _, fun _ _ _ => rfl⟩
theorem Within.more {w w' : World} {lo hi lo' hi' : Nat} (h : Within lo hi w w') (h1 : lo' ≤ lo) (h2 : hi ≤ hi') : Within lo' hi' w w' :=
  ⟨h.os, h.tape, h.output, h.size, fun k hk hne => h.block k hk (by omega)⟩
/-- A call that left what was there as it was. -/
theorem Within.of_below {w w' : World} {lo hi : Nat} (h : Below w.heap.size w w') : Within lo hi w w' := ⟨h.os, h.tape, h.output, h.size, fun k hk _ => h.block k hk⟩
/-- The blocks that turned are all of the call's own. -/
theorem Within.below {a w w' : World} {B lo hi : Nat} (h : Below B a w) (k : Within lo hi w w') (hB : B ≤ w.heap.size) (hlo : B ≤ lo) : Below B a w' :=
  h.trans ⟨k.os, k.tape, k.output, k.size, fun i hi' => k.block i (by omega) (by omega)⟩
theorem At.within {w w' : World} {g : Nat} {t : TypeId} {cs : Array Value} {lo hi : Nat} (h : At w g t cs) (k : Within lo hi w w') (hg : g < lo ∨ hi ≤ g) : At w' g t cs := (k.block g h.lt hg).trans h

/-- How an element lies in memory: its type's number, how many cells, which. -/
structure Enc (α : Type) where
  tid : Nat
  size : Nat
  cells : α → List Value

structure EncOk {α : Type} (E : Enc α) : Prop where
  len : ∀ a, (E.cells a).length = E.size
  one : ∀ a u, u ∈ E.cells a → u.oneCell' = true
  pos : 0 < E.size

def Enc.row {α : Type} (E : Enc α) (l : List α) : List Value := l.flatMap E.cells

section
variable {α : Type} {E : Enc α}
theorem EncOk.row_len (h : EncOk E) (l : List α) : (E.row l).length = l.length * E.size := by
  induction l with
  | nil => simp [Enc.row]
  | cons a l ih =>
    unfold Enc.row at ih ⊢
    rw [List.flatMap_cons, List.length_append, h.len, ih, List.length_cons, Nat.add_mul]
    omega
theorem EncOk.row_at (h : EncOk E) : ∀ (l : List α) (k j : Nat) (a : α), l[k]? = some a → j < E.size → (E.row l)[k * E.size + j]? = (E.cells a)[j]? := by
  intro l
  induction l with
  | nil => intro k j a hk; simp at hk
  | cons b l ih =>
    intro k j a hk hj
    unfold Enc.row at ih ⊢
    rw [List.flatMap_cons]
    match k, hk with
    | 0, hk =>
      obtain rfl : b = a := by simpa using hk
      rw [Nat.zero_mul, Nat.zero_add, List.getElem?_append_left (by rw [h.len]; exact hj)]
    | k + 1, hk =>
      rw [List.getElem?_append_right (by rw [h.len, Nat.add_mul]; omega), h.len]
      rw [← ih k j a (by simpa using hk) hj]
      congr 1
      rw [Nat.add_mul]
      omega
theorem row_append (l m : List α) : E.row (l ++ m) = E.row l ++ E.row m := by simp [Enc.row]
theorem EncOk.row_one (h : EncOk E) (l : List α) : ∀ u ∈ E.row l, u.oneCell' = true := by
  intro u hu
  unfold Enc.row at hu
  obtain ⟨a, _, ha⟩ := List.mem_flatMap.1 hu
  exact h.one a u ha
/-- One cell of one element is stored: the element is another one. -/
theorem EncOk.row_set (h : EncOk E) : ∀ (l : List α) (k j : Nat) (a a' : α) (u : Value), l[k]? = some a → j < E.size → E.cells a' = (E.cells a).set j u → (E.row l).set (k * E.size + j) u = E.row (l.set k a') := by
  intro l
  induction l with
  | nil => intro k j a a' u hk; simp at hk
  | cons b l ih =>
    intro k j a a' u hk hj hc
    unfold Enc.row at ih ⊢
    match k, hk with
    | 0, hk =>
      obtain rfl : b = a := by simpa using hk
      rw [Nat.zero_mul, Nat.zero_add, List.set_cons_zero, List.flatMap_cons, List.flatMap_cons, List.set_append, if_pos (by rw [h.len]; exact hj), hc]
    | k + 1, hk =>
      rw [List.set_cons_succ, List.flatMap_cons, List.flatMap_cons, List.set_append, if_neg (by rw [h.len, Nat.add_mul]; omega), h.len, ← ih k j a a' u (by simpa using hk) hj hc]
      congr 2
      rw [Nat.add_mul]
      omega
end

/-- A slice's address reads the list 'l' in a block below 'hi'. -/
def Rd {α : Type} (E : Enc α) (w : World) (hi : Nat) (A : Option Addr) (l : List α) : Prop :=
  l ≠ [] → ∃ g o, A = some ⟨g, o, none⟩ ∧ g < hi ∧ ∀ (k j : Nat) (a : α) (u : Value), l[k]? = some a → (E.cells a)[j]? = some u → w.cell? ⟨g, o + k * E.size + j, none⟩ = some u

section
variable {α : Type} {E : Enc α} {w w' : World} {hi hi' B : Nat} {A : Option Addr} {l : List α}
theorem getElem?_some_lt {k : Nat} {a : α} (h : l[k]? = some a) : k < l.length := by
  rcases Nat.lt_or_ge k l.length with h1 | h1
  · exact h1
  · rw [List.getElem?_eq_none h1] at h; cases h
theorem Rd.at_ (h : Rd E w hi A l) {k : Nat} (hk : k < l.length) :
    ∃ g o a, A = some ⟨g, o, none⟩ ∧ g < hi ∧ l[k]? = some a ∧ ∀ (j : Nat) (u : Value), (E.cells a)[j]? = some u → w.cell? ⟨g, o + k * E.size + j, none⟩ = some u := by
  obtain ⟨g, o, e, hg, hc⟩ := h (by intro e; subst e; simp at hk)
  exact ⟨g, o, l[k], e, hg, List.getElem?_eq_getElem hk, fun j u hu => hc k j _ u (List.getElem?_eq_getElem hk) hu⟩
theorem Rd.keep (h : Rd E w hi A l) (hk : ∀ p : Addr, p.block < hi → w'.cell? p = w.cell? p) : Rd E w' hi A l := fun hn => by
  obtain ⟨g, o, e, hg, hc⟩ := h hn
  exact ⟨g, o, e, hg, fun k j a u h1 h2 => (hk _ hg).trans (hc k j a u h1 h2)⟩
theorem Rd.below (h : Rd E w hi A l) (hb : Below B w w') (hB : hi ≤ B) : Rd E w' hi A l := h.keep fun _ hp => hb.cell (Nat.lt_of_lt_of_le hp hB)
theorem Rd.alloc (h : Rd E w hi A l) (hB : hi ≤ w.heap.size) (o : Obj) : Rd E (w.alloc o) hi A l := h.keep fun p hp => World.cell?_alloc_lt w o p (Nat.lt_of_lt_of_le hp hB)
theorem Rd.drewN (h : Rd E w hi A l) (k : Nat) : Rd E (w.drewN k) hi A l := h
theorem Rd.more (h : Rd E w hi A l) (hB : hi ≤ hi') : Rd E w hi' A l := fun hn => by
  obtain ⟨g, o, e, hg, hc⟩ := h hn
  exact ⟨g, o, e, Nat.lt_of_lt_of_le hg hB, hc⟩
theorem Rd.lift (h : Rd E w w.heap.size A l) (hb : Below w.heap.size w w') : Rd E w' w'.heap.size A l := (h.below hb (Nat.le_refl _)).more hb.size
theorem Rd.nil : Rd E w hi A [] := fun h => absurd rfl h
/-- What a list of which this is a middle part reads as, from there on. -/
theorem Rd.add {k : Nat} (h : Rd E w hi A l) (_hk : k < l.length) : ∃ g o, A = some ⟨g, o, none⟩ ∧ Rd E w hi (some ⟨g, o + k * E.size, none⟩) (l.drop k) := by
  obtain ⟨g, o, e, hg, hc⟩ := h (by intro e; subst e; simp at _hk)
  refine ⟨g, o, e, fun _ => ⟨g, o + k * E.size, rfl, hg, fun i j a u h1 h2 => ?_⟩⟩
  rw [List.getElem?_drop] at h1
  have := hc (k + i) j a u h1 h2
  rw [Nat.add_mul, ← Nat.add_assoc o] at this
  exact this
theorem Rd.take (h : Rd E w hi A l) (k : Nat) : Rd E w hi A (l.take k) := fun hn => by
  obtain ⟨g, o, e, hg, hc⟩ := h (by intro e; subst e; simp at hn)
  refine ⟨g, o, e, hg, fun i j a u h1 h2 => hc i j a u ?_ h2⟩
  rw [List.getElem?_take] at h1
  split at h1
  · exact h1
  · cases h1
end

/-- A row of the call's own: the slice's value is nil or leads to the head of a block from 'base' on. -/
def Ow {α : Type} (E : Enc α) (w : World) (base : Nat) (A : Option Addr) (n c : Nat) (l : List α) : Prop :=
  w.ownsRow base E.tid E.size (.slice A n c) n (E.row l)

theorem grown_below {w w' : World} {B : Nat} (h : Below B w w') (hB : w.heap.size ≤ B) : w.grownBy w' none :=
  ⟨h.os, h.tape, h.output, h.size, fun k hk _ => h.block k (by omega)⟩
theorem grown_trans {w w' w'' : World} {row : Option Nat} (h : w.grownBy w' row) (h2 : w'.grownBy w'' row) : w.grownBy w'' row :=
  ⟨h2.os.trans h.os, h2.tape.trans h.tape, h2.output.trans h.output, Nat.le_trans h.size h2.size, fun k hk hne => (h2.block k (Nat.lt_of_lt_of_le hk h.size) hne).trans (h.block k hk hne)⟩

section
variable {α : Type} {E : Enc α} {w w' : World} {base base' n c : Nat} {A : Option Addr} {l : List α}
theorem Ow.len (hE : EncOk E) (h : Ow E w base A n c l) : l.length = n := by
  have h1 := h.1
  rw [hE.row_len] at h1
  exact Nat.eq_of_mul_eq_mul_right hE.pos h1
theorem Ow.small (h : Ow E w base A n c l) : n ≤ maxLen := by
  rcases h.2 with ⟨_, h0⟩ | ⟨g, cap, cur, _, _, _, h1, h2, _⟩
  · omega
  · exact Nat.le_trans h1 h2
theorem Ow.cap (h : Ow E w base A n c l) : n ≤ c := by
  rcases h.2 with ⟨_, h0⟩ | ⟨g, cap, cur, hv, _, _, h1, _⟩
  · omega
  · simp only [Value.slice.injEq] at hv
    omega
theorem Ow.capMax (h : Ow E w base A n c l) : c ≤ maxLen := by
  rcases h.2 with ⟨h0, _⟩ | ⟨g, cap, cur, hv, _, _, _, h2, _⟩
  · simp only [Value.slice.injEq] at h0
    omega
  · simp only [Value.slice.injEq] at hv
    omega
theorem Ow.form (h : Ow E w base A n c l) (hn : 0 < n) : ∃ g, A = some ⟨g, 0, none⟩ ∧ base ≤ g ∧ g < w.heap.size := by
  rcases h.2 with ⟨_, h0⟩ | ⟨g, cap, cur, hv, hb, hg, _⟩
  · omega
  · simp only [Value.slice.injEq] at hv
    obtain ⟨rfl, _, rfl⟩ := hv
    exact ⟨g, rfl, hb, (Array.getElem?_eq_some_iff.1 hg).1⟩
theorem Ow.lt (h : Ow E w base A n c l) : ∀ g, A.map (·.block) = some g → base ≤ g ∧ g < w.heap.size := by
  intro g hg
  refine World.ownsRow.lt h g ?_
  cases A with
  | none => simp at hg
  | some a => simpa [Value.ownBlock] using hg
theorem Ow.cellAt (hE : EncOk E) {g : Nat} (h : Ow E w base (some ⟨g, 0, none⟩) n c l) {k j : Nat} {a : α} {u : Value} (hk : l[k]? = some a) (hu : (E.cells a)[j]? = some u) : w.cell? ⟨g, k * E.size + j, none⟩ = some u := by
  have hl := getElem?_some_lt hk
  have hj : j < E.size := by rw [← hE.len a]; exact getElem?_some_lt hu
  have hn := Ow.len hE h
  have hlt : k * E.size + j < n * E.size := by
    have : (k + 1) * E.size ≤ n * E.size := Nat.mul_le_mul_right _ (by omega)
    rw [Nat.add_mul] at this
    omega
  rw [World.ownsRow.cellAt h _ hlt, hE.row_at l k j a hk hj, hu]
theorem Ow.frozenAt {g : Nat} (h : Ow E w base (some ⟨g, 0, none⟩) n c l) (j : Nat) : w.frozen? ⟨g, j, none⟩ = false := World.ownsRow.frozenAt h j
theorem Ow.rd (hE : EncOk E) (h : Ow E w base A n c l) : Rd E w w.heap.size A l := fun hne => by
  have hlen := h.len hE
  have hn : 0 < n := by
    rcases Nat.eq_zero_or_pos n with h0 | h0
    · exact absurd (List.eq_nil_of_length_eq_zero (by omega)) hne
    · exact h0
  obtain ⟨g, rfl, _, hg⟩ := h.form hn
  exact ⟨g, 0, rfl, hg, fun k j a u hk hu => by rw [Nat.zero_add]; exact h.cellAt hE hk hu⟩
theorem Ow.grown {row : Option Nat} (h : Ow E w base A n c l) (hg : w.grownBy w' row) (hne : ∀ g, A.map (·.block) = some g → row ≠ some g) : Ow E w' base A n c l := by
  refine World.ownsRow.kept h hg ?_
  cases A with
  | none => exact .inl rfl
  | some a => exact .inr fun e => hne a.block rfl (by simpa [Value.ownBlock] using e.symm)
theorem Ow.below {B : Nat} (h : Ow E w base A n c l) (hb : Below B w w') (hB : w.heap.size ≤ B) : Ow E w' base A n c l := h.grown (grown_below hb hB) (by simp)
/-- A row in blocks from 'lo' to below 'hi' is kept where other blocks alone have turned. -/
theorem Ow.within {lo hi lo' hi' : Nat} (h : Ow E w base A n c l) (k : Within lo' hi' w w') (hr : ∀ g, A.map (·.block) = some g → lo ≤ g ∧ g < hi) (hd : hi ≤ lo' ∨ hi' ≤ lo) : Ow E w' base A n c l := by
  refine ⟨h.1, ?_⟩
  rcases h.2 with h0 | ⟨g, cap, cur, hv, hb, hgg, rest⟩
  · exact .inl h0
  · refine .inr ⟨g, cap, cur, hv, hb, ?_, rest⟩
    simp only [Value.slice.injEq] at hv
    have hlt := hr g (by rw [hv.1]; rfl)
    rw [k.block g (Array.getElem?_eq_some_iff.1 hgg).1 (by omega)]
    exact hgg
theorem Ow.alloc (h : Ow E w base A n c l) (o : Obj) : Ow E (w.alloc o) base A n c l := World.ownsRow.alloc h o
theorem Ow.drewN (h : Ow E w base A n c l) (k : Nat) : Ow E (w.drewN k) base A n c l := h
theorem Ow.from_ (h : Ow E w base A n c l) (hb : base' ≤ base) : Ow E w base' A n c l := by
  refine ⟨h.1, ?_⟩
  rcases h.2 with h0 | ⟨g, cap, cur, hv, hb', rest⟩
  · exact .inl h0
  · exact .inr ⟨g, cap, cur, hv, Nat.le_trans hb hb', rest⟩
theorem grown_setCell (w : World) (p : Addr) (u : Value) : w.grownBy (w.setCell p u) (some p.block) :=
  ⟨rfl, rfl, rfl, by simp [World.setCell], fun k _ hne => Below.heap_setCell w p u k (fun e => hne (by rw [e]))⟩
/-- A store into a block below the row's base. -/
theorem Ow.under (h : Ow E w base A n c l) {p : Addr} (hp : p.block < base) (u : Value) : Ow E (w.setCell p u) base A n c l :=
  h.grown (grown_setCell w p u) (fun g hg e => by
    have h1 := (h.lt g hg).1
    simp only [Option.some.injEq] at e
    omega)
theorem Ow.nil : Ow E w base none 0 0 [] := World.ownsRow_nil w base E.tid E.size
theorem Ow.stored (hE : EncOk E) {g : Nat} (h : Ow E w base (some ⟨g, 0, none⟩) n c l) {k j : Nat} {a a' : α} {u : Value} (hk : l[k]? = some a) (hj : j < E.size) (hc : E.cells a' = (E.cells a).set j u) :
    Ow E (w.setCell ⟨g, k * E.size + j, none⟩ u) base (some ⟨g, 0, none⟩) n c (l.set k a') ∧ w.grownBy (w.setCell ⟨g, k * E.size + j, none⟩ u) (some g) := by
  obtain ⟨h1, h2⟩ := World.ownsRow.stored h (k * E.size + j) u
  refine ⟨?_, h2⟩
  unfold Ow
  rw [← hE.row_set l k j a a' u hk hj hc]
  exact h1
/-- A row that was laid at once. -/
theorem Ow.lit (w : World) (l : List α) (cs : Array Value) (n : Nat) (hb : base ≤ w.heap.size) (hm : n ≤ maxLen) (hcs : cs.toList = E.row l) (hs : cs.size = n * E.size) :
    Ow E (w.alloc (.cells cs E.tid)) base (some ⟨w.heap.size, 0, none⟩) n n l := by
  unfold Ow
  rw [← hcs]
  exact World.ownsRow_lit w cs n hb hm hs
end

theorem addr_add (g o j : Nat) : (⟨g, o, none⟩ : Addr).add j = ⟨g, o + j, none⟩ := by unfold Addr.add; split <;> simp_all

theorem rd_lit {α : Type} {E : Enc α} (hE : EncOk E) (w : World) (t : TypeId) (l : List α) (cs : Array Value) (hcs : cs.toList = E.row l) : Rd E (w.alloc (.cells cs t)) (w.heap.size + 1) (some ⟨w.heap.size, 0, none⟩) l := fun _ => by
  refine ⟨w.heap.size, 0, rfl, Nat.lt_succ_self _, fun k j a u hk hu => ?_⟩
  have hj : j < E.size := by rw [← hE.len a]; exact getElem?_some_lt hu
  rw [cell_of_row _ _ _ _ _ _ (heap_alloc_new w _), Nat.zero_add, ← Array.getElem?_toList, hcs, hE.row_at l k j a hk hj, hu]

/-- append to a row of the call's own; what is appended is read anywhere. -/
theorem run_append_ow {P : Program} {α : Type} {E : Enc α} (hE : EncOk E) (w : World) (base : Nat) (t ty : TypeId) (i : TypeInfo) (z : Value) (bytes : Nat) (ht : P.underlying t = some (.slice E.tid)) (hi : P.info? E.tid = some i) (hz : i.zero = some z)
    (hsize : i.size = E.size) (hby : i.bytes = bytes) (hzs : z.cells.size = E.size)
    (A : Option Addr) (n c : Nat) (l : List α) (hown : Ow E w base A n c l)
    (X : Option Addr) (m d hi' : Nat) (news : List α) (hX : Rd E w hi' X news) (hm : news.length = m)
    (h63 : n + m ≤ maxLen) (hbytes : (n + m) * bytes ≤ 140737488355328) (hbase : base ≤ w.heap.size) :
    ∃ A' c' w', (Builtin.append_ #[t, t] ty #[.slice A n c, .slice X m d]).run P w = .ok (.slice A' (n + m) c') w' ∧ Ow E w' base A' (n + m) c' (l ++ news) ∧ w.grownBy w' (A.map (·.block)) ∧
      (A'.map (·.block) = A.map (·.block) ∨ A'.map (·.block) = some w.heap.size) := by
  rcases Nat.eq_zero_or_pos m with h0 | h0
  · subst h0
    have hn : news = [] := List.eq_nil_of_length_eq_zero hm
    subst hn
    refine ⟨A, c, w, ?_, by simpa using hown, World.grownBy.refl _ _, .inl rfl⟩
    rcases hown.2 with ⟨h1, rfl⟩ | ⟨g, cap, cur, h1, _, _, hnc, _⟩
    · simp only [Value.slice.injEq] at h1
      obtain ⟨rfl, _, rfl⟩ := h1
      cases X <;> simp [Builtin.append_, run_underlying ht, sizeOf, typeInfo, hi, Builtin.lenOf, Builtin.firstCells, loadCells, loadCellsFrom]
    · simp only [Value.slice.injEq] at h1
      obtain ⟨rfl, _, rfl⟩ := h1
      cases X <;> simp [Builtin.append_, run_underlying ht, sizeOf, typeInfo, hi, Builtin.lenOf, Builtin.firstCells, hnc, storeCells, loadCells, loadCellsFrom]
  · obtain ⟨g, o, rfl, _, hc⟩ := hX (by rintro rfl; simp at hm; omega)
    have hcells : ∀ j u, (E.row news)[j]? = some u → w.cell? ((⟨g, o, none⟩ : Addr).add j) = some u := by
      intro j u hu
      have hj : j < (E.row news).length := getElem?_some_lt hu
      rw [hE.row_len] at hj
      have hk : j / E.size < news.length := Nat.div_lt_of_lt_mul (by rw [Nat.mul_comm]; exact hj)
      have hr : j % E.size < E.size := Nat.mod_lt _ hE.pos
      have hd : j = j / E.size * E.size + j % E.size := by rw [Nat.mul_comm]; exact (Nat.div_add_mod j E.size).symm
      rw [hd, hE.row_at news (j / E.size) (j % E.size) _ (List.getElem?_eq_getElem hk) hr] at hu
      have := hc (j / E.size) (j % E.size) _ u (List.getElem?_eq_getElem hk) hu
      rw [addr_add]
      rw [Nat.add_assoc, ← hd] at this
      exact this
    obtain ⟨v', w', hrun, h2, h3, _, h5⟩ := run_append_own_at (P := P) w base t ty E.tid i z E.size bytes ht hi hz hsize hby hzs hE.pos (.slice A n c) n (E.row l) hown ⟨g, o, none⟩ m d (E.row news) (by rw [hE.row_len, hm]) hcells (hE.row_one news) h63 hbytes hbase
    have hform : ∃ g' cap, v' = .slice (some ⟨g', 0, none⟩) (n + m) cap := by
      rcases h2.2 with ⟨_, h⟩ | ⟨g', cap, cur, h, _⟩
      · omega
      · exact ⟨g', cap, h⟩
    obtain ⟨g', cap, rfl⟩ := hform
    have hob : (Value.slice A n c).ownBlock = A.map (·.block) := by cases A <;> rfl
    rw [hob] at h3 h5
    rw [← row_append] at h2
    exact ⟨_, _, w', hrun, h2, h3, h5⟩

theorem wpList_append_ow {P : Program} {α : Type} {E : Enc α} (hE : EncOk E) (w : World) {ops : Array Oper} {rest : List Oper} {o : Oper} {a : Act} {Q : Exit → Act → World → Prop} (hgd : o.guard = none) (s x : Operand) (t : TypeId)
    (ho : o.op = .call { callee := .builtin .append, args := #[s, x], argTypes := #[t, t] })
    (base : Nat) {z : Value} {bytes : Nat} (hinfo : (P.info? E.tid).map (fun i => (i.zero, i.size, i.bytes)) = some (some z, E.size, bytes)) (ht : P.underlying t = some (.slice E.tid)) (hzs : z.cells.size = E.size)
    (A : Option Addr) (n c : Nat) (l : List α) (hs : a.eval s = .slice A n c) (hown : Ow E w base A n c l)
    (X : Option Addr) (m d hi' : Nat) (news : List α) (hx : a.eval x = .slice X m d) (hX : Rd E w hi' X news) (hm : news.length = m)
    (h63 : n + m ≤ maxLen) (hbytes : (n + m) * bytes ≤ 140737488355328) (hbase : base ≤ w.heap.size)
    (h : ∀ A' c' w', Ow E w' base A' (n + m) c' (l ++ news) → w.grownBy w' (A.map (·.block)) → (A'.map (·.block) = A.map (·.block) ∨ A'.map (·.block) = some w.heap.size) → wpList P ops Q rest (a.put o.dst (.slice A' (n + m) c')) w') : wpList P ops Q (o :: rest) a w := by
  obtain ⟨i, hi, hz, hsz, hby⟩ := info_parts hinfo
  obtain ⟨A', c', w', hrun, h2, h3, h4⟩ := run_append_ow (P := P) hE w base t o.type i z bytes ht hi hz hsz hby hzs A n c l hown X m d hi' news hX hm h63 hbytes hbase
  refine wpList_plain hgd fun _ hK => ?_
  unfold Oper.wp execOp
  simp only [ho, resolve, invoke, builtin, Sem.run_bind, Sem.run_pure, Result.andThen_ok, List.map_toArray, List.map_cons, List.map_nil, hs, hx, hrun]
  exact hK _ _ (h A' c' w' h2 h3 h4)

/-- 'make([]T, n)', n a variable: n zero elements. -/
theorem wpList_make_ow {P : Program} {α : Type} {E : Enc α} (hE : EncOk E) (w : World) {ops : Array Oper} {rest : List Oper} {o : Oper} {a : Act} {Q : Exit → Act → World → Prop} (hgd : o.guard = none) (x y : Operand) (t : TypeId) (ho : o.op = Op.makeSlice t x y)
    (base : Nat) {z : Value} {bytes : Nat} (hinfo : (P.info? E.tid).map (fun i => (i.zero, i.size, i.bytes)) = some (some z, E.size, bytes)) (ht : P.underlying t = some (.slice E.tid)) (z0 : α) (hzs : z.cells.toList = E.cells z0)
    (kl kc : IntKind) (L C : Int) (n : Nat) (hl : a.eval x = .int kl L) (hc : a.eval y = .int kc C) (hL : L = (n : Int)) (hC : C = (n : Int)) (b2 : bytes * n ≤ 281474976710656) (b3 : n ≤ maxLen) (b4 : base ≤ w.heap.size)
    (h : ∀ w', Ow E w' base (some ⟨w.heap.size, 0, none⟩) n n (List.replicate n z0) → w.grownBy w' none → wpList P ops Q rest (a.put o.dst (.slice (some ⟨w.heap.size, 0, none⟩) n n)) w') : wpList P ops Q (o :: rest) a w := by
  obtain ⟨i, hi, hz, hsz, hby⟩ := info_parts hinfo
  refine wpList_make_full w hgd x y t ho base E.tid i z E.size ht hi hz hsz kl kc L C n hl hc hL hC (by rw [hby]; exact b2) b3 b4 fun w' h1 h2 => h w' ?_ h2
  unfold Ow
  have e : (madeCells z.cells (n * E.size)).toList = E.row (List.replicate n z0) := by
    have hzl : z.cells.size = E.size := by rw [← Array.length_toList, hzs, hE.len]
    apply List.ext_getElem?
    intro j
    rcases Nat.lt_or_ge j (n * E.size) with hj | hj
    · have hk : j / E.size < n := Nat.div_lt_of_lt_mul (by rw [Nat.mul_comm]; exact hj)
      have hr : j % E.size < E.size := Nat.mod_lt _ hE.pos
      have hd : j = j / E.size * E.size + j % E.size := by rw [Nat.mul_comm]; exact (Nat.div_add_mod j E.size).symm
      have h3 := hE.row_at (List.replicate n z0) (j / E.size) (j % E.size) z0 (by rw [List.getElem?_replicate, if_pos hk]) hr
      rw [← hd] at h3
      rw [h3, ← hzs]
      have hr2 : j % E.size < z.cells.size := by omega
      simp only [madeCells, Array.toList_map, Array.toList_range, List.getElem?_map, List.getElem?_range hj, Option.map_some, hzl, Array.getElem?_toList]
      rw [getElem!_pos z.cells _ hr2, Array.getElem?_eq_getElem hr2]
    · rw [List.getElem?_eq_none (by simpa [madeCells] using hj), List.getElem?_eq_none (by rw [hE.row_len]; simpa using hj)]
  rw [← e]
  exact h1

/-- Bytes. -/
def eB : Enc UInt8 := ⟨5, 1, fun b => [.int .u8 (b.toNat : Int)]⟩
theorem okB : EncOk eB := ⟨fun _ => rfl, fun a u hu => by simp only [eB, List.mem_singleton] at hu; subst hu; rfl, Nat.one_pos⟩
theorem info_u8 : (Tryz.prog.info? 5).map (fun i => (i.zero, i.size, i.bytes)) = some (some (.int .u8 0), 1, 1) := by kernel_rfl

section
variable {w w' : World} {base hi n c : Nat} {A : Option Addr} {l : List UInt8}
/-- One byte of a slice that reads as 'l'. -/
theorem Rd.byte (h : Rd eB w hi A l) {k : Nat} (hk : k < l.length) : ∃ g o x, A = some ⟨g, o, none⟩ ∧ g < hi ∧ l[k]? = some x ∧ w.cell? ⟨g, o + k, none⟩ = some (.int .u8 (x.toNat : Int)) := by
  obtain ⟨g, o, a, e, hg, ha, hc⟩ := h.at_ hk
  refine ⟨g, o, a, e, hg, ha, ?_⟩
  have := hc 0 _ rfl
  simpa [eB] using this
theorem Ow.byteAt {g : Nat} (h : Ow eB w base (some ⟨g, 0, none⟩) n c l) {k : Nat} {x : UInt8} (hk : l[k]? = some x) : w.cell? ⟨g, k, none⟩ = some (.int .u8 (x.toNat : Int)) := by
  have := h.cellAt okB hk (j := 0) (u := .int .u8 (x.toNat : Int)) rfl
  simpa [eB] using this
theorem Ow.byteSet {g : Nat} (h : Ow eB w base (some ⟨g, 0, none⟩) n c l) {k : Nat} (hk : k < n) (y : UInt8) :
    Ow eB (w.setCell ⟨g, k, none⟩ (.int .u8 (y.toNat : Int))) base (some ⟨g, 0, none⟩) n c (l.set k y) ∧ w.grownBy (w.setCell ⟨g, k, none⟩ (.int .u8 (y.toNat : Int))) (some g) := by
  have hl := h.len okB
  have := h.stored okB (k := k) (j := 0) (a' := y) (u := .int .u8 (y.toNat : Int)) (List.getElem?_eq_getElem (by omega)) Nat.one_pos rfl
  simpa [eB] using this
end
end Go.Proofs.YtmaillakhhdkfaaGreatDoor
namespace Go.Proofs.YtmaillakhhdkfaaGreatDoor
set_option maxRecDepth 20000
open Go.RowKit

def inB (b : Int × Int × Int) : Bool := decide (b.2.1 ≤ b.1) && decide (b.1 ≤ b.2.2)

/-- A row of bounds: three numbers each. -/
def Bnds (w : World) (g : Nat) (bs : List (Int × Int × Int)) : Prop :=
  ∀ (k : Nat) (b : Int × Int × Int), bs[k]? = some b → w.cell? ⟨g, k * 3, none⟩ = some (.int .i64 b.1) ∧ w.cell? ⟨g, k * 3 + 1, none⟩ = some (.int .i64 b.2.1) ∧ w.cell? ⟨g, k * 3 + 2, none⟩ = some (.int .i64 b.2.2)

def BoundRel (w : World) (bs : List (Int × Int × Int)) (n : Nat) (i : Value) (wr : World) : Prop :=
  ∃ k : Nat, k ≤ n ∧ i = .int .i64 k ∧ (∀ j b, j < k → bs[j]? = some b → inB b = true) ∧ Below w.heap.size w wr

theorem all_no {bs : List (Int × Int × Int)} {k : Nat} {b : Int × Int × Int} (h : bs[k]? = some b) (hb : inB b = false) : bs.all inB = false := by
  rw [List.all_eq_false]
  exact ⟨b, List.mem_of_getElem? h, by simp [hb]⟩
theorem all_yes {bs : List (Int × Int × Int)} {n : Nat} (hn : bs.length = n) (h : ∀ j b, j < n → bs[j]? = some b → inB b = true) : bs.all inB = true := by
  rw [List.all_eq_true]
  intro b hb
  obtain ⟨j, hj⟩ := List.mem_iff_getElem?.1 hb
  have hl : j < bs.length := by
    rcases Nat.lt_or_ge j bs.length with h1 | h1
    · exact h1
    · rw [List.getElem?_eq_none h1] at hj; cases hj
  exact h j b (by omega) hj

set_option maxHeartbeats 400000 in
theorem areWithin_any (g n c : Nat) (bs : List (Int × Int × Int)) (w : World) (hb : Bnds w g bs) (hg : g < w.heap.size) (hn : bs.length = n) (hm : n ≤ 1000) :
    Calls Tryz.prog 73 #[.slice (some ⟨g, 0, none⟩) n c] w fun e w' => e = .returned (.bool (bs.all inB)) ∧ Below w.heap.size w w' := by
  have Hn := Lib.hid hn
  clear hn
  go_enter Tryz.func73, Tryz.ntmps73
  go_wp2
  go_loopw [7] (fun i wr => BoundRel w bs n i wr) (fun i _ => n - (intOf i).toNat)
  case atStart => exact ⟨0, Nat.zero_le _, rfl, fun _ _ h => absurd h (by omega), Below.refl _ _⟩
  case round =>
    obtain ⟨k, hk, rfl, hal, hbel⟩ := hrel
    have Hal := Lib.hid hal
    clear hal
    by_cases hlt : k < n
    · obtain ⟨b, hb0⟩ : ∃ b, bs[k]? = some b := ⟨bs[k]'(by rw [Hn.out]; exact hlt), List.getElem?_eq_getElem (by rw [Hn.out]; exact hlt)⟩
      obtain ⟨c0, c1, c2⟩ := hb k b hb0
      have hsz := hbel.size
      rw [← hbel.cell (p := ⟨g, k * 3, none⟩) hg] at c0
      rw [← hbel.cell (p := ⟨g, k * 3 + 1, none⟩) hg] at c1
      rw [← hbel.cell (p := ⟨g, k * 3 + 2, none⟩) hg] at c2
      have Hb0 := Lib.hid hb0
      clear hb0
      obtain ⟨x, lo, hi⟩ := b
      go_wp2
      · have Hf := Lib.hid (all_no Hb0.out (show inB (x, lo, hi) = false by simp only [inB, Bool.and_eq_false_iff, decide_eq_false_iff_not]; omega))
        go_ret
        exact ⟨by rw [Hf.out]; rfl, hbel.alloc hsz _⟩
      · refine ⟨⟨k + 1, by omega, by go_num, fun j b hj hb => ?_, hbel.alloc hsz _⟩, by simp [intOf]; omega⟩
        rcases Nat.lt_or_ge j k with h | h
        · exact Hal.out j b h hb
        · obtain rfl : j = k := by omega
          obtain rfl : (x, lo, hi) = b := Option.some.inj (Hb0.out.symm.trans hb)
          simp only [inB, Bool.and_eq_true, decide_eq_true_eq]
          omega
      · have Hf := Lib.hid (all_no Hb0.out (show inB (x, lo, hi) = false by simp only [inB, Bool.and_eq_false_iff, decide_eq_false_iff_not]; omega))
        go_ret
        exact ⟨by rw [Hf.out]; rfl, hbel.alloc hsz _⟩
    · have hfin : bs.all inB = true := all_yes Hn.out (by obtain rfl : k = n := by omega
                                                          exact Hal.out)
      have Hf := Lib.hid hfin
      clear hfin
      go_wp2
      go_ret
      exact ⟨by rw [Hf.out]; rfl, hbel⟩

/-- One bound, told out of hand. -/
theorem bnds_one {w : World} {t : TypeId} {x lo hi : Int} {g : Nat} (hg : w.heap.size = g) : Bnds (w.alloc (.cells #[.int .i64 x, .int .i64 lo, .int .i64 hi] t)) g [(x, lo, hi)] := by
  subst hg
  intro k b hk
  match k, hk with
  | 0, hk =>
    obtain rfl : (x, lo, hi) = b := by simpa using hk
    refine ⟨?_, ?_, ?_⟩ <;> (rw [cell_of_row _ _ _ _ _ _ (heap_alloc_new w _)]; rfl)
  | k + 1, hk => simp at hk
theorem bnds_two {w : World} {t : TypeId} {x lo hi x' lo' hi' : Int} {g : Nat} (hg : w.heap.size = g) : Bnds (w.alloc (.cells #[.int .i64 x, .int .i64 lo, .int .i64 hi, .int .i64 x', .int .i64 lo', .int .i64 hi'] t)) g [(x, lo, hi), (x', lo', hi')] := by
  subst hg
  intro k b hk
  match k, hk with
  | 0, hk =>
    obtain rfl : (x, lo, hi) = b := by simpa using hk
    refine ⟨?_, ?_, ?_⟩ <;> (rw [cell_of_row _ _ _ _ _ _ (heap_alloc_new w _)]; rfl)
  | 1, hk =>
    obtain rfl : (x', lo', hi') = b := by simpa using hk
    refine ⟨?_, ?_, ?_⟩ <;> (rw [cell_of_row _ _ _ _ _ _ (heap_alloc_new w _)]; rfl)
  | k + 2, hk => simp at hk

set_option maxHeartbeats 400000 in
theorem isWordSize_any (n : Int) (w : World) :
    Calls Tryz.prog 82 #[.int .i64 n] w fun e w' => e = .returned (.bool (inB (n, 1, 4))) ∧ Below w.heap.size w w' := by
  go_enter Tryz.func82, Tryz.ntmps82
  go_wp2_with (go_at_call 73; refine (areWithin_any _ _ _ [(n, 1, 4)] _ (bnds_one (by simp)) (by simp) rfl (by simp)).mono ?_; rintro e w' ⟨rfl, hb⟩)
  go_ret
  exact ⟨by simp, ((Below.refl _ _).alloc (Nat.le_refl _) _).trans (hb.mono (by simp))⟩

theorem l1In_any (v lo hi : Int) (w : World) :
    Calls Tryz.prog 67 #[.int .i64 v, .int .i64 lo, .int .i64 hi] w fun e w' => e = .returned (.bool (inB (v, lo, hi))) ∧ w = w' := by
  by_cases h1 : lo ≤ v
  · by_cases h2 : v ≤ hi
    · have Hf := Lib.hid (show inB (v, lo, hi) = true by simp only [inB, Bool.and_eq_true, decide_eq_true_eq]; omega)
      go_enter Tryz.func67, Tryz.ntmps67
      go_wp2
      go_ret
      exact ⟨by rw [Hf.out]; simp, rfl⟩
    · have Hf := Lib.hid (show inB (v, lo, hi) = false by simp only [inB, Bool.and_eq_false_iff, decide_eq_false_iff_not]; omega)
      go_enter Tryz.func67, Tryz.ntmps67
      go_wp2
      go_ret
      exact ⟨by rw [Hf.out]; simp, rfl⟩
  · have h3 : decide (lo ≤ v) = false := by simpa using h1
    have Hf := Lib.hid (show inB (v, lo, hi) = false by simp only [inB, Bool.and_eq_false_iff, decide_eq_false_iff_not]; omega)
    go_enter Tryz.func67, Tryz.ntmps67
    go_wp2
    go_ret
    exact ⟨by rw [Hf.out]; rfl, rfl⟩
end Go.Proofs.YtmaillakhhdkfaaGreatDoor
namespace Go.Proofs.YtmaillakhhdkfaaGreatDoor
set_option maxRecDepth 20000
open Go.RowKit

/-- An answer of a code and a number. -/
def RetIR (r : Int × Int) (w : World) (e : Ending) (w' : World) : Prop :=
  e = .returned (.agg #[.int .i64 r.1, .int .i64 r.2]) ∧ Below w.heap.size w w'

end Go.Proofs.YtmaillakhhdkfaaGreatDoor
namespace Go.Proofs.YtmaillakhhdkfaaGreatDoor
set_option maxRecDepth 20000
open Go.RowKit

/-- One shift of a sum. -/
def crcS (n : Nat) : Nat := if 65536 ≤ n * 2 then (n * 2 % 65536) ^^^ 4129 else n * 2
def crcK : Nat → Nat → Nat
  | 0, n => n
  | k + 1, n => crcS (crcK k n)
def crcB (n : Nat) (b : UInt8) : Nat := crcK 8 (n ^^^ (b.toNat * 256))
def sumN (l : List UInt8) : Nat := l.foldl crcB 65535

theorem xor16 {a b : Nat} (ha : a < 65536) (hb : b < 65536) : a ^^^ b < 65536 := by
  have := Nat.xor_lt_two_pow (n := 16) (x := a) (y := b) (by omega) (by omega)
  omega
theorem crcS_lt {n : Nat} (h : n < 65536) : crcS n < 65536 := by
  unfold crcS
  split
  · exact xor16 (by omega) (by omega)
  · omega
theorem crcK_lt {n : Nat} (h : n < 65536) : ∀ k, crcK k n < 65536
  | 0 => h
  | k + 1 => crcS_lt (crcK_lt h k)
theorem crcB_lt {n : Nat} (h : n < 65536) (b : UInt8) : crcB n b < 65536 := by
  have := b.toNat_lt
  unfold crcB
  exact crcK_lt (xor16 h (by omega)) 8
theorem fold_lt {n : Nat} (h : n < 65536) (l : List UInt8) : l.foldl crcB n < 65536 := by
  induction l generalizing n with
  | nil => exact h
  | cons b l ih =>
    rw [List.foldl_cons]
    exact ih (crcB_lt h b)
theorem sumN_lt (l : List UInt8) : sumN l < 65536 := by
  exact fold_lt (n := 65535) (by omega) l
theorem sumN_snoc (l : List UInt8) (k : Nat) (x : UInt8) (h : l[k]? = some x) : sumN (l.take (k + 1)) = crcB (sumN (l.take k)) x := by
  have hl := getElem?_some_lt h
  rw [List.take_succ_eq_append_getElem hl]
  rw [List.getElem?_eq_getElem hl] at h
  rw [Option.some.inj h]
  simp [sumN]

theorem ofInt_i64 (a : Nat) (ha : a < 9223372036854775808) : (BitVec.ofInt 64 (a : Int)).toNat = a := by
  rw [BitVec.ofInt_natCast, BitVec.toNat_ofNat]; exact Nat.mod_eq_of_lt (by omega)
theorem i64_xor (a b : Nat) (ha : a < 65536) (hb : b < 65536) : bits .xor .i64 (a : Int) (b : Int) = ((a ^^^ b : Nat) : Int) := by
  have hx := xor16 ha hb
  show IntKind.i64.wrap ((BitVec.ofInt 64 (a : Int) ^^^ BitVec.ofInt 64 (b : Int)).toNat : Int) = _
  rw [BitVec.toNat_xor, ofInt_i64 a (by omega), ofInt_i64 b (by omega), IntKind.wrap_i64]
  omega

/-- The xor of a sum and a byte that is moved up, in the walk's spelling. -/
theorem xor_up (q : Nat) (x : UInt8) (hq : q < 65536) : ∃ y : Nat, y < 65536 ∧ y = q ^^^ (x.toNat * 256) ∧ bits .xor .i64 (q : Int) ((x.toNat : Int) * 256) = (y : Int) := by
  have hx8 := x.toNat_lt
  refine ⟨_, xor16 hq (by omega), rfl, ?_⟩
  have h := i64_xor q (x.toNat * 256) hq (by omega)
  rw [Int.natCast_mul] at h
  exact h
/-- One shift that goes over, in the walk's spelling. -/
theorem xor_over (r : Nat) (hr : r < 65536) (ho : 65536 ≤ r * 2) : ∃ z : Nat, z < 65536 ∧ z = crcS r ∧ bits .xor .i64 ((r : Int) * 2 % 65536) 4129 = (z : Int) := by
  refine ⟨crcS r, crcS_lt hr, rfl, ?_⟩
  have h := i64_xor (r * 2 % 65536) 4129 (by omega) (by omega)
  rw [Int.natCast_emod, Int.natCast_mul] at h
  rw [crcS, if_pos ho]
  exact h
theorem crcS_under (r : Nat) (ho : ¬ 65536 ≤ r * 2) : crcS r = r * 2 := if_neg ho

set_option maxRecDepth 100000 in
set_option maxHeartbeats 800000 in
theorem l1Sum (A : Option Addr) (n c : Nat) (l : List UInt8) (w : World) (ha : Rd eB w w.heap.size A l) (hn : l.length = n) (hm : n ≤ maxLen) :
    Calls Tryz.prog 118 #[.slice A n c] w fun e w' => e = .returned (.int .i64 (sumN l : Nat)) ∧ w = w' := by
  have Hn := Lib.hid hn
  clear hn
  unfold maxLen at hm
  go_enter Tryz.func118, Tryz.ntmps118
  go_wp2
  go_loop [3, 4, 5] (fun vq vi _ => ∃ k q : Nat, k ≤ n ∧ vi = .int .i64 k ∧ vq = .int .i64 q ∧ q < 65536 ∧ Hid (q = sumN (l.take k))) (fun _ vi _ => n - (intOf vi).toNat)
  case atStart => exact ⟨0, 65535, Nat.zero_le _, rfl, rfl, by omega, Lib.hid (by simp [sumN])⟩
  case round =>
    obtain ⟨k, q, hk, rfl, rfl, hq, Hq⟩ := hrel
    by_cases hlt : k < n
    · obtain ⟨g, o, x, rfl, hg, hx, ca⟩ := ha.byte (k := k) (by rw [Hn.out]; exact hlt)
      have hx8 := x.toNat_lt
      have Hst := Lib.hid (sumN_snoc l k x hx)
      clear hx
      obtain ⟨y, hy, hy0, hxor⟩ := xor_up q x hq
      have Hy := Lib.hid hy0
      clear hy0
      go_wp2
      go_loop [3, 5] (fun vq vj => ∃ j r : Nat, j ≤ 8 ∧ vj = .int .i64 j ∧ vq = .int .i64 r ∧ r < 65536 ∧ Hid (r = crcK j y)) (fun _ vj => 8 - (intOf vj).toNat)
      case atStart => exact ⟨0, y, Nat.zero_le _, rfl, rfl, hy, Lib.hid rfl⟩
      case round =>
        obtain ⟨j, r, hj, rfl, rfl, hr, Hr⟩ := hrel
        by_cases hlt8 : j < 8
        · by_cases ho : 65536 ≤ r * 2
          · obtain ⟨z, hz, hz0, hxor2⟩ := xor_over r hr ho
            have Hz := Lib.hid hz0
            have hge : (65536 : Int) ≤ (r : Int) * 2 := by omega
            clear hz0 ho
            go_wp2
            exact ⟨⟨j + 1, z, by omega, by go_num, rfl, hz, Lib.hid (by rw [Hz.out, Hr.out]; rfl)⟩, by simp [intOf]; omega⟩
          · have hge : decide ((65536 : Int) ≤ (r : Int) * 2) = false := decide_eq_false (by omega)
            have Hz := Lib.hid (crcS_under r ho)
            have Hle := Lib.hid (show r * 2 < 65536 by omega)
            clear ho
            go_wp2
            exact ⟨⟨j + 1, r * 2, by omega, by go_num, by go_num, Hle.out, Lib.hid (by rw [← Hz.out, Hr.out]; rfl)⟩, by simp [intOf]; omega⟩
        · go_wp2
          obtain rfl : j = 8 := by omega
          exact ⟨⟨k + 1, r, by omega, by go_num, rfl, hr, Lib.hid (by rw [Hst.out, ← Hq.out, Hr.out, Hy.out]; rfl)⟩, by simp [intOf]; omega⟩
    · go_wp2
      go_ret
      exact ⟨by rw [Hq.out, List.take_of_length_le (by rw [Hn.out]; omega)]; rfl, rfl⟩

/-! ### impl -/
theorem and_mask (r : Nat) (hr : r < 65536) : bits .and .i64 ((r : Int) * 2) 65535 = (r : Int) * 2 % 65536 := by
  show IntKind.i64.wrap ((BitVec.ofInt 64 ((r : Int) * 2) &&& BitVec.ofInt 64 65535).toNat : Int) = _
  have o1 : (BitVec.ofInt 64 ((r : Int) * 2)).toNat = r * 2 := by
    have := ofInt_i64 (r * 2) (by omega)
    rw [Int.natCast_mul] at this
    exact this
  have o2 : (BitVec.ofInt 64 65535).toNat = 65535 := by decide
  have o3 : r * 2 &&& 65535 = r * 2 % 65536 := Nat.and_two_pow_sub_one_eq_mod (r * 2) 16
  rw [BitVec.toNat_and, o1, o2, o3, IntKind.wrap_i64]
  omega

set_option maxRecDepth 100000 in
set_option maxHeartbeats 800000 in
theorem addToSum (q : Nat) (x : UInt8) (w : World) (hq : q < 65536) :
    Calls Tryz.prog 145 #[.int .i64 q, .int .u8 (x.toNat : Int)] w fun e w' => e = .returned (.int .i64 (crcB q x : Nat)) ∧ w = w' := by
  obtain ⟨y, hy, hy0, hxor⟩ := xor_up q x hq
  have Hy := Lib.hid hy0
  have hx8 := x.toNat_lt
  clear hy0
  go_enter Tryz.func145, Tryz.ntmps145
  go_wp2
  go_loop [0, 10] (fun vq vj => ∃ j r : Nat, j ≤ 8 ∧ vj = .int .i64 j ∧ vq = .int .i64 r ∧ r < 65536 ∧ Hid (r = crcK j y)) (fun _ vj => 8 - (intOf vj).toNat)
  case atStart => exact ⟨0, y, Nat.zero_le _, rfl, rfl, hy, Lib.hid rfl⟩
  case round =>
    obtain ⟨j, r, hj, rfl, rfl, hr, Hr⟩ := hrel
    by_cases hlt8 : j < 8
    · by_cases ho : 65536 ≤ r * 2
      · obtain ⟨z, hz, hz0, hxor2⟩ := xor_over r hr ho
        have Hz := Lib.hid hz0
        have hge : (65535 : Int) < (r : Int) * 2 := by omega
        have hmask := and_mask r hr
        clear hz0 ho
        go_wp2
        exact ⟨⟨j + 1, z, by omega, by go_num, rfl, hz, Lib.hid (by rw [Hz.out, Hr.out]; rfl)⟩, by simp [intOf]; omega⟩
      · have hge : (r : Int) * 2 ≤ 65535 := by omega
        have Hz := Lib.hid (crcS_under r ho)
        have Hle := Lib.hid (show r * 2 < 65536 by omega)
        clear ho
        go_wp2
        exact ⟨⟨j + 1, r * 2, by omega, by go_num, by go_num, Hle.out, Lib.hid (by rw [← Hz.out, Hr.out]; rfl)⟩, by simp [intOf]; omega⟩
    · obtain rfl : j = 8 := by omega
      have Hfin := Lib.hid (show r = crcB q x by rw [Hr.out, Hy.out]; rfl)
      go_wp2
      go_ret
      exact ⟨by rw [← Hfin.out]; rfl, rfl⟩

/-- What SumOf answers. -/
def sumM (l : List UInt8) : Int × Int := if l.length ≤ 20000 then (0, (sumN l : Nat)) else (2, 0)
theorem sumM_big {l : List UInt8} (h : 20000 < l.length) : sumM l = (2, 0) := if_neg (by omega)
theorem sumM_ok {l : List UInt8} (h : l.length ≤ 20000) : sumM l = (0, ((sumN l : Nat) : Int)) := if_pos h

set_option maxHeartbeats 400000 in
theorem implSumOf_big (A : Option Addr) (n c : Nat) (l : List UInt8) (w : World) (hn : l.length = n) (h : 20000 < n) :
    Calls Tryz.prog 123 #[.slice A n c] w fun e w' => RetIR (sumM l) w e w' := by
  have Hf := Lib.hid (sumM_big (l := l) (by omega))
  have hgt : (20000 : Int) < (n : Int) := by omega
  clear hn h
  go_enter Tryz.func123, Tryz.ntmps123
  go_wp2
  refine bodyPost_ret (v := .agg #[.int .i64 2, .int .i64 0]) (by simp [results, Tryz.results123, go_sem]) rfl ?_
  rw [Hf.out]
  exact ⟨rfl, (Below.refl _ _).alloc (Nat.le_refl _) _⟩

set_option maxHeartbeats 800000 in
theorem implSumOf_ok (A : Option Addr) (n c : Nat) (l : List UInt8) (w : World) (ha : Rd eB w w.heap.size A l) (hn : l.length = n) (h : n ≤ 20000) :
    Calls Tryz.prog 123 #[.slice A n c] w fun e w' => RetIR (sumM l) w e w' := by
  have Hf := Lib.hid (sumM_ok (l := l) (by omega))
  have Hn := Lib.hid hn
  have hle : (n : Int) ≤ 20000 := by omega
  clear hn h
  have ha2 := ha.lift ((Below.refl w.heap.size w).alloc (Nat.le_refl _) (.cells #[.int .i64 0, .int .i64 0] 131))
  go_enter Tryz.func123, Tryz.ntmps123
  go_wp2
  go_loop [3, 5, 12] (fun vq _ vi => ∃ k q : Nat, k ≤ n ∧ vi = .int .i64 k ∧ vq = .int .i64 q ∧ Hid (q < 65536) ∧ Hid (q = sumN (l.take k))) (fun _ _ vi => n - (intOf vi).toNat)
  case atStart => exact ⟨0, 65535, Nat.zero_le _, rfl, rfl, Lib.hid (by omega), Lib.hid (by simp [sumN])⟩
  case round =>
    obtain ⟨k, q, hk, rfl, rfl, Hq8, Hq⟩ := hrel
    by_cases hlt : k < n
    · obtain ⟨g, o, x, rfl, hg, hx, ca⟩ := ha2.byte (k := k) (by rw [Hn.out]; exact hlt)
      have Hst := Lib.hid (sumN_snoc l k x hx)
      clear hx
      go_wp2_with (go_at_call 145; refine (addToSum q x _ Hq8.out).mono ?_; rintro e w' ⟨rfl, rfl⟩)
      exact ⟨⟨k + 1, crcB q x, by omega, by go_num, rfl, Lib.hid (crcB_lt Hq8.out x), Lib.hid (by rw [Hst.out, ← Hq.out])⟩, by simp [intOf]; omega⟩
    · have Hfin := Lib.hid (show q = sumN l by rw [Hq.out, List.take_of_length_le (by rw [Hn.out]; omega)])
      go_wp2
      refine bodyPost_ret (v := .agg #[.int .i64 0, .int .i64 (q : Nat)]) (by simp [results, Tryz.results123, go_sem]) rfl ?_
      rw [Hf.out, ← Hfin.out]
      exact ⟨rfl, (Below.refl _ _).alloc (Nat.le_refl _) _⟩

theorem implSumOf (A : Option Addr) (n c : Nat) (l : List UInt8) (w : World) (ha : Rd eB w w.heap.size A l) (hn : l.length = n) :
    Calls Tryz.prog 123 #[.slice A n c] w fun e w' => RetIR (sumM l) w e w' := by
  by_cases h : n ≤ 20000
  · exact implSumOf_ok A n c l w ha hn h
  · exact implSumOf_big A n c l w hn (by omega)
end Go.Proofs.YtmaillakhhdkfaaGreatDoor
/-
  The bytes of a code, read one by one: what a draw answers is within its bounds, and only the reader's own block turns.
-/
namespace Go.Proofs.YtmaillakhhdkfaaGreatDoor
set_option maxRecDepth 20000
open Go.RowKit

/-- A reader of the bytes 'l' at the place 'k'; its bytes lie below 'base', its block from there on. -/
structure Src (w : World) (base g : Nat) (A : Option Addr) (n c k : Nat) (l : List UInt8) : Prop where
  at_ : At w g 122 #[.slice A n c, .int .i64 (k : Nat)]
  rd : Rd eB w base A l
  len : l.length = n
  big : n ≤ 1048576
  low : base ≤ g

/-- A number of a draw. -/
def RetDraw (base g : Nat) (A : Option Addr) (m c k : Nat) (l : List UInt8) (n : Int) (w : World) (e : Ending) (w' : World) : Prop :=
  ∃ r : Int, e = .returned (.int .i64 r) ∧ (1 ≤ n → 0 ≤ r ∧ r < n) ∧ (n < 1 → r = 0) ∧ Src w' base g A m c (k + 1) l ∧ Within g (g + 1) w w' ∧ w'.heap.size = w.heap.size

theorem src_next {w : World} {base g n c k : Nat} {A : Option Addr} {l : List UInt8} (h : Src w base g A n c k l) (v : Int) (hv : v = ((k + 1 : Nat) : Int)) (d : Nat) :
    Src ((w.setCell ⟨g, 1, none⟩ (.int .i64 v)).drewN d) base g A n c (k + 1) l ∧ Within g (g + 1) w ((w.setCell ⟨g, 1, none⟩ (.int .i64 v)).drewN d) ∧ ((w.setCell ⟨g, 1, none⟩ (.int .i64 v)).drewN d).heap.size = w.heap.size := by
  subst hv
  refine ⟨⟨by simpa using (h.at_.set 1 _).drewN d, ?_, h.len, h.big, h.low⟩, ?_, by simp [World.setCell, World.drewN]⟩
  · exact (h.rd.keep fun p hp => World.cell?_setCell_other w _ _ _ (by intro e; subst e; have := h.low; simp at hp; omega)).drewN d
  · have := grown_setCell w ⟨g, 1, none⟩ (.int .i64 ((k + 1 : Nat) : Int))
    have h2 := within_of (lo := g) (hi := g + 1) this (fun x e => by simp at e; omega)
    exact ⟨h2.os, h2.tape, h2.output, h2.size, h2.block⟩

theorem l1Next_none (w : World) (base g : Nat) (A : Option Addr) (m c k : Nat) (l : List UInt8) (n : Int) (h : Src w base g A m c k l) (hk : k < 1073741824) (hn : n < 1) :
    Calls Tryz.prog 41 #[.pointer (some ⟨g, 0, none⟩), .int .i64 n] w (RetDraw base g A m c k l n w) := by
  obtain ⟨r0, r1, f0, f1⟩ := h.at_.two
  go_enter Tryz.func41, Tryz.ntmps41
  go_wp2
  go_ret
  exact ⟨0, rfl, fun h => absurd h (by omega), fun _ => rfl, src_next h _ (by omega) 0⟩

set_option maxHeartbeats 800000 in
theorem l1Next_zero (w : World) (base g : Nat) (A : Option Addr) (m c k : Nat) (l : List UInt8) (n : Int) (h : Src w base g A m c k l) (hk : k < 1073741824) (hn : 1 ≤ n) (h0 : m = 0) :
    Calls Tryz.prog 41 #[.pointer (some ⟨g, 0, none⟩), .int .i64 n] w (RetDraw base g A m c k l n w) := by
  obtain ⟨r0, r1, f0, f1⟩ := h.at_.two
  have h1 := (src_next h ((k : Int) + 1) (by omega) 0).1
  obtain ⟨s0, s1, _, _⟩ := h1.at_.two
  subst h0
  simp only [show ∀ x : World, x.drewN 0 = x from fun x => rfl] at s0 s1
  push_cast at s1
  have m0 : 0 ≤ ((k : Int) * 7) % n := Int.emod_nonneg _ (by omega)
  have m1 : ((k : Int) * 7) % n < n := Int.emod_lt_of_pos _ (by omega)
  go_enter Tryz.func41, Tryz.ntmps41
  go_wp2
  go_ret
  exact ⟨_, rfl, fun _ => ⟨m0, m1⟩, fun h => absurd h (by omega), src_next h _ (by omega) 0⟩

set_option maxHeartbeats 800000 in
theorem l1Next_small (w : World) (base g : Nat) (A : Option Addr) (m c k : Nat) (l : List UInt8) (n : Int) (h : Src w base g A m c k l) (hk : k < 1073741824) (hn : 1 ≤ n) (h2 : n ≤ 200) (h0 : m ≠ 0) :
    Calls Tryz.prog 41 #[.pointer (some ⟨g, 0, none⟩), .int .i64 n] w (RetDraw base g A m c k l n w) := by
  obtain ⟨r0, r1, f0, f1⟩ := h.at_.two
  have h1 := (src_next h ((k : Int) + 1) (by omega) 0).1
  obtain ⟨s0, s1, _, _⟩ := h1.at_.two
  have hlt : k % m < m := Nat.mod_lt _ (by omega)
  obtain ⟨g', o', x, rfl, hg', _, ca⟩ := h1.rd.byte (k := k % m) (by rw [h.len]; exact hlt)
  simp only [show ∀ x : World, x.drewN 0 = x from fun x => rfl] at s0 s1 ca
  push_cast at s1
  have hbig := h.big
  have hx := x.toNat_lt
  have hm1 : (1 : Int) ≤ (m : Int) := by omega
  have i0 : 0 ≤ (k : Int) % (m : Int) := Int.emod_nonneg _ (by omega)
  have i1 : (k : Int) % (m : Int) < (m : Int) := Int.emod_lt_of_pos _ (by omega)
  have q0 : 0 ≤ (k : Int) / (m : Int) := Int.ediv_nonneg (by omega) (by omega)
  have q1 : (k : Int) / (m : Int) ≤ (k : Int) := Int.ediv_le_self _ (by omega)
  have m0 : 0 ≤ ((x.toNat : Int) + (k : Int) / (m : Int) * 37) % n := Int.emod_nonneg _ (by omega)
  have m1 : ((x.toNat : Int) + (k : Int) / (m : Int) * 37) % n < n := Int.emod_lt_of_pos _ (by omega)
  go_enter Tryz.func41, Tryz.ntmps41
  go_wp2
  go_quiet (fail)
  go_wp2
  go_ret
  exact ⟨_, rfl, fun _ => ⟨m0, m1⟩, fun h => absurd h (by omega), src_next h _ (by omega) _⟩

set_option maxHeartbeats 1600000 in
theorem l1Next_mid (w : World) (base g : Nat) (A : Option Addr) (m c k : Nat) (l : List UInt8) (n : Int) (h : Src w base g A m c k l) (hk : k < 1073741824) (h2 : 200 < n) (h3 : n ≤ 60000) (h0 : m ≠ 0) :
    Calls Tryz.prog 41 #[.pointer (some ⟨g, 0, none⟩), .int .i64 n] w (RetDraw base g A m c k l n w) := by
  obtain ⟨r0, r1, f0, f1⟩ := h.at_.two
  have h1 := (src_next h ((k : Int) + 1) (by omega) 0).1
  obtain ⟨s0, s1, _, _⟩ := h1.at_.two
  have hlt : k % m < m := Nat.mod_lt _ (by omega)
  have hlt2 : (k + 1) % m < m := Nat.mod_lt _ (by omega)
  obtain ⟨g', o', x, rfl, hg', _, ca⟩ := h1.rd.byte (k := k % m) (by rw [h.len]; exact hlt)
  obtain ⟨g'', o'', y, e, _, _, cb⟩ := h1.rd.byte (k := (k + 1) % m) (by rw [h.len]; exact hlt2)
  simp only [Option.some.injEq, Addr.mk.injEq, and_true] at e
  obtain ⟨rfl, rfl⟩ := e
  simp only [show ∀ x : World, x.drewN 0 = x from fun x => rfl] at s0 s1 ca cb
  push_cast at s1
  have hbig := h.big
  have hx := x.toNat_lt
  have hy := y.toNat_lt
  have hm1 : (1 : Int) ≤ (m : Int) := by omega
  have i0 : 0 ≤ (k : Int) % (m : Int) := Int.emod_nonneg _ (by omega)
  have i1 : (k : Int) % (m : Int) < (m : Int) := Int.emod_lt_of_pos _ (by omega)
  have j0 : 0 ≤ ((k : Int) + 1) % (m : Int) := Int.emod_nonneg _ (by omega)
  have j1 : ((k : Int) + 1) % (m : Int) < (m : Int) := Int.emod_lt_of_pos _ (by omega)
  have q0 : 0 ≤ (k : Int) / (m : Int) := Int.ediv_nonneg (by omega) (by omega)
  have q1 : (k : Int) / (m : Int) ≤ (k : Int) := Int.ediv_le_self _ (by omega)
  have m0 : 0 ≤ (((x.toNat : Int) + (k : Int) / (m : Int) * 37) * 251 + (y.toNat : Int) * 13 + (k : Int)) % n := Int.emod_nonneg _ (by omega)
  have m1 : (((x.toNat : Int) + (k : Int) / (m : Int) * 37) * 251 + (y.toNat : Int) * 13 + (k : Int)) % n < n := Int.emod_lt_of_pos _ (by omega)
  go_enter Tryz.func41, Tryz.ntmps41
  go_wp2
  go_quiet (fail)
  go_wp2
  go_quiet (fail)
  go_wp2
  go_ret
  exact ⟨_, rfl, fun _ => ⟨m0, m1⟩, fun h => absurd h (by omega), src_next h _ (by omega) _⟩

theorem l1Next (w : World) (base g : Nat) (A : Option Addr) (m c k : Nat) (l : List UInt8) (n : Int) (h : Src w base g A m c k l) (hk : k < 1073741824) (h3 : n ≤ 60000) :
    Calls Tryz.prog 41 #[.pointer (some ⟨g, 0, none⟩), .int .i64 n] w (RetDraw base g A m c k l n w) := by
  by_cases h1 : n < 1
  · exact l1Next_none w base g A m c k l n h hk h1
  · by_cases h0 : m = 0
    · exact l1Next_zero w base g A m c k l n h hk (by omega) h0
    · by_cases h2 : n ≤ 200
      · exact l1Next_small w base g A m c k l n h hk (by omega) h2 h0
      · exact l1Next_mid w base g A m c k l n h hk (by omega) h3 h0

/-- A new reader of a code. -/
theorem l1Source (A : Option Addr) (m c : Nat) (l : List UInt8) (w : World) (ha : Rd eB w w.heap.size A l) (hn : l.length = m) (hm : m ≤ 1048576) :
    Calls Tryz.prog 35 #[.slice A m c] w fun e w' => e = .returned (.pointer (some ⟨w.heap.size, 0, none⟩)) ∧ Src w' w.heap.size w.heap.size A m c 0 l ∧ Below w.heap.size w w' ∧ w'.heap.size = w.heap.size + 1 := by
  go_enter Tryz.func35, Tryz.ntmps35
  go_wp2
  go_ret
  exact ⟨rfl, ⟨At.new _ _ _, ha.alloc (Nat.le_refl _) _, hn, hm, Nat.le_refl _⟩, (Below.refl _ _).alloc (Nat.le_refl _) _, by simp⟩

/-- One chance out of so many. -/
theorem l1Chance (w : World) (base g : Nat) (A : Option Addr) (m c k : Nat) (l : List UInt8) (n : Int) (h : Src w base g A m c k l) (hk : k < 1073741824) (h3 : n ≤ 60000) :
    Calls Tryz.prog 46 #[.pointer (some ⟨g, 0, none⟩), .int .i64 n] w fun e w' => ∃ b : Bool, e = .returned (.bool b) ∧ Src w' base g A m c (k + 1) l ∧ Within g (g + 1) w w' ∧ w'.heap.size = w.heap.size := by
  go_enter Tryz.func46, Tryz.ntmps46
  go_wp2_with (go_at_call 41; refine (l1Next w base g A m c k l n h hk h3).mono ?_; rintro e w1 ⟨r, rfl, _, _, h1⟩)
  go_ret
  exact ⟨_, rfl, h1⟩
end Go.Proofs.YtmaillakhhdkfaaGreatDoor
namespace Go.Proofs.YtmaillakhhdkfaaGreatDoor
set_option maxRecDepth 20000
open Go.RowKit

/-- The length and the body. -/
def frontL (b : List UInt8) : List UInt8 := UInt8.ofNat b.length :: b
/-- The sum, the higher byte first. -/
def sumL (f : List UInt8) : List UInt8 := [UInt8.ofNat (sumN f / 256), UInt8.ofNat (sumN f)]
def frameL (b : List UInt8) : List UInt8 := frontL b ++ sumL (frontL b)
theorem frameL_len (b : List UInt8) : (frameL b).length = b.length + 3 := by simp [frameL, frontL, sumL]

theorem byte_num' (n : Nat) : ((UInt8.ofNat n).toNat : Int) = (n : Int) % 256 := by
  rw [UInt8.toNat_ofNat']
  omega
theorem byte_small {n : Nat} (h : n < 256) : ((UInt8.ofNat n).toNat : Int) = (n : Int) := by rw [byte_num']; omega

/-- One byte laid in a block. -/
theorem ow_one (w : World) (b : UInt8) (v : Int) (hv : v = (b.toNat : Int)) : Ow eB (w.alloc (.cells #[.int .u8 v] 5)) w.heap.size (some ⟨w.heap.size, 0, none⟩) 1 1 [b] :=
  Ow.lit w [b] _ 1 (Nat.le_refl _) (by unfold maxLen; omega) (by simp [Enc.row, eB, hv]) rfl
theorem ow_two (w : World) (a b : UInt8) (u v : Int) (hu : u = (a.toNat : Int)) (hv : v = (b.toNat : Int)) : Ow eB (w.alloc (.cells #[.int .u8 u, .int .u8 v] 5)) w.heap.size (some ⟨w.heap.size, 0, none⟩) 2 2 [a, b] :=
  Ow.lit w [a, b] _ 2 (Nat.le_refl _) (by unfold maxLen; omega) (by simp [Enc.row, eB, hu, hv]) rfl

set_option maxHeartbeats 800000 in
theorem l1Frame (A : Option Addr) (n c : Nat) (b : List UInt8) (w : World) (ha : Rd eB w w.heap.size A b) (hn : b.length = n) (hm : n ≤ 40) :
    Calls Tryz.prog 68 #[.slice A n c] w fun e w' => ∃ A' c', e = .returned (.slice A' (n + 3) c') ∧ Ow eB w' w.heap.size A' (n + 3) c' (frameL b) ∧ Below w.heap.size w w' := by
  have Hn := Lib.hid hn
  clear hn
  have o1 := ow_one w (UInt8.ofNat n) (n : Int) (byte_small (by omega)).symm
  have B1 := (Below.refl w.heap.size w).alloc (Nat.le_refl _) (.cells #[.int .u8 (n : Int)] 5)
  have a1 := ha.lift B1
  go_enter Tryz.func68, Tryz.ntmps68
  go_wp2_with (first
    | (at_builtin
       refine wpList_append_ow okB _ rfl (.tmp 8) (.tmp 9) _ rfl w.heap.size info_u8 Tryz.underlying22 rfl (some ⟨w.heap.size, 0, none⟩) 1 1 [UInt8.ofNat n] rfl o1 A n c _ b rfl a1 Hn.out (by unfold maxLen; omega) (by omega) (by simp) ?_
       intro A1 c1 w1 ow1 hg1 _
       have B2 : Below w.heap.size w w1 := B1.grown hg1 (by simp) (fun g hg => by simp at hg; omega)
       have ow2 : Ow eB w1 w.heap.size A1 (1 + n) c1 (frontL b) := by
         rw [frontL, Hn.out]
         exact ow1
       have hs := sumN_lt (frontL b)
       have hs2 : ((sumN (frontL b) : Nat) : Int) ≤ 65535 := by omega
       have Hs := Lib.hid hs
       have o3 := ow_two w1 (UInt8.ofNat (sumN (frontL b) / 256)) (UInt8.ofNat (sumN (frontL b))) (((sumN (frontL b) : Nat) : Int) / 256) (((sumN (frontL b) : Nat) : Int) % 256) (by rw [byte_num']; omega) (by rw [byte_num'])
       have B3 := B2.alloc B2.size (.cells #[.int .u8 (((sumN (frontL b) : Nat) : Int) / 256), .int .u8 (((sumN (frontL b) : Nat) : Int) % 256)] 5)
       clear hs)
    | (go_at_call 118; refine (l1Sum A1 (1 + n) c1 (frontL b) _ (ow2.rd okB) (ow2.len okB) ow2.small).mono ?_; rintro e w' ⟨rfl, rfl⟩)
    | (at_builtin
       refine wpList_append_ow okB _ rfl (.tmp 13) (.tmp 20) _ rfl w.heap.size info_u8 Tryz.underlying22 rfl A1 (1 + n) c1 (frontL b) rfl (ow2.alloc _) (some ⟨w1.heap.size, 0, none⟩) 2 2 _ (sumL (frontL b)) rfl (o3.rd okB) rfl (by unfold maxLen; omega) (by omega) B3.size ?_
       intro A2 c2 w3 ow3 hg3 _))
  go_ret
  have B4 := B3.grown hg3 B3.size (fun g hg => (ow2.lt g hg).1)
  rw [show 1 + n + 2 = n + 3 by omega] at ow3
  rw [show 1 + n + 2 = n + 3 by omega]
  exact ⟨_, _, rfl, ow3, B4⟩
end Go.Proofs.YtmaillakhhdkfaaGreatDoor
/-
  Draws that pick out of a list, and that draw bytes.
-/
namespace Go.Proofs.YtmaillakhhdkfaaGreatDoor
set_option maxRecDepth 20000
open Go.RowKit

def intCells (xs : List Int) : Array Value := (xs.map (Value.int .i64)).toArray
theorem intCells_at {xs : List Int} {j : Nat} {v : Int} (h : xs[j]? = some v) : (intCells xs)[j]? = some (.int .i64 v) := by
  simp [intCells, h]

theorem pick_cell {w w1 : World} {b g : Nat} {xs : List Int} (hb : At w b 2 (intCells xs)) (hw : Within g (g + 1) w w1) (hne : b ≠ g) {j : Nat} (hj : j < xs.length) :
    ∃ v, w1.cell? ⟨b, j, none⟩ = some (.int .i64 v) ∧ v ∈ xs := by
  have hb1 := hb.within hw (by omega)
  exact ⟨xs[j], (hb1.cell j).trans (intCells_at (List.getElem?_eq_getElem hj)), List.getElem_mem hj⟩
theorem cell_heap {w w' : World} {p : Addr} (h : w'.heap[p.block]? = w.heap[p.block]?) : w'.cell? p = w.cell? p := by
  unfold World.cell?
  rw [h]
theorem Src.within {w w' : World} {base g n c k lo hi : Nat} {A : Option Addr} {l : List UInt8} (h : Src w base g A n c k l) (hw : Within lo hi w w') (hlo : g < lo) : Src w' base g A n c k l :=
  ⟨h.at_.within hw (.inl hlo), h.rd.keep fun p hp => cell_heap (hw.block _ (by have := h.low; have := h.at_.lt; omega) (by have := h.low; omega)), h.len, h.big, h.low⟩
theorem Src.below {w w' : World} {B base g n c k : Nat} {A : Option Addr} {l : List UInt8} (h : Src w base g A n c k l) (hw : Below B w w') (hB : g < B) : Src w' base g A n c k l :=
  ⟨h.at_.below hw hB, h.rd.below hw (by have := h.low; omega), h.len, h.big, h.low⟩
theorem Src.grown {w w' : World} {row : Option Nat} {base g n c k : Nat} {A : Option Addr} {l : List UInt8} (h : Src w base g A n c k l) (hb : w.grownBy w' row) (hr : ∀ x, row = some x → g < x) : Src w' base g A n c k l :=
  ⟨h.at_.grown hb (fun e => by have := hr _ e; omega), h.rd.keep fun p hp => cell_heap (hb.block _ (by have := h.low; have := h.at_.lt; omega) (fun e => by have := hr _ e.symm; have := h.low; omega)), h.len, h.big, h.low⟩
theorem Within.push {a b w : World} {lo hi : Nat} {row : Option Nat} (h : Within lo hi w a) (hb : a.grownBy b row) (hr : ∀ g, row = some g → w.heap.size ≤ g) : Within lo hi w b :=
  ⟨hb.os.trans h.os, hb.tape.trans h.tape, hb.output.trans h.output, Nat.le_trans h.size hb.size, fun k hk hne => (hb.block k (Nat.lt_of_lt_of_le hk h.size) (fun e => by have := hr k e.symm; omega)).trans (h.block k hk hne)⟩
theorem Within.alloc {a w : World} {lo hi : Nat} (h : Within lo hi w a) (o : Obj) : Within lo hi w (a.alloc o) := h.trans (Within.of_below ((Below.refl _ _).alloc (Nat.le_refl _) o))

/-- One out of a list of numbers that was just laid. -/
theorem l1Pick (w : World) (base g : Nat) (A : Option Addr) (m c k : Nat) (l : List UInt8) (b : Nat) (cs : Array Value) (xs : List Int) (n c' : Nat) (h : Src w base g A m c k l) (hk : k < 1073741824)
    (hb : At w b 2 cs) (hcs : cs = intCells xs) (hne : b ≠ g) (hn : xs.length = n) (h1 : 1 ≤ n) (h3 : n ≤ 60000) :
    Calls Tryz.prog 42 #[.pointer (some ⟨g, 0, none⟩), .slice (some ⟨b, 0, none⟩) n c'] w fun e w' => ∃ v : Int, v ∈ xs ∧ e = .returned (.int .i64 v) ∧ Src w' base g A m c (k + 1) l ∧ Within g (g + 1) w w' ∧ w'.heap.size = w.heap.size := by
  subst hcs
  have Hn := Lib.hid hn
  clear hn
  go_enter Tryz.func42, Tryz.ntmps42
  go_wp2_with (go_at_call 41; refine (l1Next w base g A m c k l n h hk (by omega)).mono ?_; rintro e w1 ⟨r, rfl, hr, _, h1⟩; obtain ⟨hr0, hr1⟩ := hr (by omega); obtain ⟨j, rfl⟩ := Int.eq_ofNat_of_zero_le hr0; obtain ⟨v, hv, hx⟩ := pick_cell hb h1.2.1 hne (show j < xs.length by rw [Hn.out]; omega))
  go_ret
  exact ⟨_, hx, rfl, h1⟩

end Go.Proofs.YtmaillakhhdkfaaGreatDoor
/-
  The law's draws of arguments.
-/
namespace Go.Proofs.YtmaillakhhdkfaaGreatDoor
set_option maxRecDepth 20000
open Go.RowKit

theorem Ow.past {α : Type} {E : Enc α} {w w' : World} {base n c lo hi : Nat} {A : Option Addr} {l : List α} (h : Ow E w base A n c l) (k : Within lo hi w w') (hd : hi ≤ base) : Ow E w' base A n c l := h.within k h.lt (.inr hd)
theorem pick_nat {xs : List Int} {v : Int} (N : Nat) (h : v ∈ xs) (ha : (xs.all fun x => decide (0 ≤ x ∧ x ≤ (N : Int))) = true) : ∃ q : Nat, v = (q : Int) ∧ q ≤ N := by
  have := List.all_eq_true.1 ha v h
  simp only [decide_eq_true_eq] at this
  exact ⟨v.toNat, by omega, by omega⟩
theorem Src.alloc {w : World} {base g n c k : Nat} {A : Option Addr} {l : List UInt8} (h : Src w base g A n c k l) (o : Obj) : Src (w.alloc o) base g A n c k l := h.below ((Below.refl _ _).alloc (Nat.le_refl _) o) h.at_.lt

end Go.Proofs.YtmaillakhhdkfaaGreatDoor
namespace Go.Proofs.YtmaillakhhdkfaaGreatDoor
set_option maxRecDepth 20000
open Go.RowKit

/-- The text of some bytes. -/
def txt (l : List UInt8) : ByteArray := ⟨l.toArray⟩
theorem txt_list (l : List UInt8) : (txt l).toList = l := by simp [txt]
theorem beq_dec (a b : List UInt8) : (a == b) = decide (a = b) := by
  by_cases h : a = b
  · subst h; simp
  · rw [decide_eq_false h, beq_eq_false_iff_ne]
    exact h
theorem txt_beq (a b : List UInt8) : ((txt a).toList == (txt b).toList) = decide (a = b) := by rw [txt_list, txt_list, beq_dec]

theorem conv_bytes {w : World} {hi : Nat} {A : Option Addr} {l : List UInt8} {n c : Nat} (h : Rd eB w hi A l) (hn : l.length = n) :
    (convert 22 9 (.slice A n c)).run Tryz.prog w = .ok (.string (txt l)) w := by
  rw [run_convert_bytes_string w _ _ _ A n c Tryz.underlying22 Tryz.underlying5 Tryz.underlying9]
  have hs : strOfNums (l.map fun b => (b.toNat : Int)) = txt l := by
    have h1 : (strOfNums (l.map fun b => (b.toNat : Int))).data.toList = (txt l).data.toList := by
      rw [strOfNums_data, txt, List.map_map]
      apply List.ext_getElem?
      intro i
      simp only [List.getElem?_map]
      cases l[i]? <;> simp
    have h2 : ∀ a b : ByteArray, a.data.toList = b.data.toList → a = b := by
      intro a b h
      cases a; cases b
      simp only [ByteArray.mk.injEq]
      exact Array.toList_inj.1 h
    exact h2 _ _ h1
  cases A with
  | none =>
    have h0 : l = [] := by
      rcases l with _ | ⟨x, l⟩
      · rfl
      · obtain ⟨g, o, e, _⟩ := h (by simp)
        cases e
    subst h0
    simp [Conv.bytesToString, txt]
    rfl
  | some a =>
    have hl : (loadCells a n).run Tryz.prog w = .ok ((l.map fun b => (b.toNat : Int)).map (Value.int .u8)).toArray w := by
      have h3 := run_loadCells_list (P := Tryz.prog) w a ((l.map fun b => (b.toNat : Int)).map (Value.int .u8)) (fun j v hj => by
        have hjl : j < l.length := by
          have := getElem?_some_lt hj
          simpa using this
        obtain ⟨g, o, x, e, _, hx, hc⟩ := h.byte hjl
        obtain rfl := Option.some.inj e
        rw [addr_add, hc]
        rw [List.getElem?_map, List.getElem?_map, hx] at hj
        simpa using hj)
      simpa [hn] using h3
    rw [run_bytesToString w a n c (l.map fun b => (b.toNat : Int)) hl, foldl_push_bytes, ← hs]
    simp [strOfNums, ByteArray.empty, ByteArray.emptyWithCapacity]
    rfl

set_option maxHeartbeats 400000 in
theorem bytesEqual (A B : Option Addr) (n m c d : Nat) (xs ys : List UInt8) (w : World) (ha : Rd eB w w.heap.size A xs) (hb : Rd eB w w.heap.size B ys) (hx : xs.length = n) (hy : ys.length = m) :
    Calls Tryz.prog 89 #[.slice A n c, .slice B m d] w fun e w' => e = .returned (.bool (decide (xs = ys))) ∧ w = w' := by
  have h1 := conv_bytes (c := c) ha hx
  have h2 := conv_bytes (c := d) hb hy
  have Hb := Lib.hid (txt_beq xs ys)
  clear hx hy
  go_enter Tryz.func89, Tryz.ntmps89
  go_wp2
  go_ret
  exact ⟨by rw [← Hb.out]; rfl, rfl⟩

set_option maxHeartbeats 400000 in
theorem implSameBytes (A B : Option Addr) (n m c d : Nat) (xs ys : List UInt8) (w : World) (ha : Rd eB w w.heap.size A xs) (hb : Rd eB w w.heap.size B ys) (hx : xs.length = n) (hy : ys.length = m) :
    Calls Tryz.prog 44 #[.slice A n c, .slice B m d] w fun e w' => e = .returned (.bool (decide (xs = ys))) ∧ w = w' := by
  have H := Lib.hid (bytesEqual A B n m c d xs ys w ha hb hx hy)
  clear hx hy
  go_enter Tryz.func44, Tryz.ntmps44
  go_wp2_with (go_at_call 89; refine H.out.mono ?_; rintro e w' ⟨rfl, rfl⟩)
  go_ret
  exact ⟨rfl, rfl⟩
end Go.Proofs.YtmaillakhhdkfaaGreatDoor
namespace Go.Proofs.YtmaillakhhdkfaaGreatDoor
set_option maxRecDepth 20000
open Go.RowKit

end Go.Proofs.YtmaillakhhdkfaaGreatDoor
namespace Go.Proofs.YtmaillakhhdkfaaGreatDoor
set_option maxRecDepth 20000
open Go.RowKit

/-- What a mark lays: k, k + 1, .. as bytes. -/
def marks (k n : Nat) : List UInt8 := (List.range n).map fun i => UInt8.ofNat (k + i)
theorem byte_num (n : Nat) : ((UInt8.ofNat n).toNat : Int) = (n : Int) % 256 := by
  rw [UInt8.toNat_ofNat']
  omega

end Go.Proofs.YtmaillakhhdkfaaGreatDoor
namespace Go.Proofs.YtmaillakhhdkfaaGreatDoor
set_option maxRecDepth 20000
open Go.RowKit

/-- An answer of a code and bytes of the call's own. -/
def RetBR (r : Int × List UInt8) (w : World) (e : Ending) (w' : World) : Prop :=
  ∃ A n c, e = .returned (.agg #[.int .i64 r.1, .slice A n c]) ∧ Ow eB w' w.heap.size A n c r.2 ∧ Below w.heap.size w w'

end Go.Proofs.YtmaillakhhdkfaaGreatDoor
namespace Go.Proofs.YtmaillakhhdkfaaGreatDoor
set_option maxRecDepth 20000
open Go.RowKit

/-- What PackFrame answers. -/
def packFrameM (b : List UInt8) : Int × List UInt8 := if 1 ≤ b.length ∧ b.length ≤ 40 then (0, frameL b) else (2, [])
theorem packFrameM_bad {b : List UInt8} (h : ¬ (1 ≤ b.length ∧ b.length ≤ 40)) : packFrameM b = (2, []) := if_neg h
theorem packFrameM_ok {b : List UInt8} (h : 1 ≤ b.length ∧ b.length ≤ 40) : packFrameM b = (0, frameL b) := if_pos h

/-! ### impl -/
set_option maxHeartbeats 400000 in
theorem sumBytes (A : Option Addr) (n c : Nat) (l : List UInt8) (w : World) (ha : Rd eB w w.heap.size A l) (hn : l.length = n) (hm : n ≤ 20000) :
    Calls Tryz.prog 74 #[.slice A n c] w fun e w' => ∃ A' c', e = .returned (.slice A' 2 c') ∧ Ow eB w' w.heap.size A' 2 c' (sumL l) ∧ Below w.heap.size w w' := by
  have Hf := sumM_ok (l := l) (by omega)
  have h := implSumOf A n c l w ha hn
  rw [Hf] at h
  have H := Lib.hid h
  have hs2 : ((sumN l : Nat) : Int) ≤ 65535 := by have := sumN_lt l; omega
  clear hn hm Hf h
  have hfd : ∀ w : World, (Instr.field 131 (.agg #[.int .i64 0, .int .i64 (sumN l : Nat)]) 1).run Tryz.prog w = .ok (.int .i64 (sumN l : Nat)) w := fun _ => by kernel_rfl
  go_enter Tryz.func74, Tryz.ntmps74
  go_wp2_with (go_at_call 123; refine H.out.mono ?_; rintro e w1 ⟨rfl, hb1⟩)
  go_ret
  have o3 := ow_two w1 (UInt8.ofNat (sumN l / 256)) (UInt8.ofNat (sumN l)) (((sumN l : Nat) : Int) / 256) (((sumN l : Nat) : Int) % 256) (by rw [byte_num']; omega) (by rw [byte_num'])
  exact ⟨_, _, rfl, o3.from_ hb1.size, hb1.alloc hb1.size _⟩

set_option maxHeartbeats 400000 in
theorem implPackFrame_no (A : Option Addr) (n c : Nat) (b : List UInt8) (w : World) (hn : b.length = n) (h : ¬ (1 ≤ n ∧ n ≤ 40)) :
    Calls Tryz.prog 26 #[.slice A n c] w fun e w' => RetBR (packFrameM b) w e w' := by
  have Hf := Lib.hid (packFrameM_bad (b := b) (by omega))
  have hno : [((n : Int), (1 : Int), (40 : Int))].all inB = false := by simp [inB]; omega
  clear hn h
  go_enter Tryz.func26, Tryz.ntmps26
  go_wp2_with (go_at_call 73; refine (areWithin_any _ _ _ [((n : Int), 1, 40)] _ (bnds_one (by simp)) (by simp) rfl (by simp)).mono ?_; rintro e w1 ⟨rfl, hb1⟩; have a1 := ((At.new w 30 #[.int .i64 0, .slice none 0 0]).alloc _).below hb1 (by simp; omega); obtain ⟨r0, r1, _, _⟩ := a1.two)
  have B1 : Below w.heap.size w w1 := (((Below.refl _ _).alloc (Nat.le_refl _) _).alloc (by simp) _).trans (hb1.mono (by simp; omega))
  refine bodyPost_ret (v := .agg #[.int .i64 2, .slice none 0 0]) (by simp [results, Tryz.results26, go_sem, r0, r1]) rfl ?_
  rw [Hf.out]
  exact ⟨none, 0, 0, rfl, Ow.nil, (B1.setCell (Nat.le_refl _) _).setCell (Nat.le_refl _) _⟩

set_option maxHeartbeats 800000 in
theorem implPackFrame_ok (A : Option Addr) (n c : Nat) (b : List UInt8) (w : World) (ha : Rd eB w w.heap.size A b) (hn : b.length = n) (h1 : 1 ≤ n) (h2 : n ≤ 40) :
    Calls Tryz.prog 26 #[.slice A n c] w fun e w' => RetBR (packFrameM b) w e w' := by
  have Hf := Lib.hid (packFrameM_ok (b := b) (by omega))
  have Hn := Lib.hid hn
  have hno : [((n : Int), (1 : Int), (40 : Int))].all inB = true := by simp [inB]; omega
  clear hn
  go_enter Tryz.func26, Tryz.ntmps26
  go_wp2_with (first
    | (go_at_call 73
       refine (areWithin_any _ _ _ [((n : Int), 1, 40)] _ (bnds_one (by simp)) (by simp) rfl (by simp)).mono ?_
       rintro e w1 ⟨rfl, hb1⟩
       have a1 := ((At.new w 30 #[.int .i64 0, .slice none 0 0]).alloc _).below hb1 (by simp; omega)
       have z1 := a1.lt
       have B1 : Below w.heap.size w w1 := (((Below.refl _ _).alloc (Nat.le_refl _) _).alloc (by simp) _).trans (hb1.mono (by simp; omega))
       have o1 := ow_one w1 (UInt8.ofNat n) (n : Int) (byte_small (by omega)).symm
       have B2 := B1.alloc B1.size (.cells #[.int .u8 (n : Int)] 5)
       have a2 := a1.alloc (.cells #[.int .u8 (n : Int)] 5)
       have rd2 := ha.lift B2)
    | (at_builtin
       refine wpList_append_ow okB _ rfl (.tmp 14) (.tmp 15) _ rfl w1.heap.size info_u8 Tryz.underlying22 rfl (some ⟨w1.heap.size, 0, none⟩) 1 1 [UInt8.ofNat n] rfl o1 A n c _ b rfl rd2 Hn.out (by unfold maxLen; omega) (by omega) (by simp) ?_
       intro A3 c3 w3 ow3 hg3 _
       have B3 : Below w.heap.size w w3 := B2.grown hg3 B2.size (fun g hg => by simp at hg; omega)
       have a3 := a2.grown hg3 (by simp; omega)
       have ow3' : Ow eB w3 w1.heap.size A3 (1 + n) c3 (frontL b) := by
         rw [frontL, Hn.out]
         exact ow3)
    | (go_at_call 74
       refine (sumBytes A3 (1 + n) c3 (frontL b) _ (ow3'.rd okB) (ow3'.len okB) (by omega)).mono ?_
       rintro e w4 ⟨A4, c4, rfl, ow4, hb4⟩
       have ow5 := ow3'.below hb4 (Nat.le_refl _)
       have a4 := a3.below hb4 a3.lt
       have B4 := B3.trans (hb4.mono B3.size)
       have z4 := a4.lt
       have le4 : w1.heap.size ≤ w4.heap.size := by have h1 := hg3.size; have h2 := hb4.size; simp at h1; omega)
    | (at_builtin
       refine wpList_append_ow okB _ rfl (.tmp 17) (.tmp 19) _ rfl w1.heap.size info_u8 Tryz.underlying22 rfl A3 (1 + n) c3 (frontL b) rfl ow5 A4 2 c4 _ (sumL (frontL b)) rfl (ow4.rd okB) rfl (by unfold maxLen; omega) (by omega) le4 ?_
       intro A6 c6 w6 ow6 hg6 _
       have B6 := B4.grown hg6 B4.size (fun g hg => by have := (ow5.lt g hg).1; omega)
       have a6 := a4.grown hg6 (fun e => by have := (ow5.lt _ e).1; omega)
       obtain ⟨r0, r1, _, _⟩ := a6.two))
  refine bodyPost_ret (v := .agg #[.int .i64 0, .slice A6 (1 + n + 2) c6]) (by simp [results, Tryz.results26, go_sem, r0, r1]) rfl ?_
  rw [Hf.out]
  exact ⟨A6, 1 + n + 2, c6, rfl, ((ow6.under (p := ⟨w.heap.size, 0, none⟩) (by simp; omega) _).under (p := ⟨w.heap.size, 1, none⟩) (by simp; omega) _).from_ (by omega), (B6.setCell (Nat.le_refl _) _).setCell (Nat.le_refl _) _⟩

theorem implPackFrame (A : Option Addr) (n c : Nat) (b : List UInt8) (w : World) (ha : Rd eB w w.heap.size A b) (hn : b.length = n) :
    Calls Tryz.prog 26 #[.slice A n c] w fun e w' => RetBR (packFrameM b) w e w' := by
  by_cases h : 1 ≤ n ∧ n ≤ 40
  · exact implPackFrame_ok A n c b w ha hn h.1 h.2
  · exact implPackFrame_no A n c b w hn h
end Go.Proofs.YtmaillakhhdkfaaGreatDoor
namespace Go.Proofs.YtmaillakhhdkfaaGreatDoor
set_option maxRecDepth 20000
open Go.RowKit

/-- Nothing but the blocks of a list has turned, and what is new. -/
structure Only (S : List Nat) (w w' : World) : Prop where
  os : w'.os = w.os
  tape : w'.tape = w.tape
  output : w'.output = w.output
  size : w.heap.size ≤ w'.heap.size
  block : ∀ k, k < w.heap.size → k ∉ S → w'.heap[k]? = w.heap[k]?
theorem Only.refl (S : List Nat) (w : World) : Only S w w := ⟨rfl, rfl, rfl, Nat.le_refl _, fun _ _ _ => rfl⟩
theorem Only.trans {S : List Nat} {a b c : World} (h : Only S a b) (k : Only S b c) : Only S a c :=
  ⟨k.os.trans h.os, k.tape.trans h.tape, k.output.trans h.output, Nat.le_trans h.size k.size, fun i hi hn => (k.block i (Nat.lt_of_lt_of_le hi h.size) hn).trans (h.block i hi hn)⟩
theorem Only.more {S T : List Nat} {w w' : World} (h : Only S w w') (hs : ∀ b ∈ S, b ∈ T) : Only T w w' := ⟨h.os, h.tape, h.output, h.size, fun k hk hn => h.block k hk (fun e => hn (hs k e))⟩
theorem Only.within {S : List Nat} {w w' : World} {lo hi : Nat} (h : Only S w w') (hs : ∀ b ∈ S, lo ≤ b ∧ b < hi) : Within lo hi w w' :=
  ⟨h.os, h.tape, h.output, h.size, fun k hk hn => h.block k hk (fun e => by have := hs k e; omega)⟩
theorem Only.of_below {S : List Nat} {w w' : World} (h : Below w.heap.size w w') : Only S w w' := ⟨h.os, h.tape, h.output, h.size, fun k hk _ => h.block k hk⟩

/-- A slice's value in parts: where it leads, its length, its capacity. -/
structure Hd where
  A : Option Addr
  n : Nat
  c : Nat
def Hd.val (h : Hd) : Value := .slice h.A h.n h.c
def blkOf (A : Option Addr) : List Nat := (A.map (·.block)).toList
/-- A row within an element: its element type's number, the cells of one, what it holds. -/
structure Part where
  tid : Nat
  size : Nat
  xs : List Value
def Part.at_ (r : Part) (w : World) (base : Nat) (h : Hd) : Prop := w.ownsRow base r.tid r.size h.val h.n r.xs
/-- Elements that bear slices: the cells of one (its slices' values given), and what the slices hold. -/
structure DEnc (α : Type) where
  tid : Nat
  size : Nat
  cells : α → List Hd → List Value
  parts : α → List Part
def DEnc.enc {α : Type} (E : DEnc α) : Enc (α × List Hd) := ⟨E.tid, E.size, fun p => E.cells p.1 p.2⟩
def PartsAt (w : World) (base : Nat) (rs : List Part) (hs : List Hd) : Prop := rs.length = hs.length ∧ ∀ (j : Nat) (r : Part) (h : Hd), rs[j]? = some r → hs[j]? = some h → r.at_ w base h
def blks {α : Type} (ps : List (α × List Hd)) : List Nat := ps.flatMap fun p => p.2.flatMap fun h => blkOf h.A
/-- A row of the call's own whose elements bear rows of the call's own: all in blocks of their own ('fp': these blocks). -/
def DOw {α : Type} (E : DEnc α) (w : World) (base : Nat) (A : Option Addr) (n c : Nat) (ps : List (α × List Hd)) : Prop :=
  Ow E.enc w base A n c ps ∧ (∀ p ∈ ps, PartsAt w base (E.parts p.1) p.2) ∧ (blkOf A ++ blks ps).Nodup

section
variable {α : Type} {E : DEnc α} {w w' : World} {base n c : Nat} {A : Option Addr} {ps : List (α × List Hd)}
theorem blkOf_lt {tid size n c : Nat} {xs : List Value} (h : w.ownsRow base tid size (.slice A n c) n xs) : ∀ b ∈ blkOf A, base ≤ b ∧ b < w.heap.size := by
  intro b hb
  refine World.ownsRow.lt h b ?_
  cases A with
  | none => simp [blkOf] at hb
  | some a => simpa [blkOf, Value.ownBlock, eq_comm] using hb
theorem PartsAt.mem {rs : List Part} {hs : List Hd} (h : PartsAt w base rs hs) {x : Hd} (hx : x ∈ hs) : ∃ r ∈ rs, r.at_ w base x := by
  obtain ⟨j, hj⟩ := List.mem_iff_getElem?.1 hx
  have hl := getElem?_some_lt hj
  have hl' : j < rs.length := by rw [h.1]; exact hl
  have hr : rs[j]? = some rs[j] := List.getElem?_eq_getElem hl'
  exact ⟨_, List.mem_of_getElem? hr, h.2 j _ _ hr hj⟩
theorem DOw.lt (h : DOw E w base A n c ps) : ∀ b ∈ blkOf A ++ blks ps, base ≤ b ∧ b < w.heap.size := by
  intro b hb
  rcases List.mem_append.1 hb with hb | hb
  · exact blkOf_lt h.1 b hb
  · obtain ⟨p, hp, hb⟩ := List.mem_flatMap.1 hb
    obtain ⟨x, hx, hb⟩ := List.mem_flatMap.1 hb
    obtain ⟨r, _, hr⟩ := (h.2.1 p hp).mem hx
    exact blkOf_lt hr b hb
theorem row_keep {tid size : Nat} {xs : List Value} (h : w.ownsRow base tid size (.slice A n c) n xs) (hk : ∀ b ∈ blkOf A, w'.heap[b]? = w.heap[b]?) : w'.ownsRow base tid size (.slice A n c) n xs := by
  refine ⟨h.1, ?_⟩
  rcases h.2 with h0 | ⟨g, cap, cur, hv, hb, hgg, rest⟩
  · exact .inl h0
  · refine .inr ⟨g, cap, cur, hv, hb, ?_, rest⟩
    simp only [Value.slice.injEq] at hv
    rw [hk g (by rw [hv.1]; simp [blkOf])]
    exact hgg
theorem Ow.keep {β : Type} {F : Enc β} {l : List β} (h : Ow F w base A n c l) (hk : ∀ b ∈ blkOf A, w'.heap[b]? = w.heap[b]?) : Ow F w' base A n c l := row_keep h hk
theorem PartsAt.keep {rs : List Part} {hs : List Hd} (h : PartsAt w base rs hs) (hk : ∀ b ∈ hs.flatMap (fun x => blkOf x.A), w'.heap[b]? = w.heap[b]?) : PartsAt w' base rs hs :=
  ⟨h.1, fun j r x hr hx => row_keep (h.2 j r x hr hx) fun b hb => hk b (List.mem_flatMap.2 ⟨x, List.mem_of_getElem? hx, hb⟩)⟩
theorem DOw.keep (h : DOw E w base A n c ps) (hk : ∀ b ∈ blkOf A ++ blks ps, w'.heap[b]? = w.heap[b]?) : DOw E w' base A n c ps :=
  ⟨h.1.keep fun b hb => hk b (List.mem_append_left _ hb),
   fun p hp => (h.2.1 p hp).keep fun b hb => hk b (List.mem_append_right _ (List.mem_flatMap.2 ⟨p, hp, hb⟩)), h.2.2⟩
theorem DOw.below {B : Nat} (h : DOw E w base A n c ps) (hb : Below B w w') (hB : w.heap.size ≤ B) : DOw E w' base A n c ps :=
  h.keep fun b hb' => hb.block b (Nat.lt_of_lt_of_le (h.lt b hb').2 hB)
theorem DOw.alloc (h : DOw E w base A n c ps) (o : Obj) : DOw E (w.alloc o) base A n c ps :=
  h.keep fun b hb' => Below.heap_alloc w o b (h.lt b hb').2
theorem DOw.grown {row : Option Nat} (h : DOw E w base A n c ps) (hg : w.grownBy w' row) (hr : ∀ g, row = some g → g ∉ blkOf A ++ blks ps) : DOw E w' base A n c ps :=
  h.keep fun b hb' => hg.block b (h.lt b hb').2 (fun e => hr b e.symm hb')
theorem DOw.within {lo hi lo' hi' : Nat} (h : DOw E w base A n c ps) (k : Within lo' hi' w w') (hr : ∀ g ∈ blkOf A ++ blks ps, lo ≤ g ∧ g < hi) (hd : hi ≤ lo' ∨ hi' ≤ lo) : DOw E w' base A n c ps :=
  h.keep fun b hb' => k.block b (h.lt b hb').2 (by have := hr b hb'; omega)
theorem row_from {tid size base' : Nat} {xs : List Value} (h : w.ownsRow base tid size (.slice A n c) n xs) (hb : base' ≤ base) : w.ownsRow base' tid size (.slice A n c) n xs := by
  refine ⟨h.1, ?_⟩
  rcases h.2 with h0 | ⟨g, cap, cur, hv, hb', rest⟩
  · exact .inl h0
  · exact .inr ⟨g, cap, cur, hv, Nat.le_trans hb hb', rest⟩
theorem DOw.from_ {base' : Nat} (h : DOw E w base A n c ps) (hb : base' ≤ base) : DOw E w base' A n c ps :=
  ⟨h.1.from_ hb, fun p hp => ⟨(h.2.1 p hp).1, fun j r x hr hx => row_from ((h.2.1 p hp).2 j r x hr hx) hb⟩, h.2.2⟩
theorem DOw.under (h : DOw E w base A n c ps) {p : Addr} (hp : p.block < base) (u : Value) : DOw E (w.setCell p u) base A n c ps :=
  h.keep fun b hb' => Below.heap_setCell w p u b (by have := (h.lt b hb').1; omega)
theorem DOw.nil : DOw E w base none 0 0 [] := ⟨Ow.nil, fun p hp => absurd hp (by simp), by simp [blkOf, blks]⟩
end

theorem blks_snoc {α : Type} (ps : List (α × List Hd)) (p : α × List Hd) : blks (ps ++ [p]) = blks ps ++ p.2.flatMap fun h => blkOf h.A := by simp [blks]
/-- One more element behind the others. -/
theorem DOw.snoc {α : Type} {E : DEnc α} {w w1 : World} {base n c c1 : Nat} {A A1 : Option Addr} {ps : List (α × List Hd)} {a : α} {hs : List Hd} (h : DOw E w base A n c ps) (hp : PartsAt w base (E.parts a) hs)
    (hnd : (hs.flatMap fun x => blkOf x.A).Nodup) (hdis : ∀ b ∈ hs.flatMap (fun x => blkOf x.A), b ∉ blkOf A ++ blks ps) (how : Ow E.enc w1 base A1 (n + 1) c1 (ps ++ [(a, hs)])) (hg : w.grownBy w1 (A.map (·.block)))
    (hat : A1.map (·.block) = A.map (·.block) ∨ A1.map (·.block) = some w.heap.size) : DOw E w1 base A1 (n + 1) c1 (ps ++ [(a, hs)]) := by
  have hlt := h.lt
  have hnA := List.nodup_append.1 h.2.2
  have hsl : ∀ b ∈ hs.flatMap (fun x => blkOf x.A), b < w.heap.size := fun b hb => by
    obtain ⟨x, hx, hb⟩ := List.mem_flatMap.1 hb
    obtain ⟨r, _, hr⟩ := hp.mem hx
    exact (blkOf_lt hr b hb).2
  have hblk : ∀ b, b < w.heap.size → b ∉ blkOf A → w1.heap[b]? = w.heap[b]? := fun b hb hn => hg.block b hb (fun e => hn (by
    unfold blkOf
    rw [← e]
    simp))
  refine ⟨how, fun p hp' => ?_, ?_⟩
  · rcases List.mem_append.1 hp' with h1 | h1
    · refine (h.2.1 p h1).keep fun b hb => ?_
      have hm : b ∈ blks ps := List.mem_flatMap.2 ⟨p, h1, hb⟩
      exact hblk b (hlt b (List.mem_append_right _ hm)).2 (fun e => hnA.2.2 b e b hm rfl)
    · obtain rfl : p = (a, hs) := by simpa using h1
      exact hp.keep fun b hb => hblk b (hsl b hb) (fun e => hdis b hb (List.mem_append_left _ e))
  · rw [blks_snoc]
    have hA1 : ∀ b ∈ blkOf A1, b ∈ blkOf A ∨ b = w.heap.size := fun b hb => by
      unfold blkOf at hb ⊢
      rcases hat with e | e
      · rw [e] at hb; exact .inl hb
      · rw [e] at hb; exact .inr (by simpa using hb)
    refine List.nodup_append.2 ⟨?_, List.nodup_append.2 ⟨hnA.2.1, hnd, fun b hb b' hb' e => ?_⟩, fun b hb b' hb' e => ?_⟩
    · unfold blkOf
      cases A1 <;> simp
    · subst e
      exact hdis b hb' (List.mem_append_right _ hb)
    · subst e
      rcases hA1 b hb with h1 | h1
      · rcases List.mem_append.1 hb' with h2 | h2
        · exact hnA.2.2 b h1 b h2 rfl
        · exact hdis b h2 (List.mem_append_left _ h1)
      · rcases List.mem_append.1 hb' with h2 | h2
        · have := (hlt b (List.mem_append_right _ h2)).2
          omega
        · have := hsl b h2
          omega

/-- Rows of bytes. -/
def eBB : DEnc (List UInt8) := ⟨22, 1, fun _ hs => [(hs.headD ⟨none, 0, 0⟩).val], fun b => [⟨5, 1, eB.row b⟩]⟩
theorem okBB : EncOk eBB.enc := ⟨fun _ => rfl, fun a u hu => by simp only [DEnc.enc, eBB, List.mem_singleton] at hu; subst hu; rfl, Nat.one_pos⟩
theorem info_bb : (Tryz.prog.info? 22).map (fun i => (i.zero, i.size, i.bytes)) = some (some (.slice none 0 0), 1, 24) := by kernel_rfl

theorem part_one {w : World} {base base' : Nat} {x : Hd} {b : List UInt8} (h : Ow eB w base' x.A x.n x.c b) (hb : base ≤ base') : PartsAt w base (eBB.parts b) [x] := by
  refine ⟨rfl, fun i r h' hr hh => ?_⟩
  match i, hr, hh with
  | 0, hr, hh =>
    obtain rfl := Option.some.inj hr
    obtain rfl := Option.some.inj hh
    exact h.from_ hb
  | i + 1, hr, hh => simp at hh
/-- A row that was made behind the others, put behind them. -/
theorem DOw.snocB {w0 w w1 : World} {base n c c1 : Nat} {A A1 : Option Addr} {ps : List (List UInt8 × List Hd)} {b : List UInt8} {x : Hd} (h0 : DOw eBB w0 base A n c ps) (h : DOw eBB w base A n c ps) (hx : Ow eB w w0.heap.size x.A x.n x.c b) (hb : base ≤ w0.heap.size)
    (how : Ow eBB.enc w1 base A1 (n + 1) c1 (ps ++ [(b, [x])])) (hg : w.grownBy w1 (A.map (·.block))) (hat : A1.map (·.block) = A.map (·.block) ∨ A1.map (·.block) = some w.heap.size) : DOw eBB w1 base A1 (n + 1) c1 (ps ++ [(b, [x])]) := by
  refine h.snoc (part_one hx hb) ?_ (fun k hk hk' => ?_) how hg hat
  · simp only [List.flatMap_cons, List.flatMap_nil, List.append_nil, blkOf]
    cases x.A <;> simp
  · have h1 := (h0.lt k hk').2
    simp only [List.flatMap_cons, List.flatMap_nil, List.append_nil] at hk
    have h2 := (blkOf_lt hx k hk).1
    omega
theorem rd_one_row (w : World) (t : TypeId) (b : List UInt8) (x : Hd) : Rd eBB.enc (w.alloc (.cells #[.slice x.A x.n x.c] t)) (w.heap.size + 1) (some ⟨w.heap.size, 0, none⟩) [(b, [x])] := rd_lit okBB w t _ _ rfl

section
variable {w : World} {base n c : Nat} {A : Option Addr} {ps : List (List UInt8 × List Hd)}
/-- One row of it. -/
theorem DOw.row (h : DOw eBB w base A n c ps) {k : Nat} {p : List UInt8 × List Hd} (hk : ps[k]? = some p) :
    ∃ g x, A = some ⟨g, 0, none⟩ ∧ p.2 = [x] ∧ w.cell? ⟨g, k, none⟩ = some (.slice x.A x.n x.c) ∧ Ow eB w base x.A x.n x.c p.1 := by
  have hl := getElem?_some_lt hk
  have hn := Ow.len okBB h.1
  obtain ⟨g, rfl, _, _⟩ := Ow.form h.1 (by omega)
  obtain ⟨h1, h2⟩ := h.2.1 p (List.mem_of_getElem? hk)
  obtain ⟨b, hs⟩ := p
  match hs, h1 with
  | [x], _ =>
    refine ⟨g, x, rfl, rfl, ?_, h2 0 _ x rfl rfl⟩
    have := Ow.cellAt okBB h.1 hk (j := 0) (u := x.val) rfl
    simpa [DEnc.enc, eBB, Hd.val] using this
end
end Go.Proofs.YtmaillakhhdkfaaGreatDoor
namespace Go.Proofs.YtmaillakhhdkfaaGreatDoor
set_option maxRecDepth 20000
open Go.RowKit

theorem set_next {α : Type} (z : α) (xs : List α) (n k : Nat) (x : α) (hk : k < n) (hn : xs.length = n) (hx : xs[k]? = some x) :
    (xs.take k ++ List.replicate (n - k) z).set k x = xs.take (k + 1) ++ List.replicate (n - (k + 1)) z := by
  apply List.ext_getElem?
  intro i
  have hl : (xs.take k).length = k := by rw [List.length_take]; omega
  have hl' : (xs.take (k + 1)).length = k + 1 := by rw [List.length_take]; omega
  rw [List.getElem?_set]
  by_cases h1 : k = i
  · subst h1
    rw [if_pos rfl, if_pos (by simp; omega), List.getElem?_append_left (by omega), List.getElem?_take, if_pos (by omega), hx]
  · rw [if_neg h1]
    rcases Nat.lt_or_ge i k with h2 | h2
    · rw [List.getElem?_append_left (by omega), List.getElem?_append_left (by omega), List.getElem?_take, List.getElem?_take, if_pos (by omega), if_pos (by omega)]
    · rw [List.getElem?_append_right (by omega), List.getElem?_append_right (by omega), hl, hl', List.getElem?_replicate, List.getElem?_replicate]
      by_cases h3 : i < n
      · rw [if_pos (by omega), if_pos (by omega)]
      · rw [if_neg (by omega), if_neg (by omega)]
theorem part_at {α : Type} (z : α) (xs : List α) (n k : Nat) (hk : k < n) (hn : xs.length = n) : (xs.take k ++ List.replicate (n - k) z)[k]? = some z := by
  rw [List.getElem?_append_right (by simp; omega), List.length_take, hn, Nat.min_eq_left (by omega), Nat.sub_self, List.getElem?_replicate, if_pos (by omega)]

/-- Elements laid one by one into a row that was made: the first k are there. -/
def ToRel {α : Type} (E : Enc α) (z : α) (w : World) (g : Nat) (xs : List α) (n : Nat) (i : Value) (wr : World) : Prop :=
  ∃ k : Nat, k ≤ n ∧ i = .int .i64 k ∧ Ow E wr w.heap.size (some ⟨g, 0, none⟩) n n (xs.take k ++ List.replicate (n - k) z) ∧ Below w.heap.size w wr
theorem toRel_end {α : Type} {E : Enc α} {z : α} {wr : World} {g base : Nat} {xs : List α} {n k : Nat} (h : Ow E wr base (some ⟨g, 0, none⟩) n n (xs.take k ++ List.replicate (n - k) z)) (hk : k = n) (hx : xs.length = n) :
    Ow E wr base (some ⟨g, 0, none⟩) n n xs := by
  subst hk
  rw [Nat.sub_self, List.replicate_zero, List.append_nil, List.take_of_length_le (by omega)] at h
  exact h

end Go.Proofs.YtmaillakhhdkfaaGreatDoor
namespace Go.Proofs.YtmaillakhhdkfaaGreatDoor
set_option maxRecDepth 20000
open Go.RowKit

/-- The first s bytes of a number, the lowest one first. -/
def packL (m s : Nat) : List UInt8 := (List.range s).map fun i => UInt8.ofNat (m / 256 ^ i)
theorem packL_len (m s : Nat) : (packL m s).length = s := by simp [packL]
theorem packL_succ (m s : Nat) : packL m (s + 1) = packL m s ++ [UInt8.ofNat (m / 256 ^ s)] := by simp [packL, List.range_succ]
theorem div_next (m k q : Nat) (h : q = m / 256 ^ k) : q / 256 = m / 256 ^ (k + 1) := by
  rw [h, Nat.div_div_eq_div_mul, Nat.pow_succ]

def PackRel (w : World) (m s : Nat) (vn vs out : Value) (wr : World) : Prop :=
  ∃ (k q : Nat) (A : Option Addr) (c : Nat), k ≤ s ∧ vn = .int .i64 q ∧ q = m / 256 ^ k ∧ vs = .int .i64 ((s : Int) - k) ∧ out = .slice A k c ∧ Ow eB wr w.heap.size A k c (packL m k) ∧ Below w.heap.size w wr

set_option maxHeartbeats 400000 in
theorem l1Pack (m s : Nat) (w : World) (hm : m ≤ 9223372036854775807) (hs : s ≤ 8) :
    Calls Tryz.prog 86 #[.int .i64 m, .int .i64 s] w fun e w' => ∃ A c, e = .returned (.slice A s c) ∧ Ow eB w' w.heap.size A s c (packL m s) ∧ Below w.heap.size w w' := by
  go_enter Tryz.func86, Tryz.ntmps86
  go_wp2
  have how : Ow eB (w.alloc (.cells #[] 5)) w.heap.size (some ⟨w.heap.size, 0, none⟩) 0 0 (packL m 0) := Ow.lit w [] #[] 0 (Nat.le_refl _) (Nat.zero_le _) rfl rfl
  have hbel0 : Below w.heap.size w (w.alloc (.cells #[] 5)) := (Below.refl _ _).alloc (Nat.le_refl _) _
  go_loopw [0, 1, 5] (fun vn vs out wr => PackRel w m s vn vs out wr) (fun _ vs _ _ => (intOf vs).toNat)
  case atStart => exact ⟨0, m, _, 0, Nat.zero_le _, rfl, by simp, by simp, rfl, how, hbel0⟩
  case round =>
    obtain ⟨k, q, A, c, hk, rfl, hq, rfl, rfl, hown, hbel⟩ := hrel
    have hql : q ≤ m := by rw [hq]; exact Nat.div_le_self _ _
    have Hq := Lib.hid hq
    clear hq
    by_cases hlt : k < s
    · have hg : decide ((s : Int) - (k : Int) > 0) = true := by simp; omega
      have hgt : (0 : Int) < (s : Int) - (k : Int) := by omega
      have hrd : Rd eB (wr.alloc (.cells #[.int .u8 ((q : Int) % 256)] 5)) (wr.heap.size + 1) (some ⟨wr.heap.size, 0, none⟩) [UInt8.ofNat q] := rd_lit okB wr 5 [UInt8.ofNat q] _ (by simp [Enc.row, eB])
      have Hbel := Lib.hid hbel
      go_wp2_with (at_builtin; refine wpList_append_ow okB _ rfl (.tmp 11) (.tmp 15) _ rfl w.heap.size info_u8 Tryz.underlying22 rfl A k c _ rfl (hown.alloc _) (some ⟨wr.heap.size, 0, none⟩) 1 1 (wr.heap.size + 1) [UInt8.ofNat q] rfl hrd rfl (by unfold maxLen; omega) (by omega) (by simp; have := Hbel.out.size; omega) ?_; intro A' c' w1 hown1 hgr1 hat1)
      have hb1 : Below w.heap.size w w1 := (Hbel.out.alloc Hbel.out.size _).grown hgr1 (by simp; have := Hbel.out.size; omega) (fun g hg => (hown.lt g hg).1)
      refine ⟨⟨k + 1, q / 256, A', c', by omega, by go_num, div_next m k q Hq.out, congrArg _ (by omega), rfl, ?_, hb1⟩, by simp [intOf]; omega⟩
      rw [packL_succ, ← Hq.out]
      exact hown1
    · obtain rfl : s = k := by omega
      have h0 : ((s : Int) - (s : Int)) = 0 := by omega
      rw [h0]
      go_wp2
      go_ret
      exact ⟨_, _, rfl, hown, hbel⟩

/-- What PackWord answers: the code and the bytes. -/
def packM (n size : Int) : Int × List UInt8 :=
  if 1 ≤ size ∧ size ≤ 4 ∧ 0 ≤ n ∧ n < 256 ^ size.toNat then (0, packL n.toNat size.toNat) else (3, [])

theorem packM_bad {n size : Int} (h : ¬ (1 ≤ size ∧ size ≤ 4 ∧ 0 ≤ n ∧ n < 256 ^ size.toNat)) : packM n size = (3, []) := if_neg h
theorem packM_nat {m s : Nat} (h1 : 1 ≤ s) (h4 : s ≤ 4) (hm : m < 256 ^ s) : packM m s = (0, packL m s) := by
  have h : (m : Int) < 256 ^ (s : Int).toNat := by
    rw [Int.toNat_natCast]
    have h := Int.ofNat_lt.2 hm
    rw [Int.natCast_pow] at h
    exact h
  unfold packM
  rw [if_pos ⟨by omega, by omega, by omega, h⟩, Int.toNat_natCast, Int.toNat_natCast]

/-! ### impl.PackWord -/
set_option maxHeartbeats 400000 in
theorem implPackWord_size (n size : Int) (w : World) (h : ¬ (1 ≤ size ∧ size ≤ 4)) :
    Calls Tryz.prog 36 #[.int .i64 n, .int .i64 size] w fun e w' => RetBR (packM n size) w e w' := by
  have Hf := Lib.hid (packM_bad (n := n) (size := size) (by omega))
  have hin : inB (size, 1, 4) = false := by simp only [inB, Bool.and_eq_false_iff, decide_eq_false_iff_not]; omega
  go_enter Tryz.func36, Tryz.ntmps36
  go_wp2_with (go_at_call 82; refine (isWordSize_any _ _).mono ?_; rintro e w1 ⟨rfl, hb1⟩; obtain ⟨hc1, hf1⟩ := bcell hb1; have hz1 : w.heap.size < w1.heap.size := by have := hb1.size; simp at this; omega)
  have hB1 : Below w.heap.size w w1 := ((Below.refl _ _).alloc (Nat.le_refl _) _).trans (hb1.mono (by simp))
  refine bodyPost_ret (v := .agg #[.int .i64 3, .slice none 0 0]) (by simp [results, Tryz.results36, go_sem, hc1]) rfl ?_
  rw [Hf.out]
  exact ⟨none, 0, 0, rfl, Ow.nil, (hB1.setCell (Nat.le_refl _) _).setCell (Nat.le_refl _) _⟩

theorem packL_at {m s k : Nat} (h : k < s) : (packL m s)[k]? = some (UInt8.ofNat (m / 256 ^ k)) := by simp [packL, h]
theorem shr_byte (m j : Nat) : (m : Int) / 2 ^ (8 * j) % 256 = ((UInt8.ofNat (m / 256 ^ j)).toNat : Int) := by
  rw [byte_num, Int.natCast_ediv, Int.natCast_pow]
  have h : (2 : Int) ^ (8 * j) = ((256 : Nat) : Int) ^ j := by rw [Int.pow_mul]; rfl
  rw [h]
def ImplRel (w : World) (m s g t : Nat) (vi : Value) (wr : World) : Prop :=
  At wr w.heap.size t #[.int .i64 0, .slice none 0 0] ∧ ToRel eB 0 w g (packL m s) s vi wr

set_option maxHeartbeats 400000 in
theorem implPackWord_no1 (n : Int) (w : World) (hn : ¬ (0 ≤ n ∧ n ≤ 255)) :
    Calls Tryz.prog 36 #[.int .i64 n, .int .i64 1] w fun e w' => RetBR (packM n 1) w e w' := by
  have hin : inB (1, 1, 4) = true := rfl
  have hno : [(n, (0 : Int), (255 : Int))].all inB = false := by simp [inB]; omega
  have Hf := Lib.hid (packM_bad (n := n) (size := 1) (by simp; omega))
  go_enter Tryz.func36, Tryz.ntmps36
  go_wp2_with (go_at_call 82; refine (isWordSize_any _ _).mono ?_; rintro e w1 ⟨rfl, hb1⟩; have a1 := (At.new w _ _).below hb1 (by simp))
  have z1 := a1.lt
  have hB1 : Below w.heap.size w w1 := ((Below.refl _ _).alloc (Nat.le_refl _) _).trans (hb1.mono (by simp))
  refine (areWithin_any _ _ _ [(n, 0, 255)] _ (bnds_one (by simp)) (by simp) rfl (by simp)).mono ?_
  rintro e w2 ⟨rfl, hb2⟩
  have a2 := (a1.alloc _).below hb2 (by simp; omega)
  have hB2 : Below w.heap.size w w2 := (hB1.alloc (by omega) _).trans (hb2.mono (by simp; omega))
  obtain ⟨r0, r1, f0, f1⟩ := a2.two
  go_wp2
  refine bodyPost_ret (v := .agg #[.int .i64 3, .slice none 0 0]) (by simp [results, Tryz.results36, go_sem, r0, r1]) rfl ?_
  rw [Hf.out]
  exact ⟨none, 0, 0, rfl, Ow.nil, (hB2.setCell (Nat.le_refl _) _).setCell (Nat.le_refl _) _⟩

set_option maxRecDepth 100000 in
set_option maxHeartbeats 400000 in
theorem implPackWord_yes1 (m : Nat) (w : World) (hn : m ≤ 255) :
    Calls Tryz.prog 36 #[.int .i64 m, .int .i64 1] w fun e w' => RetBR (packM m 1) w e w' := by
  have hin : inB (1, 1, 4) = true := rfl
  have hno : [((m : Int), (0 : Int), (255 : Int))].all inB = true := by simp [inB]; omega
  have Hf := Lib.hid (show packM (m : Int) 1 = (0, packL m 1) from packM_nat (s := 1) (by omega) (by omega) (by omega))
  go_enter Tryz.func36, Tryz.ntmps36
  go_wp2_with (go_at_call 82; refine (isWordSize_any _ _).mono ?_; rintro e w1 ⟨rfl, hb1⟩; have a1 := (At.new w _ _).below hb1 (by simp))
  have z1 := a1.lt
  have hB1 : Below w.heap.size w w1 := ((Below.refl _ _).alloc (Nat.le_refl _) _).trans (hb1.mono (by simp))
  refine (areWithin_any _ _ _ [((m : Int), 0, 255)] _ (bnds_one (by simp)) (by simp) rfl (by simp)).mono ?_
  rintro e w2 ⟨rfl, hb2⟩
  have a2 := (a1.alloc _).below hb2 (by simp; omega)
  have hB2 : Below w.heap.size w w2 := (hB1.alloc (by omega) _).trans (hb2.mono (by simp; omega))
  have z2 := a2.lt
  go_wp2_with (refine wpList_make_ow okB _ rfl _ _ _ rfl w.heap.size info_u8 Tryz.underlying22 0 rfl .i64 .i64 1 1 1 rfl rfl rfl rfl (by omega) (by unfold maxLen; omega) (by omega) ?_; intro w3 hown hg3)
  have a3 := a2.grown hg3 (by simp)
  have hB3 : Below w.heap.size w w3 := hB2.grown hg3 (by omega) (by simp)
  have z3 := (hown.lt w2.heap.size rfl).2
  go_loopw [6, 26] (fun _ vi wr => ImplRel w m 1 w2.heap.size 30 vi wr) (fun _ vi _ => 1 - (intOf vi).toNat)
  case atStart => exact ⟨a3, 0, by omega, rfl, hown, hB3⟩
  case round =>
    obtain ⟨ar, j, hj, rfl, hown, hbel⟩ := hrel
    by_cases hlt : j < 1
    · have cb := hown.byteAt (part_at 0 (packL m 1) 1 j hlt (packL_len _ _))
      have fb := hown.frozenAt j
      go_wp2
      rw [shr_byte]
      refine ⟨⟨ar.far (by simp; omega) _, j + 1, by omega, by go_num, ?_, hbel.setCell (by simp; omega) _⟩, by simp [intOf]; omega⟩
      rw [← set_next 0 (packL m 1) 1 j _ hlt (packL_len _ _) (packL_at hlt)]
      exact (hown.byteSet hlt _).1
    · have hall := toRel_end hown (by omega) (packL_len _ _)
      obtain ⟨r0, r1, f0, f1⟩ := ar.two
      obtain rfl : j = 1 := by omega
      clear hown
      go_wp2
      refine bodyPost_ret (v := .agg #[.int .i64 0, .slice (some ⟨w2.heap.size, 0, none⟩) 1 1]) (by simp [results, Tryz.results36, go_sem, r0, r1]) rfl ?_
      rw [Hf.out]
      exact ⟨_, _, _, rfl, ((hall.grown (grown_setCell _ ⟨w.heap.size, 0, none⟩ _) (by simp; omega)).grown (grown_setCell _ ⟨w.heap.size, 1, none⟩ _) (by simp; omega)), (hbel.setCell (Nat.le_refl _) _).setCell (Nat.le_refl _) _⟩
set_option maxHeartbeats 400000 in
theorem implPackWord_no2 (n : Int) (w : World) (hn : ¬ (0 ≤ n ∧ n ≤ 65535)) :
    Calls Tryz.prog 36 #[.int .i64 n, .int .i64 2] w fun e w' => RetBR (packM n 2) w e w' := by
  have hin : inB (2, 1, 4) = true := rfl
  have hno : [(n, (0 : Int), (65535 : Int))].all inB = false := by simp [inB]; omega
  have Hf := Lib.hid (packM_bad (n := n) (size := 2) (by simp; omega))
  go_enter Tryz.func36, Tryz.ntmps36
  go_wp2_with (go_at_call 82; refine (isWordSize_any _ _).mono ?_; rintro e w1 ⟨rfl, hb1⟩; have a1 := (At.new w _ _).below hb1 (by simp))
  have z1 := a1.lt
  have hB1 : Below w.heap.size w w1 := ((Below.refl _ _).alloc (Nat.le_refl _) _).trans (hb1.mono (by simp))
  refine (areWithin_any _ _ _ [(n, 0, 65535)] _ (bnds_one (by simp)) (by simp) rfl (by simp)).mono ?_
  rintro e w2 ⟨rfl, hb2⟩
  have a2 := (a1.alloc _).below hb2 (by simp; omega)
  have hB2 : Below w.heap.size w w2 := (hB1.alloc (by omega) _).trans (hb2.mono (by simp; omega))
  obtain ⟨r0, r1, f0, f1⟩ := a2.two
  go_wp2
  refine bodyPost_ret (v := .agg #[.int .i64 3, .slice none 0 0]) (by simp [results, Tryz.results36, go_sem, r0, r1]) rfl ?_
  rw [Hf.out]
  exact ⟨none, 0, 0, rfl, Ow.nil, (hB2.setCell (Nat.le_refl _) _).setCell (Nat.le_refl _) _⟩

set_option maxRecDepth 100000 in
set_option maxHeartbeats 400000 in
theorem implPackWord_yes2 (m : Nat) (w : World) (hn : m ≤ 65535) :
    Calls Tryz.prog 36 #[.int .i64 m, .int .i64 2] w fun e w' => RetBR (packM m 2) w e w' := by
  have hin : inB (2, 1, 4) = true := rfl
  have hno : [((m : Int), (0 : Int), (65535 : Int))].all inB = true := by simp [inB]; omega
  have Hf := Lib.hid (show packM (m : Int) 2 = (0, packL m 2) from packM_nat (s := 2) (by omega) (by omega) (by omega))
  go_enter Tryz.func36, Tryz.ntmps36
  go_wp2_with (go_at_call 82; refine (isWordSize_any _ _).mono ?_; rintro e w1 ⟨rfl, hb1⟩; have a1 := (At.new w _ _).below hb1 (by simp))
  have z1 := a1.lt
  have hB1 : Below w.heap.size w w1 := ((Below.refl _ _).alloc (Nat.le_refl _) _).trans (hb1.mono (by simp))
  refine (areWithin_any _ _ _ [((m : Int), 0, 65535)] _ (bnds_one (by simp)) (by simp) rfl (by simp)).mono ?_
  rintro e w2 ⟨rfl, hb2⟩
  have a2 := (a1.alloc _).below hb2 (by simp; omega)
  have hB2 : Below w.heap.size w w2 := (hB1.alloc (by omega) _).trans (hb2.mono (by simp; omega))
  have z2 := a2.lt
  go_wp2_with (refine wpList_make_ow okB _ rfl _ _ _ rfl w.heap.size info_u8 Tryz.underlying22 0 rfl .i64 .i64 2 2 2 rfl rfl rfl rfl (by omega) (by unfold maxLen; omega) (by omega) ?_; intro w3 hown hg3)
  have a3 := a2.grown hg3 (by simp)
  have hB3 : Below w.heap.size w w3 := hB2.grown hg3 (by omega) (by simp)
  have z3 := (hown.lt w2.heap.size rfl).2
  go_loopw [6, 26] (fun _ vi wr => ImplRel w m 2 w2.heap.size 30 vi wr) (fun _ vi _ => 2 - (intOf vi).toNat)
  case atStart => exact ⟨a3, 0, by omega, rfl, hown, hB3⟩
  case round =>
    obtain ⟨ar, j, hj, rfl, hown, hbel⟩ := hrel
    by_cases hlt : j < 2
    · have cb := hown.byteAt (part_at 0 (packL m 2) 2 j hlt (packL_len _ _))
      have fb := hown.frozenAt j
      have Hset := Lib.hid (set_next 0 (packL m 2) 2 j _ hlt (packL_len _ _) (packL_at hlt))
      have Hst := Lib.hid (hown.byteSet hlt (UInt8.ofNat (m / 256 ^ j))).1
      rcases (show j = 0 ∨ j = 1 by omega) with rfl | rfl
      · go_wp2
        rw [show (m : Int) % 256 = ((UInt8.ofNat (m / 256 ^ 0)).toNat : Int) by rw [byte_num]; omega]
        exact ⟨⟨ar.far (by simp; omega) _, 1, by omega, by go_num, by rw [← Hset.out]; exact Hst.out, hbel.setCell (by simp; omega) _⟩, by simp [intOf]⟩
      · go_wp2
        rw [show (m : Int) / 256 = ((UInt8.ofNat (m / 256 ^ 1)).toNat : Int) by rw [byte_num]; omega]
        exact ⟨⟨ar.far (by simp; omega) _, 2, by omega, by go_num, by rw [← Hset.out]; exact Hst.out, hbel.setCell (by simp; omega) _⟩, by simp [intOf]⟩
    · have hall := toRel_end hown (by omega) (packL_len _ _)
      obtain ⟨r0, r1, f0, f1⟩ := ar.two
      obtain rfl : j = 2 := by omega
      clear hown
      go_wp2
      refine bodyPost_ret (v := .agg #[.int .i64 0, .slice (some ⟨w2.heap.size, 0, none⟩) 2 2]) (by simp [results, Tryz.results36, go_sem, r0, r1]) rfl ?_
      rw [Hf.out]
      exact ⟨_, _, _, rfl, ((hall.grown (grown_setCell _ ⟨w.heap.size, 0, none⟩ _) (by simp; omega)).grown (grown_setCell _ ⟨w.heap.size, 1, none⟩ _) (by simp; omega)), (hbel.setCell (Nat.le_refl _) _).setCell (Nat.le_refl _) _⟩
set_option maxHeartbeats 400000 in
theorem implPackWord_no3 (n : Int) (w : World) (hn : ¬ (0 ≤ n ∧ n ≤ 16777215)) :
    Calls Tryz.prog 36 #[.int .i64 n, .int .i64 3] w fun e w' => RetBR (packM n 3) w e w' := by
  have hin : inB (3, 1, 4) = true := rfl
  have hno : [(n, (0 : Int), (16777215 : Int))].all inB = false := by simp [inB]; omega
  have Hf := Lib.hid (packM_bad (n := n) (size := 3) (by simp; omega))
  go_enter Tryz.func36, Tryz.ntmps36
  go_wp2_with (go_at_call 82; refine (isWordSize_any _ _).mono ?_; rintro e w1 ⟨rfl, hb1⟩; have a1 := (At.new w _ _).below hb1 (by simp))
  have z1 := a1.lt
  have hB1 : Below w.heap.size w w1 := ((Below.refl _ _).alloc (Nat.le_refl _) _).trans (hb1.mono (by simp))
  refine (areWithin_any _ _ _ [(n, 0, 16777215)] _ (bnds_one (by simp)) (by simp) rfl (by simp)).mono ?_
  rintro e w2 ⟨rfl, hb2⟩
  have a2 := (a1.alloc _).below hb2 (by simp; omega)
  have hB2 : Below w.heap.size w w2 := (hB1.alloc (by omega) _).trans (hb2.mono (by simp; omega))
  obtain ⟨r0, r1, f0, f1⟩ := a2.two
  go_wp2
  refine bodyPost_ret (v := .agg #[.int .i64 3, .slice none 0 0]) (by simp [results, Tryz.results36, go_sem, r0, r1]) rfl ?_
  rw [Hf.out]
  exact ⟨none, 0, 0, rfl, Ow.nil, (hB2.setCell (Nat.le_refl _) _).setCell (Nat.le_refl _) _⟩

set_option maxRecDepth 100000 in
set_option maxHeartbeats 400000 in
theorem implPackWord_yes3 (m : Nat) (w : World) (hn : m ≤ 16777215) :
    Calls Tryz.prog 36 #[.int .i64 m, .int .i64 3] w fun e w' => RetBR (packM m 3) w e w' := by
  have hin : inB (3, 1, 4) = true := rfl
  have hno : [((m : Int), (0 : Int), (16777215 : Int))].all inB = true := by simp [inB]; omega
  have Hf := Lib.hid (show packM (m : Int) 3 = (0, packL m 3) from packM_nat (s := 3) (by omega) (by omega) (by omega))
  go_enter Tryz.func36, Tryz.ntmps36
  go_wp2_with (go_at_call 82; refine (isWordSize_any _ _).mono ?_; rintro e w1 ⟨rfl, hb1⟩; have a1 := (At.new w _ _).below hb1 (by simp))
  have z1 := a1.lt
  have hB1 : Below w.heap.size w w1 := ((Below.refl _ _).alloc (Nat.le_refl _) _).trans (hb1.mono (by simp))
  refine (areWithin_any _ _ _ [((m : Int), 0, 16777215)] _ (bnds_one (by simp)) (by simp) rfl (by simp)).mono ?_
  rintro e w2 ⟨rfl, hb2⟩
  have a2 := (a1.alloc _).below hb2 (by simp; omega)
  have hB2 : Below w.heap.size w w2 := (hB1.alloc (by omega) _).trans (hb2.mono (by simp; omega))
  have z2 := a2.lt
  go_wp2_with (refine wpList_make_ow okB _ rfl _ _ _ rfl w.heap.size info_u8 Tryz.underlying22 0 rfl .i64 .i64 3 3 3 rfl rfl rfl rfl (by omega) (by unfold maxLen; omega) (by omega) ?_; intro w3 hown hg3)
  have a3 := a2.grown hg3 (by simp)
  have hB3 : Below w.heap.size w w3 := hB2.grown hg3 (by omega) (by simp)
  have z3 := (hown.lt w2.heap.size rfl).2
  go_loopw [6, 26] (fun _ vi wr => ImplRel w m 3 w2.heap.size 30 vi wr) (fun _ vi _ => 3 - (intOf vi).toNat)
  case atStart => exact ⟨a3, 0, by omega, rfl, hown, hB3⟩
  case round =>
    obtain ⟨ar, j, hj, rfl, hown, hbel⟩ := hrel
    by_cases hlt : j < 3
    · have cb := hown.byteAt (part_at 0 (packL m 3) 3 j hlt (packL_len _ _))
      have fb := hown.frozenAt j
      have Hset := Lib.hid (set_next 0 (packL m 3) 3 j _ hlt (packL_len _ _) (packL_at hlt))
      have Hst := Lib.hid (hown.byteSet hlt (UInt8.ofNat (m / 256 ^ j))).1
      rcases (show j = 0 ∨ j = 1 ∨ j = 2 by omega) with rfl | rfl | rfl
      · go_wp2
        rw [show (m : Int) % 256 = ((UInt8.ofNat (m / 256 ^ 0)).toNat : Int) by rw [byte_num]; omega]
        exact ⟨⟨ar.far (by simp; omega) _, 1, by omega, by go_num, by rw [← Hset.out]; exact Hst.out, hbel.setCell (by simp; omega) _⟩, by simp [intOf]⟩
      · go_wp2
        rw [show (m : Int) / 256 % 256 = ((UInt8.ofNat (m / 256 ^ 1)).toNat : Int) by rw [byte_num]; omega]
        exact ⟨⟨ar.far (by simp; omega) _, 2, by omega, by go_num, by rw [← Hset.out]; exact Hst.out, hbel.setCell (by simp; omega) _⟩, by simp [intOf]⟩
      · go_wp2
        rw [show (m : Int) / 65536 = ((UInt8.ofNat (m / 256 ^ 2)).toNat : Int) by rw [byte_num]; omega]
        exact ⟨⟨ar.far (by simp; omega) _, 3, by omega, by go_num, by rw [← Hset.out]; exact Hst.out, hbel.setCell (by simp; omega) _⟩, by simp [intOf]⟩
    · have hall := toRel_end hown (by omega) (packL_len _ _)
      obtain ⟨r0, r1, f0, f1⟩ := ar.two
      obtain rfl : j = 3 := by omega
      clear hown
      go_wp2
      refine bodyPost_ret (v := .agg #[.int .i64 0, .slice (some ⟨w2.heap.size, 0, none⟩) 3 3]) (by simp [results, Tryz.results36, go_sem, r0, r1]) rfl ?_
      rw [Hf.out]
      exact ⟨_, _, _, rfl, ((hall.grown (grown_setCell _ ⟨w.heap.size, 0, none⟩ _) (by simp; omega)).grown (grown_setCell _ ⟨w.heap.size, 1, none⟩ _) (by simp; omega)), (hbel.setCell (Nat.le_refl _) _).setCell (Nat.le_refl _) _⟩
set_option maxHeartbeats 400000 in
theorem implPackWord_no4 (n : Int) (w : World) (hn : ¬ (0 ≤ n ∧ n ≤ 4294967295)) :
    Calls Tryz.prog 36 #[.int .i64 n, .int .i64 4] w fun e w' => RetBR (packM n 4) w e w' := by
  have hin : inB (4, 1, 4) = true := rfl
  have hno : [(n, (0 : Int), (4294967295 : Int))].all inB = false := by simp [inB]; omega
  have Hf := Lib.hid (packM_bad (n := n) (size := 4) (by simp; omega))
  go_enter Tryz.func36, Tryz.ntmps36
  go_wp2_with (go_at_call 82; refine (isWordSize_any _ _).mono ?_; rintro e w1 ⟨rfl, hb1⟩; have a1 := (At.new w _ _).below hb1 (by simp))
  have z1 := a1.lt
  have hB1 : Below w.heap.size w w1 := ((Below.refl _ _).alloc (Nat.le_refl _) _).trans (hb1.mono (by simp))
  refine (areWithin_any _ _ _ [(n, 0, 4294967295)] _ (bnds_one (by simp)) (by simp) rfl (by simp)).mono ?_
  rintro e w2 ⟨rfl, hb2⟩
  have a2 := (a1.alloc _).below hb2 (by simp; omega)
  have hB2 : Below w.heap.size w w2 := (hB1.alloc (by omega) _).trans (hb2.mono (by simp; omega))
  obtain ⟨r0, r1, f0, f1⟩ := a2.two
  go_wp2
  refine bodyPost_ret (v := .agg #[.int .i64 3, .slice none 0 0]) (by simp [results, Tryz.results36, go_sem, r0, r1]) rfl ?_
  rw [Hf.out]
  exact ⟨none, 0, 0, rfl, Ow.nil, (hB2.setCell (Nat.le_refl _) _).setCell (Nat.le_refl _) _⟩

set_option maxRecDepth 100000 in
set_option maxHeartbeats 400000 in
theorem implPackWord_yes4 (m : Nat) (w : World) (hn : m ≤ 4294967295) :
    Calls Tryz.prog 36 #[.int .i64 m, .int .i64 4] w fun e w' => RetBR (packM m 4) w e w' := by
  have hin : inB (4, 1, 4) = true := rfl
  have hno : [((m : Int), (0 : Int), (4294967295 : Int))].all inB = true := by simp [inB]; omega
  have Hf := Lib.hid (show packM (m : Int) 4 = (0, packL m 4) from packM_nat (s := 4) (by omega) (by omega) (by omega))
  go_enter Tryz.func36, Tryz.ntmps36
  go_wp2_with (go_at_call 82; refine (isWordSize_any _ _).mono ?_; rintro e w1 ⟨rfl, hb1⟩; have a1 := (At.new w _ _).below hb1 (by simp))
  have z1 := a1.lt
  have hB1 : Below w.heap.size w w1 := ((Below.refl _ _).alloc (Nat.le_refl _) _).trans (hb1.mono (by simp))
  refine (areWithin_any _ _ _ [((m : Int), 0, 4294967295)] _ (bnds_one (by simp)) (by simp) rfl (by simp)).mono ?_
  rintro e w2 ⟨rfl, hb2⟩
  have a2 := (a1.alloc _).below hb2 (by simp; omega)
  have hB2 : Below w.heap.size w w2 := (hB1.alloc (by omega) _).trans (hb2.mono (by simp; omega))
  have z2 := a2.lt
  go_wp2_with (refine wpList_make_ow okB _ rfl _ _ _ rfl w.heap.size info_u8 Tryz.underlying22 0 rfl .i64 .i64 4 4 4 rfl rfl rfl rfl (by omega) (by unfold maxLen; omega) (by omega) ?_; intro w3 hown hg3)
  have a3 := a2.grown hg3 (by simp)
  have hB3 : Below w.heap.size w w3 := hB2.grown hg3 (by omega) (by simp)
  have z3 := (hown.lt w2.heap.size rfl).2
  go_loopw [6, 26] (fun _ vi wr => ImplRel w m 4 w2.heap.size 30 vi wr) (fun _ vi _ => 4 - (intOf vi).toNat)
  case atStart => exact ⟨a3, 0, by omega, rfl, hown, hB3⟩
  case round =>
    obtain ⟨ar, j, hj, rfl, hown, hbel⟩ := hrel
    by_cases hlt : j < 4
    · have cb := hown.byteAt (part_at 0 (packL m 4) 4 j hlt (packL_len _ _))
      have fb := hown.frozenAt j
      have Hset := Lib.hid (set_next 0 (packL m 4) 4 j _ hlt (packL_len _ _) (packL_at hlt))
      have Hst := Lib.hid (hown.byteSet hlt (UInt8.ofNat (m / 256 ^ j))).1
      rcases (show j = 0 ∨ j = 1 ∨ j = 2 ∨ j = 3 by omega) with rfl | rfl | rfl | rfl
      · go_wp2
        rw [show (m : Int) % 256 = ((UInt8.ofNat (m / 256 ^ 0)).toNat : Int) by rw [byte_num]; omega]
        exact ⟨⟨ar.far (by simp; omega) _, 1, by omega, by go_num, by rw [← Hset.out]; exact Hst.out, hbel.setCell (by simp; omega) _⟩, by simp [intOf]⟩
      · go_wp2
        rw [show (m : Int) / 256 % 256 = ((UInt8.ofNat (m / 256 ^ 1)).toNat : Int) by rw [byte_num]; omega]
        exact ⟨⟨ar.far (by simp; omega) _, 2, by omega, by go_num, by rw [← Hset.out]; exact Hst.out, hbel.setCell (by simp; omega) _⟩, by simp [intOf]⟩
      · go_wp2
        rw [show (m : Int) / 65536 % 256 = ((UInt8.ofNat (m / 256 ^ 2)).toNat : Int) by rw [byte_num]; omega]
        exact ⟨⟨ar.far (by simp; omega) _, 3, by omega, by go_num, by rw [← Hset.out]; exact Hst.out, hbel.setCell (by simp; omega) _⟩, by simp [intOf]⟩
      · go_wp2
        rw [show (m : Int) / 16777216 = ((UInt8.ofNat (m / 256 ^ 3)).toNat : Int) by rw [byte_num]; omega]
        exact ⟨⟨ar.far (by simp; omega) _, 4, by omega, by go_num, by rw [← Hset.out]; exact Hst.out, hbel.setCell (by simp; omega) _⟩, by simp [intOf]⟩
    · have hall := toRel_end hown (by omega) (packL_len _ _)
      obtain ⟨r0, r1, f0, f1⟩ := ar.two
      obtain rfl : j = 4 := by omega
      clear hown
      go_wp2
      refine bodyPost_ret (v := .agg #[.int .i64 0, .slice (some ⟨w2.heap.size, 0, none⟩) 4 4]) (by simp [results, Tryz.results36, go_sem, r0, r1]) rfl ?_
      rw [Hf.out]
      exact ⟨_, _, _, rfl, ((hall.grown (grown_setCell _ ⟨w.heap.size, 0, none⟩ _) (by simp; omega)).grown (grown_setCell _ ⟨w.heap.size, 1, none⟩ _) (by simp; omega)), (hbel.setCell (Nat.le_refl _) _).setCell (Nat.le_refl _) _⟩

theorem implPackWord (n size : Int) (w : World) :
    Calls Tryz.prog 36 #[.int .i64 n, .int .i64 size] w fun e w' => RetBR (packM n size) w e w' := by
  by_cases h : 1 ≤ size ∧ size ≤ 4
  · have h4 : size = 1 ∨ size = 2 ∨ size = 3 ∨ size = 4 := by omega
    rcases h4 with rfl | rfl | rfl | rfl
    · by_cases hn : 0 ≤ n ∧ n ≤ 255
      · obtain ⟨m, rfl⟩ := Int.eq_ofNat_of_zero_le hn.1
        exact implPackWord_yes1 m w (by omega)
      · exact implPackWord_no1 n w hn
    · by_cases hn : 0 ≤ n ∧ n ≤ 65535
      · obtain ⟨m, rfl⟩ := Int.eq_ofNat_of_zero_le hn.1
        exact implPackWord_yes2 m w (by omega)
      · exact implPackWord_no2 n w hn
    · by_cases hn : 0 ≤ n ∧ n ≤ 16777215
      · obtain ⟨m, rfl⟩ := Int.eq_ofNat_of_zero_le hn.1
        exact implPackWord_yes3 m w (by omega)
      · exact implPackWord_no3 n w hn
    · by_cases hn : 0 ≤ n ∧ n ≤ 4294967295
      · obtain ⟨m, rfl⟩ := Int.eq_ofNat_of_zero_le hn.1
        exact implPackWord_yes4 m w (by omega)
      · exact implPackWord_no4 n w hn
  · exact implPackWord_size n size w h
end Go.Proofs.YtmaillakhhdkfaaGreatDoor
/-
  How long one waits: two to the power of the tries: the model's and the program's.
-/
namespace Go.Proofs.YtmaillakhhdkfaaGreatDoor
set_option maxRecDepth 20000
open Go.RowKit
set_option linter.unusedSimpArgs false

end Go.Proofs.YtmaillakhhdkfaaGreatDoor
/-
  Bytes in an array's block: marked and read as the law does it.
-/
namespace Go.Proofs.YtmaillakhhdkfaaGreatDoor
set_option maxRecDepth 20000
open Go.RowKit

/-- Bytes in a block that is an array of seven. -/
def eA : Enc UInt8 := ⟨177, 1, fun b => [.int .u8 (b.toNat : Int)]⟩
theorem okA : EncOk eA := ⟨fun _ => rfl, fun a u hu => by simp only [eA, List.mem_singleton] at hu; subst hu; rfl, Nat.one_pos⟩
theorem Rd.ofA {w : World} {hi : Nat} {A : Option Addr} {l : List UInt8} (h : Rd eA w hi A l) : Rd eB w hi A l := h

section
variable {w w' : World} {base hi n c : Nat} {A : Option Addr} {l : List UInt8}
end

end Go.Proofs.YtmaillakhhdkfaaGreatDoor
