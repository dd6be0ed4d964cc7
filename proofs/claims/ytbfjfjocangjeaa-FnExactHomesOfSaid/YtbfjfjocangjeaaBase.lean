/-
  Words for memory that this seat's walks share: what the elements of a slice are (Enc), a slice that reads as a list (Rd), a slice of the call's own that holds a list (Ow); how they are kept; append and make in these words.
-/
import Derived.Test.YtbfjfjocangjeaaRows
import Derived.WalkKit
import Derived.WalkSpells
import Derived.WalkLawsBesides
import Derived.ProofKit
import Derived.Deep.QuietTactic
import Derived.Deep.DeepFit
import Derived.BigQuiet
import Derived.Lib.Hide
import Derived.Maps.AppendAt
namespace Go.Proofs.Ytbfjfjocangjeaa
set_option maxRecDepth 20000
open Go.RowKit

theorem ret_eq {a b : Value} (h : a = b) : Ending.returned a = .returned b := by rw [h]
theorem bdrewN {B : Nat} {a w : World} (h : Below B a w) (n : Nat) : Below B a (w.drewN n) := ⟨h.os, h.tape, h.output, h.size, h.block⟩

/-- Behind a call that left what was there as it was: old cells and old marks read as before (the walk's rules). -/
theorem bcell {W w1 : World} (hb : Below W.heap.size W w1) : (∀ b o, b < W.heap.size → w1.cell? ⟨b, o, none⟩ = W.cell? ⟨b, o, none⟩) ∧ (∀ b o, b < W.heap.size → w1.frozen? ⟨b, o, none⟩ = W.frozen? ⟨b, o, none⟩) :=
  ⟨fun b o h => hb.cell (p := ⟨b, o, none⟩) h, fun b o h => hb.frozen (p := ⟨b, o, none⟩) h⟩

/-- A block that is known whole. -/
def At (w : World) (g : Nat) (t : TypeId) (cs : Array Value) : Prop := w.heap[g]? = some (.cells cs t (0, 0))
section
variable {w w' : World} {g : Nat} {t : TypeId} {cs : Array Value}
theorem At.lt (h : At w g t cs) : g < w.heap.size := by
  rcases Nat.lt_or_ge g w.heap.size with h1 | h1
  · exact h1
  · unfold At at h; rw [Array.getElem?_eq_none h1] at h; cases h
theorem At.cell (h : At w g t cs) (i : Nat) : w.cell? ⟨g, i, none⟩ = cs[i]? := cell_of_row w g i cs t (0, 0) h
theorem At.frozen (h : At w g t cs) (i : Nat) : w.frozen? ⟨g, i, none⟩ = false := frozen_of_row w g i cs t h
theorem At.new (w : World) (t : TypeId) (cs : Array Value) : At (w.alloc (.cells cs t)) w.heap.size t cs := heap_alloc_new w _
theorem At.drewN (h : At w g t cs) (n : Nat) : At (w.drewN n) g t cs := h
theorem At.alloc (h : At w g t cs) (o : Obj) : At (w.alloc o) g t cs := (Below.heap_alloc w o g h.lt).trans h
theorem At.below {B : Nat} (h : At w g t cs) (hb : Below B w w') (hg : g < B) : At w' g t cs := (hb.block g hg).trans h
theorem At.grown {row : Option Nat} (h : At w g t cs) (hb : w.grownBy w' row) (hg : row ≠ some g) : At w' g t cs := (hb.block g h.lt (fun e => hg e.symm)).trans h
theorem At.far (h : At w g t cs) {p : Addr} (hp : g ≠ p.block) (u : Value) : At (w.setCell p u) g t cs := (Below.heap_setCell w p u g hp).trans h
theorem At.set (h : At w g t cs) (i : Nat) (u : Value) : At (w.setCell ⟨g, i, none⟩ u) g t (cs.setIfInBounds i u) := heap_setCell_same w g i cs t u h
theorem At.two {a b : Value} (h : At w g t #[a, b]) : w.cell? ⟨g, 0, none⟩ = some a ∧ w.cell? ⟨g, 1, none⟩ = some b ∧ w.frozen? ⟨g, 0, none⟩ = false ∧ w.frozen? ⟨g, 1, none⟩ = false :=
  ⟨h.cell 0, h.cell 1, h.frozen 0, h.frozen 1⟩
theorem At.three {a b c : Value} (h : At w g t #[a, b, c]) : w.cell? ⟨g, 0, none⟩ = some a ∧ w.cell? ⟨g, 1, none⟩ = some b ∧ w.cell? ⟨g, 2, none⟩ = some c ∧ w.frozen? ⟨g, 0, none⟩ = false ∧ w.frozen? ⟨g, 1, none⟩ = false ∧ w.frozen? ⟨g, 2, none⟩ = false :=
  ⟨h.cell 0, h.cell 1, h.cell 2, h.frozen 0, h.frozen 1, h.frozen 2⟩
end

/-- Nothing but blocks from 'lo' to below 'hi' has turned, and what is new. -/
structure Within (lo hi : Nat) (w w' : World) : Prop where
  os : w'.os = w.os
  tape : w'.tape = w.tape
  output : w'.output = w.output
  size : w.heap.size ≤ w'.heap.size
  block : ∀ k, k < w.heap.size → (k < lo ∨ hi ≤ k) → w'.heap[k]? = w.heap[k]?
theorem within_of {w w' : World} {row : Option Nat} {lo hi : Nat} (h : w.grownBy w' row) (hr : ∀ g, row = some g → lo ≤ g ∧ g < hi) : Within lo hi w w' :=
  ⟨h.os, h.tape, h.output, h.size, fun k hk hne => h.block k hk (fun e => by have := hr k e.symm; omega)⟩
theorem Within.grown {w w' : World} {lo hi g : Nat} (h : Within lo hi w w') (hg : g < lo ∨ hi ≤ g) (hs : g < w.heap.size) : w'.heap[g]? = w.heap[g]? := h.block g hs hg
theorem Within.trans {a b c : World} {lo hi : Nat} (h : Within lo hi a b) (k : Within lo hi b c) : Within lo hi a c :=
  ⟨k.os.trans h.os, k.tape.trans h.tape, k.output.trans h.output, Nat.le_trans h.size k.size, fun i hi' hne => (k.block i (Nat.lt_of_lt_of_le hi' h.size) hne).trans (h.block i hi' hne)⟩
theorem Within.refl (lo hi : Nat) (w : World) : Within lo hi w w := ⟨rfl, rfl, rfl, Nat.le_refl _, fun _ _ _ => rfl⟩
theorem Within.more {w w' : World} {lo hi lo' hi' : Nat} (h : Within lo hi w w') (h1 : lo' ≤ lo) (h2 : hi ≤ hi') : Within lo' hi' w w' :=
  ⟨h.os, h.tape, h.output, h.size, fun k hk hne => h.block k hk (by omega)⟩
/-- A call that left what was there as it was. -/
theorem Within.of_below {w w' : World} {lo hi : Nat} (h : Below w.heap.size w w') : Within lo hi w w' := ⟨h.os, h.tape, h.output, h.size, fun k hk _ => h.block k hk⟩
/-- The blocks that turned are all of the call's own. -/
theorem Within.below {a w w' : World} {B lo hi : Nat} (h : Below B a w) (k : Within lo hi w w') (hB : B ≤ w.heap.size) (hlo : B ≤ lo) : Below B a w' :=
  h.trans ⟨k.os, k.tape, k.output, k.size, fun i hi' => k.block i (by omega) (by omega)⟩
theorem At.within {w w' : World} {g : Nat} {t : TypeId} {cs : Array Value} {lo hi : Nat} (h : At w g t cs) (k : Within lo hi w w') (hg : g < lo ∨ hi ≤ g) : At w' g t cs := (k.block g h.lt hg).trans h

/-- How an element lies in memory: its type's number, how many cells, which. -/
structure Enc (α : Type) where
  tid : Nat
  size : Nat
  cells : α → List Value

structure EncOk {α : Type} (E : Enc α) : Prop where
  len : ∀ a, (E.cells a).length = E.size
  one : ∀ a u, u ∈ E.cells a → u.oneCell' = true
  pos : 0 < E.size

def Enc.row {α : Type} (E : Enc α) (l : List α) : List Value := l.flatMap E.cells

section
variable {α : Type} {E : Enc α}
theorem EncOk.row_len (h : EncOk E) (l : List α) : (E.row l).length = l.length * E.size := by
  induction l with
  | nil => simp [Enc.row]
  | cons a l ih =>
    unfold Enc.row at ih ⊢
    rw [List.flatMap_cons, List.length_append, h.len, ih, List.length_cons, Nat.add_mul]
    omega
theorem EncOk.row_at (h : EncOk E) : ∀ (l : List α) (k j : Nat) (a : α), l[k]? = some a → j < E.size → (E.row l)[k * E.size + j]? = (E.cells a)[j]? := by
  intro l
  induction l with
  | nil => intro k j a hk; simp at hk
  | cons b l ih =>
    intro k j a hk hj
    unfold Enc.row at ih ⊢
    rw [List.flatMap_cons]
    match k, hk with
    | 0, hk =>
      obtain rfl : b = a := by simpa using hk
      rw [Nat.zero_mul, Nat.zero_add, List.getElem?_append_left (by rw [h.len]; exact hj)]
    | k + 1, hk =>
      rw [List.getElem?_append_right (by rw [h.len, Nat.add_mul]; omega), h.len]
      rw [← ih k j a (by simpa using hk) hj]
      congr 1
      rw [Nat.add_mul]
      omega
theorem row_append (l m : List α) : E.row (l ++ m) = E.row l ++ E.row m := by simp [Enc.row]
theorem EncOk.row_one (h : EncOk E) (l : List α) : ∀ u ∈ E.row l, u.oneCell' = true := by
  intro u hu
  unfold Enc.row at hu
  obtain ⟨a, _, ha⟩ := List.mem_flatMap.1 hu
  exact h.one a u ha
/-- One cell of one element is stored: the element is another one. -/
theorem EncOk.row_set (h : EncOk E) : ∀ (l : List α) (k j : Nat) (a a' : α) (u : Value), l[k]? = some a → j < E.size → E.cells a' = (E.cells a).set j u → (E.row l).set (k * E.size + j) u = E.row (l.set k a') := by
  intro l
  induction l with
  | nil => intro k j a a' u hk; simp at hk
  | cons b l ih =>
    intro k j a a' u hk hj hc
    unfold Enc.row at ih ⊢
    match k, hk with
    | 0, hk =>
      obtain rfl : b = a := by simpa using hk
      rw [Nat.zero_mul, Nat.zero_add, List.set_cons_zero, List.flatMap_cons, List.flatMap_cons, List.set_append, if_pos (by rw [h.len]; exact hj), hc]
    | k + 1, hk =>
      rw [List.set_cons_succ, List.flatMap_cons, List.flatMap_cons, List.set_append, if_neg (by rw [h.len, Nat.add_mul]; omega), h.len, ← ih k j a a' u (by simpa using hk) hj hc]
      congr 2
      rw [Nat.add_mul]
      omega
end

/-- A slice's address reads the list 'l' in a block below 'hi'. -/
def Rd {α : Type} (E : Enc α) (w : World) (hi : Nat) (A : Option Addr) (l : List α) : Prop :=
  l ≠ [] → ∃ g o, A = some ⟨g, o, none⟩ ∧ g < hi ∧ ∀ (k j : Nat) (a : α) (u : Value), l[k]? = some a → (E.cells a)[j]? = some u → w.cell? ⟨g, o + k * E.size + j, none⟩ = some u

section
variable {α : Type} {E : Enc α} {w w' : World} {hi hi' B : Nat} {A : Option Addr} {l : List α}
theorem getElem?_some_lt {k : Nat} {a : α} (h : l[k]? = some a) : k < l.length := by
  rcases Nat.lt_or_ge k l.length with h1 | h1
  · exact h1
  · rw [List.getElem?_eq_none h1] at h; cases h
theorem Rd.at_ (h : Rd E w hi A l) {k : Nat} (hk : k < l.length) :
    ∃ g o a, A = some ⟨g, o, none⟩ ∧ g < hi ∧ l[k]? = some a ∧ ∀ (j : Nat) (u : Value), (E.cells a)[j]? = some u → w.cell? ⟨g, o + k * E.size + j, none⟩ = some u := by
  obtain ⟨g, o, e, hg, hc⟩ := h (by intro e; subst e; simp at hk)
  exact ⟨g, o, l[k], e, hg, List.getElem?_eq_getElem hk, fun j u hu => hc k j _ u (List.getElem?_eq_getElem hk) hu⟩
theorem Rd.keep (h : Rd E w hi A l) (hk : ∀ p : Addr, p.block < hi → w'.cell? p = w.cell? p) : Rd E w' hi A l := fun hn => by
  obtain ⟨g, o, e, hg, hc⟩ := h hn
  exact ⟨g, o, e, hg, fun k j a u h1 h2 => (hk _ hg).trans (hc k j a u h1 h2)⟩
theorem Rd.below (h : Rd E w hi A l) (hb : Below B w w') (hB : hi ≤ B) : Rd E w' hi A l := h.keep fun _ hp => hb.cell (Nat.lt_of_lt_of_le hp hB)
theorem Rd.alloc (h : Rd E w hi A l) (hB : hi ≤ w.heap.size) (o : Obj) : Rd E (w.alloc o) hi A l := h.keep fun p hp => World.cell?_alloc_lt w o p (Nat.lt_of_lt_of_le hp hB)
theorem Rd.drewN (h : Rd E w hi A l) (k : Nat) : Rd E (w.drewN k) hi A l := h
theorem Rd.more (h : Rd E w hi A l) (hB : hi ≤ hi') : Rd E w hi' A l := fun hn => by
  obtain ⟨g, o, e, hg, hc⟩ := h hn
  exact ⟨g, o, e, Nat.lt_of_lt_of_le hg hB, hc⟩
theorem Rd.lift (h : Rd E w w.heap.size A l) (hb : Below w.heap.size w w') : Rd E w' w'.heap.size A l := (h.below hb (Nat.le_refl _)).more hb.size
theorem Rd.nil : Rd E w hi A [] := fun h => absurd rfl h
/-- What a list of which this is a middle part reads as, from there on. -/
theorem Rd.add {k : Nat} (h : Rd E w hi A l) (_hk : k < l.length) : ∃ g o, A = some ⟨g, o, none⟩ ∧ Rd E w hi (some ⟨g, o + k * E.size, none⟩) (l.drop k) := by
  obtain ⟨g, o, e, hg, hc⟩ := h (by intro e; subst e; simp at _hk)
  refine ⟨g, o, e, fun _ => ⟨g, o + k * E.size, rfl, hg, fun i j a u h1 h2 => ?_⟩⟩
  rw [List.getElem?_drop] at h1
  have := hc (k + i) j a u h1 h2
  rw [Nat.add_mul, ← Nat.add_assoc o] at this
  exact this
theorem Rd.take (h : Rd E w hi A l) (k : Nat) : Rd E w hi A (l.take k) := fun hn => by
  obtain ⟨g, o, e, hg, hc⟩ := h (by intro e; subst e; simp at hn)
  refine ⟨g, o, e, hg, fun i j a u h1 h2 => hc i j a u ?_ h2⟩
  rw [List.getElem?_take] at h1
  split at h1
  · exact h1
  · cases h1
end

/-- A row of the call's own: the slice's value is nil or leads to the head of a block from 'base' on. -/
def Ow {α : Type} (E : Enc α) (w : World) (base : Nat) (A : Option Addr) (n c : Nat) (l : List α) : Prop :=
  w.ownsRow base E.tid E.size (.slice A n c) n (E.row l)

theorem grown_below {w w' : World} {B : Nat} (h : Below B w w') (hB : w.heap.size ≤ B) : w.grownBy w' none :=
  ⟨h.os, h.tape, h.output, h.size, fun k hk _ => h.block k (by omega)⟩
theorem grown_trans {w w' w'' : World} {row : Option Nat} (h : w.grownBy w' row) (h2 : w'.grownBy w'' row) : w.grownBy w'' row :=
  ⟨h2.os.trans h.os, h2.tape.trans h.tape, h2.output.trans h.output, Nat.le_trans h.size h2.size, fun k hk hne => (h2.block k (Nat.lt_of_lt_of_le hk h.size) hne).trans (h.block k hk hne)⟩

section
variable {α : Type} {E : Enc α} {w w' : World} {base base' n c : Nat} {A : Option Addr} {l : List α}
theorem Ow.len (hE : EncOk E) (h : Ow E w base A n c l) : l.length = n := by
  have h1 := h.1
  rw [hE.row_len] at h1
  exact Nat.eq_of_mul_eq_mul_right hE.pos h1
theorem Ow.small (h : Ow E w base A n c l) : n ≤ maxLen := by
  rcases h.2 with ⟨_, h0⟩ | ⟨g, cap, cur, _, _, _, h1, h2, _⟩
  · omega
  · exact Nat.le_trans h1 h2
theorem Ow.cap (h : Ow E w base A n c l) : n ≤ c := by
  rcases h.2 with ⟨_, h0⟩ | ⟨g, cap, cur, hv, _, _, h1, _⟩
  · omega
  · simp only [Value.slice.injEq] at hv
    omega
theorem Ow.capMax (h : Ow E w base A n c l) : c ≤ maxLen := by
  rcases h.2 with ⟨h0, _⟩ | ⟨g, cap, cur, hv, _, _, _, h2, _⟩
  · simp only [Value.slice.injEq] at h0
    omega
  · simp only [Value.slice.injEq] at hv
    omega
theorem Ow.form (h : Ow E w base A n c l) (hn : 0 < n) : ∃ g, A = some ⟨g, 0, none⟩ ∧ base ≤ g ∧ g < w.heap.size := by
  rcases h.2 with ⟨_, h0⟩ | ⟨g, cap, cur, hv, hb, hg, _⟩
  · omega
  · simp only [Value.slice.injEq] at hv
    obtain ⟨rfl, _, rfl⟩ := hv
    exact ⟨g, rfl, hb, (Array.getElem?_eq_some_iff.1 hg).1⟩
theorem Ow.lt (h : Ow E w base A n c l) : ∀ g, A.map (·.block) = some g → base ≤ g ∧ g < w.heap.size := by
  intro g hg
  refine World.ownsRow.lt h g ?_
  cases A with
  | none => simp at hg
  | some a => simpa [Value.ownBlock] using hg
theorem Ow.cellAt (hE : EncOk E) {g : Nat} (h : Ow E w base (some ⟨g, 0, none⟩) n c l) {k j : Nat} {a : α} {u : Value} (hk : l[k]? = some a) (hu : (E.cells a)[j]? = some u) : w.cell? ⟨g, k * E.size + j, none⟩ = some u := by
  have hl := getElem?_some_lt hk
  have hj : j < E.size := by rw [← hE.len a]; exact getElem?_some_lt hu
  have hn := Ow.len hE h
  have hlt : k * E.size + j < n * E.size := by
    have : (k + 1) * E.size ≤ n * E.size := Nat.mul_le_mul_right _ (by omega)
    rw [Nat.add_mul] at this
    omega
  rw [World.ownsRow.cellAt h _ hlt, hE.row_at l k j a hk hj, hu]
theorem Ow.frozenAt {g : Nat} (h : Ow E w base (some ⟨g, 0, none⟩) n c l) (j : Nat) : w.frozen? ⟨g, j, none⟩ = false := World.ownsRow.frozenAt h j
theorem Ow.rd (hE : EncOk E) (h : Ow E w base A n c l) : Rd E w w.heap.size A l := fun hne => by
  have hlen := h.len hE
  have hn : 0 < n := by
    rcases Nat.eq_zero_or_pos n with h0 | h0
    · exact absurd (List.eq_nil_of_length_eq_zero (by omega)) hne
    · exact h0
  obtain ⟨g, rfl, _, hg⟩ := h.form hn
  exact ⟨g, 0, rfl, hg, fun k j a u hk hu => by rw [Nat.zero_add]; exact h.cellAt hE hk hu⟩
theorem Ow.grown {row : Option Nat} (h : Ow E w base A n c l) (hg : w.grownBy w' row) (hne : ∀ g, A.map (·.block) = some g → row ≠ some g) : Ow E w' base A n c l := by
  refine World.ownsRow.kept h hg ?_
  cases A with
  | none => exact .inl rfl
  | some a => exact .inr fun e => hne a.block rfl (by simpa [Value.ownBlock] using e.symm)
theorem Ow.below {B : Nat} (h : Ow E w base A n c l) (hb : Below B w w') (hB : w.heap.size ≤ B) : Ow E w' base A n c l := h.grown (grown_below hb hB) (by simp)
/-- A row in blocks from 'lo' to below 'hi' is kept where other blocks alone have turned. -/
theorem Ow.within {lo hi lo' hi' : Nat} (h : Ow E w base A n c l) (k : Within lo' hi' w w') (hr : ∀ g, A.map (·.block) = some g → lo ≤ g ∧ g < hi) (hd : hi ≤ lo' ∨ hi' ≤ lo) : Ow E w' base A n c l := by
  refine ⟨h.1, ?_⟩
  rcases h.2 with h0 | ⟨g, cap, cur, hv, hb, hgg, rest⟩
  · exact .inl h0
  · refine .inr ⟨g, cap, cur, hv, hb, ?_, rest⟩
    simp only [Value.slice.injEq] at hv
    have hlt := hr g (by rw [hv.1]; rfl)
    rw [k.block g (Array.getElem?_eq_some_iff.1 hgg).1 (by omega)]
    exact hgg
theorem Ow.alloc (h : Ow E w base A n c l) (o : Obj) : Ow E (w.alloc o) base A n c l := World.ownsRow.alloc h o
theorem Ow.drewN (h : Ow E w base A n c l) (k : Nat) : Ow E (w.drewN k) base A n c l := h
theorem Ow.from_ (h : Ow E w base A n c l) (hb : base' ≤ base) : Ow E w base' A n c l := by
  refine ⟨h.1, ?_⟩
  rcases h.2 with h0 | ⟨g, cap, cur, hv, hb', rest⟩
  · exact .inl h0
  · exact .inr ⟨g, cap, cur, hv, Nat.le_trans hb hb', rest⟩
theorem grown_setCell (w : World) (p : Addr) (u : Value) : w.grownBy (w.setCell p u) (some p.block) :=
  ⟨rfl, rfl, rfl, by simp [World.setCell], fun k _ hne => Below.heap_setCell w p u k (fun e => hne (by rw [e]))⟩
/-- A store into a block below the row's base. -/
theorem Ow.under (h : Ow E w base A n c l) {p : Addr} (hp : p.block < base) (u : Value) : Ow E (w.setCell p u) base A n c l :=
  h.grown (grown_setCell w p u) (fun g hg e => by
    have h1 := (h.lt g hg).1
    simp only [Option.some.injEq] at e
    omega)
theorem Ow.nil : Ow E w base none 0 0 [] := World.ownsRow_nil w base E.tid E.size
theorem Ow.stored (hE : EncOk E) {g : Nat} (h : Ow E w base (some ⟨g, 0, none⟩) n c l) {k j : Nat} {a a' : α} {u : Value} (hk : l[k]? = some a) (hj : j < E.size) (hc : E.cells a' = (E.cells a).set j u) :
    Ow E (w.setCell ⟨g, k * E.size + j, none⟩ u) base (some ⟨g, 0, none⟩) n c (l.set k a') ∧ w.grownBy (w.setCell ⟨g, k * E.size + j, none⟩ u) (some g) := by
  obtain ⟨h1, h2⟩ := World.ownsRow.stored h (k * E.size + j) u
  refine ⟨?_, h2⟩
  unfold Ow
  rw [← hE.row_set l k j a a' u hk hj hc]
  exact h1
/-- A row that was laid at once. -/
theorem Ow.lit (w : World) (l : List α) (cs : Array Value) (n : Nat) (hb : base ≤ w.heap.size) (hm : n ≤ maxLen) (hcs : cs.toList = E.row l) (hs : cs.size = n * E.size) :
    Ow E (w.alloc (.cells cs E.tid)) base (some ⟨w.heap.size, 0, none⟩) n n l := by
  unfold Ow
  rw [← hcs]
  exact World.ownsRow_lit w cs n hb hm hs
end

theorem addr_add (g o j : Nat) : (⟨g, o, none⟩ : Addr).add j = ⟨g, o + j, none⟩ := by unfold Addr.add; split <;> simp_all

theorem rd_lit {α : Type} {E : Enc α} (hE : EncOk E) (w : World) (t : TypeId) (l : List α) (cs : Array Value) (hcs : cs.toList = E.row l) : Rd E (w.alloc (.cells cs t)) (w.heap.size + 1) (some ⟨w.heap.size, 0, none⟩) l := fun _ => by
  refine ⟨w.heap.size, 0, rfl, Nat.lt_succ_self _, fun k j a u hk hu => ?_⟩
  have hj : j < E.size := by rw [← hE.len a]; exact getElem?_some_lt hu
  rw [cell_of_row _ _ _ _ _ _ (heap_alloc_new w _), Nat.zero_add, ← Array.getElem?_toList, hcs, hE.row_at l k j a hk hj, hu]

/-- append to a row of the call's own; what is appended is read anywhere. -/
theorem run_append_ow {P : Program} {α : Type} {E : Enc α} (hE : EncOk E) (w : World) (base : Nat) (t ty : TypeId) (i : TypeInfo) (z : Value) (bytes : Nat) (ht : P.underlying t = some (.slice E.tid)) (hi : P.info? E.tid = some i) (hz : i.zero = some z)
    (hsize : i.size = E.size) (hby : i.bytes = bytes) (hzs : z.cells.size = E.size)
    (A : Option Addr) (n c : Nat) (l : List α) (hown : Ow E w base A n c l)
    (X : Option Addr) (m d hi' : Nat) (news : List α) (hX : Rd E w hi' X news) (hm : news.length = m)
    (h63 : n + m ≤ maxLen) (hbytes : (n + m) * bytes ≤ 140737488355328) (hbase : base ≤ w.heap.size) :
    ∃ A' c' w', (Builtin.append_ #[t, t] ty #[.slice A n c, .slice X m d]).run P w = .ok (.slice A' (n + m) c') w' ∧ Ow E w' base A' (n + m) c' (l ++ news) ∧ w.grownBy w' (A.map (·.block)) ∧
      (A'.map (·.block) = A.map (·.block) ∨ A'.map (·.block) = some w.heap.size) := by
  rcases Nat.eq_zero_or_pos m with h0 | h0
  · subst h0
    have hn : news = [] := List.eq_nil_of_length_eq_zero hm
    subst hn
    refine ⟨A, c, w, ?_, by simpa using hown, World.grownBy.refl _ _, .inl rfl⟩
    rcases hown.2 with ⟨h1, rfl⟩ | ⟨g, cap, cur, h1, _, _, hnc, _⟩
    · simp only [Value.slice.injEq] at h1
      obtain ⟨rfl, _, rfl⟩ := h1
      cases X <;> simp [Builtin.append_, run_underlying ht, sizeOf, typeInfo, hi, Builtin.lenOf, Builtin.firstCells, loadCells, loadCellsFrom]
    · simp only [Value.slice.injEq] at h1
      obtain ⟨rfl, _, rfl⟩ := h1
      cases X <;> simp [Builtin.append_, run_underlying ht, sizeOf, typeInfo, hi, Builtin.lenOf, Builtin.firstCells, hnc, storeCells, loadCells, loadCellsFrom]
  · obtain ⟨g, o, rfl, _, hc⟩ := hX (by rintro rfl; simp at hm; omega)
    have hcells : ∀ j u, (E.row news)[j]? = some u → w.cell? ((⟨g, o, none⟩ : Addr).add j) = some u := by
      intro j u hu
      have hj : j < (E.row news).length := getElem?_some_lt hu
      rw [hE.row_len] at hj
      have hk : j / E.size < news.length := Nat.div_lt_of_lt_mul (by rw [Nat.mul_comm]; exact hj)
      have hr : j % E.size < E.size := Nat.mod_lt _ hE.pos
      have hd : j = j / E.size * E.size + j % E.size := by rw [Nat.mul_comm]; exact (Nat.div_add_mod j E.size).symm
      rw [hd, hE.row_at news (j / E.size) (j % E.size) _ (List.getElem?_eq_getElem hk) hr] at hu
      have := hc (j / E.size) (j % E.size) _ u (List.getElem?_eq_getElem hk) hu
      rw [addr_add]
      rw [Nat.add_assoc, ← hd] at this
      exact this
    obtain ⟨v', w', hrun, h2, h3, _, h5⟩ := run_append_own_at (P := P) w base t ty E.tid i z E.size bytes ht hi hz hsize hby hzs hE.pos (.slice A n c) n (E.row l) hown ⟨g, o, none⟩ m d (E.row news) (by rw [hE.row_len, hm]) hcells (hE.row_one news) h63 hbytes hbase
    have hform : ∃ g' cap, v' = .slice (some ⟨g', 0, none⟩) (n + m) cap := by
      rcases h2.2 with ⟨_, h⟩ | ⟨g', cap, cur, h, _⟩
      · omega
      · exact ⟨g', cap, h⟩
    obtain ⟨g', cap, rfl⟩ := hform
    have hob : (Value.slice A n c).ownBlock = A.map (·.block) := by cases A <;> rfl
    rw [hob] at h3 h5
    rw [← row_append] at h2
    exact ⟨_, _, w', hrun, h2, h3, h5⟩

theorem wpList_append_ow {P : Program} {α : Type} {E : Enc α} (hE : EncOk E) (w : World) {ops : Array Oper} {rest : List Oper} {o : Oper} {a : Act} {Q : Exit → Act → World → Prop} (hgd : o.guard = none) (s x : Operand) (t : TypeId)
    (ho : o.op = .call { callee := .builtin .append, args := #[s, x], argTypes := #[t, t] })
    (base : Nat) {z : Value} {bytes : Nat} (hinfo : (P.info? E.tid).map (fun i => (i.zero, i.size, i.bytes)) = some (some z, E.size, bytes)) (ht : P.underlying t = some (.slice E.tid)) (hzs : z.cells.size = E.size)
    (A : Option Addr) (n c : Nat) (l : List α) (hs : a.eval s = .slice A n c) (hown : Ow E w base A n c l)
    (X : Option Addr) (m d hi' : Nat) (news : List α) (hx : a.eval x = .slice X m d) (hX : Rd E w hi' X news) (hm : news.length = m)
    (h63 : n + m ≤ maxLen) (hbytes : (n + m) * bytes ≤ 140737488355328) (hbase : base ≤ w.heap.size)
    (h : ∀ A' c' w', Ow E w' base A' (n + m) c' (l ++ news) → w.grownBy w' (A.map (·.block)) → (A'.map (·.block) = A.map (·.block) ∨ A'.map (·.block) = some w.heap.size) → wpList P ops Q rest (a.put o.dst (.slice A' (n + m) c')) w') : wpList P ops Q (o :: rest) a w := by
  obtain ⟨i, hi, hz, hsz, hby⟩ := info_parts hinfo
  obtain ⟨A', c', w', hrun, h2, h3, h4⟩ := run_append_ow (P := P) hE w base t o.type i z bytes ht hi hz hsz hby hzs A n c l hown X m d hi' news hX hm h63 hbytes hbase
  refine wpList_plain hgd fun _ hK => ?_
  unfold Oper.wp execOp
  simp only [ho, resolve, invoke, builtin, Sem.run_bind, Sem.run_pure, Result.andThen_ok, List.map_toArray, List.map_cons, List.map_nil, hs, hx, hrun]
  exact hK _ _ (h A' c' w' h2 h3 h4)

/-- 'make([]T, n)', n a variable: n zero elements. -/
theorem wpList_make_ow {P : Program} {α : Type} {E : Enc α} (hE : EncOk E) (w : World) {ops : Array Oper} {rest : List Oper} {o : Oper} {a : Act} {Q : Exit → Act → World → Prop} (hgd : o.guard = none) (x y : Operand) (t : TypeId) (ho : o.op = Op.makeSlice t x y)
    (base : Nat) {z : Value} {bytes : Nat} (hinfo : (P.info? E.tid).map (fun i => (i.zero, i.size, i.bytes)) = some (some z, E.size, bytes)) (ht : P.underlying t = some (.slice E.tid)) (z0 : α) (hzs : z.cells.toList = E.cells z0)
    (kl kc : IntKind) (L C : Int) (n : Nat) (hl : a.eval x = .int kl L) (hc : a.eval y = .int kc C) (hL : L = (n : Int)) (hC : C = (n : Int)) (b2 : bytes * n ≤ 281474976710656) (b3 : n ≤ maxLen) (b4 : base ≤ w.heap.size)
    (h : ∀ w', Ow E w' base (some ⟨w.heap.size, 0, none⟩) n n (List.replicate n z0) → w.grownBy w' none → wpList P ops Q rest (a.put o.dst (.slice (some ⟨w.heap.size, 0, none⟩) n n)) w') : wpList P ops Q (o :: rest) a w := by
  obtain ⟨i, hi, hz, hsz, hby⟩ := info_parts hinfo
  refine wpList_make_full w hgd x y t ho base E.tid i z E.size ht hi hz hsz kl kc L C n hl hc hL hC (by rw [hby]; exact b2) b3 b4 fun w' h1 h2 => h w' ?_ h2
  unfold Ow
  have e : (madeCells z.cells (n * E.size)).toList = E.row (List.replicate n z0) := by
    have hzl : z.cells.size = E.size := by rw [← Array.length_toList, hzs, hE.len]
    apply List.ext_getElem?
    intro j
    rcases Nat.lt_or_ge j (n * E.size) with hj | hj
    · have hk : j / E.size < n := Nat.div_lt_of_lt_mul (by rw [Nat.mul_comm]; exact hj)
      have hr : j % E.size < E.size := Nat.mod_lt _ hE.pos
      have hd : j = j / E.size * E.size + j % E.size := by rw [Nat.mul_comm]; exact (Nat.div_add_mod j E.size).symm
      have h3 := hE.row_at (List.replicate n z0) (j / E.size) (j % E.size) z0 (by rw [List.getElem?_replicate, if_pos hk]) hr
      rw [← hd] at h3
      rw [h3, ← hzs]
      have hr2 : j % E.size < z.cells.size := by omega
      simp only [madeCells, Array.toList_map, Array.toList_range, List.getElem?_map, List.getElem?_range hj, Option.map_some, hzl, Array.getElem?_toList]
      rw [getElem!_pos z.cells _ hr2, Array.getElem?_eq_getElem hr2]
    · rw [List.getElem?_eq_none (by simpa [madeCells] using hj), List.getElem?_eq_none (by rw [hE.row_len]; simpa using hj)]
  rw [← e]
  exact h1

/-- Bytes. -/
def eB : Enc UInt8 := ⟨5, 1, fun b => [.int .u8 (b.toNat : Int)]⟩
theorem okB : EncOk eB := ⟨fun _ => rfl, fun a u hu => by simp only [eB, List.mem_singleton] at hu; subst hu; rfl, Nat.one_pos⟩
theorem info_u8 : (Try.prog.info? 5).map (fun i => (i.zero, i.size, i.bytes)) = some (some (.int .u8 0), 1, 1) := by kernel_rfl

section
variable {w w' : World} {base hi n c : Nat} {A : Option Addr} {l : List UInt8}
/-- One byte of a slice that reads as 'l'. -/
theorem Rd.byte (h : Rd eB w hi A l) {k : Nat} (hk : k < l.length) : ∃ g o x, A = some ⟨g, o, none⟩ ∧ g < hi ∧ l[k]? = some x ∧ w.cell? ⟨g, o + k, none⟩ = some (.int .u8 (x.toNat : Int)) := by
  obtain ⟨g, o, a, e, hg, ha, hc⟩ := h.at_ hk
  refine ⟨g, o, a, e, hg, ha, ?_⟩
  have := hc 0 _ rfl
  simpa [eB] using this
theorem Ow.byteAt {g : Nat} (h : Ow eB w base (some ⟨g, 0, none⟩) n c l) {k : Nat} {x : UInt8} (hk : l[k]? = some x) : w.cell? ⟨g, k, none⟩ = some (.int .u8 (x.toNat : Int)) := by
  have := h.cellAt okB hk (j := 0) (u := .int .u8 (x.toNat : Int)) rfl
  simpa [eB] using this
theorem Ow.byteSet {g : Nat} (h : Ow eB w base (some ⟨g, 0, none⟩) n c l) {k : Nat} (hk : k < n) (y : UInt8) :
    Ow eB (w.setCell ⟨g, k, none⟩ (.int .u8 (y.toNat : Int))) base (some ⟨g, 0, none⟩) n c (l.set k y) ∧ w.grownBy (w.setCell ⟨g, k, none⟩ (.int .u8 (y.toNat : Int))) (some g) := by
  have hl := h.len okB
  have := h.stored okB (k := k) (j := 0) (a' := y) (u := .int .u8 (y.toNat : Int)) (List.getElem?_eq_getElem (by omega)) Nat.one_pos rfl
  simpa [eB] using this
end
end Go.Proofs.Ytbfjfjocangjeaa
