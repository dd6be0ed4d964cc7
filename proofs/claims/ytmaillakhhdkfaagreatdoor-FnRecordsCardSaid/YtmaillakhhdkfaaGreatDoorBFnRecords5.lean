/-
  Texts of one proof, joined: each has its own namespace.
-/
import Derived.Test.YtmaillakhhdkfaaGreatDoorBFnRecords0
import Derived.Test.YtmaillakhhdkfaaGreatDoorBFnRecords4
import Derived.StillTailTactics
import Derived.Test.YtmaillakhhdkfaaGreatDoorBFnRecords2
import Derived.Test.YtmaillakhhdkfaaGreatDoorBFnRecords1
import Derived.Test.YtmaillakhhdkfaaGreatDoorBFnRecords3
namespace Go.Proofs.YtmaillakhhdkfaaGreatDoor
set_option maxRecDepth 20000
open Go.RowKit

/-! ### impl -/
end Go.Proofs.YtmaillakhhdkfaaGreatDoor
namespace Go.Proofs.YtmaillakhhdkfaaGreatDoor
set_option maxRecDepth 20000
open Go.RowKit

/-- Nothing but the blocks of a list has turned, and what is new. -/
structure Only (S : List Nat) (w w' : World) : Prop where
  os : w'.os = w.os
  tape : w'.tape = w.tape
  output : w'.output = w.output
  size : w.heap.size ≤ w'.heap.size
  block : ∀ k, k < w.heap.size → k ∉ S → w'.heap[k]? = w.heap[k]?
theorem Only.refl (S : List Nat) (w : World) : Only S w w := ⟨rfl, rfl, rfl, Nat.le_refl _, fun _ _ _ => rfl⟩
theorem Only.trans {S : List Nat} {a b c : World} (h : Only S a b) (k : Only S b c) : Only S a c :=
  ⟨k.os.trans h.os, k.tape.trans h.tape, k.output.trans h.output, Nat.le_trans h.size k.size, fun i hi hn => (k.block i (Nat.lt_of_lt_of_le hi h.size) hn).trans (h.block i hi hn)⟩
theorem Only.more {S T : List Nat} {w w' : World} (h : Only S w w') (hs : ∀ b ∈ S, b ∈ T) : Only T w w' := ⟨h.os, h.tape, h.output, h.size, fun k hk hn => h.block k hk (fun e => hn (hs k e))⟩
theorem Only.within {S : List Nat} {w w' : World} {lo hi : Nat} (h : Only S w w') (hs : ∀ b ∈ S, lo ≤ b ∧ b < hi) : Within lo hi w w' :=
  ⟨h.os, h.tape, h.output, h.size, fun k hk hn => h.block k hk (fun e => by have := hs k e; omega)⟩
theorem Only.of_below {S : List Nat} {w w' : World} (h : Below w.heap.size w w') : Only S w w' := ⟨h.os, h.tape, h.output, h.size, fun k hk _ => h.block k hk⟩

/-- A slice's value in parts: where it leads, its length, its capacity. -/
structure Hd where
  A : Option Addr
  n : Nat
  c : Nat
def Hd.val (h : Hd) : Value := .slice h.A h.n h.c
def blkOf (A : Option Addr) : List Nat := (A.map (·.block)).toList
/-- A row within an element: its element type's number, the cells of one, what it holds. -/
structure Part where
  tid : Nat
  size : Nat
  xs : List Value
def Part.at_ (r : Part) (w : World) (base : Nat) (h : Hd) : Prop := w.ownsRow base r.tid r.size h.val h.n r.xs
/-- Elements that bear slices: the cells of one (its slices' values given), and what the slices hold. -/
structure DEnc (α : Type) where
  tid : Nat
  size : Nat
  cells : α → List Hd → List Value
  parts : α → List Part
def DEnc.enc {α : Type} (E : DEnc α) : Enc (α × List Hd) := ⟨E.tid, E.size, fun p => E.cells p.1 p.2⟩
def PartsAt (w : World) (base : Nat) (rs : List Part) (hs : List Hd) : Prop := rs.length = hs.length ∧ ∀ (j : Nat) (r : Part) (h : Hd), rs[j]? = some r → hs[j]? = some h → r.at_ w base h
def blks {α : Type} (ps : List (α × List Hd)) : List Nat := ps.flatMap fun p => p.2.flatMap fun h => blkOf h.A
/-- A row of the call's own whose elements bear rows of the call's own: all in blocks of their own ('fp': these blocks). -/
def DOw {α : Type} (E : DEnc α) (w : World) (base : Nat) (A : Option Addr) (n c : Nat) (ps : List (α × List Hd)) : Prop :=
  Ow E.enc w base A n c ps ∧ (∀ p ∈ ps, PartsAt w base (E.parts p.1) p.2) ∧ (blkOf A ++ blks ps).Nodup

section
variable {α : Type} {E : DEnc α} {w w' : World} {base n c : Nat} {A : Option Addr} {ps : List (α × List Hd)}
theorem blkOf_lt {tid size n c : Nat} {xs : List Value} (h : w.ownsRow base tid size (.slice A n c) n xs) : ∀ b ∈ blkOf A, base ≤ b ∧ b < w.heap.size := by
  intro b hb
  refine World.ownsRow.lt h b ?_
  cases A with
  | none => simp [blkOf] at hb
  | some a => simpa [blkOf, Value.ownBlock, eq_comm] using hb
theorem PartsAt.mem {rs : List Part} {hs : List Hd} (h : PartsAt w base rs hs) {x : Hd} (hx : x ∈ hs) : ∃ r ∈ rs, r.at_ w base x := by
  obtain ⟨j, hj⟩ := List.mem_iff_getElem?.1 hx
  have hl := getElem?_some_lt hj
  have hl' : j < rs.length := by rw [h.1]; exact hl
  have hr : rs[j]? = some rs[j] := List.getElem?_eq_getElem hl'
  exact ⟨_, List.mem_of_getElem? hr, h.2 j _ _ hr hj⟩
theorem DOw.lt (h : DOw E w base A n c ps) : ∀ b ∈ blkOf A ++ blks ps, base ≤ b ∧ b < w.heap.size := by
  intro b hb
  rcases List.mem_append.1 hb with hb | hb
  · exact blkOf_lt h.1 b hb
  · obtain ⟨p, hp, hb⟩ := List.mem_flatMap.1 hb
    obtain ⟨x, hx, hb⟩ := List.mem_flatMap.1 hb
    obtain ⟨r, _, hr⟩ := (h.2.1 p hp).mem hx
    exact blkOf_lt hr b hb
theorem row_keep {tid size : Nat} {xs : List Value} (h : w.ownsRow base tid size (.slice A n c) n xs) (hk : ∀ b ∈ blkOf A, w'.heap[b]? = w.heap[b]?) : w'.ownsRow base tid size (.slice A n c) n xs := by
  refine ⟨h.1, ?_⟩
  rcases h.2 with h0 | ⟨g, cap, cur, hv, hb, hgg, rest⟩
  · exact .inl h0
  · refine .inr ⟨g, cap, cur, hv, hb, ?_, rest⟩
    simp only [Value.slice.injEq] at hv
    rw [hk g (by rw [hv.1]; simp [blkOf])]
    exact hgg
theorem Ow.keep {β : Type} {F : Enc β} {l : List β} (h : Ow F w base A n c l) (hk : ∀ b ∈ blkOf A, w'.heap[b]? = w.heap[b]?) : Ow F w' base A n c l := row_keep h hk
theorem PartsAt.keep {rs : List Part} {hs : List Hd} (h : PartsAt w base rs hs) (hk : ∀ b ∈ hs.flatMap (fun x => blkOf x.A), w'.heap[b]? = w.heap[b]?) : PartsAt w' base rs hs :=
  ⟨h.1, fun j r x hr hx => row_keep (h.2 j r x hr hx) fun b hb => hk b (List.mem_flatMap.2 ⟨x, List.mem_of_getElem? hx, hb⟩)⟩
theorem DOw.keep (h : DOw E w base A n c ps) (hk : ∀ b ∈ blkOf A ++ blks ps, w'.heap[b]? = w.heap[b]?) : DOw E w' base A n c ps :=
  ⟨h.1.keep fun b hb => hk b (List.mem_append_left _ hb),
   fun p hp => (h.2.1 p hp).keep fun b hb => hk b (List.mem_append_right _ (List.mem_flatMap.2 ⟨p, hp, hb⟩)), h.2.2⟩
theorem DOw.below {B : Nat} (h : DOw E w base A n c ps) (hb : Below B w w') (hB : w.heap.size ≤ B) : DOw E w' base A n c ps :=
  h.keep fun b hb' => hb.block b (Nat.lt_of_lt_of_le (h.lt b hb').2 hB)
theorem DOw.alloc (h : DOw E w base A n c ps) (o : Obj) : DOw E (w.alloc o) base A n c ps :=
  h.keep fun b hb' => Below.heap_alloc w o b (h.lt b hb').2
theorem DOw.grown {row : Option Nat} (h : DOw E w base A n c ps) (hg : w.grownBy w' row) (hr : ∀ g, row = some g → g ∉ blkOf A ++ blks ps) : DOw E w' base A n c ps :=
  h.keep fun b hb' => hg.block b (h.lt b hb').2 (fun e => hr b e.symm hb')
theorem DOw.within {lo hi lo' hi' : Nat} (h : DOw E w base A n c ps) (k : Within lo' hi' w w') (hr : ∀ g ∈ blkOf A ++ blks ps, lo ≤ g ∧ g < hi) (hd : hi ≤ lo' ∨ hi' ≤ lo) : DOw E w' base A n c ps :=
  h.keep fun b hb' => k.block b (h.lt b hb').2 (by have := hr b hb'; omega)
theorem row_from {tid size base' : Nat} {xs : List Value} (h : w.ownsRow base tid size (.slice A n c) n xs) (hb : base' ≤ base) : w.ownsRow base' tid size (.slice A n c) n xs := by
  refine ⟨h.1, ?_⟩
  rcases h.2 with h0 | ⟨g, cap, cur, hv, hb', rest⟩
  · exact .inl h0
  · exact .inr ⟨g, cap, cur, hv, Nat.le_trans hb hb', rest⟩
theorem DOw.from_ {base' : Nat} (h : DOw E w base A n c ps) (hb : base' ≤ base) : DOw E w base' A n c ps :=
  ⟨h.1.from_ hb, fun p hp => ⟨(h.2.1 p hp).1, fun j r x hr hx => row_from ((h.2.1 p hp).2 j r x hr hx) hb⟩, h.2.2⟩
theorem DOw.under (h : DOw E w base A n c ps) {p : Addr} (hp : p.block < base) (u : Value) : DOw E (w.setCell p u) base A n c ps :=
  h.keep fun b hb' => Below.heap_setCell w p u b (by have := (h.lt b hb').1; omega)
theorem DOw.nil : DOw E w base none 0 0 [] := ⟨Ow.nil, fun p hp => absurd hp (by simp), by simp [blkOf, blks]⟩
end

/-- Rows of bytes. -/
def eBB : DEnc (List UInt8) := ⟨22, 1, fun _ hs => [(hs.headD ⟨none, 0, 0⟩).val], fun b => [⟨5, 1, eB.row b⟩]⟩
theorem okBB : EncOk eBB.enc := ⟨fun _ => rfl, fun a u hu => by simp only [DEnc.enc, eBB, List.mem_singleton] at hu; subst hu; rfl, Nat.one_pos⟩
section
variable {w : World} {base n c : Nat} {A : Option Addr} {ps : List (List UInt8 × List Hd)}
/-- One row of it. -/
theorem DOw.row (h : DOw eBB w base A n c ps) {k : Nat} {p : List UInt8 × List Hd} (hk : ps[k]? = some p) :
    ∃ g x, A = some ⟨g, 0, none⟩ ∧ p.2 = [x] ∧ w.cell? ⟨g, k, none⟩ = some (.slice x.A x.n x.c) ∧ Ow eB w base x.A x.n x.c p.1 := by
  have hl := getElem?_some_lt hk
  have hn := Ow.len okBB h.1
  obtain ⟨g, rfl, _, _⟩ := Ow.form h.1 (by omega)
  obtain ⟨h1, h2⟩ := h.2.1 p (List.mem_of_getElem? hk)
  obtain ⟨b, hs⟩ := p
  match hs, h1 with
  | [x], _ =>
    refine ⟨g, x, rfl, rfl, ?_, h2 0 _ x rfl rfl⟩
    have := Ow.cellAt okBB h.1 hk (j := 0) (u := x.val) rfl
    simpa [DEnc.enc, eBB, Hd.val] using this
end
end Go.Proofs.YtmaillakhhdkfaaGreatDoor
namespace Go.Proofs.YtmaillakhhdkfaaGreatDoor
set_option maxRecDepth 20000
open Go.RowKit

/-- Rows marked from k on. -/
def markRows : Nat → List (List UInt8 × List Hd) → List (List UInt8 × List Hd)
  | _, [] => []
  | k, p :: r => (marks k p.1.length, p.2) :: markRows (k + p.1.length) r
/-- The first j rows are marked. -/
def mixed (k : Nat) (ps : List (List UInt8 × List Hd)) (j : Nat) : List (List UInt8 × List Hd) := (markRows k ps).take j ++ ps.drop j
end Go.Proofs.YtmaillakhhdkfaaGreatDoor
namespace Go.Proofs.YtmaillakhhdkfaaGreatDoor
set_option maxRecDepth 20000
open Go.RowKit

/-! ### impl -/
end Go.Proofs.YtmaillakhhdkfaaGreatDoor
/-
  What holds of the pure functions: a word read back; frames read back; one byte that is another one changes the sum.
-/
namespace Go.Proofs.YtmaillakhhdkfaaGreatDoor
set_option maxRecDepth 20000
open Go.RowKit

/-! ### Words -/
theorem packL_cons (m s : Nat) : packL m (s + 1) = UInt8.ofNat m :: packL (m / 256) s := by
  unfold packL
  rw [List.range_succ_eq_map, List.map_cons, List.map_map, Nat.pow_zero, Nat.div_one]
  congr 1
  apply List.map_congr_left
  intro i _
  simp only [Function.comp]
  rw [Nat.div_div_eq_div_mul, Nat.pow_succ, Nat.mul_comm]
/-! ### Sums -/
/-! ### Frames -/
end Go.Proofs.YtmaillakhhdkfaaGreatDoor
/-
  What a disk says, of the pure answers; and what the laws of records and of disks say of them.
-/
namespace Go.Proofs.YtmaillakhhdkfaaGreatDoor
set_option maxRecDepth 20000
open Go.RowKit
set_option linter.unusedSimpArgs false
set_option linter.unusedVariables false

/-! ### Records and their bytes -/
theorem form_of {r : Rcd} (h : recFaultM r = 0) : recFormM r = true := by
  rcases hf : recFormM r
  · rw [recFault_form hf] at h; cases h
  · rfl
theorem dec_encSb {x : Smp} (h : faultM x = 0) : decodeM (encSb x) = (0, x) := by
  have := (encode_decode h).2
  rw [encodeM_encSb h] at this
  exact this
theorem node_byte {p : Int} (h : inB (p, 0, 3) = true) : (((UInt8.ofNat p.toNat).toNat : Nat) : Int) = p := by
  unfold inB at h
  simp only [Bool.and_eq_true, decide_eq_true_eq] at h
  rw [UInt8.toNat_ofNat']
  omega
theorem pack2_is (n : Nat) : packL n 2 = [UInt8.ofNat n, UInt8.ofNat (n / 256)] := by
  rw [packL_cons, packL_cons]; rfl
theorem two_bytes {n : Int} (h0 : 0 ≤ n) (h1 : n ≤ 60000) : (((UInt8.ofNat n.toNat).toNat + 256 * (UInt8.ofNat (n.toNat / 256)).toNat : Nat) : Int) = n := by
  rw [UInt8.toNat_ofNat', UInt8.toNat_ofNat']
  omega
theorem read_0 (x : UInt8) (m : List UInt8) : (readM (x :: m) 0 1).2 = (x.toNat : Int) := read1 (p := 0) rfl
theorem read_1 (x y : UInt8) (m : List UInt8) : (readM (x :: y :: m) 1 1).2 = (y.toNat : Int) := read1 (p := 1) rfl
theorem read_12 (x a b : UInt8) (m : List UInt8) : (readM (x :: a :: b :: m) 1 2).2 = ((a.toNat + 256 * b.toNat : Nat) : Int) := read2 (p := 1) rfl rfl
theorem read_22 (x y a b : UInt8) (m : List UInt8) : (readM (x :: y :: a :: b :: m) 2 2).2 = ((a.toNat + 256 * b.toNat : Nat) : Int) := read2 (p := 2) rfl rfl
theorem unp_enc {r : Rcd} (h : recFaultM r = 0) : unpR (encR r) = r := by
  obtain ⟨k, p, x, n⟩ := r
  have hf := form_of h
  unfold recFormM at hf
  by_cases k1 : k = 1
  · subst k1
    rw [if_pos rfl] at hf
    have hz : p = 0 ∧ n = 0 := by simpa [formM] using hf
    obtain ⟨rfl, rfl⟩ := hz
    rw [rec1] at h
    rw [encR_1, unpR_1 (by rw [read_0]; rfl), show (1 :: encSb x).drop 1 = encSb x from rfl, dec_encSb h]
  rw [if_neg k1] at hf
  by_cases k2 : k = 2
  · subst k2
    rw [if_pos rfl] at hf
    have hz : n = 0 := by simpa [formM] using hf
    subst hz
    rw [rec2] at h
    by_cases hp : inB (p, 0, 3) = true
    · rw [if_pos hp] at h
      rw [encR_2, unpR_2 (by rw [read_0]; rfl), read_1, node_byte hp, show (2 :: UInt8.ofNat p.toNat :: encSb x).drop 2 = encSb x from rfl, dec_encSb h]
    · rw [if_neg hp] at h; cases h
  rw [if_neg k2] at hf
  by_cases k3 : k = 3
  · subst k3
    rw [if_pos rfl] at hf
    have hz : x = (0, 0, 0, 0) := by simpa [formM] using hf
    subst hz
    rw [rec3] at h
    by_cases hp : (inB (p, 0, 3) && inB (n, 0, 9999)) = true
    · have hp' := hp
      rw [Bool.and_eq_true] at hp'
      have hn : 0 ≤ n ∧ n ≤ 9999 := by have := hp'.2; unfold inB at this; simpa using this
      rw [encR_3, unpR_3 (by rw [read_0]; rfl), read_1, node_byte hp'.1, pack2_is,
        read_22, two_bytes hn.1 (by omega)]
    · rw [if_neg hp] at h; cases h
  rw [if_neg k3] at hf
  by_cases k4 : k = 4
  · subst k4
    rw [if_pos rfl] at hf
    have hz : p = 0 ∧ x = (0, 0, 0, 0) := by simpa [formM] using hf
    obtain ⟨rfl, rfl⟩ := hz
    rw [rec4] at h
    by_cases hp : inB (n, 0, 60000) = true
    · have hn : 0 ≤ n ∧ n ≤ 60000 := by have := hp; unfold inB at this; simpa using this
      rw [encR_4, unpR_4 (by rw [read_0]; rfl), pack2_is,
        read_12, two_bytes hn.1 hn.2]
    · rw [if_neg hp] at h; cases h
  rw [if_neg k4] at hf
  cases hf
/-- What is written of a record is read. -/
theorem rec_back {r : Rcd} (h : recFaultM r = 0) : decodeRecM (encR r) = (0, r) := by
  rcases dec_or (encR r) with ⟨h1, -, -⟩ | ⟨-, h2⟩
  · rw [h1, unp_enc h]
  · exact absurd ⟨by rw [unp_enc h]; exact h, by rw [unp_enc h]⟩ h2
/-- What is read of a record is written. -/
theorem rec_forth {l : List UInt8} (h : (decodeRecM l).1 = 0) : encRecM (decodeRecM l).2 = (0, l) := by
  rcases dec_or l with ⟨h1, h2, h3⟩ | ⟨h1, -⟩
  · rw [h1]; unfold encRecM; rw [if_pos h2, h3]
  · rw [h1] at h; cases h
theorem encRec_code (r : Rcd) : (encRecM r).1 = recFaultM r := by
  unfold encRecM
  by_cases h : recFaultM r = 0
  · rw [if_pos h, h]
  · rw [if_neg h]
theorem encR_few {r : Rcd} (h : recFaultM r = 0) : 1 ≤ (encR r).length ∧ (encR r).length ≤ 9 := by
  unfold encR encT
  split
  · rw [List.length_cons, encSb_len]; omega
  split
  · rw [List.length_cons, List.length_cons, encSb_len]; omega
  split <;> simp [pack2_is]

/-! ### A record put to a state -/
theorem step_life (s : Sta) (r : Rcd) (h : (stepR s r).1 = 0) : s.2.2 ≤ (stepR s r).2.2.2 ∧ s.1.length ≤ (stepR s r).2.1.length := by
  unfold stepR at h ⊢
  by_cases k1 : r.1 = 1
  · rw [if_pos k1] at h ⊢
    by_cases hc : (insertM s.1 r.2.2.1).1 = 0
    · rw [if_pos hc]
      refine ⟨Int.le_refl _, ?_⟩
      show s.1.length ≤ (insertM s.1 r.2.2.1).2.2.length
      unfold insertM at hc ⊢
      by_cases a1 : storeFaultM s.1 ≠ 0
      · rw [if_pos a1] at hc; exact absurd hc a1
      rw [if_neg a1] at hc ⊢
      by_cases a2 : faultM r.2.2.1 ≠ 0
      · rw [if_pos a2] at hc; exact absurd hc a2
      rw [if_neg a2] at hc ⊢
      by_cases a3 : 0 ≤ findI s.1 r.2.2.1
      · rw [if_pos a3]; exact Nat.le_refl _
      rw [if_neg a3] at hc ⊢
      by_cases a4 : 160 ≤ s.1.length
      · rw [if_pos a4] at hc; cases hc
      rw [if_neg a4]
      show s.1.length ≤ (insM s.1 r.2.2.1).length
      rw [insM_len]
      omega
    · rw [if_neg hc] at h; exact absurd h hc
  rw [if_neg k1] at h ⊢
  by_cases k2 : r.1 = 2
  · rw [if_pos k2] at h ⊢
    by_cases hc : (addM s.2.1 r.2.1 r.2.2.1).1 = 0
    · rw [if_pos hc]; exact ⟨Int.le_refl _, Nat.le_refl _⟩
    · rw [if_neg hc] at h; exact absurd h hc
  rw [if_neg k2] at h ⊢
  by_cases k3 : r.1 = 3
  · rw [if_pos k3] at h ⊢
    by_cases hc : (doneM s.2.1 r.2.1 r.2.2.2).1 = 0
    · rw [if_pos hc]; exact ⟨Int.le_refl _, Nat.le_refl _⟩
    · rw [if_neg hc] at h; exact absurd h hc
  rw [if_neg k3] at h ⊢
  by_cases k4 : r.2.2.2 < s.2.2
  · rw [if_pos k4] at h; cases h
  · rw [if_neg k4]; exact ⟨by show s.2.2 ≤ r.2.2.2; omega, Nat.le_refl _⟩
/-- What the law of records says of an applied record. -/
theorem apply_said {s s' : Sta} {r : Rcd} (h : applyM s r = (0, s')) : stateFaultM s' = 0 ∧ s.2.2 ≤ s'.2.2 ∧ s.1.length ≤ s'.1.length := by
  unfold applyM at h
  by_cases a1 : stateFaultM s ≠ 0
  · rw [if_pos a1] at h; exact absurd (Prod.mk.inj h).1 a1
  rw [if_neg a1] at h
  by_cases a2 : recFaultM r ≠ 0
  · rw [if_pos a2] at h; exact absurd (Prod.mk.inj h).1 a2
  rw [if_neg a2] at h
  by_cases a3 : (stepR s r).1 = 0
  · rw [if_pos a3] at h
    rw [← (Prod.mk.inj h).2]
    exact ⟨step_right (by simpa using a1) (by simpa using a2) a3, step_life s r a3⟩
  · rw [if_neg a3] at h; exact absurd (Prod.mk.inj h).1 a3

/-! ### What a disk says -/
/-! ### Frames one behind another -/
/-! ### What the law of disks says -/
end Go.Proofs.YtmaillakhhdkfaaGreatDoor
