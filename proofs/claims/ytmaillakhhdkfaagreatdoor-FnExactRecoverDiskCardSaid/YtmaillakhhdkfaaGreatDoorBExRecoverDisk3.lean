/-
  Texts of one proof, joined: each has its own namespace.
-/
import Derived.Test.YtmaillakhhdkfaaGreatDoorBExRecoverDisk2
import Derived.Test.YtmaillakhhdkfaaGreatDoorBExRecoverDisk1
import Derived.Test.YtmaillakhhdkfaaGreatDoorBExRecoverDisk0
/-
  What the law of samples says, of the pure answers.
-/
namespace Go.Proofs.YtmaillakhhdkfaaGreatDoor
set_option maxRecDepth 20000
open Go.RowKit

theorem keys_three (a b : Smp) : (aheadM a b = true ∧ aheadM b a = false ∧ sameKeyM a b = false) ∨ (aheadM a b = false ∧ aheadM b a = true ∧ sameKeyM a b = false) ∨ (aheadM a b = false ∧ aheadM b a = false ∧ sameKeyM a b = true) := by
  obtain ⟨a0, a1, a2, a3⟩ := a
  obtain ⟨b0, b1, b2, b3⟩ := b
  unfold aheadM sameKeyM
  simp only
  rcases Int.lt_trichotomy a0 b0 with h | h | h
  · have h1 : ¬ a0 = b0 := by omega
    have h2 : ¬ b0 = a0 := by omega
    have h3 : ¬ b0 < a0 := by omega
    exact .inl ⟨by simp [h1, h], by simp [h2, h3], by simp [h1]⟩
  · subst h
    rcases Int.lt_trichotomy a1 b1 with h | h | h
    · have h1 : ¬ a1 = b1 := by omega
      have h2 : ¬ b1 = a1 := by omega
      have h3 : ¬ b1 < a1 := by omega
      exact .inl ⟨by simp [h], by simp [h2]; omega, by simp [h1]⟩
    · subst h
      rcases Int.lt_trichotomy a2 b2 with h | h | h
      · exact .inl ⟨by simp [h], by simp; omega, by simp; omega⟩
      · subst h
        exact .inr (.inr ⟨by simp, by simp, by simp⟩)
      · exact .inr (.inl ⟨by simp; omega, by simp [h], by simp; omega⟩)
    · have h1 : ¬ a1 = b1 := by omega
      exact .inr (.inl ⟨by simp [h1]; omega, by simp [h], by simp [h1]⟩)
  · have h1 : ¬ a0 = b0 := by omega
    have h2 : ¬ b0 = a0 := by omega
    exact .inr (.inl ⟨by simp [h1]; omega, by simp [h2, h], by simp [h1]⟩)

theorem encodeM_code (x : Smp) : (encodeM x).1 = faultM x := by
  unfold encodeM
  rcases faultM_or x with h | h <;> rw [h] <;> rfl

theorem readAt_two {l : List UInt8} {p : Nat} {a b : UInt8} (ha : l[p]? = some a) (hb : l[p + 1]? = some b) : readAt l p 2 0 = a.toNat + 256 * b.toNat := by
  rw [readAt_step (l := l) (p := p) (s := 2) (j := 0) (by omega) (by simpa using ha), readAt_step (l := l) (p := p) (s := 2) (j := 1) (by omega) hb, readAt_end]
  omega

theorem byte_lo (a b : UInt8) : UInt8.ofNat (a.toNat + 256 * b.toNat) = a := by
  apply UInt8.toNat.inj
  rw [UInt8.toNat_ofNat']
  have := a.toNat_lt
  omega
theorem byte_hi (a b : UInt8) : UInt8.ofNat ((a.toNat + 256 * b.toNat) / 256) = b := by
  apply UInt8.toNat.inj
  rw [UInt8.toNat_ofNat']
  have := a.toNat_lt
  have := b.toNat_lt
  omega
theorem byte_self (a : UInt8) : UInt8.ofNat a.toNat = a := by
  apply UInt8.toNat.inj
  rw [UInt8.toNat_ofNat']
  have := a.toNat_lt
  omega

/-- What is read is what was written. -/
theorem decode_encode {l : List UInt8} (h : (decodeM l).1 = 0) : encodeM (decodeM l).2 = (0, l) := by
  by_cases h7 : l.length = 7
  · rcases faultM_or (unpM l) with hf | hf
    · rw [decodeM_yes h7 rfl hf]
      show encodeM (unpM l) = (0, l)
      unfold encodeM
      rw [if_pos hf]
      obtain ⟨x0, x1, x2, x3, x4, x5, x6, rfl⟩ := seven_of h7
      unfold unpM
      rw [read_one (x := x0) rfl, readAt_two (p := 1) (a := x1) (b := x2) rfl rfl, readAt_two (p := 3) (a := x3) (b := x4) rfl rfl, readAt_two (p := 5) (a := x5) (b := x6) rfl rfl]
      simp only [Int.toNat_natCast, Int.sub_add_cancel]
      rw [encL_eq, byte_self, byte_lo, byte_hi, byte_lo, byte_hi, byte_lo, byte_hi]
    · rw [decodeM_no h7 rfl hf] at h
      cases h
  · rw [decodeM_len h7] at h
    cases h

theorem small_two {n : Nat} (h : n ≤ 9999) : (UInt8.ofNat n).toNat + 256 * (UInt8.ofNat (n / 256)).toNat = n := by
  rw [UInt8.toNat_ofNat', UInt8.toNat_ofNat']
  omega
/-- What is written is read. -/
theorem encode_decode {x : Smp} (h : faultM x = 0) : (encodeM x).2.length = 7 ∧ decodeM (encodeM x).2 = (0, x) := by
  obtain ⟨a0, a1, a2, a3⟩ := x
  obtain ⟨n0, n1, n2, n3, rfl, rfl, rfl, rfl, k0, k1, k2, k3⟩ := faultM_nat h
  rw [encodeM_nat h]
  have hl : (encL n0 n1 n2 n3).length = 7 := by rw [encL_eq]; rfl
  refine ⟨hl, ?_⟩
  have hu : unpM (encL n0 n1 n2 n3) = ((n0 : Int), (n1 : Int), (n2 : Int), (n3 : Int) - 1000) := by
    rw [encL_eq]
    unfold unpM
    rw [read_one (x := UInt8.ofNat n0) rfl, readAt_two (p := 1) (a := UInt8.ofNat n1) (b := UInt8.ofNat (n1 / 256)) rfl rfl, readAt_two (p := 3) (a := UInt8.ofNat n2) (b := UInt8.ofNat (n2 / 256)) rfl rfl, readAt_two (p := 5) (a := UInt8.ofNat n3) (b := UInt8.ofNat (n3 / 256)) rfl rfl,
      small_two (by omega), small_two (by omega), small_two (by omega)]
    rw [show (UInt8.ofNat n0).toNat = n0 by rw [UInt8.toNat_ofNat']; omega]
  exact decodeM_yes hl hu h
end Go.Proofs.YtmaillakhhdkfaaGreatDoor
/-
  The bytes of a record and a record out of its bytes, of the pure answers.
-/
namespace Go.Proofs.YtmaillakhhdkfaaGreatDoor
set_option maxRecDepth 20000
open Go.RowKit
set_option linter.unusedSimpArgs false
set_option linter.unusedVariables false

/-- A right sample's bytes. -/
def encSb (x : Smp) : List UInt8 := encL x.1.toNat x.2.1.toNat x.2.2.1.toNat (x.2.2.2 + 1000).toNat
theorem encSb_len (x : Smp) : (encSb x).length = 7 := by unfold encSb; rw [encL_eq]; rfl
theorem encodeM_encSb {x : Smp} (h : faultM x = 0) : encodeM x = (0, encSb x) := by unfold encodeM; rw [if_pos h]; rfl
/-- A right record's bytes. -/
def encT (r : Rcd) : List UInt8 := if r.1 = 1 then encSb r.2.2.1 else if r.1 = 2 then UInt8.ofNat r.2.1.toNat :: encSb r.2.2.1 else if r.1 = 3 then UInt8.ofNat r.2.1.toNat :: packL r.2.2.2.toNat 2 else packL r.2.2.2.toNat 2
def encR (r : Rcd) : List UInt8 := UInt8.ofNat r.1.toNat :: encT r
/-- What EncodeRecord answers. -/
def encRecM (r : Rcd) : Int × List UInt8 := if recFaultM r = 0 then (0, encR r) else (recFaultM r, [])

/-- The record of some bytes, right or not; false: there are not as many. -/
def decR (l : List UInt8) : Rcd × Bool :=
  if (readM l 0 1).2 = 1 ∧ l.length = 8 then ((1, 0, unpM (l.drop 1), 0), decide (recFaultM (1, 0, unpM (l.drop 1), 0) = 0))
  else if (readM l 0 1).2 = 2 ∧ l.length = 9 then ((2, (readM l 1 1).2, unpM (l.drop 2), 0), decide (recFaultM (2, (readM l 1 1).2, unpM (l.drop 2), 0) = 0))
  else if (readM l 0 1).2 = 3 ∧ l.length = 4 then ((3, (readM l 1 1).2, (0, 0, 0, 0), (readM l 2 2).2), decide (recFaultM (3, (readM l 1 1).2, (0, 0, 0, 0), (readM l 2 2).2) = 0))
  else if (readM l 0 1).2 = 4 ∧ l.length = 3 then ((4, 0, (0, 0, 0, 0), (readM l 1 2).2), decide (recFaultM (4, 0, (0, 0, 0, 0), (readM l 1 2).2) = 0))
  else (zeroR, false)
/-- What DecodeRecord answers. -/
def decodeRecM (l : List UInt8) : Int × Rcd := if (decR l).2 = true then (0, (decR l).1) else (5, zeroR)
/-- The record that is read from whatever there is. -/
def unpR (l : List UInt8) : Rcd :=
  if (readM l 0 1).2 = 1 then (1, 0, (decodeM (l.drop 1)).2, 0)
  else if (readM l 0 1).2 = 2 then (2, (readM l 1 1).2, (decodeM (l.drop 2)).2, 0)
  else if (readM l 0 1).2 = 3 then (3, (readM l 1 1).2, (0, 0, 0, 0), (readM l 2 2).2)
  else if (readM l 0 1).2 = 4 then (4, 0, (0, 0, 0, 0), (readM l 1 2).2)
  else ((readM l 0 1).2, 0, (0, 0, 0, 0), 0)

theorem rec1 (x : Smp) : recFaultM (1, 0, x, 0) = faultM x := by
  have : recFormM (1, 0, x, 0) = true := by unfold recFormM formM; simp
  rw [recFault_range this]; unfold rrangeM; rw [if_pos (by unfold mostM inB; simp)]
theorem rec2 (p : Int) (x : Smp) : recFaultM (2, p, x, 0) = if inB (p, 0, 3) = true then faultM x else 3 := by
  have : recFormM (2, p, x, 0) = true := by unfold recFormM formM; simp
  rw [recFault_range this]; unfold rrangeM mostM
  have h0 : inB ((0 : Int), 0, 9999) = true := by decide
  simp only [show ¬ ((2 : Int) = 4) by decide, if_false, h0, Bool.and_true]
theorem zero_right : faultM (0, 0, 0, 0) = 0 := by decide
theorem rec3 (p k : Int) : recFaultM (3, p, (0, 0, 0, 0), k) = if (inB (p, 0, 3) && inB (k, 0, 9999)) = true then 0 else 3 := by
  have : recFormM (3, p, (0, 0, 0, 0), k) = true := by unfold recFormM formM; simp
  rw [recFault_range this]; unfold rrangeM mostM
  simp only [show ¬ ((3 : Int) = 4) by decide, if_false, zero_right]
theorem rec4 (k : Int) : recFaultM (4, 0, (0, 0, 0, 0), k) = if inB (k, 0, 60000) = true then 0 else 3 := by
  have : recFormM (4, 0, (0, 0, 0, 0), k) = true := by unfold recFormM formM; simp
  rw [recFault_range this]; unfold rrangeM mostM
  have h0 : inB ((0 : Int), 0, 3) = true := by decide
  simp only [if_true, zero_right, h0, Bool.true_and]
theorem rec_other {k : Int} (h1 : k ≠ 1) (h2 : k ≠ 2) (h3 : k ≠ 3) (h4 : k ≠ 4) (r : Int × Smp × Int) : recFaultM (k, r) = 1 := recFault_form (by unfold recFormM; rw [if_neg h1, if_neg h2, if_neg h3, if_neg h4])

theorem decode_bad {l : List UInt8} (h : (decodeM l).1 ≠ 0) : (decodeM l).2 = (0, 0, 0, 0) ∧ encSb (decodeM l).2 ≠ l := by
  by_cases h7 : l.length = 7
  · rcases faultM_or (unpM l) with hf | hf
    · rw [decodeM_yes h7 rfl hf] at h; exact absurd rfl h
    · rw [decodeM_no h7 rfl hf]
      refine ⟨rfl, fun e => ?_⟩
      have := encode_decode (x := (0, 0, 0, 0)) zero_right
      rw [encodeM_encSb zero_right] at this
      have h2 := this.2
      rw [show encSb (0, 0, 0, 0) = l from e, decodeM_no h7 rfl hf] at h2
      cases h2
  · rw [decodeM_len h7]
    exact ⟨rfl, fun e => h7 (by rw [← e]; exact encSb_len _)⟩
theorem decode_good {l : List UInt8} (h : (decodeM l).1 = 0) : l.length = 7 ∧ (decodeM l).2 = unpM l ∧ faultM (unpM l) = 0 ∧ encSb (unpM l) = l := by
  have h1 := decode_encode h
  by_cases h7 : l.length = 7
  · rcases faultM_or (unpM l) with hf | hf
    · rw [decodeM_yes h7 rfl hf] at h1
      refine ⟨h7, by rw [decodeM_yes h7 rfl hf], hf, ?_⟩
      rw [encodeM_encSb hf] at h1
      exact (Prod.mk.inj h1).2
    · rw [decodeM_no h7 rfl hf] at h; cases h
  · rw [decodeM_len h7] at h; cases h
theorem unp_bad {l : List UInt8} (h : (decodeM l).1 ≠ 0) (h7 : l.length = 7) : faultM (unpM l) = 3 := by
  rcases faultM_or (unpM l) with hf | hf
  · rw [decodeM_yes h7 rfl hf] at h; exact absurd rfl h
  · exact hf
theorem byte_of (b : UInt8) : UInt8.ofNat ((b.toNat : Int)).toNat = b := by rw [Int.toNat_natCast]; exact byte_self b
theorem read1 {l : List UInt8} {p : Nat} {b : UInt8} (h : l[p]? = some b) : (readM l p 1).2 = (b.toNat : Int) := by
  have hl := getElem?_some_lt h
  rw [show (1 : Int) = ((1 : Nat) : Int) from rfl, readM_nat ⟨by omega, by omega, by omega⟩]
  rw [readAt_step (l := l) (p := p) (s := 1) (j := 0) (by omega) (by simpa using h), readAt_end]
  simp
theorem read2 {l : List UInt8} {p : Nat} {a b : UInt8} (ha : l[p]? = some a) (hb : l[p + 1]? = some b) : (readM l p 2).2 = ((a.toNat + 256 * b.toNat : Nat) : Int) := by
  have hl := getElem?_some_lt hb
  rw [show (2 : Int) = ((2 : Nat) : Int) from rfl, readM_nat ⟨by omega, by omega, by omega⟩]
  rw [readAt_two ha hb]
theorem pack_two (a b : UInt8) : packL (((a.toNat + 256 * b.toNat : Nat) : Int)).toNat 2 = [a, b] := by
  rw [Int.toNat_natCast, pack2, byte_lo, byte_hi]
theorem read0_nil : (readM [] 0 1).2 = 0 := by decide

theorem dec_of {l : List UInt8} {r : Rcd} {b : Bool} (h : decR l = (r, b)) : decodeRecM l = if b = true then (0, r) else (5, zeroR) := by unfold decodeRecM; rw [h]
theorem dec_no {l : List UInt8} {r : Rcd} (h : decR l = (r, false)) : decodeRecM l = (5, zeroR) := dec_of h
theorem dec_yes {l : List UInt8} {r : Rcd} (h : decR l = (r, true)) : decodeRecM l = (0, r) := dec_of h
theorem ne12 : ¬ (1 : Int) = 2 := by decide
theorem ne13 : ¬ (1 : Int) = 3 := by decide
theorem ne14 : ¬ (1 : Int) = 4 := by decide
theorem ne21 : ¬ (2 : Int) = 1 := by decide
theorem ne23 : ¬ (2 : Int) = 3 := by decide
theorem ne24 : ¬ (2 : Int) = 4 := by decide
theorem ne31 : ¬ (3 : Int) = 1 := by decide
theorem ne32 : ¬ (3 : Int) = 2 := by decide
theorem ne34 : ¬ (3 : Int) = 4 := by decide
theorem ne41 : ¬ (4 : Int) = 1 := by decide
theorem ne42 : ¬ (4 : Int) = 2 := by decide
theorem ne43 : ¬ (4 : Int) = 3 := by decide
section
variable {l : List UInt8}
theorem decR_1 (k : (readM l 0 1).2 = 1) (h : l.length = 8) : decR l = ((1, 0, unpM (l.drop 1), 0), decide (recFaultM (1, 0, unpM (l.drop 1), 0) = 0)) := by unfold decR; rw [if_pos ⟨k, h⟩]
theorem decR_1n (k : (readM l 0 1).2 = 1) (h : ¬ l.length = 8) : decR l = (zeroR, false) := by unfold decR; rw [k, if_neg (fun q => h q.2), if_neg (fun q => ne12 q.1), if_neg (fun q => ne13 q.1), if_neg (fun q => ne14 q.1)]
theorem decR_2 (k : (readM l 0 1).2 = 2) (h : l.length = 9) : decR l = ((2, (readM l 1 1).2, unpM (l.drop 2), 0), decide (recFaultM (2, (readM l 1 1).2, unpM (l.drop 2), 0) = 0)) := by unfold decR; rw [k, if_neg (fun q => ne21 q.1), if_pos ⟨rfl, h⟩]
theorem decR_2n (k : (readM l 0 1).2 = 2) (h : ¬ l.length = 9) : decR l = (zeroR, false) := by unfold decR; rw [k, if_neg (fun q => ne21 q.1), if_neg (fun q => h q.2), if_neg (fun q => ne23 q.1), if_neg (fun q => ne24 q.1)]
theorem decR_3 (k : (readM l 0 1).2 = 3) (h : l.length = 4) : decR l = ((3, (readM l 1 1).2, (0, 0, 0, 0), (readM l 2 2).2), decide (recFaultM (3, (readM l 1 1).2, (0, 0, 0, 0), (readM l 2 2).2) = 0)) := by unfold decR; rw [k, if_neg (fun q => ne31 q.1), if_neg (fun q => ne32 q.1), if_pos ⟨rfl, h⟩]
theorem decR_3n (k : (readM l 0 1).2 = 3) (h : ¬ l.length = 4) : decR l = (zeroR, false) := by unfold decR; rw [k, if_neg (fun q => ne31 q.1), if_neg (fun q => ne32 q.1), if_neg (fun q => h q.2), if_neg (fun q => ne34 q.1)]
theorem decR_4 (k : (readM l 0 1).2 = 4) (h : l.length = 3) : decR l = ((4, 0, (0, 0, 0, 0), (readM l 1 2).2), decide (recFaultM (4, 0, (0, 0, 0, 0), (readM l 1 2).2) = 0)) := by unfold decR; rw [k, if_neg (fun q => ne41 q.1), if_neg (fun q => ne42 q.1), if_neg (fun q => ne43 q.1), if_pos ⟨rfl, h⟩]
theorem decR_4n (k : (readM l 0 1).2 = 4) (h : ¬ l.length = 3) : decR l = (zeroR, false) := by unfold decR; rw [k, if_neg (fun q => ne41 q.1), if_neg (fun q => ne42 q.1), if_neg (fun q => ne43 q.1), if_neg (fun q => h q.2)]
theorem decR_o (k1 : ¬ (readM l 0 1).2 = 1) (k2 : ¬ (readM l 0 1).2 = 2) (k3 : ¬ (readM l 0 1).2 = 3) (k4 : ¬ (readM l 0 1).2 = 4) : decR l = (zeroR, false) := by unfold decR; rw [if_neg (fun q => k1 q.1), if_neg (fun q => k2 q.1), if_neg (fun q => k3 q.1), if_neg (fun q => k4 q.1)]
theorem unpR_1 (k : (readM l 0 1).2 = 1) : unpR l = (1, 0, (decodeM (l.drop 1)).2, 0) := by unfold unpR; rw [if_pos k]
theorem unpR_2 (k : (readM l 0 1).2 = 2) : unpR l = (2, (readM l 1 1).2, (decodeM (l.drop 2)).2, 0) := by unfold unpR; rw [k, if_neg ne21, if_pos rfl]
theorem unpR_3 (k : (readM l 0 1).2 = 3) : unpR l = (3, (readM l 1 1).2, (0, 0, 0, 0), (readM l 2 2).2) := by unfold unpR; rw [k, if_neg ne31, if_neg ne32, if_pos rfl]
theorem unpR_4 (k : (readM l 0 1).2 = 4) : unpR l = (4, 0, (0, 0, 0, 0), (readM l 1 2).2) := by unfold unpR; rw [k, if_neg ne41, if_neg ne42, if_neg ne43, if_pos rfl]
theorem unpR_o (k1 : ¬ (readM l 0 1).2 = 1) (k2 : ¬ (readM l 0 1).2 = 2) (k3 : ¬ (readM l 0 1).2 = 3) (k4 : ¬ (readM l 0 1).2 = 4) : unpR l = ((readM l 0 1).2, 0, (0, 0, 0, 0), 0) := by unfold unpR; rw [if_neg k1, if_neg k2, if_neg k3, if_neg k4]
end
theorem encR_1 (p : Int) (y : Smp) (k : Int) : encR (1, p, y, k) = 1 :: encSb y := by unfold encR encT; rw [if_pos rfl]; rfl
theorem encR_2 (p : Int) (y : Smp) (k : Int) : encR (2, p, y, k) = 2 :: UInt8.ofNat p.toNat :: encSb y := by unfold encR encT; rw [if_neg ne21, if_pos rfl]; rfl
theorem encR_3 (p : Int) (y : Smp) (k : Int) : encR (3, p, y, k) = 3 :: UInt8.ofNat p.toNat :: packL k.toNat 2 := by unfold encR encT; rw [if_neg ne31, if_neg ne32, if_pos rfl]; rfl
theorem encR_4 (p : Int) (y : Smp) (k : Int) : encR (4, p, y, k) = 4 :: packL k.toNat 2 := by unfold encR encT; rw [if_neg ne41, if_neg ne42, if_neg ne43]; rfl
theorem byte_is {x : UInt8} {k : Nat} (h : (x.toNat : Int) = (k : Int)) (hk : k < 256) : x = UInt8.ofNat k := by
  apply UInt8.toNat.inj
  rw [UInt8.toNat_ofNat']
  omega

/-- The program's way: what is read from whatever there is, held against its own bytes. -/
theorem dec_or (l : List UInt8) : (decodeRecM l = (0, unpR l) ∧ recFaultM (unpR l) = 0 ∧ encR (unpR l) = l) ∨ (decodeRecM l = (5, zeroR) ∧ ¬ (recFaultM (unpR l) = 0 ∧ encR (unpR l) = l)) := by
  rcases l with _ | ⟨x, m⟩
  · have a1 : ¬ (readM [] 0 1).2 = 1 := by rw [read0_nil]; decide
    have a2 : ¬ (readM [] 0 1).2 = 2 := by rw [read0_nil]; decide
    have a3 : ¬ (readM [] 0 1).2 = 3 := by rw [read0_nil]; decide
    have a4 : ¬ (readM [] 0 1).2 = 4 := by rw [read0_nil]; decide
    refine .inr ⟨dec_no (decR_o a1 a2 a3 a4), ?_⟩
    rw [unpR_o a1 a2 a3 a4]
    exact fun h => absurd h.1 (by rw [rec_other a1 a2 a3 a4]; decide)
  have hk : (readM (x :: m) 0 1).2 = (x.toNat : Int) := read1 (p := 0) rfl
  by_cases k1 : (readM (x :: m) 0 1).2 = 1
  · have hx : x = 1 := byte_is (k := 1) (by rw [← hk, k1]; rfl) (by omega)
    rw [unpR_1 k1, encR_1, rec1, show (x :: m).drop 1 = m from rfl, hx]
    by_cases h0 : (decodeM m).1 = 0
    · obtain ⟨h7, hd, hf, he⟩ := decode_good h0
      refine .inl ⟨?_, by rw [hd]; exact hf, by rw [hd, he]⟩
      rw [← hx, dec_yes (r := (1, 0, unpM m, 0)) (by rw [decR_1 k1 (by simp [h7]), show (x :: m).drop 1 = m from rfl, rec1, hf]; rfl), hd]
    · obtain ⟨hd, he⟩ := decode_bad h0
      refine .inr ⟨?_, fun h => he (List.cons.inj h.2).2⟩
      rw [← hx]
      by_cases h7 : (x :: m).length = 8
      · have hu := unp_bad h0 (by simpa using h7)
        exact dec_no (r := (1, 0, unpM m, 0)) (by rw [decR_1 k1 h7, show (x :: m).drop 1 = m from rfl, rec1, hu]; rfl)
      · exact dec_no (decR_1n k1 h7)
  by_cases k2 : (readM (x :: m) 0 1).2 = 2
  · have hx : x = 2 := byte_is (k := 2) (by rw [← hk, k2]; rfl) (by omega)
    rw [unpR_2 k2, encR_2, rec2]
    rcases m with _ | ⟨y, m⟩
    · refine .inr ⟨dec_no (decR_2n k2 (by simp)), ?_⟩
      rintro ⟨-, h⟩
      have := congrArg List.length h
      simp at this
    have hp : (readM (x :: y :: m) 1 1).2 = (y.toNat : Int) := read1 (p := 1) rfl
    rw [hp, byte_of, show (x :: y :: m).drop 2 = m from rfl]
    by_cases h0 : (decodeM m).1 = 0
    · obtain ⟨h7, hd, hf, he⟩ := decode_good h0
      rcases hb : inB ((y.toNat : Int), 0, 3)
      · refine .inr ⟨dec_no (r := (2, (y.toNat : Int), unpM m, 0)) ?_, fun h => absurd h.1 (by rw [if_neg (by simp)]; decide)⟩
        rw [decR_2 k2 (by simp [h7]), show (x :: y :: m).drop 2 = m from rfl, hp, rec2, hb]; rfl
      · refine .inl ⟨?_, by rw [if_pos rfl, hd]; exact hf, by rw [hd, he, hx]⟩
        rw [dec_yes (r := (2, (y.toNat : Int), unpM m, 0)) (by rw [decR_2 k2 (by simp [h7]), show (x :: y :: m).drop 2 = m from rfl, hp, rec2, hb, if_pos rfl, hf]; rfl), hd]
    · obtain ⟨hd, he⟩ := decode_bad h0
      refine .inr ⟨?_, fun h => he (List.cons.inj (List.cons.inj h.2).2).2⟩
      by_cases h7 : (x :: y :: m).length = 9
      · have hu := unp_bad h0 (by simpa using h7)
        refine dec_no (r := (2, (y.toNat : Int), unpM m, 0)) ?_
        rw [decR_2 k2 h7, show (x :: y :: m).drop 2 = m from rfl, hp, rec2, hu]
        rcases hb : inB ((y.toNat : Int), 0, 3) <;> rfl
      · exact dec_no (decR_2n k2 h7)
  by_cases k3 : (readM (x :: m) 0 1).2 = 3
  · have hx : x = 3 := byte_is (k := 3) (by rw [← hk, k3]; rfl) (by omega)
    rw [unpR_3 k3, encR_3]
    by_cases h4 : (x :: m).length = 4
    · obtain ⟨y, a, b, rfl⟩ : ∃ y a b, m = [y, a, b] := by
        rcases m with _ | ⟨y, _ | ⟨a, _ | ⟨b, _ | ⟨c, m⟩⟩⟩⟩ <;> simp at h4
        exact ⟨y, a, b, rfl⟩
      have hp : (readM [x, y, a, b] 1 1).2 = (y.toNat : Int) := read1 (p := 1) rfl
      have hq : (readM [x, y, a, b] 2 2).2 = ((a.toNat + 256 * b.toNat : Nat) : Int) := read2 (p := 2) rfl rfl
      have hD := decR_3 k3 h4
      rw [hp, hq] at hD
      rw [hp, hq, pack_two, byte_of]
      by_cases hb : recFaultM (3, (y.toNat : Int), (0, 0, 0, 0), ((a.toNat + 256 * b.toNat : Nat) : Int)) = 0
      · rw [decide_eq_true hb] at hD
        exact .inl ⟨dec_yes hD, hb, by rw [hx]⟩
      · rw [decide_eq_false hb] at hD
        exact .inr ⟨dec_no hD, fun h => hb h.1⟩
    · exact .inr ⟨dec_no (decR_3n k3 h4), fun h => h4 (by rw [← h.2]; simp [packL_len])⟩
  by_cases k4 : (readM (x :: m) 0 1).2 = 4
  · have hx : x = 4 := byte_is (k := 4) (by rw [← hk, k4]; rfl) (by omega)
    rw [unpR_4 k4, encR_4]
    by_cases h4 : (x :: m).length = 3
    · obtain ⟨a, b, rfl⟩ : ∃ a b, m = [a, b] := by
        rcases m with _ | ⟨a, _ | ⟨b, _ | ⟨c, m⟩⟩⟩ <;> simp at h4
        exact ⟨a, b, rfl⟩
      have hq : (readM [x, a, b] 1 2).2 = ((a.toNat + 256 * b.toNat : Nat) : Int) := read2 (p := 1) rfl rfl
      have hD := decR_4 k4 h4
      rw [hq] at hD
      rw [hq, pack_two]
      by_cases hb : recFaultM (4, 0, (0, 0, 0, 0), ((a.toNat + 256 * b.toNat : Nat) : Int)) = 0
      · rw [decide_eq_true hb] at hD
        exact .inl ⟨dec_yes hD, hb, by rw [hx]⟩
      · rw [decide_eq_false hb] at hD
        exact .inr ⟨dec_no hD, fun h => hb h.1⟩
    · exact .inr ⟨dec_no (decR_4n k4 h4), fun h => h4 (by rw [← h.2]; simp [packL_len])⟩
  · rw [unpR_o k1 k2 k3 k4]
    exact .inr ⟨dec_no (decR_o k1 k2 k3 k4), fun h => absurd h.1 (by rw [rec_other k1 k2 k3 k4]; decide)⟩
end Go.Proofs.YtmaillakhhdkfaaGreatDoor
/-
  A region that draws its order, step by step: what may come is asked at each step; two that may come are walked both.
-/
namespace Go.Proofs.YtmaillakhhdkfaaGreatDoor
set_option maxRecDepth 20000
open Go.RowKit

section
variable {P : Program} {md : Region.Mode} {Q : Exit → Act → World → Prop} {l : List Oper} {S : World → Prop} {fuel : Nat} {listed : Array Bool} {a : Act} {w : World}

theorem any_start {id : Nat} (S : World → Prop) (hm : P.follows .mixedOrders = true) (hS : S w.drew) (h : S w.drew → wpAnyH P .any l.toArray Q S l.length (Array.replicate l.length false) a w.drew) : (Code.region id l.toArray true).wp P Q a w := by
  refine wp_region_held (S := S) hm ?_
  simpa using h hS
theorem any_pure (k : Nat) {o : Oper} {v : Value} (hoa : l[k]? = some o) (hB : (Region.noSelect l.toArray && ((Region.ready md l.toArray listed).contains k && Region.free md l.toArray listed k)) = true)
    (hQ : ∀ c a (d : Nat) v w, Q (.panic c) (Act.put a (some d) v) w → Q (.panic c) a w) (hw : Region.wanted o (yielded l.toArray a.tmps) = true) (hv : ∀ x, S x → (execOp a.eval o).run P x = .ok (.value v) x) (hS : S w)
    (h : wpAnyH P md l.toArray Q S fuel (listed.setIfInBounds k true) (a.put o.dst v) w) : wpAnyH P md l.toArray Q S (fuel + 1) listed a w := by
  simp only [Bool.and_eq_true] at hB
  obtain ⟨h1, h2, h3⟩ := hB
  refine wpAnyH_take (by simpa using hoa) h1 h3 h2 (fun c a w => ?_) (.inl ⟨hw, hv⟩) hS h
  cases hd : o.dst with
  | none => exact fun h => h
  | some d => exact hQ c a d v w
theorem any_op {k : Nat} {o : Oper} (hoa : l[k]? = some o) (hw : Region.wanted o (yielded l.toArray a.tmps) = true)
    (h : o.wp P a w (fun a' w' => ∃ S' : World → Prop, (∀ x, S' x → S x) ∧ S' w' ∧ wpAnyH P md l.toArray Q S' fuel (listed.setIfInBounds k true) a' w') Q) :
    wpOp P l.toArray Q k (fun a' w' => S w' ∧ wpAnyH P md l.toArray Q S fuel (listed.setIfInBounds k true) a' w') a w := by
  have h1 : wpOp P l.toArray Q k (fun a' w' => ∃ S' : World → Prop, (∀ x, S' x → S x) ∧ S' w' ∧ wpAnyH P md l.toArray Q S' fuel (listed.setIfInBounds k true) a' w') a w := by
    unfold wpOp
    rw [show l.toArray[k]? = some o by simpa using hoa]
    simp only
    rw [if_pos hw]
    exact .inl h
  exact wpOp_mono (fun a' w' ⟨S', h1, h2, h3⟩ => ⟨h1 _ h2, held_mono h1 _ _ _ _ h3⟩) h1
theorem any_one (k : Nat) {o : Oper} (hoa : l[k]? = some o) (hB : (Region.ready md l.toArray listed == [k]) = true) (hw : Region.wanted o (yielded l.toArray a.tmps) = true)
    (h : o.wp P a w (fun a' w' => ∃ S' : World → Prop, (∀ x, S' x → S x) ∧ S' w' ∧ wpAnyH P md l.toArray Q S' fuel (listed.setIfInBounds k true) a' w') Q) : wpAnyH P md l.toArray Q S (fuel + 1) listed a w := by
  refine wpAnyH_all (rs := [k]) (by simpa using hB) (by simp) fun i hi => ?_
  obtain rfl : i = k := by simpa using hi
  exact any_op hoa hw h
theorem any_two (i j : Nat) {o o' : Oper} (hoa : l[i]? = some o) (hob : l[j]? = some o') (hB : (Region.ready md l.toArray listed == [i, j]) = true) (hw : Region.wanted o (yielded l.toArray a.tmps) = true) (hw' : Region.wanted o' (yielded l.toArray a.tmps) = true)
    (h : o.wp P a w (fun a' w' => ∃ S' : World → Prop, (∀ x, S' x → S x) ∧ S' w' ∧ wpAnyH P md l.toArray Q S' fuel (listed.setIfInBounds i true) a' w') Q)
    (h' : o'.wp P a w (fun a' w' => ∃ S' : World → Prop, (∀ x, S' x → S x) ∧ S' w' ∧ wpAnyH P md l.toArray Q S' fuel (listed.setIfInBounds j true) a' w') Q) : wpAnyH P md l.toArray Q S (fuel + 1) listed a w := by
  refine wpAnyH_all (rs := [i, j]) (by simpa using hB) (by simp) fun k hk => ?_
  rcases (show k = i ∨ k = j by simpa using hk) with rfl | rfl
  · exact any_op hoa hw h
  · exact any_op hob hw' h'
theorem any_done (hB : (Region.ready md l.toArray listed).isEmpty = true) (h : Q .normal a w) : wpAnyH P md l.toArray Q S 0 listed a w := wpAnyH_done (by simpa using hB) h 0
theorem At.newAt' {w : World} {g : Nat} {t : TypeId} {cs : Array Value} (h : w.heap.size = g) : At (w.alloc (.cells cs t)) g t cs := by
  subst h
  exact At.new w t cs
/-- Behind a step: what is known from there on. -/
theorem any_next {S' : World → Prop} {Z : (World → Prop) → Prop} (h1 : ∀ x, S' x → S x) (h2 : S' w) (h3 : Z S') : ∃ S' : World → Prop, (∀ x, S' x → S x) ∧ S' w ∧ Z S' := ⟨S', h1, h2, h3⟩
end
end Go.Proofs.YtmaillakhhdkfaaGreatDoor
/-
  A record out of its bytes: the model's.
-/
namespace Go.Proofs.YtmaillakhhdkfaaGreatDoor
set_option maxRecDepth 20000
open Go.RowKit
set_option linter.unusedSimpArgs false
set_option linter.unusedVariables false
attribute [local irreducible] mixW

/-- A code and a record. -/
def RetRR (r : Int × Rcd) (w : World) (e : Ending) (w' : World) : Prop := e = .returned (.agg #[.int .i64 r.1, .int .i64 r.2.1, .int .i64 r.2.2.1, .int .i64 r.2.2.2.1.1, .int .i64 r.2.2.2.1.2.1, .int .i64 r.2.2.2.1.2.2.1, .int .i64 r.2.2.2.1.2.2.2, .int .i64 r.2.2.2.2]) ∧ Below w.heap.size w w'
/-- A record. -/
def RetRc (r : Rcd) (w : World) (e : Ending) (w' : World) : Prop := e = .returned (.agg #[.int .i64 r.1, .int .i64 r.2.1, .int .i64 r.2.2.1.1, .int .i64 r.2.2.1.2.1, .int .i64 r.2.2.1.2.2.1, .int .i64 r.2.2.1.2.2.2, .int .i64 r.2.2.2]) ∧ Below w.heap.size w w'
/-- A record, and whether it is right. -/
def RetDR (r : Rcd × Bool) (w : World) (e : Ending) (w' : World) : Prop := e = .returned (.tuple #[.agg #[.int .i64 r.1.1, .int .i64 r.1.2.1, .int .i64 r.1.2.2.1.1, .int .i64 r.1.2.2.1.2.1, .int .i64 r.1.2.2.1.2.2.1, .int .i64 r.1.2.2.1.2.2.2, .int .i64 r.1.2.2.2], .bool r.2]) ∧ Below w.heap.size w w'
/-- The last step: a record that was read, and whether it is right. -/
def decEnd (r : Rcd) : Rcd × Bool := (r, decide (recFaultM r = 0))
theorem undrewD {w w' : World} {k : Nat} (h : Below (w.drewN k).heap.size (w.drewN k) w') : Below w.heap.size w w' := ⟨h.os, h.tape, h.output, h.size, h.block⟩

set_option maxHeartbeats 8000000 in
theorem l5Decode (A : Option Addr) (n c : Nat) (l : List UInt8) (w : World) (ha : Rd eB w w.heap.size A l) (hn : l.length = n) (hc : n ≤ c) (hcm : c ≤ maxLen) :
    Calls Tryz.prog 54 #[.slice A n c] w (RetDR (decR l) w) := by
  unfold maxLen at hcm
  by_cases h0 : n = 0
  · subst h0
    obtain rfl : l = [] := List.eq_nil_of_length_eq_zero hn
    have Hd := Lib.hid (show decR [] = (zeroR, false) from decR_o (by rw [read0_nil]; decide) (by rw [read0_nil]; decide) (by rw [read0_nil]; decide) (by rw [read0_nil]; decide))
    have hB2 : Below w.heap.size w (w.alloc (.cells #[.int .i64 0, .int .i64 0, .int .i64 0, .int .i64 0, .int .i64 0, .int .i64 0, .int .i64 0] 27)) := (Below.refl _ _).alloc (Nat.le_refl _) _
    clear ha hn
    go_enter Tryz.func54, Tryz.ntmps54
    go_wp2
    refine bodyPost_ret (v := .tuple #[.agg #[.int .i64 0, .int .i64 0, .int .i64 0, .int .i64 0, .int .i64 0, .int .i64 0, .int .i64 0], .bool false]) (by simp [results, Tryz.results54, go_sem]) rfl ?_
    rw [Hd.out]
    exact ⟨rfl, by repeat (first | exact hB2 | refine Below.setCell ?_ (by simp) _)⟩
  obtain ⟨g, o, x, rfl, hg, hx, cx⟩ := ha.byte (k := 0) (by omega)
  have cx0 : w.cell? ⟨g, o, none⟩ = some (.int .u8 (x.toNat : Int)) := by simpa using cx
  have hk0 : (readM l 0 1).2 = (x.toNat : Int) := read1 (p := 0) hx
  have hxb : x.toNat < 256 := x.toNat_lt
  have hw0 : IntKind.i64.wrap (x.toNat : Int) = (x.toNat : Int) := IntWalk.i64_in _ (by omega)
  have hnn : ¬ (n : Int) = 0 := by omega
  have hnb : ((n : Int) == 0) = false := by simpa using hnn
  have hn0 : 0 < n := by omega
  clear cx
  generalize hkk : (x.toNat : Int) = kk at *
  have hB2 : Below w.heap.size w ((w.alloc (.cells #[.int .i64 0, .int .i64 0, .int .i64 0, .int .i64 0, .int .i64 0, .int .i64 0, .int .i64 0] 27)).alloc (.cells #[.int .i64 kk, .int .i64 0, .int .i64 0, .int .i64 0, .int .i64 0, .int .i64 0, .int .i64 0] 27)) := ((Below.refl _ _).alloc (Nat.le_refl _) _).alloc (by simp) _
  have zb2 := (At.new w 27 #[.int .i64 0, .int .i64 0, .int .i64 0, .int .i64 0, .int .i64 0, .int .i64 0, .int .i64 0]).alloc (.cells #[.int .i64 kk, .int .i64 0, .int .i64 0, .int .i64 0, .int .i64 0, .int .i64 0, .int .i64 0] 27)
  have rb2 : At ((w.alloc (.cells #[.int .i64 0, .int .i64 0, .int .i64 0, .int .i64 0, .int .i64 0, .int .i64 0, .int .i64 0] 27)).alloc (.cells #[.int .i64 kk, .int .i64 0, .int .i64 0, .int .i64 0, .int .i64 0, .int .i64 0, .int .i64 0] 27)) (w.heap.size + 1) 27 #[.int .i64 kk, .int .i64 0, .int .i64 0, .int .i64 0, .int .i64 0, .int .i64 0, .int .i64 0] := by
    have := At.new (w.alloc (.cells #[.int .i64 0, .int .i64 0, .int .i64 0, .int .i64 0, .int .i64 0, .int .i64 0, .int .i64 0] 27)) 27 #[.int .i64 kk, .int .i64 0, .int .i64 0, .int .i64 0, .int .i64 0, .int .i64 0, .int .i64 0]
    simpa using this
  have hsz : ((w.alloc (.cells #[.int .i64 0, .int .i64 0, .int .i64 0, .int .i64 0, .int .i64 0, .int .i64 0, .int .i64 0] 27)).alloc (.cells #[.int .i64 kk, .int .i64 0, .int .i64 0, .int .i64 0, .int .i64 0, .int .i64 0, .int .i64 0] 27)).heap.size = w.heap.size + 2 := by simp
  have hR := fun (k : Nat) (hk : k < l.length) W (hW : Below w.heap.size w W) => (show Rd eB W W.heap.size (some ⟨g, o + k, none⟩) (l.drop k) from by
    obtain ⟨g', o', e, hr⟩ := (ha.lift hW).add hk
    obtain ⟨rfl, rfl⟩ : g = g' ∧ o = o' := by simpa using Option.some.inj e
    simpa [eB] using hr)
  by_cases k1 : kk = 1
  · subst k1
    by_cases hl : n = 8
    · subst hl
      have Hd0 := decR_1 hk0 hn
      obtain ⟨u0, u1, u2, u3, hu⟩ : ∃ u0 u1 u2 u3, unpM (l.drop 1) = (u0, u1, u2, u3) := ⟨_, _, _, _, rfl⟩
      rw [hu] at Hd0
      have LD := fun W hW => l2Decode _ (c - 1) (l.drop 1) W (hR 1 (by omega) W hW) (by rw [List.length_drop]; omega)
      rw [hu] at LD
      have hc1 : ¬ c = 1 := by omega
      generalize hfq : recFaultM (1, 0, (u0, u1, u2, u3), 0) = fq at Hd0
      have Hd := Lib.hid Hd0
      clear Hd0 ha hx hR hn hk0 hu
      obtain ⟨zc0, zc1, zc2, zc3, zc4, zc5, zc6⟩ := zb2.seven
      obtain ⟨zf0, zf1, zf2, zf3, zf4, zf5, zf6⟩ := zb2.sevenF
      obtain ⟨rc0, rc1, rc2, rc3, rc4, rc5, rc6⟩ := rb2.seven
      obtain ⟨rf0, rf1, rf2, rf3, rf4, rf5, rf6⟩ := rb2.sevenF
      go_enter Tryz.func54, Tryz.ntmps54
      go_wp2_with fail
      refine (LD _ hB2).mono ?_
      rintro e w3 ⟨rfl, hb3⟩
      have hB3 := hB2.trans (hb3.mono hB2.size)
      have zb3 := zb2.below hb3 zb2.lt
      have rb3 := rb2.below hb3 rb2.lt
      clear zc0 zc1 zc2 zc3 zc4 zc5 zc6 zf0 zf1 zf2 zf3 zf4 zf5 zf6 rc0 rc1 rc2 rc3 rc4 rc5 rc6 rf0 rf1 rf2 rf3 rf4 rf5 rf6
      obtain ⟨zc0, zc1, zc2, zc3, zc4, zc5, zc6⟩ := zb3.seven
      obtain ⟨zf0, zf1, zf2, zf3, zf4, zf5, zf6⟩ := zb3.sevenF
      obtain ⟨rc0, rc1, rc2, rc3, rc4, rc5, rc6⟩ := rb3.seven
      obtain ⟨rf0, rf1, rf2, rf3, rf4, rf5, rf6⟩ := rb3.sevenF
      go_wp2_with fail
      clear zc0 zc1 zc2 zc3 zc4 zc5 zc6 zf0 zf1 zf2 zf3 zf4 zf5 zf6 rc0 rc1 rc2 rc3 rc4 rc5 rc6 rf0 rf1 rf2 rf3 rf4 rf5 rf6
      have rb4 : At ((((w3.setCell ⟨w.heap.size + 1, 2, none⟩ (.int .i64 u0)).setCell ⟨w.heap.size + 1, 3, none⟩ (.int .i64 u1)).setCell ⟨w.heap.size + 1, 4, none⟩ (.int .i64 u2)).setCell ⟨w.heap.size + 1, 5, none⟩ (.int .i64 u3)) (w.heap.size + 1) 27 #[.int .i64 1, .int .i64 0, .int .i64 u0, .int .i64 u1, .int .i64 u2, .int .i64 u3, .int .i64 0] := ((((rb3.set 2 (.int .i64 u0)).set 3 (.int .i64 u1)).set 4 (.int .i64 u2)).set 5 (.int .i64 u3))
      have zb4 : At ((((w3.setCell ⟨w.heap.size + 1, 2, none⟩ (.int .i64 u0)).setCell ⟨w.heap.size + 1, 3, none⟩ (.int .i64 u1)).setCell ⟨w.heap.size + 1, 4, none⟩ (.int .i64 u2)).setCell ⟨w.heap.size + 1, 5, none⟩ (.int .i64 u3)) w.heap.size 27 #[.int .i64 0, .int .i64 0, .int .i64 0, .int .i64 0, .int .i64 0, .int .i64 0, .int .i64 0] := ((((zb3.far (p := ⟨w.heap.size + 1, 2, none⟩) (by simp) (.int .i64 u0)).far (p := ⟨w.heap.size + 1, 3, none⟩) (by simp) (.int .i64 u1)).far (p := ⟨w.heap.size + 1, 4, none⟩) (by simp) (.int .i64 u2)).far (p := ⟨w.heap.size + 1, 5, none⟩) (by simp) (.int .i64 u3))
      have hB4 : Below w.heap.size w ((((w3.setCell ⟨w.heap.size + 1, 2, none⟩ (.int .i64 u0)).setCell ⟨w.heap.size + 1, 3, none⟩ (.int .i64 u1)).setCell ⟨w.heap.size + 1, 4, none⟩ (.int .i64 u2)).setCell ⟨w.heap.size + 1, 5, none⟩ (.int .i64 u3)) := ((((hB3.setCell (p := ⟨w.heap.size + 1, 2, none⟩) (by simp) (.int .i64 u0)).setCell (p := ⟨w.heap.size + 1, 3, none⟩) (by simp) (.int .i64 u1)).setCell (p := ⟨w.heap.size + 1, 4, none⟩) (by simp) (.int .i64 u2)).setCell (p := ⟨w.heap.size + 1, 5, none⟩) (by simp) (.int .i64 u3))
      refine wp_region_mix [(0, false), (1, false), (2, true), (3, false), (4, true), (5, false)] (fun u => At u (w.heap.size + 1) 27 #[.int .i64 1, .int .i64 0, .int .i64 u0, .int .i64 u1, .int .i64 u2, .int .i64 u3, .int .i64 0]) (by kernel_rfl) (by kernel_rfl) (fun _ _ _ _ _ h => h) rb4.drew ?_
      simp only [mixOps, List.map_cons, List.map_nil, List.getElem?_cons_succ, List.getElem?_cons_zero, Option.getD_some]
      repeat (first
        | (refine mix_skip (by rfl) ?_
           (try simp only [Act.put, List.setIfInBounds_toArray, List.set_cons_zero, List.set_cons_succ]))
        | (refine mix_pure (v := ?_) (by rfl) (fun u hu => ?_) ?_
           rotate_left
           · obtain ⟨_, _, _, _, _, _, _⟩ := hu.seven
             go_simp
             (with_reducible rfl)
           (try simp only [Act.put, List.setIfInBounds_toArray, List.set_cons_zero, List.set_cons_succ])))
      refine mix_call (by rfl) (fun K hK => ?_)
      go_simp
      refine (specRecordFault 1 0 u0 u1 u2 u3 0 _).mono ?_
      rintro e w5 ⟨rfl, hb5⟩
      have hb5 := undrewD hb5
      rw [hfq]
      have r5 := rb4.below hb5 rb4.lt
      have z5 := zb4.below hb5 zb4.lt
      have hB5 := hB4.trans (hb5.mono hB4.size)
      refine hK _ _ (fun u => At u (w.heap.size + 1) 27 #[.int .i64 1, .int .i64 0, .int .i64 u0, .int .i64 u1, .int .i64 u2, .int .i64 u3, .int .i64 0]) (fun _ h => h) r5 ?_
      clear hK K
      (try simp only [Act.put, List.setIfInBounds_toArray, List.set_cons_zero, List.set_cons_succ])
      refine mix_pure (v := ?_) (by rfl) (fun u hu => ?_) ?_
      rotate_left
      · go_simp
        (with_reducible rfl)
      (try simp only [Act.put, List.setIfInBounds_toArray, List.set_cons_zero, List.set_cons_succ])
      obtain ⟨p0, p1, p2, p3, p4, p5, p6⟩ := z5.seven
      obtain ⟨s0, s1, s2, s3, s4, s5, s6⟩ := z5.sevenF
      refine mix_call (by rfl) (fun K hK => ?_)
      go_simp
      refine hK _ _ (fun u => At u (w.heap.size + 1) 27 #[.int .i64 1, .int .i64 0, .int .i64 u0, .int .i64 u1, .int .i64 u2, .int .i64 u3, .int .i64 0]) (fun _ h => h) (((((((r5.far (p := ⟨w.heap.size, 0, none⟩) (by simp) _).far (p := ⟨w.heap.size, 1, none⟩) (by simp) _).far (p := ⟨w.heap.size, 2, none⟩) (by simp) _).far (p := ⟨w.heap.size, 3, none⟩) (by simp) _).far (p := ⟨w.heap.size, 4, none⟩) (by simp) _).far (p := ⟨w.heap.size, 5, none⟩) (by simp) _).far (p := ⟨w.heap.size, 6, none⟩) (by simp) _) ?_
      clear hK K
      (try simp only [Act.put, List.setIfInBounds_toArray, List.set_cons_zero, List.set_cons_succ])
      refine mix_pure (v := ?_) (by rfl) (fun u hu => ?_) ?_
      rotate_left
      · go_simp
        (with_reducible rfl)
      (try simp only [Act.put, List.setIfInBounds_toArray, List.set_cons_zero, List.set_cons_succ])
      refine mix_nil ?_
      go_wp2
      refine bodyPost_ret (v := .tuple #[.agg #[.int .i64 1, .int .i64 0, .int .i64 u0, .int .i64 u1, .int .i64 u2, .int .i64 u3, .int .i64 0], .bool (fq == 0)]) (by simp [results, Tryz.results54, go_sem, p0, p1, p2, p3, p4, p5, p6]) rfl ?_
      rw [Hd.out]
      exact ⟨rfl, (((((((hB5.setCell (by simp) _).setCell (by simp) _).setCell (by simp) _).setCell (by simp) _).setCell (by simp) _).setCell (by simp) _).setCell (by simp) _)⟩
    · have Hd := Lib.hid (decR_1n hk0 (by rw [hn]; exact hl))
      have hbl : ((n : Int) == 8) = false := by simp; omega
      clear hk0 hn ha hx hR hl
      obtain ⟨zc0, zc1, zc2, zc3, zc4, zc5, zc6⟩ := zb2.seven
      obtain ⟨zf0, zf1, zf2, zf3, zf4, zf5, zf6⟩ := zb2.sevenF
      obtain ⟨rc0, rc1, rc2, rc3, rc4, rc5, rc6⟩ := rb2.seven
      obtain ⟨rf0, rf1, rf2, rf3, rf4, rf5, rf6⟩ := rb2.sevenF
      go_enter Tryz.func54, Tryz.ntmps54
      go_wp2
      refine bodyPost_ret (v := .tuple #[.agg #[.int .i64 0, .int .i64 0, .int .i64 0, .int .i64 0, .int .i64 0, .int .i64 0, .int .i64 0], .bool false]) (by simp [results, Tryz.results54, go_sem]) rfl ?_
      rw [Hd.out]
      exact ⟨rfl, by repeat (first | exact hB2 | refine Below.setCell ?_ (by simp) _)⟩
  by_cases k2 : kk = 2
  · subst k2
    by_cases hl : n = 9
    · subst hl
      have Hd0 := decR_2 hk0 hn
      obtain ⟨g', o', y, e', _, hy, cy⟩ := ha.byte (k := 1) (by omega)
      obtain ⟨rfl, rfl⟩ : g = g' ∧ o = o' := by simpa using Option.some.inj e'
      clear e'
      have hk1 : (readM l 1 1).2 = (y.toNat : Int) := read1 (p := 1) hy
      rw [hk1] at Hd0
      have hyb : y.toNat < 256 := y.toNat_lt
      have hwy : IntKind.i64.wrap (y.toNat : Int) = (y.toNat : Int) := IntWalk.i64_in _ (by omega)
      obtain ⟨u0, u1, u2, u3, hu⟩ : ∃ u0 u1 u2 u3, unpM (l.drop 2) = (u0, u1, u2, u3) := ⟨_, _, _, _, rfl⟩
      rw [hu] at Hd0
      have LD := fun W hW => l2Decode _ (c - 2) (l.drop 2) W (hR 2 (by omega) W hW) (by rw [List.length_drop]; omega)
      rw [hu] at LD
      have hc1 : ¬ c = 2 := by omega
      generalize (y.toNat : Int) = yy at *
      generalize hfq : recFaultM (2, yy, (u0, u1, u2, u3), 0) = fq at Hd0
      have Hd := Lib.hid Hd0
      clear Hd0 ha hx hR hn hk0 hy hk1 hu
      obtain ⟨zc0, zc1, zc2, zc3, zc4, zc5, zc6⟩ := zb2.seven
      obtain ⟨zf0, zf1, zf2, zf3, zf4, zf5, zf6⟩ := zb2.sevenF
      obtain ⟨rc0, rc1, rc2, rc3, rc4, rc5, rc6⟩ := rb2.seven
      obtain ⟨rf0, rf1, rf2, rf3, rf4, rf5, rf6⟩ := rb2.sevenF
      have hB1 : Below w.heap.size w ((w.alloc (.cells #[.int .i64 0, .int .i64 0, .int .i64 0, .int .i64 0, .int .i64 0, .int .i64 0, .int .i64 0] 27)).alloc (.cells #[.int .i64 2, .int .i64 yy, .int .i64 0, .int .i64 0, .int .i64 0, .int .i64 0, .int .i64 0] 27)) := ((Below.refl _ _).alloc (Nat.le_refl _) _).alloc (by simp) _
      have zb1 := (At.new w 27 #[.int .i64 0, .int .i64 0, .int .i64 0, .int .i64 0, .int .i64 0, .int .i64 0, .int .i64 0]).alloc (.cells #[.int .i64 2, .int .i64 yy, .int .i64 0, .int .i64 0, .int .i64 0, .int .i64 0, .int .i64 0] 27)
      have rb1 : At ((w.alloc (.cells #[.int .i64 0, .int .i64 0, .int .i64 0, .int .i64 0, .int .i64 0, .int .i64 0, .int .i64 0] 27)).alloc (.cells #[.int .i64 2, .int .i64 yy, .int .i64 0, .int .i64 0, .int .i64 0, .int .i64 0, .int .i64 0] 27)) (w.heap.size + 1) 27 #[.int .i64 2, .int .i64 yy, .int .i64 0, .int .i64 0, .int .i64 0, .int .i64 0, .int .i64 0] := by
        have := At.new (w.alloc (.cells #[.int .i64 0, .int .i64 0, .int .i64 0, .int .i64 0, .int .i64 0, .int .i64 0, .int .i64 0] 27)) 27 #[.int .i64 2, .int .i64 yy, .int .i64 0, .int .i64 0, .int .i64 0, .int .i64 0, .int .i64 0]
        simpa using this
      go_enter Tryz.func54, Tryz.ntmps54
      go_wp2_with fail
      refine (LD _ hB1).mono ?_
      rintro e w3 ⟨rfl, hb3⟩
      have hB3 := hB1.trans (hb3.mono hB1.size)
      have zb3 := zb1.below hb3 zb1.lt
      have rb3 := rb1.below hb3 rb1.lt
      clear zc0 zc1 zc2 zc3 zc4 zc5 zc6 zf0 zf1 zf2 zf3 zf4 zf5 zf6 rc0 rc1 rc2 rc3 rc4 rc5 rc6 rf0 rf1 rf2 rf3 rf4 rf5 rf6
      obtain ⟨zc0, zc1, zc2, zc3, zc4, zc5, zc6⟩ := zb3.seven
      obtain ⟨zf0, zf1, zf2, zf3, zf4, zf5, zf6⟩ := zb3.sevenF
      obtain ⟨rc0, rc1, rc2, rc3, rc4, rc5, rc6⟩ := rb3.seven
      obtain ⟨rf0, rf1, rf2, rf3, rf4, rf5, rf6⟩ := rb3.sevenF
      go_wp2_with fail
      clear zc0 zc1 zc2 zc3 zc4 zc5 zc6 zf0 zf1 zf2 zf3 zf4 zf5 zf6 rc0 rc1 rc2 rc3 rc4 rc5 rc6 rf0 rf1 rf2 rf3 rf4 rf5 rf6
      have rb4 : At ((((w3.setCell ⟨w.heap.size + 1, 2, none⟩ (.int .i64 u0)).setCell ⟨w.heap.size + 1, 3, none⟩ (.int .i64 u1)).setCell ⟨w.heap.size + 1, 4, none⟩ (.int .i64 u2)).setCell ⟨w.heap.size + 1, 5, none⟩ (.int .i64 u3)) (w.heap.size + 1) 27 #[.int .i64 2, .int .i64 yy, .int .i64 u0, .int .i64 u1, .int .i64 u2, .int .i64 u3, .int .i64 0] := ((((rb3.set 2 (.int .i64 u0)).set 3 (.int .i64 u1)).set 4 (.int .i64 u2)).set 5 (.int .i64 u3))
      have zb4 : At ((((w3.setCell ⟨w.heap.size + 1, 2, none⟩ (.int .i64 u0)).setCell ⟨w.heap.size + 1, 3, none⟩ (.int .i64 u1)).setCell ⟨w.heap.size + 1, 4, none⟩ (.int .i64 u2)).setCell ⟨w.heap.size + 1, 5, none⟩ (.int .i64 u3)) w.heap.size 27 #[.int .i64 0, .int .i64 0, .int .i64 0, .int .i64 0, .int .i64 0, .int .i64 0, .int .i64 0] := ((((zb3.far (p := ⟨w.heap.size + 1, 2, none⟩) (by simp) (.int .i64 u0)).far (p := ⟨w.heap.size + 1, 3, none⟩) (by simp) (.int .i64 u1)).far (p := ⟨w.heap.size + 1, 4, none⟩) (by simp) (.int .i64 u2)).far (p := ⟨w.heap.size + 1, 5, none⟩) (by simp) (.int .i64 u3))
      have hB4 : Below w.heap.size w ((((w3.setCell ⟨w.heap.size + 1, 2, none⟩ (.int .i64 u0)).setCell ⟨w.heap.size + 1, 3, none⟩ (.int .i64 u1)).setCell ⟨w.heap.size + 1, 4, none⟩ (.int .i64 u2)).setCell ⟨w.heap.size + 1, 5, none⟩ (.int .i64 u3)) := ((((hB3.setCell (p := ⟨w.heap.size + 1, 2, none⟩) (by simp) (.int .i64 u0)).setCell (p := ⟨w.heap.size + 1, 3, none⟩) (by simp) (.int .i64 u1)).setCell (p := ⟨w.heap.size + 1, 4, none⟩) (by simp) (.int .i64 u2)).setCell (p := ⟨w.heap.size + 1, 5, none⟩) (by simp) (.int .i64 u3))
      refine wp_region_mix [(0, false), (1, false), (2, true), (3, false), (4, true), (5, false)] (fun u => At u (w.heap.size + 1) 27 #[.int .i64 2, .int .i64 yy, .int .i64 u0, .int .i64 u1, .int .i64 u2, .int .i64 u3, .int .i64 0]) (by kernel_rfl) (by kernel_rfl) (fun _ _ _ _ _ h => h) rb4.drew ?_
      simp only [mixOps, List.map_cons, List.map_nil, List.getElem?_cons_succ, List.getElem?_cons_zero, Option.getD_some]
      repeat (first
        | (refine mix_skip (by rfl) ?_
           (try simp only [Act.put, List.setIfInBounds_toArray, List.set_cons_zero, List.set_cons_succ]))
        | (refine mix_pure (v := ?_) (by rfl) (fun u hu => ?_) ?_
           rotate_left
           · obtain ⟨_, _, _, _, _, _, _⟩ := hu.seven
             go_simp
             (with_reducible rfl)
           (try simp only [Act.put, List.setIfInBounds_toArray, List.set_cons_zero, List.set_cons_succ])))
      refine mix_call (by rfl) (fun K hK => ?_)
      go_simp
      refine (specRecordFault 2 yy u0 u1 u2 u3 0 _).mono ?_
      rintro e w5 ⟨rfl, hb5⟩
      have hb5 := undrewD hb5
      rw [hfq]
      have r5 := rb4.below hb5 rb4.lt
      have z5 := zb4.below hb5 zb4.lt
      have hB5 := hB4.trans (hb5.mono hB4.size)
      refine hK _ _ (fun u => At u (w.heap.size + 1) 27 #[.int .i64 2, .int .i64 yy, .int .i64 u0, .int .i64 u1, .int .i64 u2, .int .i64 u3, .int .i64 0]) (fun _ h => h) r5 ?_
      clear hK K
      (try simp only [Act.put, List.setIfInBounds_toArray, List.set_cons_zero, List.set_cons_succ])
      refine mix_pure (v := ?_) (by rfl) (fun u hu => ?_) ?_
      rotate_left
      · go_simp
        (with_reducible rfl)
      (try simp only [Act.put, List.setIfInBounds_toArray, List.set_cons_zero, List.set_cons_succ])
      obtain ⟨p0, p1, p2, p3, p4, p5, p6⟩ := z5.seven
      obtain ⟨s0, s1, s2, s3, s4, s5, s6⟩ := z5.sevenF
      refine mix_call (by rfl) (fun K hK => ?_)
      go_simp
      refine hK _ _ (fun u => At u (w.heap.size + 1) 27 #[.int .i64 2, .int .i64 yy, .int .i64 u0, .int .i64 u1, .int .i64 u2, .int .i64 u3, .int .i64 0]) (fun _ h => h) (((((((r5.far (p := ⟨w.heap.size, 0, none⟩) (by simp) _).far (p := ⟨w.heap.size, 1, none⟩) (by simp) _).far (p := ⟨w.heap.size, 2, none⟩) (by simp) _).far (p := ⟨w.heap.size, 3, none⟩) (by simp) _).far (p := ⟨w.heap.size, 4, none⟩) (by simp) _).far (p := ⟨w.heap.size, 5, none⟩) (by simp) _).far (p := ⟨w.heap.size, 6, none⟩) (by simp) _) ?_
      clear hK K
      (try simp only [Act.put, List.setIfInBounds_toArray, List.set_cons_zero, List.set_cons_succ])
      refine mix_pure (v := ?_) (by rfl) (fun u hu => ?_) ?_
      rotate_left
      · go_simp
        (with_reducible rfl)
      (try simp only [Act.put, List.setIfInBounds_toArray, List.set_cons_zero, List.set_cons_succ])
      refine mix_nil ?_
      go_wp2
      refine bodyPost_ret (v := .tuple #[.agg #[.int .i64 2, .int .i64 yy, .int .i64 u0, .int .i64 u1, .int .i64 u2, .int .i64 u3, .int .i64 0], .bool (fq == 0)]) (by simp [results, Tryz.results54, go_sem, p0, p1, p2, p3, p4, p5, p6]) rfl ?_
      rw [Hd.out]
      exact ⟨rfl, (((((((hB5.setCell (by simp) _).setCell (by simp) _).setCell (by simp) _).setCell (by simp) _).setCell (by simp) _).setCell (by simp) _).setCell (by simp) _)⟩
    · have Hd := Lib.hid (decR_2n hk0 (by rw [hn]; exact hl))
      have hbl : ((n : Int) == 9) = false := by simp; omega
      clear hk0 hn ha hx hR hl
      obtain ⟨zc0, zc1, zc2, zc3, zc4, zc5, zc6⟩ := zb2.seven
      obtain ⟨zf0, zf1, zf2, zf3, zf4, zf5, zf6⟩ := zb2.sevenF
      obtain ⟨rc0, rc1, rc2, rc3, rc4, rc5, rc6⟩ := rb2.seven
      obtain ⟨rf0, rf1, rf2, rf3, rf4, rf5, rf6⟩ := rb2.sevenF
      go_enter Tryz.func54, Tryz.ntmps54
      go_wp2
      refine bodyPost_ret (v := .tuple #[.agg #[.int .i64 0, .int .i64 0, .int .i64 0, .int .i64 0, .int .i64 0, .int .i64 0, .int .i64 0], .bool false]) (by simp [results, Tryz.results54, go_sem]) rfl ?_
      rw [Hd.out]
      exact ⟨rfl, by repeat (first | exact hB2 | refine Below.setCell ?_ (by simp) _)⟩
  by_cases k3 : kk = 3
  · subst k3
    by_cases hl : n = 4
    · subst hl
      have Hd0 := decR_3 hk0 hn
      obtain ⟨g', o', y, e', _, hy, cy⟩ := ha.byte (k := 1) (by omega)
      obtain ⟨rfl, rfl⟩ : g = g' ∧ o = o' := by simpa using Option.some.inj e'
      clear e'
      have hk1 : (readM l 1 1).2 = (y.toNat : Int) := read1 (p := 1) hy
      rw [hk1] at Hd0
      have hyb : y.toNat < 256 := y.toNat_lt
      have hwy : IntKind.i64.wrap (y.toNat : Int) = (y.toNat : Int) := IntWalk.i64_in _ (by omega)
      have hq : (readM l 2 2).2 = ((readAt l 2 2 0 : Nat) : Int) := congrArg Prod.snd (readM_nat (l := l) (p := 2) (s := 2) ⟨by omega, by omega, by omega⟩)
      rw [hq] at Hd0
      have LR := fun W hW => l1Read (some ⟨g, o, none⟩) 4 c 2 2 l W (ha.lift hW) hn (by omega) (by omega) (by unfold maxLen; omega)
      have hqb : readAt l 2 2 0 < 4294967296 := readAt_lt l 2 2 0 (by omega)
      generalize readAt l 2 2 0 = qq at *
      clear hq
      generalize (y.toNat : Int) = yy at *
      generalize hfq : recFaultM (3, yy, (0, 0, 0, 0), (qq : Int)) = fq at Hd0
      have Hd := Lib.hid Hd0
      clear Hd0 ha hx hR hn hk0 hy hk1
      obtain ⟨zc0, zc1, zc2, zc3, zc4, zc5, zc6⟩ := zb2.seven
      obtain ⟨zf0, zf1, zf2, zf3, zf4, zf5, zf6⟩ := zb2.sevenF
      obtain ⟨rc0, rc1, rc2, rc3, rc4, rc5, rc6⟩ := rb2.seven
      obtain ⟨rf0, rf1, rf2, rf3, rf4, rf5, rf6⟩ := rb2.sevenF
      have hB1 : Below w.heap.size w ((w.alloc (.cells #[.int .i64 0, .int .i64 0, .int .i64 0, .int .i64 0, .int .i64 0, .int .i64 0, .int .i64 0] 27)).alloc (.cells #[.int .i64 3, .int .i64 yy, .int .i64 0, .int .i64 0, .int .i64 0, .int .i64 0, .int .i64 0] 27)) := ((Below.refl _ _).alloc (Nat.le_refl _) _).alloc (by simp) _
      have zb1 := (At.new w 27 #[.int .i64 0, .int .i64 0, .int .i64 0, .int .i64 0, .int .i64 0, .int .i64 0, .int .i64 0]).alloc (.cells #[.int .i64 3, .int .i64 yy, .int .i64 0, .int .i64 0, .int .i64 0, .int .i64 0, .int .i64 0] 27)
      have rb1 : At ((w.alloc (.cells #[.int .i64 0, .int .i64 0, .int .i64 0, .int .i64 0, .int .i64 0, .int .i64 0, .int .i64 0] 27)).alloc (.cells #[.int .i64 3, .int .i64 yy, .int .i64 0, .int .i64 0, .int .i64 0, .int .i64 0, .int .i64 0] 27)) (w.heap.size + 1) 27 #[.int .i64 3, .int .i64 yy, .int .i64 0, .int .i64 0, .int .i64 0, .int .i64 0, .int .i64 0] := by
        have := At.new (w.alloc (.cells #[.int .i64 0, .int .i64 0, .int .i64 0, .int .i64 0, .int .i64 0, .int .i64 0, .int .i64 0] 27)) 27 #[.int .i64 3, .int .i64 yy, .int .i64 0, .int .i64 0, .int .i64 0, .int .i64 0, .int .i64 0]
        simpa using this
      go_enter Tryz.func54, Tryz.ntmps54
      go_wp2_with fail
      refine (LR _ hB1).mono ?_
      rintro e w3 ⟨rfl, rfl⟩
      clear zc0 zc1 zc2 zc3 zc4 zc5 zc6 zf0 zf1 zf2 zf3 zf4 zf5 zf6 rc0 rc1 rc2 rc3 rc4 rc5 rc6 rf0 rf1 rf2 rf3 rf4 rf5 rf6
      obtain ⟨zc0, zc1, zc2, zc3, zc4, zc5, zc6⟩ := zb1.seven
      obtain ⟨zf0, zf1, zf2, zf3, zf4, zf5, zf6⟩ := zb1.sevenF
      obtain ⟨rc0, rc1, rc2, rc3, rc4, rc5, rc6⟩ := rb1.seven
      obtain ⟨rf0, rf1, rf2, rf3, rf4, rf5, rf6⟩ := rb1.sevenF
      go_wp2_with fail
      clear zc0 zc1 zc2 zc3 zc4 zc5 zc6 zf0 zf1 zf2 zf3 zf4 zf5 zf6 rc0 rc1 rc2 rc3 rc4 rc5 rc6 rf0 rf1 rf2 rf3 rf4 rf5 rf6
      have hB4 : Below w.heap.size w ((w.alloc (.cells #[.int .i64 0, .int .i64 0, .int .i64 0, .int .i64 0, .int .i64 0, .int .i64 0, .int .i64 0] 27)).alloc (.cells #[.int .i64 3, .int .i64 yy, .int .i64 0, .int .i64 0, .int .i64 0, .int .i64 0, .int .i64 (qq : Int)] 27)) := ((Below.refl _ _).alloc (Nat.le_refl _) _).alloc (by simp) _
      have zb4 := (At.new w 27 #[.int .i64 0, .int .i64 0, .int .i64 0, .int .i64 0, .int .i64 0, .int .i64 0, .int .i64 0]).alloc (.cells #[.int .i64 3, .int .i64 yy, .int .i64 0, .int .i64 0, .int .i64 0, .int .i64 0, .int .i64 (qq : Int)] 27)
      have rb4 : At ((w.alloc (.cells #[.int .i64 0, .int .i64 0, .int .i64 0, .int .i64 0, .int .i64 0, .int .i64 0, .int .i64 0] 27)).alloc (.cells #[.int .i64 3, .int .i64 yy, .int .i64 0, .int .i64 0, .int .i64 0, .int .i64 0, .int .i64 (qq : Int)] 27)) (w.heap.size + 1) 27 #[.int .i64 3, .int .i64 yy, .int .i64 0, .int .i64 0, .int .i64 0, .int .i64 0, .int .i64 (qq : Int)] := by
        have := At.new (w.alloc (.cells #[.int .i64 0, .int .i64 0, .int .i64 0, .int .i64 0, .int .i64 0, .int .i64 0, .int .i64 0] 27)) 27 #[.int .i64 3, .int .i64 yy, .int .i64 0, .int .i64 0, .int .i64 0, .int .i64 0, .int .i64 (qq : Int)]
        simpa using this
      refine wp_region_mix [(0, false), (1, false), (2, true), (3, false), (4, true), (5, false)] (fun u => At u (w.heap.size + 1) 27 #[.int .i64 3, .int .i64 yy, .int .i64 0, .int .i64 0, .int .i64 0, .int .i64 0, .int .i64 (qq : Int)]) (by kernel_rfl) (by kernel_rfl) (fun _ _ _ _ _ h => h) rb4.drew ?_
      simp only [mixOps, List.map_cons, List.map_nil, List.getElem?_cons_succ, List.getElem?_cons_zero, Option.getD_some]
      repeat (first
        | (refine mix_skip (by rfl) ?_
           (try simp only [Act.put, List.setIfInBounds_toArray, List.set_cons_zero, List.set_cons_succ]))
        | (refine mix_pure (v := ?_) (by rfl) (fun u hu => ?_) ?_
           rotate_left
           · obtain ⟨_, _, _, _, _, _, _⟩ := hu.seven
             go_simp
             (with_reducible rfl)
           (try simp only [Act.put, List.setIfInBounds_toArray, List.set_cons_zero, List.set_cons_succ])))
      refine mix_call (by rfl) (fun K hK => ?_)
      go_simp
      refine (specRecordFault 3 yy 0 0 0 0 (qq : Int) _).mono ?_
      rintro e w5 ⟨rfl, hb5⟩
      have hb5 := undrewD hb5
      rw [hfq]
      have r5 := rb4.below hb5 rb4.lt
      have z5 := zb4.below hb5 zb4.lt
      have hB5 := hB4.trans (hb5.mono hB4.size)
      refine hK _ _ (fun u => At u (w.heap.size + 1) 27 #[.int .i64 3, .int .i64 yy, .int .i64 0, .int .i64 0, .int .i64 0, .int .i64 0, .int .i64 (qq : Int)]) (fun _ h => h) r5 ?_
      clear hK K
      (try simp only [Act.put, List.setIfInBounds_toArray, List.set_cons_zero, List.set_cons_succ])
      refine mix_pure (v := ?_) (by rfl) (fun u hu => ?_) ?_
      rotate_left
      · go_simp
        (with_reducible rfl)
      (try simp only [Act.put, List.setIfInBounds_toArray, List.set_cons_zero, List.set_cons_succ])
      obtain ⟨p0, p1, p2, p3, p4, p5, p6⟩ := z5.seven
      obtain ⟨s0, s1, s2, s3, s4, s5, s6⟩ := z5.sevenF
      refine mix_call (by rfl) (fun K hK => ?_)
      go_simp
      refine hK _ _ (fun u => At u (w.heap.size + 1) 27 #[.int .i64 3, .int .i64 yy, .int .i64 0, .int .i64 0, .int .i64 0, .int .i64 0, .int .i64 (qq : Int)]) (fun _ h => h) (((((((r5.far (p := ⟨w.heap.size, 0, none⟩) (by simp) _).far (p := ⟨w.heap.size, 1, none⟩) (by simp) _).far (p := ⟨w.heap.size, 2, none⟩) (by simp) _).far (p := ⟨w.heap.size, 3, none⟩) (by simp) _).far (p := ⟨w.heap.size, 4, none⟩) (by simp) _).far (p := ⟨w.heap.size, 5, none⟩) (by simp) _).far (p := ⟨w.heap.size, 6, none⟩) (by simp) _) ?_
      clear hK K
      (try simp only [Act.put, List.setIfInBounds_toArray, List.set_cons_zero, List.set_cons_succ])
      refine mix_pure (v := ?_) (by rfl) (fun u hu => ?_) ?_
      rotate_left
      · go_simp
        (with_reducible rfl)
      (try simp only [Act.put, List.setIfInBounds_toArray, List.set_cons_zero, List.set_cons_succ])
      refine mix_nil ?_
      go_wp2
      refine bodyPost_ret (v := .tuple #[.agg #[.int .i64 3, .int .i64 yy, .int .i64 0, .int .i64 0, .int .i64 0, .int .i64 0, .int .i64 (qq : Int)], .bool (fq == 0)]) (by simp [results, Tryz.results54, go_sem, p0, p1, p2, p3, p4, p5, p6]) rfl ?_
      rw [Hd.out]
      exact ⟨rfl, (((((((hB5.setCell (by simp) _).setCell (by simp) _).setCell (by simp) _).setCell (by simp) _).setCell (by simp) _).setCell (by simp) _).setCell (by simp) _)⟩
    · have Hd := Lib.hid (decR_3n hk0 (by rw [hn]; exact hl))
      have hbl : ((n : Int) == 4) = false := by simp; omega
      clear hk0 hn ha hx hR hl
      obtain ⟨zc0, zc1, zc2, zc3, zc4, zc5, zc6⟩ := zb2.seven
      obtain ⟨zf0, zf1, zf2, zf3, zf4, zf5, zf6⟩ := zb2.sevenF
      obtain ⟨rc0, rc1, rc2, rc3, rc4, rc5, rc6⟩ := rb2.seven
      obtain ⟨rf0, rf1, rf2, rf3, rf4, rf5, rf6⟩ := rb2.sevenF
      go_enter Tryz.func54, Tryz.ntmps54
      go_wp2
      refine bodyPost_ret (v := .tuple #[.agg #[.int .i64 0, .int .i64 0, .int .i64 0, .int .i64 0, .int .i64 0, .int .i64 0, .int .i64 0], .bool false]) (by simp [results, Tryz.results54, go_sem]) rfl ?_
      rw [Hd.out]
      exact ⟨rfl, by repeat (first | exact hB2 | refine Below.setCell ?_ (by simp) _)⟩
  by_cases k4 : kk = 4
  · subst k4
    by_cases hl : n = 3
    · subst hl
      have Hd0 := decR_4 hk0 hn
      have hq : (readM l 1 2).2 = ((readAt l 1 2 0 : Nat) : Int) := congrArg Prod.snd (readM_nat (l := l) (p := 1) (s := 2) ⟨by omega, by omega, by omega⟩)
      rw [hq] at Hd0
      have LR := fun W hW => l1Read (some ⟨g, o, none⟩) 3 c 1 2 l W (ha.lift hW) hn (by omega) (by omega) (by unfold maxLen; omega)
      have hqb : readAt l 1 2 0 < 4294967296 := readAt_lt l 1 2 0 (by omega)
      generalize readAt l 1 2 0 = qq at *
      clear hq
      generalize hfq : recFaultM (4, 0, (0, 0, 0, 0), (qq : Int)) = fq at Hd0
      have Hd := Lib.hid Hd0
      clear Hd0 ha hx hR hn hk0
      obtain ⟨zc0, zc1, zc2, zc3, zc4, zc5, zc6⟩ := zb2.seven
      obtain ⟨zf0, zf1, zf2, zf3, zf4, zf5, zf6⟩ := zb2.sevenF
      obtain ⟨rc0, rc1, rc2, rc3, rc4, rc5, rc6⟩ := rb2.seven
      obtain ⟨rf0, rf1, rf2, rf3, rf4, rf5, rf6⟩ := rb2.sevenF
      go_enter Tryz.func54, Tryz.ntmps54
      go_wp2_with fail
      refine (LR _ hB2).mono ?_
      rintro e w3 ⟨rfl, rfl⟩
      go_wp2_with fail
      clear zc0 zc1 zc2 zc3 zc4 zc5 zc6 zf0 zf1 zf2 zf3 zf4 zf5 zf6 rc0 rc1 rc2 rc3 rc4 rc5 rc6 rf0 rf1 rf2 rf3 rf4 rf5 rf6
      have hB4 : Below w.heap.size w ((w.alloc (.cells #[.int .i64 0, .int .i64 0, .int .i64 0, .int .i64 0, .int .i64 0, .int .i64 0, .int .i64 0] 27)).alloc (.cells #[.int .i64 4, .int .i64 0, .int .i64 0, .int .i64 0, .int .i64 0, .int .i64 0, .int .i64 (qq : Int)] 27)) := ((Below.refl _ _).alloc (Nat.le_refl _) _).alloc (by simp) _
      have zb4 := (At.new w 27 #[.int .i64 0, .int .i64 0, .int .i64 0, .int .i64 0, .int .i64 0, .int .i64 0, .int .i64 0]).alloc (.cells #[.int .i64 4, .int .i64 0, .int .i64 0, .int .i64 0, .int .i64 0, .int .i64 0, .int .i64 (qq : Int)] 27)
      have rb4 : At ((w.alloc (.cells #[.int .i64 0, .int .i64 0, .int .i64 0, .int .i64 0, .int .i64 0, .int .i64 0, .int .i64 0] 27)).alloc (.cells #[.int .i64 4, .int .i64 0, .int .i64 0, .int .i64 0, .int .i64 0, .int .i64 0, .int .i64 (qq : Int)] 27)) (w.heap.size + 1) 27 #[.int .i64 4, .int .i64 0, .int .i64 0, .int .i64 0, .int .i64 0, .int .i64 0, .int .i64 (qq : Int)] := by
        have := At.new (w.alloc (.cells #[.int .i64 0, .int .i64 0, .int .i64 0, .int .i64 0, .int .i64 0, .int .i64 0, .int .i64 0] 27)) 27 #[.int .i64 4, .int .i64 0, .int .i64 0, .int .i64 0, .int .i64 0, .int .i64 0, .int .i64 (qq : Int)]
        simpa using this
      refine wp_region_mix [(0, false), (1, false), (2, true), (3, false), (4, true), (5, false)] (fun u => At u (w.heap.size + 1) 27 #[.int .i64 4, .int .i64 0, .int .i64 0, .int .i64 0, .int .i64 0, .int .i64 0, .int .i64 (qq : Int)]) (by kernel_rfl) (by kernel_rfl) (fun _ _ _ _ _ h => h) rb4.drew ?_
      simp only [mixOps, List.map_cons, List.map_nil, List.getElem?_cons_succ, List.getElem?_cons_zero, Option.getD_some]
      repeat (first
        | (refine mix_skip (by rfl) ?_
           (try simp only [Act.put, List.setIfInBounds_toArray, List.set_cons_zero, List.set_cons_succ]))
        | (refine mix_pure (v := ?_) (by rfl) (fun u hu => ?_) ?_
           rotate_left
           · obtain ⟨_, _, _, _, _, _, _⟩ := hu.seven
             go_simp
             (with_reducible rfl)
           (try simp only [Act.put, List.setIfInBounds_toArray, List.set_cons_zero, List.set_cons_succ])))
      refine mix_call (by rfl) (fun K hK => ?_)
      go_simp
      refine (specRecordFault 4 0 0 0 0 0 (qq : Int) _).mono ?_
      rintro e w5 ⟨rfl, hb5⟩
      have hb5 := undrewD hb5
      rw [hfq]
      have r5 := rb4.below hb5 rb4.lt
      have z5 := zb4.below hb5 zb4.lt
      have hB5 := hB4.trans (hb5.mono hB4.size)
      refine hK _ _ (fun u => At u (w.heap.size + 1) 27 #[.int .i64 4, .int .i64 0, .int .i64 0, .int .i64 0, .int .i64 0, .int .i64 0, .int .i64 (qq : Int)]) (fun _ h => h) r5 ?_
      clear hK K
      (try simp only [Act.put, List.setIfInBounds_toArray, List.set_cons_zero, List.set_cons_succ])
      refine mix_pure (v := ?_) (by rfl) (fun u hu => ?_) ?_
      rotate_left
      · go_simp
        (with_reducible rfl)
      (try simp only [Act.put, List.setIfInBounds_toArray, List.set_cons_zero, List.set_cons_succ])
      obtain ⟨p0, p1, p2, p3, p4, p5, p6⟩ := z5.seven
      obtain ⟨s0, s1, s2, s3, s4, s5, s6⟩ := z5.sevenF
      refine mix_call (by rfl) (fun K hK => ?_)
      go_simp
      refine hK _ _ (fun u => At u (w.heap.size + 1) 27 #[.int .i64 4, .int .i64 0, .int .i64 0, .int .i64 0, .int .i64 0, .int .i64 0, .int .i64 (qq : Int)]) (fun _ h => h) (((((((r5.far (p := ⟨w.heap.size, 0, none⟩) (by simp) _).far (p := ⟨w.heap.size, 1, none⟩) (by simp) _).far (p := ⟨w.heap.size, 2, none⟩) (by simp) _).far (p := ⟨w.heap.size, 3, none⟩) (by simp) _).far (p := ⟨w.heap.size, 4, none⟩) (by simp) _).far (p := ⟨w.heap.size, 5, none⟩) (by simp) _).far (p := ⟨w.heap.size, 6, none⟩) (by simp) _) ?_
      clear hK K
      (try simp only [Act.put, List.setIfInBounds_toArray, List.set_cons_zero, List.set_cons_succ])
      refine mix_pure (v := ?_) (by rfl) (fun u hu => ?_) ?_
      rotate_left
      · go_simp
        (with_reducible rfl)
      (try simp only [Act.put, List.setIfInBounds_toArray, List.set_cons_zero, List.set_cons_succ])
      refine mix_nil ?_
      go_wp2
      refine bodyPost_ret (v := .tuple #[.agg #[.int .i64 4, .int .i64 0, .int .i64 0, .int .i64 0, .int .i64 0, .int .i64 0, .int .i64 (qq : Int)], .bool (fq == 0)]) (by simp [results, Tryz.results54, go_sem, p0, p1, p2, p3, p4, p5, p6]) rfl ?_
      rw [Hd.out]
      exact ⟨rfl, (((((((hB5.setCell (by simp) _).setCell (by simp) _).setCell (by simp) _).setCell (by simp) _).setCell (by simp) _).setCell (by simp) _).setCell (by simp) _)⟩
    · have Hd := Lib.hid (decR_4n hk0 (by rw [hn]; exact hl))
      have hbl : ((n : Int) == 3) = false := by simp; omega
      clear hk0 hn ha hx hR hl
      obtain ⟨zc0, zc1, zc2, zc3, zc4, zc5, zc6⟩ := zb2.seven
      obtain ⟨zf0, zf1, zf2, zf3, zf4, zf5, zf6⟩ := zb2.sevenF
      obtain ⟨rc0, rc1, rc2, rc3, rc4, rc5, rc6⟩ := rb2.seven
      obtain ⟨rf0, rf1, rf2, rf3, rf4, rf5, rf6⟩ := rb2.sevenF
      go_enter Tryz.func54, Tryz.ntmps54
      go_wp2
      refine bodyPost_ret (v := .tuple #[.agg #[.int .i64 0, .int .i64 0, .int .i64 0, .int .i64 0, .int .i64 0, .int .i64 0, .int .i64 0], .bool false]) (by simp [results, Tryz.results54, go_sem]) rfl ?_
      rw [Hd.out]
      exact ⟨rfl, by repeat (first | exact hB2 | refine Below.setCell ?_ (by simp) _)⟩
  · have Hd := Lib.hid (decR_o (l := l) (by rw [hk0]; exact k1) (by rw [hk0]; exact k2) (by rw [hk0]; exact k3) (by rw [hk0]; exact k4))
    have b1 : (kk == 1) = false := by simpa using k1
    have b2 : (kk == 2) = false := by simpa using k2
    have b3 : (kk == 3) = false := by simpa using k3
    have b4 : (kk == 4) = false := by simpa using k4
    clear hk0 hn ha hx hR k1 k2 k3 k4
    obtain ⟨zc0, zc1, zc2, zc3, zc4, zc5, zc6⟩ := zb2.seven
    obtain ⟨zf0, zf1, zf2, zf3, zf4, zf5, zf6⟩ := zb2.sevenF
    obtain ⟨rc0, rc1, rc2, rc3, rc4, rc5, rc6⟩ := rb2.seven
    obtain ⟨rf0, rf1, rf2, rf3, rf4, rf5, rf6⟩ := rb2.sevenF
    go_enter Tryz.func54, Tryz.ntmps54
    go_wp2
    refine bodyPost_ret (v := .tuple #[.agg #[.int .i64 0, .int .i64 0, .int .i64 0, .int .i64 0, .int .i64 0, .int .i64 0, .int .i64 0], .bool false]) (by simp [results, Tryz.results54, go_sem]) rfl ?_
    rw [Hd.out]
    exact ⟨rfl, by repeat (first | exact hB2 | refine Below.setCell ?_ (by simp) _)⟩
end Go.Proofs.YtmaillakhhdkfaaGreatDoor
/-
  A sample's bytes where the sample lies in a record: the model's.
-/
namespace Go.Proofs.YtmaillakhhdkfaaGreatDoor
set_option maxRecDepth 20000
open Go.RowKit

set_option maxHeartbeats 2000000 in
theorem l2EncodeR (g n0 n1 n2 n3 : Nat) (b0 b1 b6 : Int) (w : World) (hx : At w g 27 #[.int .i64 b0, .int .i64 b1, .int .i64 n0, .int .i64 n1, .int .i64 n2, .int .i64 ((n3 : Int) - 1000), .int .i64 b6]) (h0 : n0 ≤ 9) (h1 : n1 ≤ 999) (h2 : n2 ≤ 9999) (h3 : n3 ≤ 2000) :
    Calls Tryz.prog 85 #[.pointer (some ⟨g, 2, none⟩)] w fun e w' => ∃ A c, e = .returned (.slice A 7 c) ∧ Ow eB w' w.heap.size A 7 c (encL n0 n1 n2 n3) ∧ Below w.heap.size w w' := by
  have hg := hx.lt
  go_enter Tryz.func85, Tryz.ntmps85
  go_wp2
  refine wp_region_fork2 [(0, false), (1, false), (2, false), (3, false), (4, false), (6, false), (7, false), (8, false), (9, false)] [(10, true), (11, true), (12, false)] [(5, true), (11, true), (12, false)] 5 10 (fun u => At u g 27 #[.int .i64 b0, .int .i64 b1, .int .i64 n0, .int .i64 n1, .int .i64 n2, .int .i64 ((n3 : Int) - 1000), .int .i64 b6]) (by kernel_rfl) (by kernel_rfl) (fun _ _ _ _ _ h => h) hx.drew ?_
  simp only [mixOps, List.map_cons, List.map_nil, List.getElem?_cons_succ, List.getElem?_cons_zero, Option.getD_some]
  repeat (first
    | (refine mixR_skip (by rfl) ?_
       (try simp only [Act.put, List.setIfInBounds_toArray, List.set_cons_zero, List.set_cons_succ]))
    | (refine mixR_pure (v := ?_) (by rfl) (fun u hu => ?_) ?_
       rotate_left
       · obtain ⟨_, _, _, _, _, _, _⟩ := hu.seven
         go_simp
         (with_reducible rfl)
       (try simp only [Act.put, List.setIfInBounds_toArray, List.set_cons_zero, List.set_cons_succ])))
  have hx0 := hx.drew
  refine mixR_nil ⟨?_, ?_⟩
  · refine mixR_call (by rfl) (fun K hK => ?_)
    go_simp
    have hx1 := (hx.alloc (.cells #[.int .u8 (IntKind.u8.wrap (n0 : Int))] 5)).drew
    refine hK _ _ _ (fun _ h => h) hx1 ?_
    (try simp only [Act.put, List.setIfInBounds_toArray, List.set_cons_zero, List.set_cons_succ])
    have hB1 : Below w.heap.size w ((w.alloc (.cells #[.int .u8 (IntKind.u8.wrap (n0 : Int))] 5)).drew) := ((Below.refl _ _).alloc (Nat.le_refl _) _).drew
    have ob1 := ow_byte w (UInt8.ofNat n0) (IntKind.u8.wrap (n0 : Int)) (by rw [byte_small1 (by omega)]; exact IntWalk.u8_in _ (by omega))
    refine mixR_call (by rfl) (fun K hK => ?_)
    go_simp
    refine (l1Pack n1 2 _ (by omega) (by omega)).mono ?_
    rintro e w2 ⟨A1, c1, rfl, oa2, hb2⟩
    have hB2 := hB1.trans (hb2.mono hB1.size)
    have hx2 := hx1.below hb2 hx1.lt
    have ob2 := ob1.below hb2 (Nat.le_refl _)
    refine hK _ _ _ (fun _ h => h) hx2 ?_
    (try simp only [Act.put, List.setIfInBounds_toArray, List.set_cons_zero, List.set_cons_succ])
    refine mixR_call (by rfl) (fun K hK => ?_)
    refine wp_append_ow okB _ (.tmp 9) (.tmp 14) _ rfl w.heap.size info_u8 Tryz.underlying22 rfl _ 1 1 [UInt8.ofNat n0] rfl ob2 A1 2 c1 _ (packL n1 2) rfl (oa2.rd okB) (packL_len _ _) (by unfold maxLen; omega) (by omega) hB2.size ?_
    intro A2 c2 w3 ow3 hg3 _
    have hB3 : Below w.heap.size w w3 := hB2.grown hg3 hB2.size (fun g hg => (ob2.lt g hg).1)
    have hx3 := hx2.grown hg3 (fun e => by have := (ob2.lt _ e).1; omega)
    refine hK _ _ _ (fun _ h => h) hx3 ?_
    (try simp only [Act.put, List.setIfInBounds_toArray, List.set_cons_zero, List.set_cons_succ])
    refine mixR_pure (v := ?_) (by rfl) (fun u hu => ?_) ?_
    rotate_left
    · go_simp
      (with_reducible rfl)
    (try simp only [Act.put, List.setIfInBounds_toArray, List.set_cons_zero, List.set_cons_succ])
    refine mixR_nil ?_
    clear hx0
    obtain ⟨_, _, _, _, y2, y3, _⟩ := hx3.seven
    go_wp2_with fail
    refine (l1Pack n2 2 _ (by omega) (by omega)).mono ?_
    rintro e w4 ⟨A4, c4, rfl, o4, hb4⟩
    have hB4 := hB3.trans (hb4.mono hB3.size)
    have hx4 := hx3.below hb4 hx3.lt
    have ow4 := ow3.below hb4 (Nat.le_refl _)
    clear y2 y3
    obtain ⟨_, _, _, _, y2, y3, _⟩ := hx4.seven
    go_wp2_with (at_builtin; refine wpList_append_ow okB _ rfl (.tmp 16) (.tmp 21) _ rfl w.heap.size info_u8 Tryz.underlying22 rfl A2 (1 + 2) c2 ([UInt8.ofNat n0] ++ packL n1 2) rfl ow4 A4 2 c4 _ (packL n2 2) rfl (o4.rd okB) (packL_len _ _) (by unfold maxLen; omega) (by omega) hB4.size ?_; intro A5 c5 w5 ow5 hg5 _; have hB5 := hB4.grown hg5 hB4.size (fun g hg => (ow4.lt g hg).1); have hx5 := hx4.grown hg5 (fun e => by have := (ow4.lt _ e).1; omega); clear y2 y3; obtain ⟨_, _, _, _, y2, y3, _⟩ := hx5.seven)
    refine (l1Pack n3 2 _ (by omega) (by omega)).mono ?_
    rintro e w6 ⟨A6, c6, rfl, o6, hb6⟩
    have hB6 := hB5.trans (hb6.mono hB5.size)
    have ow6 : Ow eB w6 w.heap.size A5 5 c5 ([UInt8.ofNat n0] ++ packL n1 2 ++ packL n2 2) := ow5.below hb6 (Nat.le_refl _)
    go_wp2_with (at_builtin; refine wpList_append_ow okB _ rfl (.tmp 23) (.tmp 29) _ rfl w.heap.size info_u8 Tryz.underlying22 rfl A5 5 c5 ([UInt8.ofNat n0] ++ packL n1 2 ++ packL n2 2) rfl ow6 A6 2 c6 _ (packL n3 2) rfl (o6.rd okB) (packL_len _ _) (by unfold maxLen; omega) (by omega) hB6.size ?_; intro A7 c7 w7 ow7 hg7 _; have hB7 := hB6.grown hg7 hB6.size (fun g hg => (ow6.lt g hg).1))
    go_ret
    exact ⟨A7, c7, rfl, ow7, hB7⟩
  · refine mixR_call (by rfl) (fun K hK => ?_)
    go_simp
    have hB0 : Below w.heap.size w w.drew := (Below.refl _ _).drew
    refine (l1Pack n1 2 _ (by omega) (by omega)).mono ?_
    rintro e w1 ⟨A1, c1, rfl, oa1, hb1⟩
    have hB1 := hB0.trans (hb1.mono hB0.size)
    have hx1 := hx0.below hb1 hx0.lt
    refine hK _ _ _ (fun _ h => h) hx1 ?_
    (try simp only [Act.put, List.setIfInBounds_toArray, List.set_cons_zero, List.set_cons_succ])
    refine mixR_call (by rfl) (fun K hK => ?_)
    go_simp
    have hx2 := (hx1.alloc (.cells #[.int .u8 (IntKind.u8.wrap (n0 : Int))] 5))
    have oa2 := oa1.alloc (.cells #[.int .u8 (IntKind.u8.wrap (n0 : Int))] 5)
    have hB2 := hB1.alloc hB1.size (.cells #[.int .u8 (IntKind.u8.wrap (n0 : Int))] 5)
    have ob2 := (ow_byte w1 (UInt8.ofNat n0) (IntKind.u8.wrap (n0 : Int)) (by rw [byte_small1 (by omega)]; exact IntWalk.u8_in _ (by omega))).from_ hB1.size
    refine hK _ _ _ (fun _ h => h) hx2 ?_
    (try simp only [Act.put, List.setIfInBounds_toArray, List.set_cons_zero, List.set_cons_succ])
    refine mixR_call (by rfl) (fun K hK => ?_)
    refine wp_append_ow okB _ (.tmp 9) (.tmp 14) _ rfl w.heap.size info_u8 Tryz.underlying22 rfl _ 1 1 [UInt8.ofNat n0] rfl ob2 A1 2 c1 _ (packL n1 2) rfl (oa2.rd okB) (packL_len _ _) (by unfold maxLen; omega) (by omega) hB2.size ?_
    intro A2 c2 w3 ow3 hg3 _
    have hB3 : Below w.heap.size w w3 := hB2.grown hg3 hB2.size (fun g hg => (ob2.lt g hg).1)
    have hx3 := hx2.grown hg3 (fun e => by have := (ob2.lt _ e).1; omega)
    refine hK _ _ _ (fun _ h => h) hx3 ?_
    (try simp only [Act.put, List.setIfInBounds_toArray, List.set_cons_zero, List.set_cons_succ])
    refine mixR_pure (v := ?_) (by rfl) (fun u hu => ?_) ?_
    rotate_left
    · go_simp
      (with_reducible rfl)
    (try simp only [Act.put, List.setIfInBounds_toArray, List.set_cons_zero, List.set_cons_succ])
    refine mixR_nil ?_
    clear hx0
    obtain ⟨_, _, _, _, y2, y3, _⟩ := hx3.seven
    go_wp2_with fail
    refine (l1Pack n2 2 _ (by omega) (by omega)).mono ?_
    rintro e w4 ⟨A4, c4, rfl, o4, hb4⟩
    have hB4 := hB3.trans (hb4.mono hB3.size)
    have hx4 := hx3.below hb4 hx3.lt
    have ow4 := ow3.below hb4 (Nat.le_refl _)
    clear y2 y3
    obtain ⟨_, _, _, _, y2, y3, _⟩ := hx4.seven
    go_wp2_with (at_builtin; refine wpList_append_ow okB _ rfl (.tmp 16) (.tmp 21) _ rfl w.heap.size info_u8 Tryz.underlying22 rfl A2 (1 + 2) c2 ([UInt8.ofNat n0] ++ packL n1 2) rfl ow4 A4 2 c4 _ (packL n2 2) rfl (o4.rd okB) (packL_len _ _) (by unfold maxLen; omega) (by omega) hB4.size ?_; intro A5 c5 w5 ow5 hg5 _; have hB5 := hB4.grown hg5 hB4.size (fun g hg => (ow4.lt g hg).1); have hx5 := hx4.grown hg5 (fun e => by have := (ow4.lt _ e).1; omega); clear y2 y3; obtain ⟨_, _, _, _, y2, y3, _⟩ := hx5.seven)
    refine (l1Pack n3 2 _ (by omega) (by omega)).mono ?_
    rintro e w6 ⟨A6, c6, rfl, o6, hb6⟩
    have hB6 := hB5.trans (hb6.mono hB5.size)
    have ow6 : Ow eB w6 w.heap.size A5 5 c5 ([UInt8.ofNat n0] ++ packL n1 2 ++ packL n2 2) := ow5.below hb6 (Nat.le_refl _)
    go_wp2_with (at_builtin; refine wpList_append_ow okB _ rfl (.tmp 23) (.tmp 29) _ rfl w.heap.size info_u8 Tryz.underlying22 rfl A5 5 c5 ([UInt8.ofNat n0] ++ packL n1 2 ++ packL n2 2) rfl ow6 A6 2 c6 _ (packL n3 2) rfl (o6.rd okB) (packL_len _ _) (by unfold maxLen; omega) (by omega) hB6.size ?_; intro A7 c7 w7 ow7 hg7 _; have hB7 := hB6.grown hg7 hB6.size (fun g hg => (ow6.lt g hg).1))
    go_ret
    exact ⟨A7, c7, rfl, ow7, hB7⟩
end Go.Proofs.YtmaillakhhdkfaaGreatDoor
/-
  A record's bytes: the model's.
-/
namespace Go.Proofs.YtmaillakhhdkfaaGreatDoor
set_option maxRecDepth 20000
open Go.RowKit
set_option linter.unusedSimpArgs false
set_option linter.unusedVariables false
attribute [local irreducible] mixW

theorem ow_oneR (w : World) (b : UInt8) (v : Int) (hv : v = (b.toNat : Int)) : Ow eB (w.alloc (.cells #[.int .u8 v] 5)) w.heap.size (some ⟨w.heap.size, 0, none⟩) 1 1 [b] :=
  Ow.lit w [b] _ 1 (Nat.le_refl _) (by unfold maxLen; omega) (by simp [Enc.row, eB, hv]) rfl
/-- A record with no fault: its numbers. -/
theorem rec_nat {a0 a1 a2 a3 a4 a5 a6 : Int} (h : recFaultM (a0, a1, (a2, a3, a4, a5), a6) = 0) : (∃ n0 n1 n2 n3 : Nat, a2 = n0 ∧ a3 = n1 ∧ a4 = n2 ∧ a5 = (n3 : Int) - 1000 ∧ n0 ≤ 9 ∧ n1 ≤ 999 ∧ n2 ≤ 9999 ∧ n3 ≤ 2000) ∧ (∃ p : Nat, a1 = p ∧ p ≤ 3) ∧ (∃ k : Nat, a6 = k ∧ k ≤ 60000 ∧ (a0 ≠ 4 → k ≤ 9999)) ∧ (a0 = 1 ∨ a0 = 2 ∨ a0 = 3 ∨ a0 = 4) ∧ recFormM (a0, a1, (a2, a3, a4, a5), a6) = true ∧ faultM (a2, a3, a4, a5) = 0 := by
  have hf : recFormM (a0, a1, (a2, a3, a4, a5), a6) = true := by
    rcases hf : recFormM (a0, a1, (a2, a3, a4, a5), a6)
    · rw [recFault_form hf] at h; cases h
    · rfl
  have h1 := h
  rw [recFault_range hf] at h1
  unfold rrangeM at h1
  rcases hb : (inB (a1, 0, 3) && inB (a6, 0, mostM (a0, a1, (a2, a3, a4, a5), a6)))
  · simp only [hb] at h1; cases h1
  · simp only [hb, if_true] at h1
    have hb2 : (0 ≤ a1 ∧ a1 ≤ 3) ∧ (0 ≤ a6 ∧ a6 ≤ mostM (a0, a1, (a2, a3, a4, a5), a6)) := by simpa [inB] using hb
    have hm : mostM (a0, a1, (a2, a3, a4, a5), a6) ≤ 60000 ∧ (a0 ≠ 4 → mostM (a0, a1, (a2, a3, a4, a5), a6) ≤ 9999) := by
      unfold mostM
      by_cases h4 : a0 = 4
      · rw [if_pos h4]; exact ⟨by omega, fun q => absurd h4 q⟩
      · rw [if_neg h4]; exact ⟨by omega, fun _ => by omega⟩
    have hk : a0 = 1 ∨ a0 = 2 ∨ a0 = 3 ∨ a0 = 4 := by
      by_cases k1 : a0 = 1
      · exact .inl k1
      by_cases k2 : a0 = 2
      · exact .inr (.inl k2)
      by_cases k3 : a0 = 3
      · exact .inr (.inr (.inl k3))
      by_cases k4 : a0 = 4
      · exact .inr (.inr (.inr k4))
      · unfold recFormM at hf; rw [if_neg k1, if_neg k2, if_neg k3, if_neg k4] at hf; cases hf
    refine ⟨faultM_nat h1, ⟨a1.toNat, by omega, by omega⟩, ⟨a6.toNat, by omega, by omega, fun q => by have := hm.2 q; omega⟩, hk, hf, h1⟩
theorem encSb_nat (n0 n1 n2 n3 : Nat) : encSb ((n0 : Int), (n1 : Int), (n2 : Int), (n3 : Int) - 1000) = encL n0 n1 n2 n3 := by
  unfold encSb
  simp only [Int.toNat_natCast, Int.sub_add_cancel]
theorem packL_is (k s : Nat) : packL ((k : Int)).toNat s = packL k s := by rw [Int.toNat_natCast]

set_option maxHeartbeats 4000000 in
theorem l5Encode (g : Nat) (a0 a1 a2 a3 a4 a5 a6 : Int) (w : World) (hx : At w g 27 #[.int .i64 a0, .int .i64 a1, .int .i64 a2, .int .i64 a3, .int .i64 a4, .int .i64 a5, .int .i64 a6]) (h : recFaultM (a0, a1, (a2, a3, a4, a5), a6) = 0) :
    Calls Tryz.prog 40 #[.pointer (some ⟨g, 0, none⟩)] w fun e w' => ∃ A n c, e = .returned (.slice A n c) ∧ Ow eB w' w.heap.size A n c (encR (a0, a1, (a2, a3, a4, a5), a6)) ∧ Below w.heap.size w w' := by
  obtain ⟨⟨n0, n1, n2, n3, rfl, rfl, rfl, rfl, k0, k1, k2, k3⟩, ⟨p, rfl, kp⟩, ⟨k, rfl, kk, kk2⟩, hk, -, -⟩ := rec_nat h
  clear h
  have hg := hx.lt
  rcases hk with rfl | rfl | rfl | rfl
  · rw [encR_1, encSb_nat]
    have hx0 := hx.alloc (.cells #[.int .u8 1] 5)
    have hB0 : Below w.heap.size w (w.alloc (.cells #[.int .u8 1] 5)) := (Below.refl _ _).alloc (Nat.le_refl _) _
    have ob := ow_oneR w 1 1 rfl
    obtain ⟨c0, c1, c2, c3, c4, c5, c6⟩ := hx.seven
    obtain ⟨y0, y1, y2, y3, y4, y5, y6⟩ := hx0.seven
    go_enter Tryz.func40, Tryz.ntmps40
    go_wp2_with fail
    refine (l2EncodeR g n0 n1 n2 n3 1 p k _ hx0 k0 k1 k2 k3).mono ?_
    rintro e w2 ⟨A2, c2', rfl, o2, hb2⟩
    have hB2 := hB0.trans (hb2.mono hB0.size)
    have ob2 := ob.below hb2 (Nat.le_refl _)
    go_wp2_with (at_builtin; refine wpList_append_ow okB _ rfl (.tmp 16) (.tmp 20) _ rfl w.heap.size info_u8 Tryz.underlying22 rfl _ 1 1 [1] rfl ob2 A2 7 c2' _ (encL n0 n1 n2 n3) rfl (o2.rd okB) (o2.len okB) (by unfold maxLen; omega) (by omega) hB2.size ?_; intro A9 c9 w9 ow9 hg9 _)
    go_ret
    exact ⟨A9, _, c9, rfl, ow9, hB2.grown hg9 hB2.size (fun g hg => (ob2.lt g hg).1)⟩
  · rw [encR_2, encSb_nat]
    have hx0 := hx.alloc (.cells #[.int .u8 2] 5)
    have hB0 : Below w.heap.size w (w.alloc (.cells #[.int .u8 2] 5)) := (Below.refl _ _).alloc (Nat.le_refl _) _
    have ob := ow_oneR w 2 2 rfl
    obtain ⟨c0, c1, c2, c3, c4, c5, c6⟩ := hx.seven
    obtain ⟨y0, y1, y2, y3, y4, y5, y6⟩ := hx0.seven
    go_enter Tryz.func40, Tryz.ntmps40
    go_wp2
    refine wp_region_mix [(0, false), (1, false), (2, false), (3, false), (4, false), (5, false), (8, false), (9, false), (10, false), (6, true), (7, true), (11, true), (12, true), (13, false)] (fun u => At u g 27 #[.int .i64 2, .int .i64 p, .int .i64 n0, .int .i64 n1, .int .i64 n2, .int .i64 ((n3 : Int) - 1000), .int .i64 k]) (by kernel_rfl) (by kernel_rfl) (fun _ _ _ _ _ h => h) hx0.drew ?_
    simp only [mixOps, List.map_cons, List.map_nil, List.getElem?_cons_succ, List.getElem?_cons_zero, Option.getD_some]
    repeat (first
        | (refine mix_skip (by rfl) ?_
           (try simp only [Act.put, List.setIfInBounds_toArray, List.set_cons_zero, List.set_cons_succ]))
        | (refine mix_pure (v := ?_) (by rfl) (fun u hu => ?_) ?_
           rotate_left
           · obtain ⟨_, _, _, _, _, _, _⟩ := hu.seven
             go_simp
             (with_reducible rfl)
           (try simp only [Act.put, List.setIfInBounds_toArray, List.set_cons_zero, List.set_cons_succ])))
    have hB0 := hB0.drew
    have X0 : At (w.alloc (.cells #[.int .u8 2] 5)).drew g 27 #[.int .i64 2, .int .i64 p, .int .i64 n0, .int .i64 n1, .int .i64 n2, .int .i64 ((n3 : Int) - 1000), .int .i64 k] := hx0.drew
    have ob : Ow eB (w.alloc (.cells #[.int .u8 2] 5)).drew w.heap.size (some ⟨w.heap.size, 0, none⟩) 1 1 [2] := ob
    generalize (w.alloc (.cells #[.int .u8 2] 5)).drew = v0 at *
    refine mix_call (by rfl) (fun K hK => ?_)
    go_simp
    have X1 := X0.alloc (.cells #[.int .u8 (IntKind.u8.wrap (p : Int))] 5)
    have hB1 := hB0.alloc hB0.size (.cells #[.int .u8 (IntKind.u8.wrap (p : Int))] 5)
    have ob1 := ob.alloc (.cells #[.int .u8 (IntKind.u8.wrap (p : Int))] 5)
    have oc1 := (ow_oneR v0 (UInt8.ofNat p) (IntKind.u8.wrap (p : Int)) (by rw [byte_small1 (by omega)]; exact IntWalk.u8_in _ (by omega)))
    refine hK _ _ (fun u => At u g 27 #[.int .i64 2, .int .i64 p, .int .i64 n0, .int .i64 n1, .int .i64 n2, .int .i64 ((n3 : Int) - 1000), .int .i64 k]) (fun _ h => h) X1 ?_
    clear hK K
    (try simp only [Act.put, List.setIfInBounds_toArray, List.set_cons_zero, List.set_cons_succ])
    refine mix_call (by rfl) (fun K hK => ?_)
    refine wp_append_ow okB _ (.tmp 24) (.tmp 30) _ rfl w.heap.size info_u8 Tryz.underlying22 rfl _ 1 1 [2] rfl ob1 _ 1 1 _ [UInt8.ofNat p] rfl (oc1.rd okB) rfl (by unfold maxLen; omega) (by omega) hB1.size ?_
    intro A3 c3' w3 ow3 hg3 _
    have hB3 : Below w.heap.size w w3 := hB1.grown hg3 hB1.size (fun g hg => (ob1.lt g hg).1)
    have X3 := X1.grown hg3 (fun e => by have := (ob1.lt _ e).1; omega)
    refine hK _ _ (fun u => At u g 27 #[.int .i64 2, .int .i64 p, .int .i64 n0, .int .i64 n1, .int .i64 n2, .int .i64 ((n3 : Int) - 1000), .int .i64 k]) (fun _ h => h) X3 ?_
    clear hK K
    (try simp only [Act.put, List.setIfInBounds_toArray, List.set_cons_zero, List.set_cons_succ])
    refine mix_call (by rfl) (fun K hK => ?_)
    go_simp
    refine (l2EncodeR g n0 n1 n2 n3 2 p k _ X3 k0 k1 k2 k3).mono ?_
    rintro e w4 ⟨A4, c4', rfl, o4, hb4⟩
    have hB4 := hB3.trans (hb4.mono hB3.size)
    have X4 := X3.below hb4 X3.lt
    have ow4 := ow3.below hb4 (Nat.le_refl _)
    refine hK _ _ (fun u => At u g 27 #[.int .i64 2, .int .i64 p, .int .i64 n0, .int .i64 n1, .int .i64 n2, .int .i64 ((n3 : Int) - 1000), .int .i64 k]) (fun _ h => h) X4 ?_
    clear hK K
    (try simp only [Act.put, List.setIfInBounds_toArray, List.set_cons_zero, List.set_cons_succ])
    refine mix_call (by rfl) (fun K hK => ?_)
    refine wp_append_ow okB _ (.tmp 31) (.tmp 35) _ rfl w.heap.size info_u8 Tryz.underlying22 rfl A3 (1 + 1) c3' ([2] ++ [UInt8.ofNat p]) rfl ow4 A4 7 c4' _ (encL n0 n1 n2 n3) rfl (o4.rd okB) (o4.len okB) (by unfold maxLen; omega) (by omega) hB4.size ?_
    intro A9 c9 w9 ow9 hg9 _
    have hB9 : Below w.heap.size w w9 := hB4.grown hg9 hB4.size (fun g hg => (ow4.lt g hg).1)
    have X9 := X4.grown hg9 (fun e => by have := (ow4.lt _ e).1; omega)
    refine hK _ _ (fun u => At u g 27 #[.int .i64 2, .int .i64 p, .int .i64 n0, .int .i64 n1, .int .i64 n2, .int .i64 ((n3 : Int) - 1000), .int .i64 k]) (fun _ h => h) X9 ?_
    clear hK K
    (try simp only [Act.put, List.setIfInBounds_toArray, List.set_cons_zero, List.set_cons_succ])
    refine mix_pure (v := ?_) (by rfl) (fun u hu => ?_) ?_
    rotate_left
    · go_simp
      (with_reducible rfl)
    (try simp only [Act.put, List.setIfInBounds_toArray, List.set_cons_zero, List.set_cons_succ])
    refine mix_nil ?_
    go_wp2
    go_ret
    exact ⟨A9, _, c9, rfl, ow9, hB9⟩
  · rw [encR_3, packL_is]
    have hx0 := hx.alloc (.cells #[.int .u8 3] 5)
    have hB0 : Below w.heap.size w (w.alloc (.cells #[.int .u8 3] 5)) := (Below.refl _ _).alloc (Nat.le_refl _) _
    have ob := ow_oneR w 3 3 rfl
    obtain ⟨c0, c1, c2, c3, c4, c5, c6⟩ := hx.seven
    obtain ⟨y0, y1, y2, y3, y4, y5, y6⟩ := hx0.seven
    go_enter Tryz.func40, Tryz.ntmps40
    go_wp2
    refine wp_region_mix [(0, false), (1, false), (2, false), (3, false), (4, false), (5, false), (8, false), (9, false), (10, false), (11, false), (6, true), (7, true), (12, true), (13, true), (14, false)] (fun u => At u g 27 #[.int .i64 3, .int .i64 p, .int .i64 n0, .int .i64 n1, .int .i64 n2, .int .i64 ((n3 : Int) - 1000), .int .i64 k]) (by kernel_rfl) (by kernel_rfl) (fun _ _ _ _ _ h => h) hx0.drew ?_
    simp only [mixOps, List.map_cons, List.map_nil, List.getElem?_cons_succ, List.getElem?_cons_zero, Option.getD_some]
    repeat (first
        | (refine mix_skip (by rfl) ?_
           (try simp only [Act.put, List.setIfInBounds_toArray, List.set_cons_zero, List.set_cons_succ]))
        | (refine mix_pure (v := ?_) (by rfl) (fun u hu => ?_) ?_
           rotate_left
           · obtain ⟨_, _, _, _, _, _, _⟩ := hu.seven
             go_simp
             (with_reducible rfl)
           (try simp only [Act.put, List.setIfInBounds_toArray, List.set_cons_zero, List.set_cons_succ])))
    have hB0 := hB0.drew
    have X0 : At (w.alloc (.cells #[.int .u8 3] 5)).drew g 27 #[.int .i64 3, .int .i64 p, .int .i64 n0, .int .i64 n1, .int .i64 n2, .int .i64 ((n3 : Int) - 1000), .int .i64 k] := hx0.drew
    have ob : Ow eB (w.alloc (.cells #[.int .u8 3] 5)).drew w.heap.size (some ⟨w.heap.size, 0, none⟩) 1 1 [3] := ob
    generalize (w.alloc (.cells #[.int .u8 3] 5)).drew = v0 at *
    refine mix_call (by rfl) (fun K hK => ?_)
    go_simp
    have X1 := X0.alloc (.cells #[.int .u8 (IntKind.u8.wrap (p : Int))] 5)
    have hB1 := hB0.alloc hB0.size (.cells #[.int .u8 (IntKind.u8.wrap (p : Int))] 5)
    have ob1 := ob.alloc (.cells #[.int .u8 (IntKind.u8.wrap (p : Int))] 5)
    have oc1 := (ow_oneR v0 (UInt8.ofNat p) (IntKind.u8.wrap (p : Int)) (by rw [byte_small1 (by omega)]; exact IntWalk.u8_in _ (by omega)))
    refine hK _ _ (fun u => At u g 27 #[.int .i64 3, .int .i64 p, .int .i64 n0, .int .i64 n1, .int .i64 n2, .int .i64 ((n3 : Int) - 1000), .int .i64 k]) (fun _ h => h) X1 ?_
    clear hK K
    (try simp only [Act.put, List.setIfInBounds_toArray, List.set_cons_zero, List.set_cons_succ])
    refine mix_call (by rfl) (fun K hK => ?_)
    refine wp_append_ow okB _ (.tmp 39) (.tmp 45) _ rfl w.heap.size info_u8 Tryz.underlying22 rfl _ 1 1 [3] rfl ob1 _ 1 1 _ [UInt8.ofNat p] rfl (oc1.rd okB) rfl (by unfold maxLen; omega) (by omega) hB1.size ?_
    intro A3 c3' w3 ow3 hg3 _
    have hB3 : Below w.heap.size w w3 := hB1.grown hg3 hB1.size (fun g hg => (ob1.lt g hg).1)
    have X3 := X1.grown hg3 (fun e => by have := (ob1.lt _ e).1; omega)
    refine hK _ _ (fun u => At u g 27 #[.int .i64 3, .int .i64 p, .int .i64 n0, .int .i64 n1, .int .i64 n2, .int .i64 ((n3 : Int) - 1000), .int .i64 k]) (fun _ h => h) X3 ?_
    clear hK K
    (try simp only [Act.put, List.setIfInBounds_toArray, List.set_cons_zero, List.set_cons_succ])
    refine mix_call (by rfl) (fun K hK => ?_)
    go_simp
    refine (l1Pack k 2 _ (by omega) (by omega)).mono ?_
    rintro e w4 ⟨A4, c4', rfl, o4, hb4⟩
    have hB4 := hB3.trans (hb4.mono hB3.size)
    have X4 := X3.below hb4 X3.lt
    have ow4 := ow3.below hb4 (Nat.le_refl _)
    refine hK _ _ (fun u => At u g 27 #[.int .i64 3, .int .i64 p, .int .i64 n0, .int .i64 n1, .int .i64 n2, .int .i64 ((n3 : Int) - 1000), .int .i64 k]) (fun _ h => h) X4 ?_
    clear hK K
    (try simp only [Act.put, List.setIfInBounds_toArray, List.set_cons_zero, List.set_cons_succ])
    refine mix_call (by rfl) (fun K hK => ?_)
    refine wp_append_ow okB _ (.tmp 46) (.tmp 51) _ rfl w.heap.size info_u8 Tryz.underlying22 rfl A3 (1 + 1) c3' ([3] ++ [UInt8.ofNat p]) rfl ow4 A4 2 c4' _ (packL k 2) rfl (o4.rd okB) (packL_len _ _) (by unfold maxLen; omega) (by omega) hB4.size ?_
    intro A9 c9 w9 ow9 hg9 _
    have hB9 : Below w.heap.size w w9 := hB4.grown hg9 hB4.size (fun g hg => (ow4.lt g hg).1)
    have X9 := X4.grown hg9 (fun e => by have := (ow4.lt _ e).1; omega)
    refine hK _ _ (fun u => At u g 27 #[.int .i64 3, .int .i64 p, .int .i64 n0, .int .i64 n1, .int .i64 n2, .int .i64 ((n3 : Int) - 1000), .int .i64 k]) (fun _ h => h) X9 ?_
    clear hK K
    (try simp only [Act.put, List.setIfInBounds_toArray, List.set_cons_zero, List.set_cons_succ])
    refine mix_pure (v := ?_) (by rfl) (fun u hu => ?_) ?_
    rotate_left
    · go_simp
      (with_reducible rfl)
    (try simp only [Act.put, List.setIfInBounds_toArray, List.set_cons_zero, List.set_cons_succ])
    refine mix_nil ?_
    go_wp2
    go_ret
    exact ⟨A9, _, c9, rfl, ow9, hB9⟩
  · rw [encR_4, packL_is]
    have hx0 := hx.alloc (.cells #[.int .u8 4] 5)
    have hB0 : Below w.heap.size w (w.alloc (.cells #[.int .u8 4] 5)) := (Below.refl _ _).alloc (Nat.le_refl _) _
    have ob := ow_oneR w 4 4 rfl
    obtain ⟨c0, c1, c2, c3, c4, c5, c6⟩ := hx.seven
    obtain ⟨y0, y1, y2, y3, y4, y5, y6⟩ := hx0.seven
    go_enter Tryz.func40, Tryz.ntmps40
    go_wp2_with fail
    refine (l1Pack k 2 _ (by omega) (by omega)).mono ?_
    rintro e w2 ⟨A2, c2', rfl, o2, hb2⟩
    have hB2 := hB0.trans (hb2.mono hB0.size)
    have ob2 := ob.below hb2 (Nat.le_refl _)
    go_wp2_with (at_builtin; refine wpList_append_ow okB _ rfl (.tmp 53) (.tmp 58) _ rfl w.heap.size info_u8 Tryz.underlying22 rfl _ 1 1 [4] rfl ob2 A2 2 c2' _ (packL k 2) rfl (o2.rd okB) (packL_len _ _) (by unfold maxLen; omega) (by omega) hB2.size ?_; intro A9 c9 w9 ow9 hg9 _)
    go_ret
    exact ⟨A9, _, c9, rfl, ow9, hB2.grown hg9 hB2.size (fun g hg => (ob2.lt g hg).1)⟩

theorem encR_len (r : Rcd) : (encR r).length ≤ 9 := by
  unfold encR encT
  repeat (first | split | (simp [encSb_len, packL_len]))
theorem encRecM_len (r : Rcd) : (encRecM r).2.length ≤ 9 := by
  unfold encRecM
  split
  · exact encR_len r
  · simp
theorem encRecM_code (r : Rcd) : (encRecM r).1 = recFaultM r := by
  unfold encRecM
  by_cases h : recFaultM r = 0
  · rw [if_pos h, h]
  · rw [if_neg h]
set_option maxHeartbeats 1000000 in
theorem specEncodeRecord (a0 a1 a2 a3 a4 a5 a6 : Int) (w : World) :
    Calls Tryz.prog 14 #[.agg #[.int .i64 a0, .int .i64 a1, .int .i64 a2, .int .i64 a3, .int .i64 a4, .int .i64 a5, .int .i64 a6]] w fun e w' => RetBR (encRecM (a0, a1, (a2, a3, a4, a5), a6)) w e w' := by
  have hB0 : Below w.heap.size w ((w.alloc (.cells #[.int .i64 a0, .int .i64 a1, .int .i64 a2, .int .i64 a3, .int .i64 a4, .int .i64 a5, .int .i64 a6] 27)).alloc (.cells #[.int .i64 0, .slice none 0 0] 30)) := ((Below.refl _ _).alloc (Nat.le_refl _) _).alloc (by simp) _
  have x0 := (At.new w 27 #[.int .i64 a0, .int .i64 a1, .int .i64 a2, .int .i64 a3, .int .i64 a4, .int .i64 a5, .int .i64 a6]).alloc (.cells #[.int .i64 0, .slice none 0 0] 30)
  have r0 := At.new (w.alloc (.cells #[.int .i64 a0, .int .i64 a1, .int .i64 a2, .int .i64 a3, .int .i64 a4, .int .i64 a5, .int .i64 a6] 27)) 30 #[.int .i64 0, .slice none 0 0]
  rw [show (w.alloc (.cells #[.int .i64 a0, .int .i64 a1, .int .i64 a2, .int .i64 a3, .int .i64 a4, .int .i64 a5, .int .i64 a6] 27)).heap.size = w.heap.size + 1 by simp] at r0
  obtain ⟨c0, c1, c2, c3, c4, c5, c6⟩ := x0.seven
  have hq := specRecordFault a0 a1 a2 a3 a4 a5 a6 ((w.alloc (.cells #[.int .i64 a0, .int .i64 a1, .int .i64 a2, .int .i64 a3, .int .i64 a4, .int .i64 a5, .int .i64 a6] 27)).alloc (.cells #[.int .i64 0, .slice none 0 0] 30))
  by_cases h : recFaultM (a0, a1, (a2, a3, a4, a5), a6) = 0
  · rw [h] at hq
    have Hr := Lib.hid (show encRecM (a0, a1, (a2, a3, a4, a5), a6) = (0, encR (a0, a1, (a2, a3, a4, a5), a6)) from if_pos h)
    have LE := fun W hw => l5Encode w.heap.size a0 a1 a2 a3 a4 a5 a6 W hw h
    clear h
    go_enter Tryz.func14, Tryz.ntmps14
    go_wp2_with fail
    refine hq.mono ?_
    rintro e w1 ⟨rfl, hb1⟩
    have hB1 := hB0.trans (hb1.mono hB0.size)
    have x1 := x0.below hb1 x0.lt
    have r1 := r0.below hb1 r0.lt
    go_wp2_with fail
    refine (LE _ x1).mono ?_
    rintro e w2 ⟨A, n, c, rfl, ow, hb2⟩
    have hB2 := hB1.trans (hb2.mono hB1.size)
    have r2 := r1.below hb2 r1.lt
    obtain ⟨d0, d1, f0, f1⟩ := r2.two
    go_wp2_with fail
    refine bodyPost_ret (v := .agg #[.int .i64 0, .slice A n c]) (by simp [results, Tryz.results14, go_sem, d0, d1]) rfl ?_
    rw [Hr.out]
    exact ⟨A, n, c, rfl, ((ow.under (p := ⟨w.heap.size + 1, 0, none⟩) r1.lt _).under (p := ⟨w.heap.size + 1, 1, none⟩) r1.lt _).from_ hB1.size, (hB2.setCell (by simp) _).setCell (by simp) _⟩
  · have Hr := Lib.hid (show encRecM (a0, a1, (a2, a3, a4, a5), a6) = (recFaultM (a0, a1, (a2, a3, a4, a5), a6), []) from if_neg h)
    have hne : (recFaultM (a0, a1, (a2, a3, a4, a5), a6) != 0) = true := by rw [bne_iff_ne]; exact h
    rw [Hr.out]
    clear Hr h
    generalize recFaultM (a0, a1, (a2, a3, a4, a5), a6) = rf at *
    go_enter Tryz.func14, Tryz.ntmps14
    go_wp2_with fail
    refine hq.mono ?_
    rintro e w1 ⟨rfl, hb1⟩
    have hB1 := hB0.trans (hb1.mono hB0.size)
    have r1 := r0.below hb1 r0.lt
    obtain ⟨d0, d1, f0, f1⟩ := r1.two
    go_wp2_with fail
    refine bodyPost_ret (v := .agg #[.int .i64 rf, .slice none 0 0]) (by simp [results, Tryz.results14, go_sem, d0, d1]) rfl ?_
    exact ⟨none, 0, 0, rfl, Ow.nil, (hB1.setCell (by simp) _).setCell (by simp) _⟩
end Go.Proofs.YtmaillakhhdkfaaGreatDoor
