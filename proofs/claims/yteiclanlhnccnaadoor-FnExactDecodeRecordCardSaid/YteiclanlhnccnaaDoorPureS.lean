/-
  What the law of samples says, of the pure answers.
-/
import Derived.Test.YteiclanlhnccnaaDoorDecI
namespace Go.Proofs.YteiclanlhnccnaaDoor
set_option maxRecDepth 20000
open Go.RowKit

theorem keys_three (a b : Smp) : (aheadM a b = true ∧ aheadM b a = false ∧ sameKeyM a b = false) ∨ (aheadM a b = false ∧ aheadM b a = true ∧ sameKeyM a b = false) ∨ (aheadM a b = false ∧ aheadM b a = false ∧ sameKeyM a b = true) := by
  obtain ⟨a0, a1, a2, a3⟩ := a
  obtain ⟨b0, b1, b2, b3⟩ := b
  unfold aheadM sameKeyM
  simp only
  rcases Int.lt_trichotomy a0 b0 with h | h | h
  · have h1 : ¬ a0 = b0 := by omega
    have h2 : ¬ b0 = a0 := by omega
    have h3 : ¬ b0 < a0 := by omega
    exact .inl ⟨by simp [h1, h], by simp [h2, h3], by simp [h1]⟩
  · subst h
    rcases Int.lt_trichotomy a1 b1 with h | h | h
    · have h1 : ¬ a1 = b1 := by omega
      have h2 : ¬ b1 = a1 := by omega
      have h3 : ¬ b1 < a1 := by omega
      exact .inl ⟨by simp [h], by simp [h2]; omega, by simp [h1]⟩
    · subst h
      rcases Int.lt_trichotomy a2 b2 with h | h | h
      · exact .inl ⟨by simp [h], by simp; omega, by simp; omega⟩
      · subst h
        exact .inr (.inr ⟨by simp, by simp, by simp⟩)
      · exact .inr (.inl ⟨by simp; omega, by simp [h], by simp; omega⟩)
    · have h1 : ¬ a1 = b1 := by omega
      exact .inr (.inl ⟨by simp [h1]; omega, by simp [h], by simp [h1]⟩)
  · have h1 : ¬ a0 = b0 := by omega
    have h2 : ¬ b0 = a0 := by omega
    exact .inr (.inl ⟨by simp [h1]; omega, by simp [h2, h], by simp [h1]⟩)

theorem encodeM_code (x : Smp) : (encodeM x).1 = faultM x := by
  unfold encodeM
  rcases faultM_or x with h | h <;> rw [h] <;> rfl

theorem readAt_two {l : List UInt8} {p : Nat} {a b : UInt8} (ha : l[p]? = some a) (hb : l[p + 1]? = some b) : readAt l p 2 0 = a.toNat + 256 * b.toNat := by
  rw [readAt_step (l := l) (p := p) (s := 2) (j := 0) (by omega) (by simpa using ha), readAt_step (l := l) (p := p) (s := 2) (j := 1) (by omega) hb, readAt_end]
  omega

theorem byte_lo (a b : UInt8) : UInt8.ofNat (a.toNat + 256 * b.toNat) = a := by
  apply UInt8.toNat.inj
  rw [UInt8.toNat_ofNat']
  have := a.toNat_lt
  omega
theorem byte_hi (a b : UInt8) : UInt8.ofNat ((a.toNat + 256 * b.toNat) / 256) = b := by
  apply UInt8.toNat.inj
  rw [UInt8.toNat_ofNat']
  have := a.toNat_lt
  have := b.toNat_lt
  omega
theorem byte_self (a : UInt8) : UInt8.ofNat a.toNat = a := by
  apply UInt8.toNat.inj
  rw [UInt8.toNat_ofNat']
  have := a.toNat_lt
  omega

/-- What is read is what was written. -/
theorem decode_encode {l : List UInt8} (h : (decodeM l).1 = 0) : encodeM (decodeM l).2 = (0, l) := by
  by_cases h7 : l.length = 7
  · rcases faultM_or (unpM l) with hf | hf
    · rw [decodeM_yes h7 rfl hf]
      show encodeM (unpM l) = (0, l)
      unfold encodeM
      rw [if_pos hf]
      obtain ⟨x0, x1, x2, x3, x4, x5, x6, rfl⟩ := seven_of h7
      unfold unpM
      rw [read_one (x := x0) rfl, readAt_two (p := 1) (a := x1) (b := x2) rfl rfl, readAt_two (p := 3) (a := x3) (b := x4) rfl rfl, readAt_two (p := 5) (a := x5) (b := x6) rfl rfl]
      simp only [Int.toNat_natCast, Int.sub_add_cancel]
      rw [encL_eq, byte_self, byte_lo, byte_hi, byte_lo, byte_hi, byte_lo, byte_hi]
    · rw [decodeM_no h7 rfl hf] at h
      cases h
  · rw [decodeM_len h7] at h
    cases h

theorem small_two {n : Nat} (h : n ≤ 9999) : (UInt8.ofNat n).toNat + 256 * (UInt8.ofNat (n / 256)).toNat = n := by
  rw [UInt8.toNat_ofNat', UInt8.toNat_ofNat']
  omega
/-- What is written is read. -/
theorem encode_decode {x : Smp} (h : faultM x = 0) : (encodeM x).2.length = 7 ∧ decodeM (encodeM x).2 = (0, x) := by
  obtain ⟨a0, a1, a2, a3⟩ := x
  obtain ⟨n0, n1, n2, n3, rfl, rfl, rfl, rfl, k0, k1, k2, k3⟩ := faultM_nat h
  rw [encodeM_nat h]
  have hl : (encL n0 n1 n2 n3).length = 7 := by rw [encL_eq]; rfl
  refine ⟨hl, ?_⟩
  have hu : unpM (encL n0 n1 n2 n3) = ((n0 : Int), (n1 : Int), (n2 : Int), (n3 : Int) - 1000) := by
    rw [encL_eq]
    unfold unpM
    rw [read_one (x := UInt8.ofNat n0) rfl, readAt_two (p := 1) (a := UInt8.ofNat n1) (b := UInt8.ofNat (n1 / 256)) rfl rfl, readAt_two (p := 3) (a := UInt8.ofNat n2) (b := UInt8.ofNat (n2 / 256)) rfl rfl, readAt_two (p := 5) (a := UInt8.ofNat n3) (b := UInt8.ofNat (n3 / 256)) rfl rfl,
      small_two (by omega), small_two (by omega), small_two (by omega)]
    rw [show (UInt8.ofNat n0).toNat = n0 by rw [UInt8.toNat_ofNat']; omega]
  exact decodeM_yes hl hu h
end Go.Proofs.YteiclanlhnccnaaDoor
