/-
  What holds of the pure functions: a word read back; frames read back; one byte that is another one changes the sum.
-/
import Derived.Test.YtkdfbaiolgndeaaFrames
import Derived.Test.YtkdfbaiolgndeaaRead
import Derived.Test.YtkdfbaiolgndeaaWord
import Derived.Test.YtkdfbaiolgndeaaPack
namespace Go.Proofs.Ytkdfbaiolgndeaa
open Go.RowKit

/-! ### Words -/
theorem packL_cons (m s : Nat) : packL m (s + 1) = UInt8.ofNat m :: packL (m / 256) s := by
  unfold packL
  rw [List.range_succ_eq_map, List.map_cons, List.map_map, Nat.pow_zero, Nat.div_one]
  congr 1
  apply List.map_congr_left
  intro i _
  simp only [Function.comp]
  rw [Nat.div_div_eq_div_mul, Nat.pow_succ, Nat.mul_comm]
theorem readV_pack : ∀ (s m : Nat), readV (packL m s) = m % 256 ^ s
  | 0, m => by rw [Nat.pow_zero, Nat.mod_one]; rfl
  | s + 1, m => by
    rw [packL_cons, readV, readV_pack s (m / 256), UInt8.toNat_ofNat', show 256 ^ (s + 1) = 256 * 256 ^ s by rw [Nat.pow_succ, Nat.mul_comm], Nat.mod_mul]
    omega
theorem read_back {n s : Int} (h : (packM n s).1 = 0) : readM (packM n s).2 0 s = (0, n) := by
  unfold packM at *
  split at h
  · rename_i hc
    rw [if_pos hc]
    obtain ⟨h1, h4, h0, hlt⟩ := hc
    obtain ⟨m, rfl⟩ := Int.eq_ofNat_of_zero_le h0
    obtain ⟨t, rfl⟩ := Int.eq_ofNat_of_zero_le (show 0 ≤ s by omega)
    have hlt' : m < 256 ^ t := by
      have : ((256 ^ t : Nat) : Int) = (256 : Int) ^ (t : Int).toNat := by rw [Int.toNat_natCast, Int.natCast_pow]; rfl
      rw [← this] at hlt
      exact_mod_cast hlt
    simp only [Int.toNat_natCast]
    have := readM_nat (l := packL m t) (p := 0) (s := t) ⟨by omega, by omega, by rw [packL_len]; omega⟩
    simp only [Int.natCast_zero] at this
    rw [this]
    unfold readAt
    rw [Nat.add_zero, List.drop_zero, Nat.sub_zero, List.take_of_length_le (by rw [packL_len]; omega), readV_pack, Nat.mod_eq_of_lt hlt']
  · simp at h

/-! ### Sums -/
theorem xor_cancel {a b c : Nat} (h : a ^^^ c = b ^^^ c) : a = b := by
  have := congrArg (· ^^^ c) h
  simpa [Nat.xor_assoc] using this
theorem crcS_inj {a b : Nat} (ha : a < 65536) (hb : b < 65536) (h : crcS a = crcS b) : a = b := by
  unfold crcS at h
  split at h <;> split at h
  · have := xor_cancel h
    omega
  · have h2 : (a * 2 % 65536 ^^^ 4129) % 2 = 1 := by rw [Nat.xor_mod_two_eq_one]; omega
    rw [h] at h2
    omega
  · have h2 : (b * 2 % 65536 ^^^ 4129) % 2 = 1 := by rw [Nat.xor_mod_two_eq_one]; omega
    rw [← h] at h2
    omega
  · omega
theorem crcK_inj {a b : Nat} (ha : a < 65536) (hb : b < 65536) : ∀ k, crcK k a = crcK k b → a = b
  | 0, h => h
  | k + 1, h => crcK_inj ha hb k (crcS_inj (crcK_lt ha k) (crcK_lt hb k) h)
theorem crcB_inj {a b : Nat} (ha : a < 65536) (hb : b < 65536) (x : UInt8) (h : crcB a x = crcB b x) : a = b := by
  have hx := x.toNat_lt
  exact xor_cancel (crcK_inj (xor16 ha (by omega)) (xor16 hb (by omega)) 8 h)
theorem crcB_byte {a : Nat} (ha : a < 65536) {x y : UInt8} (h : crcB a x = crcB a y) : x = y := by
  have hx := x.toNat_lt
  have hy := y.toNat_lt
  have h1 := crcK_inj (xor16 ha (by omega)) (xor16 ha (by omega)) 8 h
  rw [Nat.xor_comm, Nat.xor_comm a] at h1
  have h2 := xor_cancel h1
  exact UInt8.toNat_inj.1 (by omega)
theorem fold_inj (l : List UInt8) : ∀ {a b : Nat}, a < 65536 → b < 65536 → l.foldl crcB a = l.foldl crcB b → a = b := by
  induction l with
  | nil => intro a b _ _ h; exact h
  | cons x l ih => intro a b ha hb h; rw [List.foldl_cons, List.foldl_cons] at h; exact crcB_inj ha hb x (ih (crcB_lt ha x) (crcB_lt hb x) h)
theorem fold_set (l : List UInt8) : ∀ (i : Nat) {a : Nat} {x y : UInt8}, a < 65536 → l[i]? = some x → l.foldl crcB a = (l.set i y).foldl crcB a → x = y := by
  induction l with
  | nil => intro i a x y _ h; simp at h
  | cons z l ih =>
    intro i a x y ha h he
    cases i with
    | zero =>
      obtain rfl : z = x := by simpa using h
      rw [List.set_cons_zero, List.foldl_cons, List.foldl_cons] at he
      exact crcB_byte ha (fold_inj l (crcB_lt ha z) (crcB_lt ha y) he)
    | succ i =>
      rw [List.set_cons_succ, List.foldl_cons, List.foldl_cons] at he
      exact ih i (crcB_lt ha z) (by simpa using h) he
theorem sumL_inj {f g : List UInt8} (h : sumL f = sumL g) : sumN f = sumN g := by
  unfold sumL at h
  have hf := sumN_lt f
  have hg := sumN_lt g
  simp only [List.cons.injEq, and_true] at h
  have h1 := congrArg UInt8.toNat h.1
  have h2 := congrArg UInt8.toNat h.2
  rw [UInt8.toNat_ofNat', UInt8.toNat_ofNat'] at h1 h2
  omega

/-! ### Frames -/
theorem first_frame {b : List UInt8} (h1 : 1 ≤ b.length) (h2 : b.length ≤ 40) : firstM (frameL b) = some b := by
  have hn : (UInt8.ofNat b.length).toNat = b.length := by rw [UInt8.toNat_ofNat']; omega
  have ht : (b ++ sumL (frontL b)).take b.length = b := by simp
  have := firstM_yes (b := UInt8.ofNat b.length) (r := b ++ sumL (frontL b)) (by
    rw [hn, ht]
    refine ⟨h1, h2, by simp [sumL], ?_⟩
    rw [List.take_of_length_le (by simp [sumL])]
    rfl)
  rw [hn, ht] at this
  exact this
theorem frames_one {b : List UInt8} (h1 : 1 ≤ b.length) (h2 : b.length ≤ 40) : framesM (frameL b) = (0, [b], ((b.length + 3 : Nat) : Int)) := by
  have hf := first_frame h1 h2
  have hl := frameL_len b
  have hp : posF (frameL b) 1 = b.length + 3 := by
    simp only [posF, List.drop_zero, Nat.zero_add]
    exact frontM_yes hf
  have hE : EndF (frameL b) 1 := by
    refine ⟨?_, fun i hi => ?_⟩
    · rw [hp, List.drop_eq_nil_of_le (by omega)]
      rfl
    · obtain rfl : i = 0 := by omega
      simp only [posF, List.drop_zero, hf]
      simp
  rw [framesM_ok (by omega) hE, hp]
  simp only [bodF, posF, List.drop_zero, hf]
  rfl
theorem frames_none {d : List UInt8} (h : firstM d = none) (hl : d.length ≤ 20000) : framesM d = (0, [], 0) := by
  rw [framesM_ok (J := 0) hl ⟨by simpa [posF] using h, fun i hi => absurd hi (by omega)⟩]
  rfl
/-- One byte of a frame, not its first one, is another one: no frame. -/
theorem frames_turned {b : List UInt8} (h1 : 1 ≤ b.length) (h2 : b.length ≤ 40) {i : Nat} {x y : UInt8} (hx : (frameL b)[i + 1]? = some x) (hne : x ≠ y) : framesM ((frameL b).set (i + 1) y) = (0, [], 0) := by
  refine frames_none ?_ (by rw [List.length_set, frameL_len]; omega)
  have hn : (UInt8.ofNat b.length).toNat = b.length := by rw [UInt8.toNat_ofNat']; omega
  have hF : frameL b = UInt8.ofNat b.length :: (b ++ sumL (frontL b)) := rfl
  have hx' : (b ++ sumL (frontL b))[i]? = some x := by rw [hF] at hx; simpa using hx
  rw [hF, List.set_cons_succ]
  refine firstM_no fun hc => ?_
  rw [hn] at hc
  have he := hc.2.2.2
  have hlen : ((b ++ sumL (frontL b)).set i y).length = b.length + 2 := by simp [sumL]
  rw [List.take_of_length_le (by rw [List.length_cons, hlen]; omega)] at he
  have ht : (((b ++ sumL (frontL b)).set i y).take b.length).length = b.length := by rw [List.length_take, hlen]; omega
  have he2 : (b ++ sumL (frontL b)).set i y = ((b ++ sumL (frontL b)).set i y).take b.length ++ sumL (frontL (((b ++ sumL (frontL b)).set i y).take b.length)) := by
    have := congrArg List.tail he
    simpa [frameL, frontL] using this
  rcases Nat.lt_or_ge i b.length with hi | hi
  · rw [List.set_append_left _ _ hi, List.take_left' (by simp)] at he2
    have hs := List.append_cancel_left he2
    have hsum := sumL_inj hs
    have hfr : frontL (b.set i y) = (frontL b).set (i + 1) y := by simp [frontL]
    rw [hfr] at hsum
    rw [List.getElem?_append_left hi] at hx'
    exact hne (fold_set (frontL b) (i + 1) (by omega) (by simpa [frontL] using hx') hsum)
  · rw [List.set_append_right _ _ hi, List.take_left' rfl] at he2
    have hs := List.append_cancel_left he2
    rw [List.getElem?_append_right hi] at hx'
    have hlt := getElem?_some_lt hx'
    have hy : ((sumL (frontL b)).set (i - b.length) y)[i - b.length]? = some y := by rw [List.getElem?_set_self hlt]
    rw [hs, hx'] at hy
    exact hne (Option.some.inj hy)
/-- A frame without its last byte: no frame. -/
theorem frames_torn {b : List UInt8} (h1 : 1 ≤ b.length) (h2 : b.length ≤ 40) : framesM ((frameL b).take (b.length + 2)) = (0, [], 0) := by
  refine frames_none ?_ (by rw [List.length_take]; omega)
  have hn : (UInt8.ofNat b.length).toNat = b.length := by rw [UInt8.toNat_ofNat']; omega
  have hF : frameL b = UInt8.ofNat b.length :: (b ++ sumL (frontL b)) := rfl
  rw [hF, List.take_succ_cons]
  refine firstM_no fun hc => ?_
  have := hc.2.2.1
  rw [hn, List.length_take] at this
  omega
theorem firstM_frame {d b : List UInt8} (h : firstM d = some b) : frameL b = d.take (b.length + 3) := by
  cases d with
  | nil => simp [firstM] at h
  | cons x r =>
    unfold firstM at h
    simp only at h
    split at h
    · rename_i hc
      obtain rfl := Option.some.inj h
      have hl : (r.take x.toNat).length = x.toNat := by rw [List.length_take]; omega
      rw [hl]
      exact hc.2.2.2.symm
    · cases h
/-- What the frames' bodies are packed into is what they were read from. -/
theorem bodF_frames (d : List UInt8) : ∀ J, Going d J → (bodF d J).flatMap frameL = d.take (posF d J) ∧ ∀ b ∈ bodF d J, 1 ≤ b.length ∧ b.length ≤ 40
  | 0, _ => by simp [bodF, posF]
  | J + 1, h => by
    have ih := bodF_frames d J fun i hi => h i (by omega)
    have hJ := h J (by omega)
    cases hf : firstM (d.drop (posF d J)) with
    | none => exact absurd hf hJ
    | some b =>
      have hl := firstM_len hf
      refine ⟨?_, fun b' hb' => ?_⟩
      · simp only [bodF, posF, hf]
        rw [frontM_yes hf, List.take_add, List.flatMap_append, ih.1, ← firstM_frame hf]
        simp
      · simp only [bodF, hf, List.mem_append, Option.mem_toList] at hb'
        rcases hb' with hb' | hb'
        · exact ih.2 b' hb'
        · obtain rfl : b = b' := by simpa using hb'
          exact ⟨hl.1, hl.2.2.1⟩
theorem endF_end (d : List UInt8) : ∀ k j, Going d j → d.length ≤ posF d j + k → EndF d (endF d k j)
  | 0, j, hg, hl => by
    refine ⟨?_, hg⟩
    unfold endF
    rw [List.drop_eq_nil_of_le (by omega)]
    rfl
  | k + 1, j, hg, hl => by
    unfold endF
    cases hf : firstM (d.drop (posF d j)) with
    | none => exact ⟨hf, hg⟩
    | some b =>
      refine endF_end d k (j + 1) (fun i hi => ?_) ?_
      · rcases Nat.lt_or_ge i j with h | h
        · exact hg i h
        · obtain rfl : i = j := by omega
          rw [hf]
          simp
      · have : posF d (j + 1) = posF d j + (b.length + 3) := by rw [← frontM_yes hf]; rfl
        omega
theorem frames_back {d : List UInt8} (hl : d.length ≤ 20000) : ∃ p : Nat, (framesM d).2.2 = (p : Int) ∧ p ≤ d.length ∧ (framesM d).2.1.flatMap frameL = d.take p ∧ ∀ b ∈ (framesM d).2.1, 1 ≤ b.length ∧ b.length ≤ 40 := by
  have hE := endF_end d d.length 0 (fun i hi => absurd hi (by omega)) (by omega)
  rw [framesM_ok hl hE]
  have := bodF_frames d _ hE.2
  exact ⟨_, rfl, posF_le d _, this.1, this.2⟩
end Go.Proofs.Ytkdfbaiolgndeaa
