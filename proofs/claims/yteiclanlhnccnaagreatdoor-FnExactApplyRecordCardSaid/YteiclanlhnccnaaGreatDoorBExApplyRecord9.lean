/-
  Texts of one proof, joined: each has its own namespace.
-/
import Derived.Test.YteiclanlhnccnaaGreatDoorBExApplyRecord3
import Derived.Test.YteiclanlhnccnaaGreatDoorBExApplyRecord8
/-
  The bytes of a record and a record out of its bytes, of the pure answers.
-/
namespace Go.Proofs.YteiclanlhnccnaaGreatDoor
set_option maxRecDepth 20000
open Go.RowKit
set_option linter.unusedSimpArgs false
set_option linter.unusedVariables false

/-- A right sample's bytes. -/
def encSb (x : Smp) : List UInt8 := encL x.1.toNat x.2.1.toNat x.2.2.1.toNat (x.2.2.2 + 1000).toNat
theorem encSb_len (x : Smp) : (encSb x).length = 7 := by unfold encSb; rw [encL_eq]; rfl
theorem encodeM_encSb {x : Smp} (h : faultM x = 0) : encodeM x = (0, encSb x) := by unfold encodeM; rw [if_pos h]; rfl
/-- A right record's bytes. -/
def encT (r : Rcd) : List UInt8 := if r.1 = 1 then encSb r.2.2.1 else if r.1 = 2 then UInt8.ofNat r.2.1.toNat :: encSb r.2.2.1 else if r.1 = 3 then UInt8.ofNat r.2.1.toNat :: packL r.2.2.2.toNat 2 else packL r.2.2.2.toNat 2
def encR (r : Rcd) : List UInt8 := UInt8.ofNat r.1.toNat :: encT r
/-- What EncodeRecord answers. -/
def encRecM (r : Rcd) : Int × List UInt8 := if recFaultM r = 0 then (0, encR r) else (recFaultM r, [])

/-- The record of some bytes, right or not; false: there are not as many. -/
def decR (l : List UInt8) : Rcd × Bool :=
  if (readM l 0 1).2 = 1 ∧ l.length = 8 then ((1, 0, unpM (l.drop 1), 0), decide (recFaultM (1, 0, unpM (l.drop 1), 0) = 0))
  else if (readM l 0 1).2 = 2 ∧ l.length = 9 then ((2, (readM l 1 1).2, unpM (l.drop 2), 0), decide (recFaultM (2, (readM l 1 1).2, unpM (l.drop 2), 0) = 0))
  else if (readM l 0 1).2 = 3 ∧ l.length = 4 then ((3, (readM l 1 1).2, (0, 0, 0, 0), (readM l 2 2).2), decide (recFaultM (3, (readM l 1 1).2, (0, 0, 0, 0), (readM l 2 2).2) = 0))
  else if (readM l 0 1).2 = 4 ∧ l.length = 3 then ((4, 0, (0, 0, 0, 0), (readM l 1 2).2), decide (recFaultM (4, 0, (0, 0, 0, 0), (readM l 1 2).2) = 0))
  else (zeroR, false)
/-- What DecodeRecord answers. -/
def decodeRecM (l : List UInt8) : Int × Rcd := if (decR l).2 = true then (0, (decR l).1) else (5, zeroR)
/-- The record that is read from whatever there is. -/
def unpR (l : List UInt8) : Rcd :=
  if (readM l 0 1).2 = 1 then (1, 0, (decodeM (l.drop 1)).2, 0)
  else if (readM l 0 1).2 = 2 then (2, (readM l 1 1).2, (decodeM (l.drop 2)).2, 0)
  else if (readM l 0 1).2 = 3 then (3, (readM l 1 1).2, (0, 0, 0, 0), (readM l 2 2).2)
  else if (readM l 0 1).2 = 4 then (4, 0, (0, 0, 0, 0), (readM l 1 2).2)
  else ((readM l 0 1).2, 0, (0, 0, 0, 0), 0)

theorem rec1 (x : Smp) : recFaultM (1, 0, x, 0) = faultM x := by
  have : recFormM (1, 0, x, 0) = true := by unfold recFormM formM; simp
  rw [recFault_range this]; unfold rrangeM; rw [if_pos (by unfold mostM inB; simp)]
theorem rec2 (p : Int) (x : Smp) : recFaultM (2, p, x, 0) = if inB (p, 0, 3) = true then faultM x else 3 := by
  have : recFormM (2, p, x, 0) = true := by unfold recFormM formM; simp
  rw [recFault_range this]; unfold rrangeM mostM
  have h0 : inB ((0 : Int), 0, 9999) = true := by decide
  simp only [show ¬ ((2 : Int) = 4) by decide, if_false, h0, Bool.and_true]
theorem zero_right : faultM (0, 0, 0, 0) = 0 := by decide
theorem rec3 (p k : Int) : recFaultM (3, p, (0, 0, 0, 0), k) = if (inB (p, 0, 3) && inB (k, 0, 9999)) = true then 0 else 3 := by
  have : recFormM (3, p, (0, 0, 0, 0), k) = true := by unfold recFormM formM; simp
  rw [recFault_range this]; unfold rrangeM mostM
  simp only [show ¬ ((3 : Int) = 4) by decide, if_false, zero_right]
theorem rec4 (k : Int) : recFaultM (4, 0, (0, 0, 0, 0), k) = if inB (k, 0, 60000) = true then 0 else 3 := by
  have : recFormM (4, 0, (0, 0, 0, 0), k) = true := by unfold recFormM formM; simp
  rw [recFault_range this]; unfold rrangeM mostM
  have h0 : inB ((0 : Int), 0, 3) = true := by decide
  simp only [if_true, zero_right, h0, Bool.true_and]
theorem rec_other {k : Int} (h1 : k ≠ 1) (h2 : k ≠ 2) (h3 : k ≠ 3) (h4 : k ≠ 4) (r : Int × Smp × Int) : recFaultM (k, r) = 1 := recFault_form (by unfold recFormM; rw [if_neg h1, if_neg h2, if_neg h3, if_neg h4])

theorem decode_bad {l : List UInt8} (h : (decodeM l).1 ≠ 0) : (decodeM l).2 = (0, 0, 0, 0) ∧ encSb (decodeM l).2 ≠ l := by
  by_cases h7 : l.length = 7
  · rcases faultM_or (unpM l) with hf | hf
    · rw [decodeM_yes h7 rfl hf] at h; exact absurd rfl h
    · rw [decodeM_no h7 rfl hf]
      refine ⟨rfl, fun e => ?_⟩
      have := encode_decode (x := (0, 0, 0, 0)) zero_right
      rw [encodeM_encSb zero_right] at this
      have h2 := this.2
      rw [show encSb (0, 0, 0, 0) = l from e, decodeM_no h7 rfl hf] at h2
      cases h2
  · rw [decodeM_len h7]
    exact ⟨rfl, fun e => h7 (by rw [← e]; exact encSb_len _)⟩
theorem decode_good {l : List UInt8} (h : (decodeM l).1 = 0) : l.length = 7 ∧ (decodeM l).2 = unpM l ∧ faultM (unpM l) = 0 ∧ encSb (unpM l) = l := by
  have h1 := decode_encode h
  by_cases h7 : l.length = 7
  · rcases faultM_or (unpM l) with hf | hf
    · rw [decodeM_yes h7 rfl hf] at h1
      refine ⟨h7, by rw [decodeM_yes h7 rfl hf], hf, ?_⟩
      rw [encodeM_encSb hf] at h1
      exact (Prod.mk.inj h1).2
    · rw [decodeM_no h7 rfl hf] at h; cases h
  · rw [decodeM_len h7] at h; cases h
theorem unp_bad {l : List UInt8} (h : (decodeM l).1 ≠ 0) (h7 : l.length = 7) : faultM (unpM l) = 3 := by
  rcases faultM_or (unpM l) with hf | hf
  · rw [decodeM_yes h7 rfl hf] at h; exact absurd rfl h
  · exact hf
theorem byte_of (b : UInt8) : UInt8.ofNat ((b.toNat : Int)).toNat = b := by rw [Int.toNat_natCast]; exact byte_self b
theorem read1 {l : List UInt8} {p : Nat} {b : UInt8} (h : l[p]? = some b) : (readM l p 1).2 = (b.toNat : Int) := by
  have hl := getElem?_some_lt h
  rw [show (1 : Int) = ((1 : Nat) : Int) from rfl, readM_nat ⟨by omega, by omega, by omega⟩]
  rw [readAt_step (l := l) (p := p) (s := 1) (j := 0) (by omega) (by simpa using h), readAt_end]
  simp
theorem read2 {l : List UInt8} {p : Nat} {a b : UInt8} (ha : l[p]? = some a) (hb : l[p + 1]? = some b) : (readM l p 2).2 = ((a.toNat + 256 * b.toNat : Nat) : Int) := by
  have hl := getElem?_some_lt hb
  rw [show (2 : Int) = ((2 : Nat) : Int) from rfl, readM_nat ⟨by omega, by omega, by omega⟩]
  rw [readAt_two ha hb]
theorem pack_two (a b : UInt8) : packL (((a.toNat + 256 * b.toNat : Nat) : Int)).toNat 2 = [a, b] := by
  rw [Int.toNat_natCast, pack2, byte_lo, byte_hi]
theorem read0_nil : (readM [] 0 1).2 = 0 := by decide

theorem dec_of {l : List UInt8} {r : Rcd} {b : Bool} (h : decR l = (r, b)) : decodeRecM l = if b = true then (0, r) else (5, zeroR) := by unfold decodeRecM; rw [h]
theorem dec_no {l : List UInt8} {r : Rcd} (h : decR l = (r, false)) : decodeRecM l = (5, zeroR) := dec_of h
theorem dec_yes {l : List UInt8} {r : Rcd} (h : decR l = (r, true)) : decodeRecM l = (0, r) := dec_of h
theorem ne12 : ¬ (1 : Int) = 2 := by decide
theorem ne13 : ¬ (1 : Int) = 3 := by decide
theorem ne14 : ¬ (1 : Int) = 4 := by decide
theorem ne21 : ¬ (2 : Int) = 1 := by decide
theorem ne23 : ¬ (2 : Int) = 3 := by decide
theorem ne24 : ¬ (2 : Int) = 4 := by decide
theorem ne31 : ¬ (3 : Int) = 1 := by decide
theorem ne32 : ¬ (3 : Int) = 2 := by decide
theorem ne34 : ¬ (3 : Int) = 4 := by decide
theorem ne41 : ¬ (4 : Int) = 1 := by decide
theorem ne42 : ¬ (4 : Int) = 2 := by decide
theorem ne43 : ¬ (4 : Int) = 3 := by decide
section
variable {l : List UInt8}
theorem decR_1 (k : (readM l 0 1).2 = 1) (h : l.length = 8) : decR l = ((1, 0, unpM (l.drop 1), 0), decide (recFaultM (1, 0, unpM (l.drop 1), 0) = 0)) := by unfold decR; rw [if_pos ⟨k, h⟩]
theorem decR_1n (k : (readM l 0 1).2 = 1) (h : ¬ l.length = 8) : decR l = (zeroR, false) := by unfold decR; rw [k, if_neg (fun q => h q.2), if_neg (fun q => ne12 q.1), if_neg (fun q => ne13 q.1), if_neg (fun q => ne14 q.1)]
theorem decR_2 (k : (readM l 0 1).2 = 2) (h : l.length = 9) : decR l = ((2, (readM l 1 1).2, unpM (l.drop 2), 0), decide (recFaultM (2, (readM l 1 1).2, unpM (l.drop 2), 0) = 0)) := by unfold decR; rw [k, if_neg (fun q => ne21 q.1), if_pos ⟨rfl, h⟩]
theorem decR_2n (k : (readM l 0 1).2 = 2) (h : ¬ l.length = 9) : decR l = (zeroR, false) := by unfold decR; rw [k, if_neg (fun q => ne21 q.1), if_neg (fun q => h q.2), if_neg (fun q => ne23 q.1), if_neg (fun q => ne24 q.1)]
theorem decR_3 (k : (readM l 0 1).2 = 3) (h : l.length = 4) : decR l = ((3, (readM l 1 1).2, (0, 0, 0, 0), (readM l 2 2).2), decide (recFaultM (3, (readM l 1 1).2, (0, 0, 0, 0), (readM l 2 2).2) = 0)) := by unfold decR; rw [k, if_neg (fun q => ne31 q.1), if_neg (fun q => ne32 q.1), if_pos ⟨rfl, h⟩]
theorem decR_3n (k : (readM l 0 1).2 = 3) (h : ¬ l.length = 4) : decR l = (zeroR, false) := by unfold decR; rw [k, if_neg (fun q => ne31 q.1), if_neg (fun q => ne32 q.1), if_neg (fun q => h q.2), if_neg (fun q => ne34 q.1)]
theorem decR_4 (k : (readM l 0 1).2 = 4) (h : l.length = 3) : decR l = ((4, 0, (0, 0, 0, 0), (readM l 1 2).2), decide (recFaultM (4, 0, (0, 0, 0, 0), (readM l 1 2).2) = 0)) := by unfold decR; rw [k, if_neg (fun q => ne41 q.1), if_neg (fun q => ne42 q.1), if_neg (fun q => ne43 q.1), if_pos ⟨rfl, h⟩]
theorem decR_4n (k : (readM l 0 1).2 = 4) (h : ¬ l.length = 3) : decR l = (zeroR, false) := by unfold decR; rw [k, if_neg (fun q => ne41 q.1), if_neg (fun q => ne42 q.1), if_neg (fun q => ne43 q.1), if_neg (fun q => h q.2)]
theorem decR_o (k1 : ¬ (readM l 0 1).2 = 1) (k2 : ¬ (readM l 0 1).2 = 2) (k3 : ¬ (readM l 0 1).2 = 3) (k4 : ¬ (readM l 0 1).2 = 4) : decR l = (zeroR, false) := by unfold decR; rw [if_neg (fun q => k1 q.1), if_neg (fun q => k2 q.1), if_neg (fun q => k3 q.1), if_neg (fun q => k4 q.1)]
theorem unpR_1 (k : (readM l 0 1).2 = 1) : unpR l = (1, 0, (decodeM (l.drop 1)).2, 0) := by unfold unpR; rw [if_pos k]
theorem unpR_2 (k : (readM l 0 1).2 = 2) : unpR l = (2, (readM l 1 1).2, (decodeM (l.drop 2)).2, 0) := by unfold unpR; rw [k, if_neg ne21, if_pos rfl]
theorem unpR_3 (k : (readM l 0 1).2 = 3) : unpR l = (3, (readM l 1 1).2, (0, 0, 0, 0), (readM l 2 2).2) := by unfold unpR; rw [k, if_neg ne31, if_neg ne32, if_pos rfl]
theorem unpR_4 (k : (readM l 0 1).2 = 4) : unpR l = (4, 0, (0, 0, 0, 0), (readM l 1 2).2) := by unfold unpR; rw [k, if_neg ne41, if_neg ne42, if_neg ne43, if_pos rfl]
theorem unpR_o (k1 : ¬ (readM l 0 1).2 = 1) (k2 : ¬ (readM l 0 1).2 = 2) (k3 : ¬ (readM l 0 1).2 = 3) (k4 : ¬ (readM l 0 1).2 = 4) : unpR l = ((readM l 0 1).2, 0, (0, 0, 0, 0), 0) := by unfold unpR; rw [if_neg k1, if_neg k2, if_neg k3, if_neg k4]
end
theorem encR_1 (p : Int) (y : Smp) (k : Int) : encR (1, p, y, k) = 1 :: encSb y := by unfold encR encT; rw [if_pos rfl]; rfl
theorem encR_2 (p : Int) (y : Smp) (k : Int) : encR (2, p, y, k) = 2 :: UInt8.ofNat p.toNat :: encSb y := by unfold encR encT; rw [if_neg ne21, if_pos rfl]; rfl
theorem encR_3 (p : Int) (y : Smp) (k : Int) : encR (3, p, y, k) = 3 :: UInt8.ofNat p.toNat :: packL k.toNat 2 := by unfold encR encT; rw [if_neg ne31, if_neg ne32, if_pos rfl]; rfl
theorem encR_4 (p : Int) (y : Smp) (k : Int) : encR (4, p, y, k) = 4 :: packL k.toNat 2 := by unfold encR encT; rw [if_neg ne41, if_neg ne42, if_neg ne43]; rfl
theorem byte_is {x : UInt8} {k : Nat} (h : (x.toNat : Int) = (k : Int)) (hk : k < 256) : x = UInt8.ofNat k := by
  apply UInt8.toNat.inj
  rw [UInt8.toNat_ofNat']
  omega

/-- The program's way: what is read from whatever there is, held against its own bytes. -/
theorem dec_or (l : List UInt8) : (decodeRecM l = (0, unpR l) ∧ recFaultM (unpR l) = 0 ∧ encR (unpR l) = l) ∨ (decodeRecM l = (5, zeroR) ∧ ¬ (recFaultM (unpR l) = 0 ∧ encR (unpR l) = l)) := by
  rcases l with _ | ⟨x, m⟩
  · have a1 : ¬ (readM [] 0 1).2 = 1 := by rw [read0_nil]; decide
    have a2 : ¬ (readM [] 0 1).2 = 2 := by rw [read0_nil]; decide
    have a3 : ¬ (readM [] 0 1).2 = 3 := by rw [read0_nil]; decide
    have a4 : ¬ (readM [] 0 1).2 = 4 := by rw [read0_nil]; decide
    refine .inr ⟨dec_no (decR_o a1 a2 a3 a4), ?_⟩
    rw [unpR_o a1 a2 a3 a4]
    exact fun h => absurd h.1 (by rw [rec_other a1 a2 a3 a4]; decide)
  have hk : (readM (x :: m) 0 1).2 = (x.toNat : Int) := read1 (p := 0) rfl
  by_cases k1 : (readM (x :: m) 0 1).2 = 1
  · have hx : x = 1 := byte_is (k := 1) (by rw [← hk, k1]; rfl) (by omega)
    rw [unpR_1 k1, encR_1, rec1, show (x :: m).drop 1 = m from rfl, hx]
    by_cases h0 : (decodeM m).1 = 0
    · obtain ⟨h7, hd, hf, he⟩ := decode_good h0
      refine .inl ⟨?_, by rw [hd]; exact hf, by rw [hd, he]⟩
      rw [← hx, dec_yes (r := (1, 0, unpM m, 0)) (by rw [decR_1 k1 (by simp [h7]), show (x :: m).drop 1 = m from rfl, rec1, hf]; rfl), hd]
    · obtain ⟨hd, he⟩ := decode_bad h0
      refine .inr ⟨?_, fun h => he (List.cons.inj h.2).2⟩
      rw [← hx]
      by_cases h7 : (x :: m).length = 8
      · have hu := unp_bad h0 (by simpa using h7)
        exact dec_no (r := (1, 0, unpM m, 0)) (by rw [decR_1 k1 h7, show (x :: m).drop 1 = m from rfl, rec1, hu]; rfl)
      · exact dec_no (decR_1n k1 h7)
  by_cases k2 : (readM (x :: m) 0 1).2 = 2
  · have hx : x = 2 := byte_is (k := 2) (by rw [← hk, k2]; rfl) (by omega)
    rw [unpR_2 k2, encR_2, rec2]
    rcases m with _ | ⟨y, m⟩
    · refine .inr ⟨dec_no (decR_2n k2 (by simp)), ?_⟩
      rintro ⟨-, h⟩
      have := congrArg List.length h
      simp at this
    have hp : (readM (x :: y :: m) 1 1).2 = (y.toNat : Int) := read1 (p := 1) rfl
    rw [hp, byte_of, show (x :: y :: m).drop 2 = m from rfl]
    by_cases h0 : (decodeM m).1 = 0
    · obtain ⟨h7, hd, hf, he⟩ := decode_good h0
      rcases hb : inB ((y.toNat : Int), 0, 3)
      · refine .inr ⟨dec_no (r := (2, (y.toNat : Int), unpM m, 0)) ?_, fun h => absurd h.1 (by rw [if_neg (by simp)]; decide)⟩
        rw [decR_2 k2 (by simp [h7]), show (x :: y :: m).drop 2 = m from rfl, hp, rec2, hb]; rfl
      · refine .inl ⟨?_, by rw [if_pos rfl, hd]; exact hf, by rw [hd, he, hx]⟩
        rw [dec_yes (r := (2, (y.toNat : Int), unpM m, 0)) (by rw [decR_2 k2 (by simp [h7]), show (x :: y :: m).drop 2 = m from rfl, hp, rec2, hb, if_pos rfl, hf]; rfl), hd]
    · obtain ⟨hd, he⟩ := decode_bad h0
      refine .inr ⟨?_, fun h => he (List.cons.inj (List.cons.inj h.2).2).2⟩
      by_cases h7 : (x :: y :: m).length = 9
      · have hu := unp_bad h0 (by simpa using h7)
        refine dec_no (r := (2, (y.toNat : Int), unpM m, 0)) ?_
        rw [decR_2 k2 h7, show (x :: y :: m).drop 2 = m from rfl, hp, rec2, hu]
        rcases hb : inB ((y.toNat : Int), 0, 3) <;> rfl
      · exact dec_no (decR_2n k2 h7)
  by_cases k3 : (readM (x :: m) 0 1).2 = 3
  · have hx : x = 3 := byte_is (k := 3) (by rw [← hk, k3]; rfl) (by omega)
    rw [unpR_3 k3, encR_3]
    by_cases h4 : (x :: m).length = 4
    · obtain ⟨y, a, b, rfl⟩ : ∃ y a b, m = [y, a, b] := by
        rcases m with _ | ⟨y, _ | ⟨a, _ | ⟨b, _ | ⟨c, m⟩⟩⟩⟩ <;> simp at h4
        exact ⟨y, a, b, rfl⟩
      have hp : (readM [x, y, a, b] 1 1).2 = (y.toNat : Int) := read1 (p := 1) rfl
      have hq : (readM [x, y, a, b] 2 2).2 = ((a.toNat + 256 * b.toNat : Nat) : Int) := read2 (p := 2) rfl rfl
      have hD := decR_3 k3 h4
      rw [hp, hq] at hD
      rw [hp, hq, pack_two, byte_of]
      by_cases hb : recFaultM (3, (y.toNat : Int), (0, 0, 0, 0), ((a.toNat + 256 * b.toNat : Nat) : Int)) = 0
      · rw [decide_eq_true hb] at hD
        exact .inl ⟨dec_yes hD, hb, by rw [hx]⟩
      · rw [decide_eq_false hb] at hD
        exact .inr ⟨dec_no hD, fun h => hb h.1⟩
    · exact .inr ⟨dec_no (decR_3n k3 h4), fun h => h4 (by rw [← h.2]; simp [packL_len])⟩
  by_cases k4 : (readM (x :: m) 0 1).2 = 4
  · have hx : x = 4 := byte_is (k := 4) (by rw [← hk, k4]; rfl) (by omega)
    rw [unpR_4 k4, encR_4]
    by_cases h4 : (x :: m).length = 3
    · obtain ⟨a, b, rfl⟩ : ∃ a b, m = [a, b] := by
        rcases m with _ | ⟨a, _ | ⟨b, _ | ⟨c, m⟩⟩⟩ <;> simp at h4
        exact ⟨a, b, rfl⟩
      have hq : (readM [x, a, b] 1 2).2 = ((a.toNat + 256 * b.toNat : Nat) : Int) := read2 (p := 1) rfl rfl
      have hD := decR_4 k4 h4
      rw [hq] at hD
      rw [hq, pack_two]
      by_cases hb : recFaultM (4, 0, (0, 0, 0, 0), ((a.toNat + 256 * b.toNat : Nat) : Int)) = 0
      · rw [decide_eq_true hb] at hD
        exact .inl ⟨dec_yes hD, hb, by rw [hx]⟩
      · rw [decide_eq_false hb] at hD
        exact .inr ⟨dec_no hD, fun h => hb h.1⟩
    · exact .inr ⟨dec_no (decR_4n k4 h4), fun h => h4 (by rw [← h.2]; simp [packL_len])⟩
  · rw [unpR_o k1 k2 k3 k4]
    exact .inr ⟨dec_no (decR_o k1 k2 k3 k4), fun h => absurd h.1 (by rw [rec_other k1 k2 k3 k4]; decide)⟩
end Go.Proofs.YteiclanlhnccnaaGreatDoor
