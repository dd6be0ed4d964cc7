import Derived.Test.YtkdfbaiolgndeaaFront
import Derived.Test.YtkdfbaiolgndeaaFR
namespace Go.Proofs.Ytkdfbaiolgndeaa
open Go.RowKit

theorem firstM_len {d b : List UInt8} (h : firstM d = some b) : 1 ≤ b.length ∧ b.length + 3 ≤ d.length ∧ b.length ≤ 40 ∧ b = (d.drop 1).take b.length := by
  cases d with
  | nil => simp [firstM] at h
  | cons x r =>
    unfold firstM at h
    simp only at h
    split at h
    · rename_i hc
      obtain rfl := Option.some.inj h
      have hl : (r.take x.toNat).length = x.toNat := by rw [List.length_take]; omega
      refine ⟨by omega, by rw [hl, List.length_cons]; omega, by omega, ?_⟩
      rw [hl]
      rfl
    · cases h
theorem frontM_yes {d b : List UInt8} (h : firstM d = some b) : frontM d = b.length + 3 := by simp [frontM, h]

/-- Where the j-th frame begins; the first j bodies. -/
def posF (d : List UInt8) : Nat → Nat
  | 0 => 0
  | j + 1 => posF d j + frontM (d.drop (posF d j))
def bodF (d : List UInt8) : Nat → List (List UInt8)
  | 0 => []
  | j + 1 => bodF d j ++ (firstM (d.drop (posF d j))).toList
theorem posF_le (d : List UInt8) : ∀ j, posF d j ≤ d.length
  | 0 => Nat.zero_le _
  | j + 1 => by
    have ih := posF_le d j
    unfold posF
    cases h : firstM (d.drop (posF d j)) with
    | none => rw [frontM_no h]; exact ih
    | some b =>
      have := (firstM_len h).2.1
      rw [List.length_drop] at this
      rw [frontM_yes h]
      omega
def Going (d : List UInt8) (J : Nat) : Prop := ∀ i, i < J → firstM (d.drop (posF d i)) ≠ none
def EndF (d : List UInt8) (J : Nat) : Prop := firstM (d.drop (posF d J)) = none ∧ Going d J
theorem posF_ge {d : List UInt8} : ∀ {J : Nat}, Going d J → J ≤ posF d J
  | 0, _ => Nat.zero_le _
  | J + 1, h => by
    have ih := posF_ge (J := J) fun i hi => h i (by omega)
    unfold posF
    cases hf : firstM (d.drop (posF d J)) with
    | none => exact absurd hf (h J (by omega))
    | some b => rw [frontM_yes hf]; omega
def endF (d : List UInt8) : Nat → Nat → Nat
  | 0, j => j
  | k + 1, j => match firstM (d.drop (posF d j)) with
    | none => j
    | some _ => endF d k (j + 1)
theorem endF_of {d : List UInt8} {J : Nat} (h : EndF d J) : ∀ (k j : Nat), j ≤ J → J - j ≤ k → endF d k j = J
  | 0, j, h1, h2 => by simp only [endF]; omega
  | k + 1, j, h1, h2 => by
    unfold endF
    by_cases e : j = J
    · subst e
      rw [h.1]
    · cases hf : firstM (d.drop (posF d j)) with
      | none => exact absurd hf (h.2 j (by omega))
      | some b =>
        simp only
        exact endF_of h k (j + 1) (by omega) (by omega)
/-- What ReadFrames answers. -/
def framesM (d : List UInt8) : Int × List (List UInt8) × Int :=
  if d.length ≤ 20000 then (0, bodF d (endF d d.length 0), (posF d (endF d d.length 0) : Nat)) else (2, [], 0)
theorem framesM_big {d : List UInt8} (h : 20000 < d.length) : framesM d = (2, [], 0) := if_neg (by omega)
theorem framesM_ok {d : List UInt8} {J : Nat} (h : d.length ≤ 20000) (hJ : EndF d J) : framesM d = (0, bodF d J, ((posF d J : Nat) : Int)) := by
  have hle := posF_ge hJ.2
  have := posF_le d J
  unfold framesM
  rw [if_pos h, endF_of hJ d.length 0 (Nat.zero_le _) (by omega)]

theorem bodF_sum (d : List UInt8) : ∀ j, ((bodF d j).map List.length).sum ≤ posF d j
  | 0 => by simp [bodF, posF]
  | j + 1 => by
    have ih := bodF_sum d j
    rw [show bodF d (j + 1) = bodF d j ++ (firstM (d.drop (posF d j))).toList from rfl, show posF d (j + 1) = posF d j + frontM (d.drop (posF d j)) from rfl]
    cases h : firstM (d.drop (posF d j)) with
    | none => rw [frontM_no h]; simpa using ih
    | some b =>
      rw [frontM_yes h]
      simp only [Option.toList_some, List.map_append, List.sum_append, List.map_cons, List.map_nil, List.sum_cons, List.sum_nil]
      omega
theorem framesM_sum (d : List UInt8) : ((framesM d).2.1.map List.length).sum ≤ 20000 := by
  unfold framesM
  split
  · have h1 := bodF_sum d (endF d d.length 0)
    have h2 := posF_le d (endF d d.length 0)
    simp only
    omega
  · simp
/-- A slice of what is read, from a place on. -/
theorem Rd.cut {w : World} {hi : Nat} {A : Option Addr} {l : List UInt8} (h : Rd eB w hi A l) (p : Nat) (c : Nat) (hc : l.length ≤ c) : Rd eB w hi (if c = p then A else A.map (·.add p)) (l.drop p) := by
  rcases Nat.lt_or_ge p l.length with h1 | h1
  · obtain ⟨g, o, rfl, hr⟩ := h.add h1
    rw [if_neg (by omega)]
    simpa [eB, addr_add] using hr
  · rw [List.drop_of_length_le h1]
    exact Rd.nil

set_option maxHeartbeats 400000 in
theorem l1Copy (A : Option Addr) (n c : Nat) (l : List UInt8) (w : World) (hr : Rd eB w w.heap.size A l) (hn : l.length = n) (hm : n ≤ 1048576) :
    Calls Try.prog 52 #[.slice A n c] w fun e w' => ∃ A' c', e = .returned (.slice A' n c') ∧ Ow eB w' w.heap.size A' n c' l ∧ Below w.heap.size w w' := by
  have Hn := Lib.hid hn
  clear hn
  have o1 : Ow eB (w.alloc (.cells #[] 5)) w.heap.size (some ⟨w.heap.size, 0, none⟩) 0 0 [] := Ow.lit w [] #[] 0 (Nat.le_refl _) (Nat.zero_le _) rfl rfl
  have B1 := (Below.refl w.heap.size w).alloc (Nat.le_refl _) (.cells #[] 5)
  have a1 := hr.lift B1
  go_enter Try.func52, Try.ntmps52
  go_wp2_with (at_builtin; refine wpList_append_ow okB _ rfl (.tmp 3) (.tmp 4) _ rfl w.heap.size info_u8 Try.underlying22 rfl (some ⟨w.heap.size, 0, none⟩) 0 0 [] rfl o1 A n c _ l rfl a1 Hn.out (by unfold maxLen; omega) (by omega) (by simp) ?_; intro A1 c1 w1 ow1 hg1 _)
  go_ret
  rw [List.nil_append] at ow1
  rw [Nat.zero_add] at ow1
  exact ⟨A1, c1, rfl, ow1, B1.grown hg1 (by simp) (fun g hg => by simp at hg; omega)⟩

def FramesRel (w : World) (d : List UInt8) (out vat : Value) (wr : World) : Prop :=
  ∃ j A c ps, out = .slice A j c ∧ vat = .int .i64 (posF d j : Nat) ∧ DOw eBB wr w.heap.size A j c ps ∧ ps.map (·.1) = bodF d j ∧ Going d j ∧ Below w.heap.size w wr

set_option maxHeartbeats 600000 in
theorem l1Frames (A : Option Addr) (n c : Nat) (d : List UInt8) (w : World) (hr : Rd eB w w.heap.size A d) (hn : d.length = n) (hc : n ≤ c) (hm : n ≤ 1048576) (hcm : c ≤ maxLen) :
    Calls Try.prog 48 #[.slice A n c] w fun e w' => ∃ J A' c' ps, e = .returned (.tuple #[.slice A' J c', .int .i64 (posF d J : Nat)]) ∧ EndF d J ∧ DOw eBB w' w.heap.size A' J c' ps ∧ ps.map (·.1) = bodF d J ∧ Below w.heap.size w w' := by
  have Hn := Lib.hid hn
  clear hn
  unfold maxLen at hcm
  go_enter Try.func48, Try.ntmps48
  go_wp2
  have o1 : DOw eBB (w.alloc (.cells #[] 22)) w.heap.size (some ⟨w.heap.size, 0, none⟩) 0 0 [] :=
    ⟨Ow.lit (E := eBB.enc) w [] #[] 0 (Nat.le_refl _) (Nat.zero_le _) rfl rfl, fun p hp => absurd hp (by simp), by simp [blks, blkOf]⟩
  have B1 := (Below.refl w.heap.size w).alloc (Nat.le_refl _) (.cells #[] 22)
  go_loopw [4, 5, 6] (fun out vat _ wr => FramesRel w d out vat wr) (fun _ vat _ _ => n - (intOf vat).toNat)
  case atStart => exact ⟨0, _, _, [], rfl, rfl, o1, rfl, fun i hi => absurd hi (by omega), B1⟩
  case round =>
    obtain ⟨j, A1, c1, ps, rfl, rfl, how, hps, hgo, hbel⟩ := hrel
    have hpl := posF_le d j
    obtain ⟨p, hp⟩ : ∃ p, p = posF d j := ⟨_, rfl⟩
    rw [← hp] at hpl
    have hpn : p ≤ n := by rw [← Hn.out]; exact hpl
    rw [← hp]
    have Hp := Lib.hid hp
    clear hp hpl
    have HF := Lib.hid (l1Front (if c = p then A else A.map (·.add p)) (n - p) (c - p) (d.drop p) wr ((hr.lift hbel).cut p c (by rw [Hn.out]; exact hc)) (by rw [List.length_drop, Hn.out]) (by omega) (by omega))
    cases hfm : firstM (d.drop p) with
    | none =>
      have HE := Lib.hid (show EndF d j from ⟨by rw [← Hp.out]; exact hfm, hgo⟩)
      have H0 := frontM_no hfm
      rw [H0] at HF
      have Hgo := Lib.hid hgo
      clear hfm H0 hgo
      by_cases hcp : c = p
      · have hnp : n = p := by omega
        subst hnp
        subst hcp
        rw [if_pos rfl, Nat.sub_self] at HF
        go_wp2_with (go_at_call 64; refine HF.out.mono ?_; rintro e w1 ⟨rfl, hb1⟩)
        go_ret2
        refine ⟨j, A1, c1, ps, ?_, HE.out, how.below hb1 (Nat.le_refl _), hps, hbel.trans (hb1.mono hbel.size)⟩
        rw [← Hp.out]
        rfl
      · rw [if_neg hcp] at HF
        go_wp2_with (go_at_call 64; refine HF.out.mono ?_; rintro e w1 ⟨rfl, hb1⟩)
        go_ret2
        refine ⟨j, A1, c1, ps, ?_, HE.out, how.below hb1 (Nat.le_refl _), hps, hbel.trans (hb1.mono hbel.size)⟩
        rw [← Hp.out]
        rfl
    | some b =>
      obtain ⟨hb1, hb3, hb40, hbd⟩ := firstM_len hfm
      rw [List.length_drop, Hn.out] at hb3
      rw [frontM_yes hfm] at HF
      have hcp : ¬ c = p := by omega
      rw [if_neg hcp] at HF
      obtain ⟨g, o, rfl, hra⟩ := (hr.lift hbel).add (k := p + 1) (by rw [Hn.out]; omega)
      have hrb : Rd eB wr wr.heap.size (some ⟨g, o + (p + 1), none⟩) b := by
        have := hra.take b.length
        rw [hbd, List.drop_drop]
        simpa [eB] using this
      have HG := Lib.hid (show Going d (j + 1) from fun i hi => by
        rcases Nat.lt_or_ge i j with h1 | h1
        · exact hgo i h1
        · obtain rfl : i = j := by omega
          rw [← Hp.out, hfm]
          simp)
      have HP := Lib.hid (show posF d (j + 1) = p + (b.length + 3) by rw [posF, ← Hp.out, frontM_yes hfm])
      have HB := Lib.hid (show bodF d (j + 1) = bodF d j ++ [b] by rw [bodF, ← Hp.out, hfm]; rfl)
      have HC := Lib.hid fun (W : World) (h : Below wr.heap.size wr W) => l1Copy (some ⟨g, o + (p + 1), none⟩) b.length (c - (p + 1)) b W (hrb.lift h) rfl (by omega)
      have Hgo := Lib.hid hgo
      have Hps := Lib.hid hps
      obtain ⟨m, hm⟩ : ∃ m, m = b.length := ⟨_, rfl⟩
      rw [← hm] at HF HC hb1 hb3 hb40
      have HM := Lib.hid hm
      rw [Option.map_some, addr_add, show ((m + 3 : Nat) : Int) = (m : Int) + 3 from by omega] at HF
      clear hm hgo hps hfm hbd hra hrb hr
      have t1 : ((p : Int) + 1).toNat = p + 1 := by omega
      have t2 : ((p : Int) + ((m : Int) + 3) - 2).toNat = p + (m + 1) := by omega
      have s1 : ¬ c = p + 1 := by omega
      have s2 : p + (m + 1) - (p + 1) = m := by omega
      have l1 : (p : Int) + ((m : Int) + 3) - 2 ≤ (c : Int) := by omega
      have l2 : (p : Int) + 1 ≤ (p : Int) + ((m : Int) + 3) - 2 := by omega
      have hjn : j ≤ 1048576 := by
        have h1 := posF_ge Hgo.out
        have h2 := Hp.out
        omega
      go_wp2_with (first
        | (go_at_call 64; refine HF.out.mono ?_; rintro e w1 ⟨rfl, hw1⟩)
        | (go_at_call 52
           refine (HC.out _ hw1).mono ?_
           rintro e w2 ⟨A2, c2, rfl, ow2, hw2⟩
           have hB2 : Below w.heap.size w w2 := (hbel.trans (hw1.mono hbel.size)).trans (hw2.mono (Nat.le_trans hbel.size hw1.size))
           have d1 := how.below hw1 (Nat.le_refl _)
           have d3 := (d1.below hw2 (Nat.le_refl _)).alloc (.cells #[.slice A2 m c2] 22)
           have o3 := ow2.alloc (.cells #[.slice A2 m c2] 22)
           have hrd := rd_one_row w2 22 b ⟨A2, m, c2⟩
           have hB3 := hB2.alloc hB2.size (.cells #[.slice A2 m c2] 22))
        | (at_builtin
           refine wpList_append_ow okBB _ rfl (.tmp 16) (.tmp 26) _ rfl w.heap.size info_bb Try.underlying25 rfl A1 j c1 ps rfl d3.1 (some ⟨w2.heap.size, 0, none⟩) 1 1 _ [(b, [⟨A2, m, c2⟩])] rfl hrd rfl (by unfold maxLen; omega) (by omega) hB3.size ?_
           intro A4 c4 w4 ow4 hg4 hat4))
      have hB1 := hbel.trans (hw1.mono hbel.size)
      have d4 := d1.snocB d3 o3 hB1.size ow4 hg4 hat4
      have hB4 := hB3.grown hg4 hB3.size (fun g hg => (Ow.lt d3.1 g hg).1)
      refine ⟨⟨j + 1, A4, c4, _, rfl, ?_, d4, by rw [HB.out, List.map_append, Hps.out]; rfl, HG.out, hB4⟩, by simp [intOf]; omega⟩
      rw [HP.out, ← HM.out]
      congr 1

set_option maxHeartbeats 400000 in
theorem specReadFrames_big (A : Option Addr) (n c : Nat) (d : List UInt8) (w : World) (hn : d.length = n) (h : 20000 < n) :
    Calls Try.prog 13 #[.slice A n c] w fun e w' => RetFR (framesM d) w e w' := by
  have Hf := Lib.hid (framesM_big (d := d) (by omega))
  have hgt : (20000 : Int) < (n : Int) := by omega
  clear hn h
  go_enter Try.func13, Try.ntmps13
  go_wp2
  refine bodyPost_ret (v := .agg #[.int .i64 2, .slice none 0 0, .int .i64 0]) (by simp [results, Try.results13, go_sem]) rfl ?_
  rw [Hf.out]
  exact ⟨none, 0, 0, [], rfl, DOw.nil, rfl, (Below.refl _ _).alloc (Nat.le_refl _) _⟩

set_option maxHeartbeats 800000 in
theorem specReadFrames_ok (A : Option Addr) (n c : Nat) (d : List UInt8) (w : World) (hr : Rd eB w w.heap.size A d) (hn : d.length = n) (hc : n ≤ c) (hcm : c ≤ maxLen) (h : n ≤ 20000) :
    Calls Try.prog 13 #[.slice A n c] w fun e w' => RetFR (framesM d) w e w' := by
  have Hf := fun J => framesM_ok (d := d) (J := J) (by omega)
  have Hf' := Lib.hid Hf
  have B1 := (Below.refl w.heap.size w).alloc (Nat.le_refl _) (.cells #[.int .i64 0, .slice none 0 0, .int .i64 0] 27)
  have H := Lib.hid (l1Frames A n c d _ (hr.lift B1) hn hc (by omega) hcm)
  have hle : (n : Int) ≤ 20000 := by omega
  clear Hf hn h hr
  go_enter Try.func13, Try.ntmps13
  go_wp2_with (go_at_call 48; refine H.out.mono ?_; rintro e w1 ⟨J, A1, c1, ps, rfl, hJ, dw, hps, hb1⟩; have a1 := (At.new w 27 #[.int .i64 0, .slice none 0 0, .int .i64 0]).below hb1 (by simp); obtain ⟨r0, r1, r2, _, _, _⟩ := a1.three)
  refine bodyPost_ret (v := .agg #[.int .i64 0, .slice A1 J c1, .int .i64 (posF d J : Nat)]) (by simp [results, Try.results13, go_sem, r0, r1, r2]) rfl ?_
  rw [Hf'.out J hJ]
  exact ⟨A1, J, c1, ps, rfl, (((dw.under (p := ⟨w.heap.size, 0, none⟩) (by simp) _).under (p := ⟨w.heap.size, 1, none⟩) (by simp) _).under (p := ⟨w.heap.size, 2, none⟩) (by simp) _).from_ (by simp), hps,
    (((B1.trans (hb1.mono B1.size)).setCell (Nat.le_refl _) _).setCell (Nat.le_refl _) _).setCell (Nat.le_refl _) _⟩

theorem specReadFrames (A : Option Addr) (n c : Nat) (d : List UInt8) (w : World) (hr : Rd eB w w.heap.size A d) (hn : d.length = n) (hc : n ≤ c) (hcm : c ≤ maxLen) :
    Calls Try.prog 13 #[.slice A n c] w fun e w' => RetFR (framesM d) w e w' := by
  by_cases h : n ≤ 20000
  · exact specReadFrames_ok A n c d w hr hn hc hcm h
  · exact specReadFrames_big A n c d w hn (by omega)

/-! ### impl -/
set_option maxHeartbeats 400000 in
theorem implReadFrames_big (A : Option Addr) (n c : Nat) (d : List UInt8) (w : World) (hn : d.length = n) (h : 20000 < n) :
    Calls Try.prog 12 #[.slice A n c] w fun e w' => RetFR (framesM d) w e w' := by
  have Hf := Lib.hid (framesM_big (d := d) (by omega))
  have hgt : (20000 : Int) < (n : Int) := by omega
  clear hn h
  go_enter Try.func12, Try.ntmps12
  go_wp2
  refine bodyPost_ret (v := .agg #[.int .i64 2, .slice none 0 0, .int .i64 0]) (by simp [results, Try.results12, go_sem]) rfl ?_
  rw [Hf.out]
  exact ⟨none, 0, 0, [], rfl, DOw.nil, rfl, (Below.refl _ _).alloc (Nat.le_refl _) _⟩

def IFramesRel (w : World) (d : List UInt8) (wr : World) : Prop :=
  ∃ j A c ps, At wr w.heap.size 27 #[.int .i64 0, .slice none 0 0, .int .i64 0] ∧ At wr (w.heap.size + 1) 27 #[.int .i64 0, .slice A j c, .int .i64 (posF d j : Nat)] ∧ DOw eBB wr (w.heap.size + 2) A j c ps ∧ ps.map (·.1) = bodF d j ∧ Going d j ∧ Below w.heap.size w wr
def posAt (w wr : World) : Nat := (intOf ((wr.cell? ⟨w.heap.size + 1, 2, none⟩).getD undef)).toNat

set_option maxHeartbeats 600000 in
theorem implReadFrames_ok (A : Option Addr) (n c : Nat) (d : List UInt8) (w : World) (hr : Rd eB w w.heap.size A d) (hn : d.length = n) (hc : n ≤ c) (h : n ≤ 20000) :
    Calls Try.prog 12 #[.slice A n c] w fun e w' => RetFR (framesM d) w e w' := by
  have Hf := fun J => framesM_ok (d := d) (J := J) (by omega)
  have Hf' := Lib.hid Hf
  have Hn := Lib.hid hn
  have hle : (n : Int) ≤ 20000 := by omega
  clear Hf hn
  have hnil : ∀ u : World, (binOp .eql 22 (.slice none 0 0) (.slice none 0 0)).run Try.prog u = .ok (.bool true) u := fun u => Lib.run_eql_slice_nil (P := Try.prog) u 22 5 none 0 0 0 0 Try.underlying22
  go_enter Try.func12, Try.ntmps12
  go_wp2
  have B0 := ((Below.refl w.heap.size w).alloc (Nat.le_refl _) (.cells #[.int .i64 0, .slice none 0 0, .int .i64 0] 27)).alloc (by simp) (.cells #[.int .i64 0, .slice none 0 0, .int .i64 0] 27)
  have aR0 := (At.new w 27 #[.int .i64 0, .slice none 0 0, .int .i64 0]).alloc (.cells #[.int .i64 0, .slice none 0 0, .int .i64 0] 27)
  have aV0 := At.new (w.alloc (.cells #[.int .i64 0, .slice none 0 0, .int .i64 0] 27)) 27 #[.int .i64 0, .slice none 0 0, .int .i64 0]
  simp only [World.size_alloc] at aV0
  go_loopw [4] (fun _ wr => IFramesRel w d wr) (fun _ wr => n - posAt w wr)
  case atStart => exact ⟨0, none, 0, [], aR0, aV0, DOw.nil, rfl, fun i hi => absurd hi (by omega), B0⟩
  case round =>
    obtain ⟨j, A1, c1, ps, aR, aV, how, hps, hgo, hbel⟩ := hrel
    have hpl := posF_le d j
    have hpos0 : posAt w wr = posF d j := by
      unfold posAt
      rw [aV.cell 2]
      rfl
    have Hpos := Lib.hid hpos0
    clear hpos0
    obtain ⟨p, hp⟩ : ∃ p, p = posF d j := ⟨_, rfl⟩
    rw [← hp] at hpl aV
    have hpn : p ≤ n := by rw [← Hn.out]; exact hpl
    have Hp := Lib.hid hp
    clear hp hpl
    obtain ⟨v0, v1, v2, _, _, _⟩ := aV.three
    have HF := Lib.hid (firstBody (if c = p then A else A.map (·.add p)) (n - p) (c - p) (d.drop p) wr ((hr.lift hbel).cut p c (by rw [Hn.out]; exact hc)) (by rw [List.length_drop, Hn.out]) (by omega) (by omega))
    cases hfm : firstM (d.drop p) with
    | none =>
      have HE := Lib.hid (Hf'.out j ⟨by rw [← Hp.out]; exact hfm, hgo⟩)
      have Hps := Lib.hid hps
      rw [hfm] at HF
      clear hfm hgo hps
      by_cases hcp : c = p
      all_goals
        first
          | (have hnp : n = p := by omega
             subst hnp
             subst hcp
             rw [if_pos rfl, Nat.sub_self] at HF)
          | (rw [if_neg hcp] at HF)
        go_wp2_with (go_at_call 47; refine HF.out.mono ?_; rintro e w1 ⟨hw1, he1⟩; obtain rfl : e = .returned (.slice none 0 0) := he1; have aR1 := aR.below hw1 aR.lt; have aV1 := aV.below hw1 aV.lt; obtain ⟨r0, r1, r2, _, _, _⟩ := aR1.three; obtain ⟨u0, u1, u2, _, _, _⟩ := aV1.three)
        refine bodyPost_ret (v := .agg #[.int .i64 0, .slice A1 j c1, .int .i64 (posF d j : Nat)]) (by rw [← Hp.out]; simp [results, Try.results12, go_sem, r0, r1, r2]) rfl ?_
        rw [HE.out]
        have hB1 := hbel.trans (hw1.mono hbel.size)
        exact ⟨A1, j, c1, ps, rfl, ((((how.below hw1 (Nat.le_refl _)).under (p := ⟨w.heap.size, 0, none⟩) (by simp) _).under (p := ⟨w.heap.size, 1, none⟩) (by simp) _).under (p := ⟨w.heap.size, 2, none⟩) (by simp) _).from_ (by omega), Hps.out,
          ((hB1.setCell (Nat.le_refl _) _).setCell (Nat.le_refl _) _).setCell (Nat.le_refl _) _⟩
    | some b =>
      obtain ⟨hb1, hb3, hb40, _⟩ := firstM_len hfm
      rw [List.length_drop, Hn.out] at hb3
      rw [hfm] at HF
      have hcp : ¬ c = p := by omega
      rw [if_neg hcp] at HF
      have HG := Lib.hid (show Going d (j + 1) from fun i hi => by
        rcases Nat.lt_or_ge i j with h1 | h1
        · exact hgo i h1
        · obtain rfl : i = j := by omega
          rw [← Hp.out, hfm]
          simp)
      have HP := Lib.hid (show posF d (j + 1) = p + (b.length + 3) by rw [posF, ← Hp.out, frontM_yes hfm])
      have HB := Lib.hid (show bodF d (j + 1) = bodF d j ++ [b] by rw [bodF, ← Hp.out, hfm]; rfl)
      have Hps := Lib.hid hps
      have hjn : j ≤ 1048576 := by
        have h1 := posF_ge hgo
        have h2 := Hp.out
        omega
      obtain ⟨m, hm⟩ : ∃ m, m = b.length := ⟨_, rfl⟩
      have HM := Lib.hid hm
      rw [← hm] at hb1 hb3 hb40
      clear hm hgo hps hfm
      go_wp2_with (first
        | (go_at_call 47
           refine HF.out.mono ?_
           rintro e w1 ⟨hw1, g2, c2, he1, ow2⟩
           rw [← HM.out] at he1 ow2
           obtain rfl : e = .returned (.slice (some ⟨g2, 0, none⟩) m c2) := he1
           have heq : ∀ u : World, (binOp .eql 22 (.slice (some ⟨g2, 0, none⟩) m c2) (.slice none 0 0)).run Try.prog u = .ok (.bool false) u := fun u => Lib.run_eql_slice_nil (P := Try.prog) u 22 5 (some ⟨g2, 0, none⟩) m c2 0 0 Try.underlying22
           have aR1 := aR.below hw1 aR.lt
           have aV1 := aV.below hw1 aV.lt
           have z1 := aV1.lt
           obtain ⟨u0, u1, u2, _, _, _⟩ := aV1.three
           have hB1 := hbel.trans (hw1.mono hbel.size)
           have hrd := rd_one_row w1 22 b ⟨some ⟨g2, 0, none⟩, m, c2⟩
           have d3 := (how.below hw1 (Nat.le_refl _)).alloc (.cells #[.slice (some ⟨g2, 0, none⟩) m c2] 22)
           have o3 := ow2.alloc (.cells #[.slice (some ⟨g2, 0, none⟩) m c2] 22)
           have aR3 := aR1.alloc (.cells #[.slice (some ⟨g2, 0, none⟩) m c2] 22)
           have aV3 := aV1.alloc (.cells #[.slice (some ⟨g2, 0, none⟩) m c2] 22)
           have hB3 := hB1.alloc hB1.size (.cells #[.slice (some ⟨g2, 0, none⟩) m c2] 22)
           have hb2 : w.heap.size + 2 ≤ w1.heap.size + 1 := by omega)
        | (at_builtin
           refine wpList_append_ow okBB _ rfl (.tmp 18) (.tmp 20) _ rfl (w.heap.size + 2) info_bb Try.underlying25 rfl A1 j c1 ps rfl d3.1 (some ⟨w1.heap.size, 0, none⟩) 1 1 _ [(b, [⟨some ⟨g2, 0, none⟩, m, c2⟩])] rfl hrd rfl (by unfold maxLen; omega) (by omega) (by simpa using hb2) ?_
           intro A4 c4 w4 ow4 hg4 hat4
           have aR4 := aR3.grown hg4 (fun e => by have := (Ow.lt d3.1 _ e).1; omega)
           have aV4 := aV3.grown hg4 (fun e => by have := (Ow.lt d3.1 _ e).1; omega)
           obtain ⟨x0, x1, x2, y0, y1, y2⟩ := aV4.three))
      have hcast : (p : Int) + ((m : Int) + 3) = ((posF d (j + 1) : Nat) : Int) := by rw [HP.out, ← HM.out]; omega
      rw [hcast]
      have aR5 := (aR4.far (p := ⟨w.heap.size + 1, 1, none⟩) (by simp) (.slice A4 (j + 1) c4)).far (p := ⟨w.heap.size + 1, 2, none⟩) (by simp) (.int .i64 ((posF d (j + 1) : Nat) : Int))
      have aV5 := (aV4.set 1 (.slice A4 (j + 1) c4)).set 2 (.int .i64 ((posF d (j + 1) : Nat) : Int))
      have hz := aV.lt
      have d4 := how.snocB d3 o3 (by omega) ow4 hg4 hat4
      have d5 := (d4.under (p := ⟨w.heap.size + 1, 1, none⟩) (by simp) (.slice A4 (j + 1) c4)).under (p := ⟨w.heap.size + 1, 2, none⟩) (by simp) (.int .i64 ((posF d (j + 1) : Nat) : Int))
      have hB4 := hB3.grown hg4 hB3.size (fun g hg => by have := (Ow.lt d3.1 g hg).1; omega)
      have hB5 := (hB4.setCell (p := ⟨w.heap.size + 1, 1, none⟩) (by simp) (.slice A4 (j + 1) c4)).setCell (p := ⟨w.heap.size + 1, 2, none⟩) (by simp) (.int .i64 ((posF d (j + 1) : Nat) : Int))
      refine ⟨⟨j + 1, A4, c4, _, aR5, aV5, d5, by rw [HB.out, List.map_append, Hps.out]; rfl, HG.out, hB5⟩, ?_⟩
      rw [Hpos.out]
      unfold posAt
      rw [aV5.cell 2]
      have h1 := HP.out
      have h2 := HM.out
      have h3 := Hp.out
      simp [intOf]
      omega

theorem implReadFrames (A : Option Addr) (n c : Nat) (d : List UInt8) (w : World) (hr : Rd eB w w.heap.size A d) (hn : d.length = n) (hc : n ≤ c) :
    Calls Try.prog 12 #[.slice A n c] w fun e w' => RetFR (framesM d) w e w' := by
  by_cases h : n ≤ 20000
  · exact implReadFrames_ok A n c d w hr hn hc h
  · exact implReadFrames_big A n c d w hn (by omega)
end Go.Proofs.Ytkdfbaiolgndeaa
