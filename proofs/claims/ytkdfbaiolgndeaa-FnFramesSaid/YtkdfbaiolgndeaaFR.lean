import Derived.Test.YtkdfbaiolgndeaaDeep
import Derived.Test.YtkdfbaiolgndeaaEq
import Derived.Test.YtkdfbaiolgndeaaMark
import Derived.StillTailTactics
namespace Go.Proofs.Ytkdfbaiolgndeaa
open Go.RowKit

theorem rows_no {ps qs : List (List UInt8 × List Hd)} {k : Nat} {p q : List UInt8 × List Hd} (hp : ps[k]? = some p) (hq : qs[k]? = some q) (h : p.1 ≠ q.1) : decide (ps.map (·.1) = qs.map (·.1)) = false := by
  simp only [decide_eq_false_iff_not]
  intro e
  have := congrArg (fun l => l[k]?) e
  simp [hp, hq] at this
  exact h this

def EqRRel (ps qs : List (List UInt8 × List Hd)) (w : World) (n : Nat) (i : Value) (wr : World) : Prop :=
  ∃ k : Nat, k ≤ n ∧ i = .int .i64 k ∧ (∀ i p q, i < k → ps[i]? = some p → qs[i]? = some q → p.1 = q.1) ∧ Below w.heap.size w wr

set_option maxHeartbeats 400000 in
theorem eqByteSS_no (A B : Option Addr) (n m c d : Nat) (w : World) (h : n ≠ m) :
    Calls Try.prog 60 #[.slice A n c, .slice B m d] w fun e w' => e = .returned (.bool false) ∧ Below w.heap.size w w' := by
  have hb : ((n : Int) != (m : Int)) = true := by simp; omega
  go_enter Try.func60, Try.ntmps60
  go_wp2
  go_ret
  exact ⟨rfl, Below.refl _ _⟩

set_option maxHeartbeats 800000 in
theorem eqByteSS_any (A B : Option Addr) (n c d ba bb : Nat) (ps qs : List (List UInt8 × List Hd)) (w : World) (ha : DOw eBB w ba A n c ps) (hb : DOw eBB w bb B n d qs) (hm : n ≤ maxLen) :
    Calls Try.prog 60 #[.slice A n c, .slice B n d] w fun e w' => e = .returned (.bool (decide (ps.map (·.1) = qs.map (·.1)))) ∧ Below w.heap.size w w' := by
  have h0 : ((n : Int) != (n : Int)) = false := by simp
  have Hx := Lib.hid (Ow.len okBB ha.1)
  have Hy := Lib.hid (Ow.len okBB hb.1)
  unfold maxLen at hm
  go_enter Try.func60, Try.ntmps60
  go_wp2
  go_loopw [5] (fun i wr => EqRRel ps qs w n i wr) (fun i _ => n - (intOf i).toNat)
  case atStart => exact ⟨0, Nat.zero_le _, rfl, fun _ _ _ h => absurd h (by omega), Below.refl _ _⟩
  case round =>
    obtain ⟨k, hk, rfl, hal, hbel⟩ := hrel
    have Hal := Lib.hid hal
    clear hal
    by_cases hlt : k < n
    · have ha1 := ha.below hbel (Nat.le_refl _)
      have hb1 := hb.below hbel (Nat.le_refl _)
      obtain ⟨p, hp⟩ : ∃ p, ps[k]? = some p := ⟨_, List.getElem?_eq_getElem (by rw [Hx.out]; exact hlt)⟩
      obtain ⟨q, hq⟩ : ∃ q, qs[k]? = some q := ⟨_, List.getElem?_eq_getElem (by rw [Hy.out]; exact hlt)⟩
      obtain ⟨g, x, rfl, _, cx, ox⟩ := ha1.row hp
      obtain ⟨g', y, rfl, _, cy, oy⟩ := hb1.row hq
      have Hp := Lib.hid hp
      have Hq := Lib.hid hq
      clear hp hq
      go_wp2
      go_still_tail 8, (by kernel_rfl)
      change wpList _ _ _ _ _ wr.drew
      have hbd : Below w.heap.size w wr.drew := hbel.drew
      have rx : Rd eB wr.drew wr.drew.heap.size x.A p.1 := ox.rd okB
      have ry : Rd eB wr.drew wr.drew.heap.size y.A q.1 := oy.rd okB
      by_cases he : p.1 = q.1
      · have hd : decide (p.1 = q.1) = true := by simpa using he
        have He := Lib.hid he
        clear he
        go_wp2_with (go_at_call 35; refine (eqByteS x.A y.A x.n y.n x.c y.c _ _ _ rx ry (ox.len okB) (oy.len okB) ox.small).mono ?_; rintro e w1 ⟨rfl, hb1⟩)
        refine ⟨⟨k + 1, by omega, by go_num, fun i p' q' hi hp' hq' => ?_, hbd.trans (hb1.mono hbd.size)⟩, by simp [intOf]; omega⟩
        rcases Nat.lt_or_ge i k with h | h
        · exact Hal.out i p' q' h hp' hq'
        · obtain rfl : i = k := by omega
          rw [Hp.out] at hp'
          rw [Hq.out] at hq'
          obtain rfl := Option.some.inj hp'
          obtain rfl := Option.some.inj hq'
          exact He.out
      · have hd : decide (p.1 = q.1) = false := by simpa using he
        have Hf := Lib.hid (rows_no Hp.out Hq.out he)
        clear he
        go_wp2_with (go_at_call 35; refine (eqByteS x.A y.A x.n y.n x.c y.c _ _ _ rx ry (ox.len okB) (oy.len okB) ox.small).mono ?_; rintro e w1 ⟨rfl, hb1⟩)
        go_ret
        exact ⟨by rw [Hf.out]; rfl, hbd.trans (hb1.mono hbd.size)⟩
    · have hfin : decide (ps.map (·.1) = qs.map (·.1)) = true := by
        obtain rfl : k = n := by omega
        simp only [decide_eq_true_eq]
        refine List.ext_getElem? fun i => ?_
        rw [List.getElem?_map, List.getElem?_map]
        rcases Nat.lt_or_ge i k with h1 | h1
        · have e1 : ps[i]? = some (ps[i]'(by rw [Hx.out]; exact h1)) := List.getElem?_eq_getElem _
          have e2 : qs[i]? = some (qs[i]'(by rw [Hy.out]; exact h1)) := List.getElem?_eq_getElem _
          have := Hal.out i _ _ h1 e1 e2
          rw [e1, e2]
          simpa using this
        · rw [List.getElem?_eq_none (by rw [Hx.out]; exact h1), List.getElem?_eq_none (by rw [Hy.out]; exact h1)]
      have Hf := Lib.hid hfin
      clear hfin
      go_wp2
      go_ret
      exact ⟨by rw [Hf.out]; rfl, hbel⟩

theorem eqByteSS (A B : Option Addr) (n m c d ba bb : Nat) (ps qs : List (List UInt8 × List Hd)) (w : World) (ha : DOw eBB w ba A n c ps) (hb : DOw eBB w bb B m d qs) :
    Calls Try.prog 60 #[.slice A n c, .slice B m d] w fun e w' => e = .returned (.bool (decide (ps.map (·.1) = qs.map (·.1)))) ∧ Below w.heap.size w w' := by
  by_cases h : n = m
  · subst h
    exact eqByteSS_any A B n c d ba bb ps qs w ha hb (Ow.small ha.1)
  · have hd : decide (ps.map (·.1) = qs.map (·.1)) = false := by
      simp only [decide_eq_false_iff_not]
      intro e
      have := congrArg List.length e
      rw [List.length_map, List.length_map, Ow.len okBB ha.1, Ow.len okBB hb.1] at this
      exact h this
    rw [hd]
    exact eqByteSS_no A B n m c d w h

/-- How many bytes some rows have. -/
def sumLen (ps : List (List UInt8 × List Hd)) : Nat := (ps.map fun p => p.1.length).sum
theorem sumLen_eq {ps : List (List UInt8 × List Hd)} {l : List (List UInt8)} (h : ps.map (·.1) = l) : sumLen ps = (l.map List.length).sum := by
  subst h
  simp only [sumLen, List.map_map]
  rfl
/-- Rows marked from k on. -/
def markRows : Nat → List (List UInt8 × List Hd) → List (List UInt8 × List Hd)
  | _, [] => []
  | k, p :: r => (marks k p.1.length, p.2) :: markRows (k + p.1.length) r
theorem markRows_len (k : Nat) (ps : List (List UInt8 × List Hd)) : (markRows k ps).length = ps.length := by
  induction ps generalizing k with
  | nil => rfl
  | cons p r ih => simp [markRows, ih]
theorem markRows_at {ps : List (List UInt8 × List Hd)} {j : Nat} {p : List UInt8 × List Hd} (k : Nat) (h : ps[j]? = some p) : (markRows k ps)[j]? = some (marks (k + sumLen (ps.take j)) p.1.length, p.2) := by
  induction ps generalizing k j with
  | nil => simp at h
  | cons q r ih =>
    match j, h with
    | 0, h =>
      obtain rfl : q = p := by simpa using h
      simp [markRows, sumLen]
    | j + 1, h =>
      have := ih (j := j) (k + q.1.length) (by simpa using h)
      simp only [markRows, List.getElem?_cons_succ, this, List.take_succ_cons, sumLen, List.map_cons, List.sum_cons]
      simp [Nat.add_assoc]
theorem sumLen_succ {ps : List (List UInt8 × List Hd)} {j : Nat} {p : List UInt8 × List Hd} (h : ps[j]? = some p) : sumLen (ps.take (j + 1)) = sumLen (ps.take j) + p.1.length := by
  have hl := getElem?_some_lt h
  rw [List.take_succ_eq_append_getElem hl]
  rw [List.getElem?_eq_getElem hl] at h
  rw [Option.some.inj h]
  simp [sumLen]
theorem sumLen_le (ps : List (List UInt8 × List Hd)) (j : Nat) : sumLen (ps.take j) ≤ sumLen ps := by
  have h2 : sumLen ps = sumLen (ps.take j) + sumLen (ps.drop j) := by
    unfold sumLen
    rw [← List.sum_append, ← List.map_append, List.take_append_drop]
  omega
/-- The first j rows are marked. -/
def mixed (k : Nat) (ps : List (List UInt8 × List Hd)) (j : Nat) : List (List UInt8 × List Hd) := (markRows k ps).take j ++ ps.drop j
theorem mixed_at {ps : List (List UInt8 × List Hd)} {j : Nat} {p : List UInt8 × List Hd} (k : Nat) (h : ps[j]? = some p) : (mixed k ps j)[j]? = some p := by
  have hl := getElem?_some_lt h
  unfold mixed
  rw [List.getElem?_append_right (by rw [List.length_take, markRows_len]; omega), List.length_take, markRows_len, Nat.min_eq_left (by omega), Nat.sub_self, List.getElem?_drop, Nat.add_zero, h]
theorem mixed_set {ps : List (List UInt8 × List Hd)} {j : Nat} {p : List UInt8 × List Hd} (k : Nat) (h : ps[j]? = some p) : (mixed k ps j).set j (marks (k + sumLen (ps.take j)) p.1.length, p.2) = mixed k ps (j + 1) := by
  have hl := getElem?_some_lt h
  have hm := markRows_at k h
  have h1 : ((markRows k ps).take j).length = j := by rw [List.length_take, markRows_len]; omega
  have h2 : ((markRows k ps).take (j + 1)).length = j + 1 := by rw [List.length_take, markRows_len]; omega
  apply List.ext_getElem?
  intro i
  unfold mixed
  rw [List.getElem?_set]
  by_cases e : j = i
  · subst e
    rw [if_pos rfl, if_pos (by rw [List.length_append, h1, List.length_drop]; omega), List.getElem?_append_left (by omega), List.getElem?_take, if_pos (by omega), hm]
  · rw [if_neg e]
    rcases Nat.lt_or_ge i j with h3 | h3
    · rw [List.getElem?_append_left (by omega), List.getElem?_append_left (by omega), List.getElem?_take, List.getElem?_take, if_pos h3, if_pos (by omega)]
    · rw [List.getElem?_append_right (by omega), List.getElem?_append_right (by omega), h1, h2, List.getElem?_drop, List.getElem?_drop]
      congr 1
      omega

theorem markByteSi (A : Option Addr) (n c base : Nat) (l : List UInt8) (k : Nat) (v : Int) (w : World) (hv : v = (k : Int)) (ha : Ow eB w base A n c l) (hm : n ≤ 4294967296) (hk : k ≤ 4294967296) :
    Calls Try.prog 36 #[.slice A n c, .int .i64 v] w fun e w' => e = .returned (.int .i64 (v + n)) ∧ Ow eB w' base A n c (marks k n) ∧ w.grownBy w' (A.map (·.block)) := by
  subst hv
  exact markByteS A n c base l k w ha hm hk
theorem heldByteSi (A : Option Addr) (n c : Nat) (k : Nat) (v : Int) (w : World) (hv : v = (k : Int)) (ha : Rd eB w w.heap.size A (marks k n)) (hm : n ≤ 4294967296) (hk : k ≤ 4294967296) :
    Calls Try.prog 59 #[.slice A n c, .int .i64 v] w fun e w' => e = .returned (.int .i64 (v + n)) ∧ Below w.heap.size w w' := by
  subst hv
  exact heldByteS A n c k w ha hm hk

def MarkRRel (w : World) (base : Nat) (A : Option Addr) (n c : Nat) (ps : List (List UInt8 × List Hd)) (k : Nat) (vk i : Value) (wr : World) : Prop :=
  ∃ j : Nat, j ≤ n ∧ i = .int .i64 j ∧ vk = .int .i64 ((k : Int) + (sumLen (ps.take j) : Nat)) ∧ DOw eBB wr base A n c (mixed k ps j) ∧ Only (blks ps) w wr

set_option maxHeartbeats 800000 in
theorem markByteSS (A : Option Addr) (n c base : Nat) (ps : List (List UInt8 × List Hd)) (k : Nat) (w : World) (ha : DOw eBB w base A n c ps) (hm : sumLen ps ≤ 2000000000) (hk : k ≤ 1000) :
    Calls Try.prog 61 #[.slice A n c, .int .i64 k] w fun e w' => e = .returned (.int .i64 ((k : Int) + (sumLen ps : Nat))) ∧ DOw eBB w' base A n c (markRows k ps) ∧ Only (blks ps) w w' := by
  have Hn := Lib.hid (Ow.len okBB ha.1)
  have hM := Ow.small ha.1
  unfold maxLen at hM
  go_enter Try.func61, Try.ntmps61
  go_wp2
  go_loopw [1, 5] (fun vk i wr => MarkRRel w base A n c ps k vk i wr) (fun _ i _ => n - (intOf i).toNat)
  case atStart => exact ⟨0, Nat.zero_le _, rfl, by simp [sumLen], by simpa [mixed] using ha, Only.refl _ _⟩
  case round =>
    obtain ⟨j, hj, rfl, rfl, hown, hon⟩ := hrel
    by_cases hlt : j < n
    · obtain ⟨p, hp⟩ : ∃ p, ps[j]? = some p := ⟨_, List.getElem?_eq_getElem (by rw [Hn.out]; exact hlt)⟩
      obtain ⟨g, x, rfl, hx, cx, ox⟩ := hown.row (mixed_at k hp)
      have hsl : sumLen (ps.take j) ≤ 2000000000 := Nat.le_trans (sumLen_le ps j) hm
      have hpl : p.1.length ≤ 4294967296 := by
        have h1 := sumLen_succ hp
        have h2 := sumLen_le ps (j + 1)
        omega
      have hxn := ox.len okB
      have Hp := Lib.hid hp
      have Hx := Lib.hid hx
      have Hxn := Lib.hid hxn
      clear hp hx hxn
      go_wp2_with (go_at_call 36; refine (markByteSi x.A x.n x.c base p.1 (k + sumLen (ps.take j)) _ _ (by omega) ox (by have := Hxn.out; omega) (by omega)).mono ?_; rintro e w1 ⟨rfl, ow1, hg1⟩)
      have hin : ∀ b ∈ (x.A.map (·.block)).toList, b ∈ blks ps := fun b hb => mem_blks (List.mem_of_getElem? Hp.out) (h := x) (by rw [Hx.out]; simp) (by simpa [blkOf] using hb)
      have hst : DOw eBB w1 base (some ⟨g, 0, none⟩) n c (mixed k ps (j + 1)) := by
        rw [← mixed_set k Hp.out]
        have hp2 : (mixed k ps j)[j]? = some (p.1, p.2) := mixed_at k Hp.out
        refine hown.setAt hp2 rfl (fun b hb hn => hg1.block b hb (fun e => hn ?_)) ?_
        · rw [Hx.out]
          simp [blkOf, ← e]
        · rw [Hx.out, Hxn.out]
          refine ⟨rfl, fun i r h hr hh => ?_⟩
          match i, hr, hh with
          | 0, hr, hh =>
            obtain rfl := Option.some.inj hr
            obtain rfl := Option.some.inj hh
            exact ow1
          | i + 1, hr, hh => simp at hh
      refine ⟨⟨j + 1, by omega, by go_num, ?_, hst, hon.trans ((Only.of_grown hg1).more hin)⟩, by simp [intOf]; omega⟩
      have h1 := sumLen_succ Hp.out
      have h2 := Hxn.out
      congr 1
      omega
    · obtain rfl : n = j := by omega
      have hall : DOw eBB wr base A n c (markRows k ps) := by
        have h := hown
        rw [mixed, List.take_of_length_le (by rw [markRows_len, Hn.out]; omega), List.drop_of_length_le (by rw [Hn.out]; omega), List.append_nil] at h
        exact h
      have Hs := Lib.hid (show sumLen (ps.take n) = sumLen ps by rw [List.take_of_length_le (by rw [Hn.out]; omega)])
      clear hown
      go_wp2
      go_ret
      exact ⟨by rw [← Hs.out]; rfl, hall, hon⟩

def HeldRRel (w : World) (n k : Nat) (ps : List (List UInt8 × List Hd)) (vk i : Value) (wr : World) : Prop :=
  ∃ j : Nat, j ≤ n ∧ i = .int .i64 j ∧ vk = .int .i64 ((k : Int) + (sumLen (ps.take j) : Nat)) ∧ Below w.heap.size w wr

set_option maxHeartbeats 800000 in
theorem heldByteSS (A : Option Addr) (n c base : Nat) (ps : List (List UInt8 × List Hd)) (k : Nat) (w : World) (ha : DOw eBB w base A n c (markRows k ps)) (hm : sumLen ps ≤ 2000000000) (hk : k ≤ 1000) :
    Calls Try.prog 62 #[.slice A n c, .int .i64 k] w fun e w' => e = .returned (.int .i64 ((k : Int) + (sumLen ps : Nat))) ∧ Below w.heap.size w w' := by
  have Hn := Lib.hid (show ps.length = n by rw [← markRows_len k ps]; exact Ow.len okBB ha.1)
  have hM := Ow.small ha.1
  unfold maxLen at hM
  go_enter Try.func62, Try.ntmps62
  go_wp2
  go_loopw [1, 5] (fun vk i wr => HeldRRel w n k ps vk i wr) (fun _ i _ => n - (intOf i).toNat)
  case atStart => exact ⟨0, Nat.zero_le _, rfl, by simp [sumLen], Below.refl _ _⟩
  case round =>
    obtain ⟨j, hj, rfl, rfl, hbel⟩ := hrel
    by_cases hlt : j < n
    · obtain ⟨p, hp⟩ : ∃ p, ps[j]? = some p := ⟨_, List.getElem?_eq_getElem (by rw [Hn.out]; exact hlt)⟩
      obtain ⟨g, x, rfl, hx, cx, ox⟩ := (ha.below hbel (Nat.le_refl _)).row (markRows_at k hp)
      have hsl : sumLen (ps.take j) ≤ 2000000000 := Nat.le_trans (sumLen_le ps j) hm
      have hpl : p.1.length ≤ 4294967296 := by
        have h1 := sumLen_succ hp
        have h2 := sumLen_le ps (j + 1)
        omega
      have hxn : p.1.length = x.n := by have := ox.len okB; rwa [marks_len] at this
      have Hp := Lib.hid hp
      have rx : Rd eB wr wr.heap.size x.A (marks (k + sumLen (ps.take j)) x.n) := by
        have := ox.rd okB
        rwa [hxn] at this
      have Hxn := Lib.hid hxn
      clear hp hx hxn
      have hpos : decide ((k : Int) + (sumLen (ps.take j) : Nat) + (x.n : Nat) < 0) = false := decide_eq_false (by omega)
      go_wp2_with (go_at_call 59; refine (heldByteSi x.A x.n x.c (k + sumLen (ps.take j)) _ _ (by omega) rx (by have := Hxn.out; omega) (by omega)).mono ?_; rintro e w1 ⟨rfl, hb1⟩)
      refine ⟨⟨j + 1, by omega, by go_num, ?_, hbel.trans (hb1.mono hbel.size)⟩, by simp [intOf]; omega⟩
      have h1 := sumLen_succ Hp.out
      have h2 := Hxn.out
      congr 1
      omega
    · obtain rfl : n = j := by omega
      have Hs := Lib.hid (show sumLen (ps.take n) = sumLen ps by rw [List.take_of_length_le (by rw [Hn.out]; omega)])
      go_wp2
      go_ret
      exact ⟨by rw [← Hs.out]; rfl, hbel⟩

/-- An answer of a code, rows of bytes of the call's own, and a number. -/
def RetFR (r : Int × List (List UInt8) × Int) (w : World) (e : Ending) (w' : World) : Prop :=
  ∃ A n c ps, e = .returned (.agg #[.int .i64 r.1, .slice A n c, .int .i64 r.2.2]) ∧ DOw eBB w' w.heap.size A n c ps ∧ ps.map (·.1) = r.2.1 ∧ Below w.heap.size w w'

set_option maxHeartbeats 800000 in
theorem eqFramesResult (r : Int × List (List UInt8) × Int) (A B : Option Addr) (n m c d ba bb : Nat) (ps qs : List (List UInt8 × List Hd)) (w : World) (ha : DOw eBB w ba A n c ps) (hb : DOw eBB w bb B m d qs) (hp : ps.map (·.1) = r.2.1) (hq : qs.map (·.1) = r.2.1) :
    Calls Try.prog 37 #[.agg #[.int .i64 r.1, .slice A n c, .int .i64 r.2.2], .agg #[.int .i64 r.1, .slice B m d, .int .i64 r.2.2]] w fun e w' => e = .returned (.bool true) ∧ Below w.heap.size w w' := by
  have hb0 : Below w.heap.size w ((w.alloc (.cells #[.int .i64 r.1, .slice A n c, .int .i64 r.2.2] 27)).alloc (.cells #[.int .i64 r.1, .slice B m d, .int .i64 r.2.2] 27)) := ((Below.refl _ _).alloc (Nat.le_refl _) _).alloc (by simp) _
  have ha2 := ha.below hb0 (Nat.le_refl _)
  have hb2 := hb.below hb0 (Nat.le_refl _)
  have hd : decide (ps.map (·.1) = qs.map (·.1)) = true := by simp only [decide_eq_true_eq]; rw [hp, hq]
  have H := eqByteSS A B n m c d ba bb ps qs _ ha2 hb2
  rw [hd] at H
  have H2 := Lib.hid H
  clear H hd hp hq
  go_enter Try.func37, Try.ntmps37
  go_wp2_with (go_at_call 60; refine H2.out.mono ?_; rintro e w1 ⟨rfl, hb1⟩; have a0 := (At.new w 27 #[.int .i64 r.1, .slice A n c, .int .i64 r.2.2]).alloc (.cells #[.int .i64 r.1, .slice B m d, .int .i64 r.2.2] 27); have a1 := a0.below hb1 a0.lt; have b0 := At.new (w.alloc (.cells #[.int .i64 r.1, .slice A n c, .int .i64 r.2.2] 27)) 27 #[.int .i64 r.1, .slice B m d, .int .i64 r.2.2]; have b1 := b0.below hb1 b0.lt; simp only [World.size_alloc] at b1; obtain ⟨_, _, r2, _, _, _⟩ := a1.three; obtain ⟨_, _, q2, _, _, _⟩ := b1.three)
  go_ret
  exact ⟨rfl, hb0.trans (hb1.mono hb0.size)⟩

theorem markFramesResult (c1 sz : Int) (A : Option Addr) (n c base : Nat) (ps : List (List UInt8 × List Hd)) (w : World) (ha : DOw eBB w base A n c ps) (hm : sumLen ps ≤ 2000000000) :
    Calls Try.prog 38 #[.agg #[.int .i64 c1, .slice A n c, .int .i64 sz], .int .i64 1] w fun e w' => e = .returned (.int .i64 (1 + (sumLen ps : Nat))) ∧ DOw eBB w' base A n c (markRows 1 ps) ∧ Only (blks ps) w w' := by
  have H := Lib.hid (fun w (h : DOw eBB w base A n c ps) => markByteSS A n c base ps 1 w h hm (by omega))
  go_enter Try.func38, Try.ntmps38
  go_wp2_with (go_at_call 61; refine (H.out _ (ha.alloc _)).mono ?_; rintro e w1 ⟨rfl, hown, hg1⟩)
  go_ret
  exact ⟨rfl, hown, (Only.of_below ((Below.refl _ _).alloc (Nat.le_refl _) _)).trans hg1⟩

theorem heldFramesResult (c1 sz : Int) (A : Option Addr) (n c base : Nat) (ps : List (List UInt8 × List Hd)) (w : World) (ha : DOw eBB w base A n c (markRows 1 ps)) (hm : sumLen ps ≤ 2000000000) :
    Calls Try.prog 39 #[.agg #[.int .i64 c1, .slice A n c, .int .i64 sz], .int .i64 1] w fun e w' => e = .returned (.int .i64 (1 + (sumLen ps : Nat))) ∧ Below w.heap.size w w' := by
  have hb0 : Below w.heap.size w (w.alloc (.cells #[.int .i64 c1, .slice A n c, .int .i64 sz] 27)) := (Below.refl _ _).alloc (Nat.le_refl _) _
  have H := Lib.hid (fun w (h : DOw eBB w base A n c (markRows 1 ps)) => heldByteSS A n c base ps 1 w h hm (by omega))
  go_enter Try.func39, Try.ntmps39
  go_wp2_with (go_at_call 62; refine (H.out _ (ha.alloc _)).mono ?_; rintro e w1 ⟨rfl, hb1⟩)
  go_ret
  exact ⟨rfl, hb0.trans (hb1.mono hb0.size)⟩
end Go.Proofs.Ytkdfbaiolgndeaa
