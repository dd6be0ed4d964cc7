/-
  Texts of one proof, joined: each has its own namespace.
-/
import Derived.Test.YteiclanlhnccnaaGreatDoorBExApplyRecord3
import Derived.Test.YteiclanlhnccnaaGreatDoorBExApplyRecord0
import Derived.Test.YteiclanlhnccnaaGreatDoorBExApplyRecord1
/-
  As Mix, but two that make memory may come in either order: both are walked from there on, and what is known of every world goes along.
-/
namespace Go.Proofs.YteiclanlhnccnaaGreatDoor
set_option maxRecDepth 20000
open Go.RowKit

section
variable {P : Program} {md : Region.Mode} {ops : Array Oper} {Q : Exit → Act → World → Prop}

/-- As 'mixW'; behind it R. -/
def mixRW (P : Program) (ops : Array Oper) (Q : Exit → Act → World → Prop) (R : (World → Prop) → Act → World → Prop) : List (Oper × Bool) → (World → Prop) → Act → World → Prop
  | [], S, a, w => R S a w
  | (o, c) :: rest, S, a, w =>
    if Region.wanted o (yielded ops a.tmps) = true then
      if c = true then o.wp P a w (fun a' w' => ∃ S' : World → Prop, (∀ x, S' x → S x) ∧ S' w' ∧ mixRW P ops Q R rest S' a' w') Q
      else ∃ v, (∀ x, S x → (execOp a.eval o).run P x = .ok (.value v) x) ∧ mixRW P ops Q R rest S (a.put o.dst v) w
    else mixRW P ops Q R rest S (a.put o.dst undef) w

theorem held_of_mixR {l : List Oper} {R : (World → Prop) → Act → World → Prop} (hsel : Region.noSelect l.toArray = true) (hQ : ∀ c a (d : Nat) v w, Q (.panic c) (Act.put a (some d) v) w → Q (.panic c) a w) (fuel : Nat) :
    ∀ (p : List (Nat × Bool)) (listed : Array Bool) (S : World → Prop) (a : Act) (w : World), (∀ x ∈ p, x.1 < l.length) → forkB md l.toArray listed p = true →
      (∀ S a w, S w → R S a w → wpAnyH P md l.toArray Q S fuel (listedBy listed p) a w) → S w → mixRW P l.toArray Q R (mixOps l p) S a w →
      wpAnyH P md l.toArray Q S (p.length + fuel) listed a w
  | [], listed, S, a, w, _, _, hR, hS, h => by
    rw [List.length_nil, Nat.zero_add]
    exact hR S a w hS h
  | (k, c) :: p, listed, S, a, w, hl, hB, hR, hS, h => by
    have hk : k < l.length := hl (k, c) (by simp)
    obtain ⟨o, ho⟩ : ∃ o, l[k]? = some o := ⟨_, List.getElem?_eq_getElem hk⟩
    have hoa : l.toArray[k]? = some o := by simpa using ho
    simp only [forkB, Bool.and_eq_true] at hB
    obtain ⟨hb, hB'⟩ := hB
    have hQ' : ∀ c a d v w, Q (.panic c) (Act.put a d v) w → Q (.panic c) a w := fun c a d v w h => by
      cases d with
      | none => exact h
      | some d => exact hQ c a d v w h
    have ih := fun S a w => held_of_mixR hsel hQ fuel p (listed.setIfInBounds k true) S a w (fun x hx => hl x (by simp [hx])) hB' hR
    have e : ((k, c) :: p).length + fuel = p.length + fuel + 1 := by rw [List.length_cons]; omega
    rw [e]
    simp only [mixOps, List.map_cons, ho, Option.getD_some, mixRW] at h
    cases c with
    | false =>
      simp only [Bool.false_eq_true, if_false, Bool.and_eq_true] at hb h
      by_cases hw : Region.wanted o (yielded l.toArray a.tmps) = true
      · rw [if_pos hw] at h
        obtain ⟨v, hv, h⟩ := h
        exact wpAnyH_take hoa hsel hb.2 hb.1 (fun c a w => hQ' c a _ _ w) (.inl ⟨hw, hv⟩) hS (ih S _ w hS h)
      · rw [if_neg hw] at h
        exact wpAnyH_take hoa hsel hb.2 hb.1 (fun c a w => hQ' c a _ _ w) (.inr ⟨by simpa using hw, rfl⟩) hS (ih S _ w hS h)
    | true =>
      simp only [if_true] at hb h
      refine wpAnyH_all (rs := [k]) (by simpa using hb) (by simp) fun i hi => ?_
      obtain rfl : i = k := by simpa using hi
      unfold wpOp
      rw [hoa]
      simp only
      by_cases hw : Region.wanted o (yielded l.toArray a.tmps) = true
      · rw [if_pos hw] at h ⊢
        have h1 : wpOp P l.toArray Q i (fun a' w' => ∃ S' : World → Prop, (∀ x, S' x → S x) ∧ S' w' ∧ mixRW P l.toArray Q R (mixOps l p) S' a' w') a w := by
          unfold wpOp
          rw [hoa]
          simp only
          rw [if_pos hw]
          exact .inl h
        have h2 := wpOp_mono (K' := fun a' w' => S w' ∧ wpAnyH P md l.toArray Q S (p.length + fuel) (listed.setIfInBounds i true) a' w') (fun a' w' ⟨S', h1, h2, h3⟩ => ⟨h1 _ h2, held_mono h1 _ _ _ _ (ih S' a' w' h2 h3)⟩) h1
        unfold wpOp at h2
        rw [hoa] at h2
        simp only at h2
        rwa [if_pos hw] at h2
      · rw [if_neg hw] at h ⊢
        exact ⟨hS, ih S _ w hS h⟩

theorem wpOp_of_mixR {l : List Oper} {R : (World → Prop) → Act → World → Prop} {i : Nat} {o : Oper} {rest : List (Oper × Bool)} {S : World → Prop} {a : Act} {w : World} (hoa : l.toArray[i]? = some o) (hS : S w)
    (h : mixRW P l.toArray Q R ((o, true) :: rest) S a w) : wpOp P l.toArray Q i (fun a' w' => ∃ S' : World → Prop, (∀ x, S' x → S x) ∧ S' w' ∧ mixRW P l.toArray Q R rest S' a' w') a w := by
  unfold wpOp
  rw [hoa]
  simp only
  unfold mixRW at h
  by_cases hw : Region.wanted o (yielded l.toArray a.tmps) = true
  · rw [if_pos hw] at h ⊢
    rw [if_pos rfl] at h
    exact .inl h
  · rw [if_neg hw] at h ⊢
    exact ⟨S, fun _ h => h, hS, h⟩

theorem wp_region_fork2 {id : Nat} {l : List Oper} {a : Act} {w : World} (p p1 p2 : List (Nat × Bool)) (i j : Nat) (S : World → Prop) (hm : P.follows .mixedOrders = true) (hB : forkAll .any l.toArray l.length p p1 p2 i j = true)
    (hQ : ∀ c a (d : Nat) v w, Q (.panic c) (Act.put a (some d) v) w → Q (.panic c) a w) (hS : S w.drew)
    (h : mixRW P l.toArray Q (fun S a w => mixRW P l.toArray Q (fun _ a w => Q .normal a w) (mixOps l ((i, true) :: p1)) S a w ∧ mixRW P l.toArray Q (fun _ a w => Q .normal a w) (mixOps l ((j, true) :: p2)) S a w) (mixOps l p) S a w.drew) :
    (Code.region id l.toArray true).wp P Q a w := by
  unfold forkAll at hB
  simp only [Bool.and_eq_true, beq_iff_eq, List.all_eq_true, decide_eq_true_eq, List.mem_append] at hB
  obtain ⟨h1, h2, ⟨h3, ⟨h4, h5⟩, h6, h7⟩, ⟨⟨⟨h8, h9⟩, h10⟩, h11⟩, h12⟩ := hB
  refine wp_region_held (S := S) hm ?_
  have hi : l[i]? = some l[i] := List.getElem?_eq_getElem h10
  have hj : l[j]? = some l[j] := List.getElem?_eq_getElem h11
  have go := held_of_mixR (P := P) (md := .any) (R := fun S a w => mixRW P l.toArray Q (fun _ a w => Q .normal a w) (mixOps l ((i, true) :: p1)) S a w ∧ mixRW P l.toArray Q (fun _ a w => Q .normal a w) (mixOps l ((j, true) :: p2)) S a w) h1 hQ (p1.length + 1) p
    (Array.replicate l.length false) S a w.drew (fun x hx => h12 x (.inl (.inl hx))) h2 (fun S a w hS hR => by
      refine wpAnyH_all (rs := [i, j]) h3 (by simp) fun k hk => ?_
      rcases (show k = i ∨ k = j by simpa using hk) with rfl | rfl
      · have hR1 := hR.1
        simp only [mixOps, List.map_cons, hi, Option.getD_some] at hR1
        refine wpOp_mono (fun a' w' ⟨S', g1, g2, g3⟩ => ⟨g1 _ g2, held_mono g1 _ _ _ _ ?_⟩) (wpOp_of_mixR (by simp) hS hR1)
        exact held_of_mixR h1 hQ 0 p1 _ S' a' w' (fun x hx => h12 x (.inl (.inr hx))) h4 (fun S a w _ hq => wpAnyH_done (by simpa using h5) hq 0) g2 g3
      · have hR1 := hR.2
        simp only [mixOps, List.map_cons, hj, Option.getD_some] at hR1
        refine wpOp_mono (fun a' w' ⟨S', g1, g2, g3⟩ => ⟨g1 _ g2, held_mono g1 _ _ _ _ ?_⟩) (wpOp_of_mixR (by simp) hS hR1)
        have := held_of_mixR h1 hQ 0 p2 _ S' a' w' (fun x hx => h12 x (.inr hx)) h6 (fun S a w _ hq => wpAnyH_done (by simpa using h7) hq 0) g2 g3
        rwa [← h9] at this) hS h
  rw [h8] at go
  simpa using go

theorem mixR_pure {R : (World → Prop) → Act → World → Prop} {o : Oper} {rest : List (Oper × Bool)} {S : World → Prop} {a : Act} {w : World} {v : Value} (hw : Region.wanted o (yielded ops a.tmps) = true)
    (hv : ∀ x, S x → (execOp a.eval o).run P x = .ok (.value v) x) (h : mixRW P ops Q R rest S (a.put o.dst v) w) : mixRW P ops Q R ((o, false) :: rest) S a w := by
  unfold mixRW
  rw [if_pos hw, if_neg (by simp)]
  exact ⟨v, hv, h⟩
theorem mixR_skip {R : (World → Prop) → Act → World → Prop} {o : Oper} {c : Bool} {rest : List (Oper × Bool)} {S : World → Prop} {a : Act} {w : World} (hw : Region.wanted o (yielded ops a.tmps) = false)
    (h : mixRW P ops Q R rest S (a.put o.dst undef) w) : mixRW P ops Q R ((o, c) :: rest) S a w := by
  unfold mixRW
  rw [if_neg (by simp [hw])]
  exact h
theorem mixR_call {R : (World → Prop) → Act → World → Prop} {o : Oper} {rest : List (Oper × Bool)} {S : World → Prop} {a : Act} {w : World} (hw : Region.wanted o (yielded ops a.tmps) = true)
    (h : ∀ K : Act → World → Prop, (∀ a' w' (S' : World → Prop), (∀ x, S' x → S x) → S' w' → mixRW P ops Q R rest S' a' w' → K a' w') → o.wp P a w K Q) : mixRW P ops Q R ((o, true) :: rest) S a w := by
  unfold mixRW
  rw [if_pos hw, if_pos rfl]
  exact h _ fun a' w' S' h1 h2 h3 => ⟨S', h1, h2, h3⟩
theorem mixR_nil {R : (World → Prop) → Act → World → Prop} {S : World → Prop} {a : Act} {w : World} (h : R S a w) : mixRW P ops Q R [] S a w := h
end
end Go.Proofs.YteiclanlhnccnaaGreatDoor
namespace Go.Proofs.YteiclanlhnccnaaGreatDoor
set_option maxRecDepth 20000
open Go.RowKit

set_option maxHeartbeats 400000 in
theorem eqByteS_no (A B : Option Addr) (n m c d : Nat) (w : World) (h : n ≠ m) :
    Calls Tryz.prog 39 #[.slice A n c, .slice B m d] w fun e w' => e = .returned (.bool false) ∧ Below w.heap.size w w' := by
  have hb : ((n : Int) != (m : Int)) = true := by simp; omega
  go_enter Tryz.func39, Tryz.ntmps39
  go_wp2
  go_ret
  exact ⟨rfl, Below.refl _ _⟩

theorem alike_all {xs ys : List UInt8} {n : Nat} (hx : xs.length = n) (hy : ys.length = n) (h : ∀ i, i < n → xs[i]? = ys[i]?) : xs = ys := by
  apply List.ext_getElem?
  intro i
  rcases Nat.lt_or_ge i n with h1 | h1
  · exact h i h1
  · rw [List.getElem?_eq_none (by omega), List.getElem?_eq_none (by omega)]

def EqRel (xs ys : List UInt8) (w : World) (n : Nat) (i : Value) (wr : World) : Prop :=
  ∃ k : Nat, k ≤ n ∧ i = .int .i64 k ∧ (∀ i, i < k → xs[i]? = ys[i]?) ∧ Below w.heap.size w wr

set_option maxHeartbeats 400000 in
theorem eqByteS_any (A B : Option Addr) (n c d : Nat) (xs ys : List UInt8) (w : World) (ha : Rd eB w w.heap.size A xs) (hb : Rd eB w w.heap.size B ys) (hx : xs.length = n) (hy : ys.length = n) (hm : n ≤ maxLen) :
    Calls Tryz.prog 39 #[.slice A n c, .slice B n d] w fun e w' => e = .returned (.bool (decide (xs = ys))) ∧ Below w.heap.size w w' := by
  have h0 : ((n : Int) != (n : Int)) = false := by simp
  have Hx := Lib.hid hx
  have Hy := Lib.hid hy
  clear hx hy
  unfold maxLen at hm
  go_enter Tryz.func39, Tryz.ntmps39
  go_wp2
  go_loopw [5] (fun i wr => EqRel xs ys w n i wr) (fun i _ => n - (intOf i).toNat)
  case atStart => exact ⟨0, Nat.zero_le _, rfl, fun _ h => absurd h (by omega), Below.refl _ _⟩
  case round =>
    obtain ⟨k, hk, rfl, hal, hbel⟩ := hrel
    have Hal := Lib.hid hal
    clear hal
    by_cases hlt : k < n
    · obtain ⟨g, o, x, rfl, hg, hx, ca⟩ := (ha.below hbel (Nat.le_refl _)).byte (k := k) (by rw [Hx.out]; exact hlt)
      obtain ⟨g', o', y, rfl, hg', hy, cb⟩ := (hb.below hbel (Nat.le_refl _)).byte (k := k) (by rw [Hy.out]; exact hlt)
      have Hxk := Lib.hid hx
      have Hyk := Lib.hid hy
      clear hx hy
      by_cases he : x = y
      · subst he
        go_wp2
        go_quiet (fail)
        go_wp2
        refine ⟨⟨k + 1, by omega, by go_num, fun i hi => ?_, bdrewN hbel _⟩, by simp [intOf]; omega⟩
        rcases Nat.lt_or_ge i k with h | h
        · exact Hal.out i h
        · obtain rfl : i = k := by omega
          rw [Hxk.out, Hyk.out]
      · have hne : ((x.toNat : Int) != (y.toNat : Int)) = true := by rw [bne_iff_ne]; intro h; exact he (UInt8.toNat_inj.1 (by omega))
        have hfin : decide (xs = ys) = false := by
          simp only [decide_eq_false_iff_not]
          rintro rfl
          have := Hxk.out.symm.trans Hyk.out
          simp at this
          exact he this
        have Hf := Lib.hid hfin
        clear he hfin
        go_wp2
        go_quiet (fail)
        go_wp2
        go_ret
        exact ⟨by rw [Hf.out]; rfl, bdrewN hbel _⟩
    · have hfin : decide (xs = ys) = true := by
        obtain rfl : k = n := by omega
        simp only [decide_eq_true_eq]
        exact alike_all Hx.out Hy.out Hal.out
      have Hf := Lib.hid hfin
      clear hfin
      go_wp2
      go_ret
      exact ⟨by rw [Hf.out]; rfl, hbel⟩

/-- Two slices of bytes compared, whatever their lengths. -/
theorem eqByteS (A B : Option Addr) (n m c d : Nat) (xs ys : List UInt8) (w : World) (ha : Rd eB w w.heap.size A xs) (hb : Rd eB w w.heap.size B ys) (hx : xs.length = n) (hy : ys.length = m) (hm : n ≤ maxLen) :
    Calls Tryz.prog 39 #[.slice A n c, .slice B m d] w fun e w' => e = .returned (.bool (decide (xs = ys))) ∧ Below w.heap.size w w' := by
  by_cases h : n = m
  · subst h
    exact eqByteS_any A B n c d xs ys w ha hb hx hy hm
  · have hd : decide (xs = ys) = false := by
      simp only [decide_eq_false_iff_not]
      rintro rfl
      exact h (hx.symm.trans hy)
    rw [hd]
    exact eqByteS_no A B n m c d w h
end Go.Proofs.YteiclanlhnccnaaGreatDoor
namespace Go.Proofs.YteiclanlhnccnaaGreatDoor
set_option maxRecDepth 20000
open Go.RowKit

/-- An answer of a code and bytes of the call's own. -/
def RetBR (r : Int × List UInt8) (w : World) (e : Ending) (w' : World) : Prop :=
  ∃ A n c, e = .returned (.agg #[.int .i64 r.1, .slice A n c]) ∧ Ow eB w' w.heap.size A n c r.2 ∧ Below w.heap.size w w'

end Go.Proofs.YteiclanlhnccnaaGreatDoor
namespace Go.Proofs.YteiclanlhnccnaaGreatDoor
set_option maxRecDepth 20000
open Go.RowKit

/-- The first s bytes of a number, the lowest one first. -/
def packL (m s : Nat) : List UInt8 := (List.range s).map fun i => UInt8.ofNat (m / 256 ^ i)
theorem packL_len (m s : Nat) : (packL m s).length = s := by simp [packL]
theorem packL_succ (m s : Nat) : packL m (s + 1) = packL m s ++ [UInt8.ofNat (m / 256 ^ s)] := by simp [packL, List.range_succ]
theorem div_next (m k q : Nat) (h : q = m / 256 ^ k) : q / 256 = m / 256 ^ (k + 1) := by
  rw [h, Nat.div_div_eq_div_mul, Nat.pow_succ]

def PackRel (w : World) (m s : Nat) (vn vs out : Value) (wr : World) : Prop :=
  ∃ (k q : Nat) (A : Option Addr) (c : Nat), k ≤ s ∧ vn = .int .i64 q ∧ q = m / 256 ^ k ∧ vs = .int .i64 ((s : Int) - k) ∧ out = .slice A k c ∧ Ow eB wr w.heap.size A k c (packL m k) ∧ Below w.heap.size w wr

set_option maxHeartbeats 400000 in
theorem l1Pack (m s : Nat) (w : World) (hm : m ≤ 9223372036854775807) (hs : s ≤ 8) :
    Calls Tryz.prog 102 #[.int .i64 m, .int .i64 s] w fun e w' => ∃ A c, e = .returned (.slice A s c) ∧ Ow eB w' w.heap.size A s c (packL m s) ∧ Below w.heap.size w w' := by
  go_enter Tryz.func102, Tryz.ntmps102
  go_wp2
  have how : Ow eB (w.alloc (.cells #[] 5)) w.heap.size (some ⟨w.heap.size, 0, none⟩) 0 0 (packL m 0) := Ow.lit w [] #[] 0 (Nat.le_refl _) (Nat.zero_le _) rfl rfl
  have hbel0 : Below w.heap.size w (w.alloc (.cells #[] 5)) := (Below.refl _ _).alloc (Nat.le_refl _) _
  go_loopw [0, 1, 5] (fun vn vs out wr => PackRel w m s vn vs out wr) (fun _ vs _ _ => (intOf vs).toNat)
  case atStart => exact ⟨0, m, _, 0, Nat.zero_le _, rfl, by simp, by simp, rfl, how, hbel0⟩
  case round =>
    obtain ⟨k, q, A, c, hk, rfl, hq, rfl, rfl, hown, hbel⟩ := hrel
    have hql : q ≤ m := by rw [hq]; exact Nat.div_le_self _ _
    have Hq := Lib.hid hq
    clear hq
    by_cases hlt : k < s
    · have hg : decide ((s : Int) - (k : Int) > 0) = true := by simp; omega
      have hgt : (0 : Int) < (s : Int) - (k : Int) := by omega
      have hrd : Rd eB (wr.alloc (.cells #[.int .u8 ((q : Int) % 256)] 5)) (wr.heap.size + 1) (some ⟨wr.heap.size, 0, none⟩) [UInt8.ofNat q] := rd_lit okB wr 5 [UInt8.ofNat q] _ (by simp [Enc.row, eB])
      have Hbel := Lib.hid hbel
      go_wp2_with (at_builtin; refine wpList_append_ow okB _ rfl (.tmp 11) (.tmp 15) _ rfl w.heap.size info_u8 Tryz.underlying22 rfl A k c _ rfl (hown.alloc _) (some ⟨wr.heap.size, 0, none⟩) 1 1 (wr.heap.size + 1) [UInt8.ofNat q] rfl hrd rfl (by unfold maxLen; omega) (by omega) (by simp; have := Hbel.out.size; omega) ?_; intro A' c' w1 hown1 hgr1 hat1)
      have hb1 : Below w.heap.size w w1 := (Hbel.out.alloc Hbel.out.size _).grown hgr1 (by simp; have := Hbel.out.size; omega) (fun g hg => (hown.lt g hg).1)
      refine ⟨⟨k + 1, q / 256, A', c', by omega, by go_num, div_next m k q Hq.out, congrArg _ (by omega), rfl, ?_, hb1⟩, by simp [intOf]; omega⟩
      rw [packL_succ, ← Hq.out]
      exact hown1
    · obtain rfl : s = k := by omega
      have h0 : ((s : Int) - (s : Int)) = 0 := by omega
      rw [h0]
      go_wp2
      go_ret
      exact ⟨_, _, rfl, hown, hbel⟩

/-- What PackWord answers: the code and the bytes. -/
def packM (n size : Int) : Int × List UInt8 :=
  if 1 ≤ size ∧ size ≤ 4 ∧ 0 ≤ n ∧ n < 256 ^ size.toNat then (0, packL n.toNat size.toNat) else (3, [])

def LeftRel (w : World) (m s : Nat) (vq vi : Value) (wr : World) : Prop :=
  ∃ k q : Nat, k ≤ s ∧ vi = .int .i64 k ∧ vq = .int .i64 q ∧ q = m / 256 ^ k ∧ Below w.heap.size w wr

theorem packM_bad {n size : Int} (h : ¬ (1 ≤ size ∧ size ≤ 4 ∧ 0 ≤ n ∧ n < 256 ^ size.toNat)) : packM n size = (3, []) := if_neg h
theorem packM_nat {m s : Nat} (h1 : 1 ≤ s) (h4 : s ≤ 4) (hm : m < 256 ^ s) : packM m s = (0, packL m s) := by
  have h : (m : Int) < 256 ^ (s : Int).toNat := by
    rw [Int.toNat_natCast]
    have h := Int.ofNat_lt.2 hm
    rw [Int.natCast_pow] at h
    exact h
  unfold packM
  rw [if_pos ⟨by omega, by omega, by omega, h⟩, Int.toNat_natCast, Int.toNat_natCast]

theorem div_zero_iff (m s : Nat) : m / 256 ^ s = 0 ↔ m < 256 ^ s := by
  rw [Nat.div_eq_zero_iff]
  have : 0 < 256 ^ s := Nat.pow_pos (by omega)
  omega

/-! ### impl.PackWord -/
set_option maxHeartbeats 400000 in
theorem implPackWord_size (n size : Int) (w : World) (h : ¬ (1 ≤ size ∧ size ≤ 4)) :
    Calls Tryz.prog 45 #[.int .i64 n, .int .i64 size] w fun e w' => RetBR (packM n size) w e w' := by
  have Hf := Lib.hid (packM_bad (n := n) (size := size) (by omega))
  have hin : inB (size, 1, 4) = false := by simp only [inB, Bool.and_eq_false_iff, decide_eq_false_iff_not]; omega
  go_enter Tryz.func45, Tryz.ntmps45
  go_wp2_with (go_at_call 98; refine (isWordSize_any _ _).mono ?_; rintro e w1 ⟨rfl, hb1⟩; obtain ⟨hc1, hf1⟩ := bcell hb1; have hz1 : w.heap.size < w1.heap.size := by have := hb1.size; simp at this; omega)
  have hB1 : Below w.heap.size w w1 := ((Below.refl _ _).alloc (Nat.le_refl _) _).trans (hb1.mono (by simp))
  refine bodyPost_ret (v := .agg #[.int .i64 3, .slice none 0 0]) (by simp [results, Tryz.results45, go_sem, hc1]) rfl ?_
  rw [Hf.out]
  exact ⟨none, 0, 0, rfl, Ow.nil, (hB1.setCell (Nat.le_refl _) _).setCell (Nat.le_refl _) _⟩

theorem packL_at {m s k : Nat} (h : k < s) : (packL m s)[k]? = some (UInt8.ofNat (m / 256 ^ k)) := by simp [packL, h]
theorem shr_byte (m j : Nat) : (m : Int) / 2 ^ (8 * j) % 256 = ((UInt8.ofNat (m / 256 ^ j)).toNat : Int) := by
  rw [byte_num, Int.natCast_ediv, Int.natCast_pow]
  have h : (2 : Int) ^ (8 * j) = ((256 : Nat) : Int) ^ j := by rw [Int.pow_mul]; rfl
  rw [h]
def ImplRel (w : World) (m s g t : Nat) (vi : Value) (wr : World) : Prop :=
  At wr w.heap.size t #[.int .i64 0, .slice none 0 0] ∧ ToRel eB 0 w g (packL m s) s vi wr

set_option maxHeartbeats 400000 in
theorem implPackWord_no1 (n : Int) (w : World) (hn : ¬ (0 ≤ n ∧ n ≤ 255)) :
    Calls Tryz.prog 45 #[.int .i64 n, .int .i64 1] w fun e w' => RetBR (packM n 1) w e w' := by
  have hin : inB (1, 1, 4) = true := rfl
  have hno : [(n, (0 : Int), (255 : Int))].all inB = false := by simp [inB]; omega
  have Hf := Lib.hid (packM_bad (n := n) (size := 1) (by simp; omega))
  go_enter Tryz.func45, Tryz.ntmps45
  go_wp2_with (go_at_call 98; refine (isWordSize_any _ _).mono ?_; rintro e w1 ⟨rfl, hb1⟩; have a1 := (At.new w _ _).below hb1 (by simp))
  have z1 := a1.lt
  have hB1 : Below w.heap.size w w1 := ((Below.refl _ _).alloc (Nat.le_refl _) _).trans (hb1.mono (by simp))
  refine (areWithin_any _ _ _ [(n, 0, 255)] _ (bnds_one (by simp)) (by simp) rfl (by simp)).mono ?_
  rintro e w2 ⟨rfl, hb2⟩
  have a2 := (a1.alloc _).below hb2 (by simp; omega)
  have hB2 : Below w.heap.size w w2 := (hB1.alloc (by omega) _).trans (hb2.mono (by simp; omega))
  obtain ⟨r0, r1, f0, f1⟩ := a2.two
  go_wp2
  refine bodyPost_ret (v := .agg #[.int .i64 3, .slice none 0 0]) (by simp [results, Tryz.results45, go_sem, r0, r1]) rfl ?_
  rw [Hf.out]
  exact ⟨none, 0, 0, rfl, Ow.nil, (hB2.setCell (Nat.le_refl _) _).setCell (Nat.le_refl _) _⟩

set_option maxRecDepth 100000 in
set_option maxHeartbeats 400000 in
theorem implPackWord_yes1 (m : Nat) (w : World) (hn : m ≤ 255) :
    Calls Tryz.prog 45 #[.int .i64 m, .int .i64 1] w fun e w' => RetBR (packM m 1) w e w' := by
  have hin : inB (1, 1, 4) = true := rfl
  have hno : [((m : Int), (0 : Int), (255 : Int))].all inB = true := by simp [inB]; omega
  have Hf := Lib.hid (show packM (m : Int) 1 = (0, packL m 1) from packM_nat (s := 1) (by omega) (by omega) (by omega))
  go_enter Tryz.func45, Tryz.ntmps45
  go_wp2_with (go_at_call 98; refine (isWordSize_any _ _).mono ?_; rintro e w1 ⟨rfl, hb1⟩; have a1 := (At.new w _ _).below hb1 (by simp))
  have z1 := a1.lt
  have hB1 : Below w.heap.size w w1 := ((Below.refl _ _).alloc (Nat.le_refl _) _).trans (hb1.mono (by simp))
  refine (areWithin_any _ _ _ [((m : Int), 0, 255)] _ (bnds_one (by simp)) (by simp) rfl (by simp)).mono ?_
  rintro e w2 ⟨rfl, hb2⟩
  have a2 := (a1.alloc _).below hb2 (by simp; omega)
  have hB2 : Below w.heap.size w w2 := (hB1.alloc (by omega) _).trans (hb2.mono (by simp; omega))
  have z2 := a2.lt
  go_wp2_with (refine wpList_make_ow okB _ rfl _ _ _ rfl w.heap.size info_u8 Tryz.underlying22 0 rfl .i64 .i64 1 1 1 rfl rfl rfl rfl (by omega) (by unfold maxLen; omega) (by omega) ?_; intro w3 hown hg3)
  have a3 := a2.grown hg3 (by simp)
  have hB3 : Below w.heap.size w w3 := hB2.grown hg3 (by omega) (by simp)
  have z3 := (hown.lt w2.heap.size rfl).2
  go_loopw [6, 26] (fun _ vi wr => ImplRel w m 1 w2.heap.size 30 vi wr) (fun _ vi _ => 1 - (intOf vi).toNat)
  case atStart => exact ⟨a3, 0, by omega, rfl, hown, hB3⟩
  case round =>
    obtain ⟨ar, j, hj, rfl, hown, hbel⟩ := hrel
    by_cases hlt : j < 1
    · have cb := hown.byteAt (part_at 0 (packL m 1) 1 j hlt (packL_len _ _))
      have fb := hown.frozenAt j
      go_wp2
      rw [shr_byte]
      refine ⟨⟨ar.far (by simp; omega) _, j + 1, by omega, by go_num, ?_, hbel.setCell (by simp; omega) _⟩, by simp [intOf]; omega⟩
      rw [← set_next 0 (packL m 1) 1 j _ hlt (packL_len _ _) (packL_at hlt)]
      exact (hown.byteSet hlt _).1
    · have hall := toRel_end hown (by omega) (packL_len _ _)
      obtain ⟨r0, r1, f0, f1⟩ := ar.two
      obtain rfl : j = 1 := by omega
      clear hown
      go_wp2
      refine bodyPost_ret (v := .agg #[.int .i64 0, .slice (some ⟨w2.heap.size, 0, none⟩) 1 1]) (by simp [results, Tryz.results45, go_sem, r0, r1]) rfl ?_
      rw [Hf.out]
      exact ⟨_, _, _, rfl, ((hall.grown (grown_setCell _ ⟨w.heap.size, 0, none⟩ _) (by simp; omega)).grown (grown_setCell _ ⟨w.heap.size, 1, none⟩ _) (by simp; omega)), (hbel.setCell (Nat.le_refl _) _).setCell (Nat.le_refl _) _⟩
set_option maxHeartbeats 400000 in
theorem implPackWord_no2 (n : Int) (w : World) (hn : ¬ (0 ≤ n ∧ n ≤ 65535)) :
    Calls Tryz.prog 45 #[.int .i64 n, .int .i64 2] w fun e w' => RetBR (packM n 2) w e w' := by
  have hin : inB (2, 1, 4) = true := rfl
  have hno : [(n, (0 : Int), (65535 : Int))].all inB = false := by simp [inB]; omega
  have Hf := Lib.hid (packM_bad (n := n) (size := 2) (by simp; omega))
  go_enter Tryz.func45, Tryz.ntmps45
  go_wp2_with (go_at_call 98; refine (isWordSize_any _ _).mono ?_; rintro e w1 ⟨rfl, hb1⟩; have a1 := (At.new w _ _).below hb1 (by simp))
  have z1 := a1.lt
  have hB1 : Below w.heap.size w w1 := ((Below.refl _ _).alloc (Nat.le_refl _) _).trans (hb1.mono (by simp))
  refine (areWithin_any _ _ _ [(n, 0, 65535)] _ (bnds_one (by simp)) (by simp) rfl (by simp)).mono ?_
  rintro e w2 ⟨rfl, hb2⟩
  have a2 := (a1.alloc _).below hb2 (by simp; omega)
  have hB2 : Below w.heap.size w w2 := (hB1.alloc (by omega) _).trans (hb2.mono (by simp; omega))
  obtain ⟨r0, r1, f0, f1⟩ := a2.two
  go_wp2
  refine bodyPost_ret (v := .agg #[.int .i64 3, .slice none 0 0]) (by simp [results, Tryz.results45, go_sem, r0, r1]) rfl ?_
  rw [Hf.out]
  exact ⟨none, 0, 0, rfl, Ow.nil, (hB2.setCell (Nat.le_refl _) _).setCell (Nat.le_refl _) _⟩

set_option maxRecDepth 100000 in
set_option maxHeartbeats 400000 in
theorem implPackWord_yes2 (m : Nat) (w : World) (hn : m ≤ 65535) :
    Calls Tryz.prog 45 #[.int .i64 m, .int .i64 2] w fun e w' => RetBR (packM m 2) w e w' := by
  have hin : inB (2, 1, 4) = true := rfl
  have hno : [((m : Int), (0 : Int), (65535 : Int))].all inB = true := by simp [inB]; omega
  have Hf := Lib.hid (show packM (m : Int) 2 = (0, packL m 2) from packM_nat (s := 2) (by omega) (by omega) (by omega))
  go_enter Tryz.func45, Tryz.ntmps45
  go_wp2_with (go_at_call 98; refine (isWordSize_any _ _).mono ?_; rintro e w1 ⟨rfl, hb1⟩; have a1 := (At.new w _ _).below hb1 (by simp))
  have z1 := a1.lt
  have hB1 : Below w.heap.size w w1 := ((Below.refl _ _).alloc (Nat.le_refl _) _).trans (hb1.mono (by simp))
  refine (areWithin_any _ _ _ [((m : Int), 0, 65535)] _ (bnds_one (by simp)) (by simp) rfl (by simp)).mono ?_
  rintro e w2 ⟨rfl, hb2⟩
  have a2 := (a1.alloc _).below hb2 (by simp; omega)
  have hB2 : Below w.heap.size w w2 := (hB1.alloc (by omega) _).trans (hb2.mono (by simp; omega))
  have z2 := a2.lt
  go_wp2_with (refine wpList_make_ow okB _ rfl _ _ _ rfl w.heap.size info_u8 Tryz.underlying22 0 rfl .i64 .i64 2 2 2 rfl rfl rfl rfl (by omega) (by unfold maxLen; omega) (by omega) ?_; intro w3 hown hg3)
  have a3 := a2.grown hg3 (by simp)
  have hB3 : Below w.heap.size w w3 := hB2.grown hg3 (by omega) (by simp)
  have z3 := (hown.lt w2.heap.size rfl).2
  go_loopw [6, 26] (fun _ vi wr => ImplRel w m 2 w2.heap.size 30 vi wr) (fun _ vi _ => 2 - (intOf vi).toNat)
  case atStart => exact ⟨a3, 0, by omega, rfl, hown, hB3⟩
  case round =>
    obtain ⟨ar, j, hj, rfl, hown, hbel⟩ := hrel
    by_cases hlt : j < 2
    · have cb := hown.byteAt (part_at 0 (packL m 2) 2 j hlt (packL_len _ _))
      have fb := hown.frozenAt j
      have Hset := Lib.hid (set_next 0 (packL m 2) 2 j _ hlt (packL_len _ _) (packL_at hlt))
      have Hst := Lib.hid (hown.byteSet hlt (UInt8.ofNat (m / 256 ^ j))).1
      rcases (show j = 0 ∨ j = 1 by omega) with rfl | rfl
      · go_wp2
        rw [show (m : Int) % 256 = ((UInt8.ofNat (m / 256 ^ 0)).toNat : Int) by rw [byte_num]; omega]
        exact ⟨⟨ar.far (by simp; omega) _, 1, by omega, by go_num, by rw [← Hset.out]; exact Hst.out, hbel.setCell (by simp; omega) _⟩, by simp [intOf]⟩
      · go_wp2
        rw [show (m : Int) / 256 = ((UInt8.ofNat (m / 256 ^ 1)).toNat : Int) by rw [byte_num]; omega]
        exact ⟨⟨ar.far (by simp; omega) _, 2, by omega, by go_num, by rw [← Hset.out]; exact Hst.out, hbel.setCell (by simp; omega) _⟩, by simp [intOf]⟩
    · have hall := toRel_end hown (by omega) (packL_len _ _)
      obtain ⟨r0, r1, f0, f1⟩ := ar.two
      obtain rfl : j = 2 := by omega
      clear hown
      go_wp2
      refine bodyPost_ret (v := .agg #[.int .i64 0, .slice (some ⟨w2.heap.size, 0, none⟩) 2 2]) (by simp [results, Tryz.results45, go_sem, r0, r1]) rfl ?_
      rw [Hf.out]
      exact ⟨_, _, _, rfl, ((hall.grown (grown_setCell _ ⟨w.heap.size, 0, none⟩ _) (by simp; omega)).grown (grown_setCell _ ⟨w.heap.size, 1, none⟩ _) (by simp; omega)), (hbel.setCell (Nat.le_refl _) _).setCell (Nat.le_refl _) _⟩
set_option maxHeartbeats 400000 in
theorem implPackWord_no3 (n : Int) (w : World) (hn : ¬ (0 ≤ n ∧ n ≤ 16777215)) :
    Calls Tryz.prog 45 #[.int .i64 n, .int .i64 3] w fun e w' => RetBR (packM n 3) w e w' := by
  have hin : inB (3, 1, 4) = true := rfl
  have hno : [(n, (0 : Int), (16777215 : Int))].all inB = false := by simp [inB]; omega
  have Hf := Lib.hid (packM_bad (n := n) (size := 3) (by simp; omega))
  go_enter Tryz.func45, Tryz.ntmps45
  go_wp2_with (go_at_call 98; refine (isWordSize_any _ _).mono ?_; rintro e w1 ⟨rfl, hb1⟩; have a1 := (At.new w _ _).below hb1 (by simp))
  have z1 := a1.lt
  have hB1 : Below w.heap.size w w1 := ((Below.refl _ _).alloc (Nat.le_refl _) _).trans (hb1.mono (by simp))
  refine (areWithin_any _ _ _ [(n, 0, 16777215)] _ (bnds_one (by simp)) (by simp) rfl (by simp)).mono ?_
  rintro e w2 ⟨rfl, hb2⟩
  have a2 := (a1.alloc _).below hb2 (by simp; omega)
  have hB2 : Below w.heap.size w w2 := (hB1.alloc (by omega) _).trans (hb2.mono (by simp; omega))
  obtain ⟨r0, r1, f0, f1⟩ := a2.two
  go_wp2
  refine bodyPost_ret (v := .agg #[.int .i64 3, .slice none 0 0]) (by simp [results, Tryz.results45, go_sem, r0, r1]) rfl ?_
  rw [Hf.out]
  exact ⟨none, 0, 0, rfl, Ow.nil, (hB2.setCell (Nat.le_refl _) _).setCell (Nat.le_refl _) _⟩

set_option maxRecDepth 100000 in
set_option maxHeartbeats 400000 in
theorem implPackWord_yes3 (m : Nat) (w : World) (hn : m ≤ 16777215) :
    Calls Tryz.prog 45 #[.int .i64 m, .int .i64 3] w fun e w' => RetBR (packM m 3) w e w' := by
  have hin : inB (3, 1, 4) = true := rfl
  have hno : [((m : Int), (0 : Int), (16777215 : Int))].all inB = true := by simp [inB]; omega
  have Hf := Lib.hid (show packM (m : Int) 3 = (0, packL m 3) from packM_nat (s := 3) (by omega) (by omega) (by omega))
  go_enter Tryz.func45, Tryz.ntmps45
  go_wp2_with (go_at_call 98; refine (isWordSize_any _ _).mono ?_; rintro e w1 ⟨rfl, hb1⟩; have a1 := (At.new w _ _).below hb1 (by simp))
  have z1 := a1.lt
  have hB1 : Below w.heap.size w w1 := ((Below.refl _ _).alloc (Nat.le_refl _) _).trans (hb1.mono (by simp))
  refine (areWithin_any _ _ _ [((m : Int), 0, 16777215)] _ (bnds_one (by simp)) (by simp) rfl (by simp)).mono ?_
  rintro e w2 ⟨rfl, hb2⟩
  have a2 := (a1.alloc _).below hb2 (by simp; omega)
  have hB2 : Below w.heap.size w w2 := (hB1.alloc (by omega) _).trans (hb2.mono (by simp; omega))
  have z2 := a2.lt
  go_wp2_with (refine wpList_make_ow okB _ rfl _ _ _ rfl w.heap.size info_u8 Tryz.underlying22 0 rfl .i64 .i64 3 3 3 rfl rfl rfl rfl (by omega) (by unfold maxLen; omega) (by omega) ?_; intro w3 hown hg3)
  have a3 := a2.grown hg3 (by simp)
  have hB3 : Below w.heap.size w w3 := hB2.grown hg3 (by omega) (by simp)
  have z3 := (hown.lt w2.heap.size rfl).2
  go_loopw [6, 26] (fun _ vi wr => ImplRel w m 3 w2.heap.size 30 vi wr) (fun _ vi _ => 3 - (intOf vi).toNat)
  case atStart => exact ⟨a3, 0, by omega, rfl, hown, hB3⟩
  case round =>
    obtain ⟨ar, j, hj, rfl, hown, hbel⟩ := hrel
    by_cases hlt : j < 3
    · have cb := hown.byteAt (part_at 0 (packL m 3) 3 j hlt (packL_len _ _))
      have fb := hown.frozenAt j
      have Hset := Lib.hid (set_next 0 (packL m 3) 3 j _ hlt (packL_len _ _) (packL_at hlt))
      have Hst := Lib.hid (hown.byteSet hlt (UInt8.ofNat (m / 256 ^ j))).1
      rcases (show j = 0 ∨ j = 1 ∨ j = 2 by omega) with rfl | rfl | rfl
      · go_wp2
        rw [show (m : Int) % 256 = ((UInt8.ofNat (m / 256 ^ 0)).toNat : Int) by rw [byte_num]; omega]
        exact ⟨⟨ar.far (by simp; omega) _, 1, by omega, by go_num, by rw [← Hset.out]; exact Hst.out, hbel.setCell (by simp; omega) _⟩, by simp [intOf]⟩
      · go_wp2
        rw [show (m : Int) / 256 % 256 = ((UInt8.ofNat (m / 256 ^ 1)).toNat : Int) by rw [byte_num]; omega]
        exact ⟨⟨ar.far (by simp; omega) _, 2, by omega, by go_num, by rw [← Hset.out]; exact Hst.out, hbel.setCell (by simp; omega) _⟩, by simp [intOf]⟩
      · go_wp2
        rw [show (m : Int) / 65536 = ((UInt8.ofNat (m / 256 ^ 2)).toNat : Int) by rw [byte_num]; omega]
        exact ⟨⟨ar.far (by simp; omega) _, 3, by omega, by go_num, by rw [← Hset.out]; exact Hst.out, hbel.setCell (by simp; omega) _⟩, by simp [intOf]⟩
    · have hall := toRel_end hown (by omega) (packL_len _ _)
      obtain ⟨r0, r1, f0, f1⟩ := ar.two
      obtain rfl : j = 3 := by omega
      clear hown
      go_wp2
      refine bodyPost_ret (v := .agg #[.int .i64 0, .slice (some ⟨w2.heap.size, 0, none⟩) 3 3]) (by simp [results, Tryz.results45, go_sem, r0, r1]) rfl ?_
      rw [Hf.out]
      exact ⟨_, _, _, rfl, ((hall.grown (grown_setCell _ ⟨w.heap.size, 0, none⟩ _) (by simp; omega)).grown (grown_setCell _ ⟨w.heap.size, 1, none⟩ _) (by simp; omega)), (hbel.setCell (Nat.le_refl _) _).setCell (Nat.le_refl _) _⟩
set_option maxHeartbeats 400000 in
theorem implPackWord_no4 (n : Int) (w : World) (hn : ¬ (0 ≤ n ∧ n ≤ 4294967295)) :
    Calls Tryz.prog 45 #[.int .i64 n, .int .i64 4] w fun e w' => RetBR (packM n 4) w e w' := by
  have hin : inB (4, 1, 4) = true := rfl
  have hno : [(n, (0 : Int), (4294967295 : Int))].all inB = false := by simp [inB]; omega
  have Hf := Lib.hid (packM_bad (n := n) (size := 4) (by simp; omega))
  go_enter Tryz.func45, Tryz.ntmps45
  go_wp2_with (go_at_call 98; refine (isWordSize_any _ _).mono ?_; rintro e w1 ⟨rfl, hb1⟩; have a1 := (At.new w _ _).below hb1 (by simp))
  have z1 := a1.lt
  have hB1 : Below w.heap.size w w1 := ((Below.refl _ _).alloc (Nat.le_refl _) _).trans (hb1.mono (by simp))
  refine (areWithin_any _ _ _ [(n, 0, 4294967295)] _ (bnds_one (by simp)) (by simp) rfl (by simp)).mono ?_
  rintro e w2 ⟨rfl, hb2⟩
  have a2 := (a1.alloc _).below hb2 (by simp; omega)
  have hB2 : Below w.heap.size w w2 := (hB1.alloc (by omega) _).trans (hb2.mono (by simp; omega))
  obtain ⟨r0, r1, f0, f1⟩ := a2.two
  go_wp2
  refine bodyPost_ret (v := .agg #[.int .i64 3, .slice none 0 0]) (by simp [results, Tryz.results45, go_sem, r0, r1]) rfl ?_
  rw [Hf.out]
  exact ⟨none, 0, 0, rfl, Ow.nil, (hB2.setCell (Nat.le_refl _) _).setCell (Nat.le_refl _) _⟩

set_option maxRecDepth 100000 in
set_option maxHeartbeats 400000 in
theorem implPackWord_yes4 (m : Nat) (w : World) (hn : m ≤ 4294967295) :
    Calls Tryz.prog 45 #[.int .i64 m, .int .i64 4] w fun e w' => RetBR (packM m 4) w e w' := by
  have hin : inB (4, 1, 4) = true := rfl
  have hno : [((m : Int), (0 : Int), (4294967295 : Int))].all inB = true := by simp [inB]; omega
  have Hf := Lib.hid (show packM (m : Int) 4 = (0, packL m 4) from packM_nat (s := 4) (by omega) (by omega) (by omega))
  go_enter Tryz.func45, Tryz.ntmps45
  go_wp2_with (go_at_call 98; refine (isWordSize_any _ _).mono ?_; rintro e w1 ⟨rfl, hb1⟩; have a1 := (At.new w _ _).below hb1 (by simp))
  have z1 := a1.lt
  have hB1 : Below w.heap.size w w1 := ((Below.refl _ _).alloc (Nat.le_refl _) _).trans (hb1.mono (by simp))
  refine (areWithin_any _ _ _ [((m : Int), 0, 4294967295)] _ (bnds_one (by simp)) (by simp) rfl (by simp)).mono ?_
  rintro e w2 ⟨rfl, hb2⟩
  have a2 := (a1.alloc _).below hb2 (by simp; omega)
  have hB2 : Below w.heap.size w w2 := (hB1.alloc (by omega) _).trans (hb2.mono (by simp; omega))
  have z2 := a2.lt
  go_wp2_with (refine wpList_make_ow okB _ rfl _ _ _ rfl w.heap.size info_u8 Tryz.underlying22 0 rfl .i64 .i64 4 4 4 rfl rfl rfl rfl (by omega) (by unfold maxLen; omega) (by omega) ?_; intro w3 hown hg3)
  have a3 := a2.grown hg3 (by simp)
  have hB3 : Below w.heap.size w w3 := hB2.grown hg3 (by omega) (by simp)
  have z3 := (hown.lt w2.heap.size rfl).2
  go_loopw [6, 26] (fun _ vi wr => ImplRel w m 4 w2.heap.size 30 vi wr) (fun _ vi _ => 4 - (intOf vi).toNat)
  case atStart => exact ⟨a3, 0, by omega, rfl, hown, hB3⟩
  case round =>
    obtain ⟨ar, j, hj, rfl, hown, hbel⟩ := hrel
    by_cases hlt : j < 4
    · have cb := hown.byteAt (part_at 0 (packL m 4) 4 j hlt (packL_len _ _))
      have fb := hown.frozenAt j
      have Hset := Lib.hid (set_next 0 (packL m 4) 4 j _ hlt (packL_len _ _) (packL_at hlt))
      have Hst := Lib.hid (hown.byteSet hlt (UInt8.ofNat (m / 256 ^ j))).1
      rcases (show j = 0 ∨ j = 1 ∨ j = 2 ∨ j = 3 by omega) with rfl | rfl | rfl | rfl
      · go_wp2
        rw [show (m : Int) % 256 = ((UInt8.ofNat (m / 256 ^ 0)).toNat : Int) by rw [byte_num]; omega]
        exact ⟨⟨ar.far (by simp; omega) _, 1, by omega, by go_num, by rw [← Hset.out]; exact Hst.out, hbel.setCell (by simp; omega) _⟩, by simp [intOf]⟩
      · go_wp2
        rw [show (m : Int) / 256 % 256 = ((UInt8.ofNat (m / 256 ^ 1)).toNat : Int) by rw [byte_num]; omega]
        exact ⟨⟨ar.far (by simp; omega) _, 2, by omega, by go_num, by rw [← Hset.out]; exact Hst.out, hbel.setCell (by simp; omega) _⟩, by simp [intOf]⟩
      · go_wp2
        rw [show (m : Int) / 65536 % 256 = ((UInt8.ofNat (m / 256 ^ 2)).toNat : Int) by rw [byte_num]; omega]
        exact ⟨⟨ar.far (by simp; omega) _, 3, by omega, by go_num, by rw [← Hset.out]; exact Hst.out, hbel.setCell (by simp; omega) _⟩, by simp [intOf]⟩
      · go_wp2
        rw [show (m : Int) / 16777216 = ((UInt8.ofNat (m / 256 ^ 3)).toNat : Int) by rw [byte_num]; omega]
        exact ⟨⟨ar.far (by simp; omega) _, 4, by omega, by go_num, by rw [← Hset.out]; exact Hst.out, hbel.setCell (by simp; omega) _⟩, by simp [intOf]⟩
    · have hall := toRel_end hown (by omega) (packL_len _ _)
      obtain ⟨r0, r1, f0, f1⟩ := ar.two
      obtain rfl : j = 4 := by omega
      clear hown
      go_wp2
      refine bodyPost_ret (v := .agg #[.int .i64 0, .slice (some ⟨w2.heap.size, 0, none⟩) 4 4]) (by simp [results, Tryz.results45, go_sem, r0, r1]) rfl ?_
      rw [Hf.out]
      exact ⟨_, _, _, rfl, ((hall.grown (grown_setCell _ ⟨w.heap.size, 0, none⟩ _) (by simp; omega)).grown (grown_setCell _ ⟨w.heap.size, 1, none⟩ _) (by simp; omega)), (hbel.setCell (Nat.le_refl _) _).setCell (Nat.le_refl _) _⟩

theorem implPackWord (n size : Int) (w : World) :
    Calls Tryz.prog 45 #[.int .i64 n, .int .i64 size] w fun e w' => RetBR (packM n size) w e w' := by
  by_cases h : 1 ≤ size ∧ size ≤ 4
  · have h4 : size = 1 ∨ size = 2 ∨ size = 3 ∨ size = 4 := by omega
    rcases h4 with rfl | rfl | rfl | rfl
    · by_cases hn : 0 ≤ n ∧ n ≤ 255
      · obtain ⟨m, rfl⟩ := Int.eq_ofNat_of_zero_le hn.1
        exact implPackWord_yes1 m w (by omega)
      · exact implPackWord_no1 n w hn
    · by_cases hn : 0 ≤ n ∧ n ≤ 65535
      · obtain ⟨m, rfl⟩ := Int.eq_ofNat_of_zero_le hn.1
        exact implPackWord_yes2 m w (by omega)
      · exact implPackWord_no2 n w hn
    · by_cases hn : 0 ≤ n ∧ n ≤ 16777215
      · obtain ⟨m, rfl⟩ := Int.eq_ofNat_of_zero_le hn.1
        exact implPackWord_yes3 m w (by omega)
      · exact implPackWord_no3 n w hn
    · by_cases hn : 0 ≤ n ∧ n ≤ 4294967295
      · obtain ⟨m, rfl⟩ := Int.eq_ofNat_of_zero_le hn.1
        exact implPackWord_yes4 m w (by omega)
      · exact implPackWord_no4 n w hn
  · exact implPackWord_size n size w h
end Go.Proofs.YteiclanlhnccnaaGreatDoor
/-
  A sample's bytes: the model's.
-/
namespace Go.Proofs.YteiclanlhnccnaaGreatDoor
set_option maxRecDepth 20000
open Go.RowKit

/-- The bytes of four numbers, the last one above its low bound. -/
def encL (n0 n1 n2 n3 : Nat) : List UInt8 := [UInt8.ofNat n0] ++ packL n1 2 ++ packL n2 2 ++ packL n3 2
theorem pack1 (n : Nat) : packL n 1 = [UInt8.ofNat n] := by simp [packL]
theorem pack2 (n : Nat) : packL n 2 = [UInt8.ofNat n, UInt8.ofNat (n / 256)] := by simp [packL, List.range_succ]
theorem encL_eq (n0 n1 n2 n3 : Nat) : encL n0 n1 n2 n3 = [UInt8.ofNat n0, UInt8.ofNat n1, UInt8.ofNat (n1 / 256), UInt8.ofNat n2, UInt8.ofNat (n2 / 256), UInt8.ofNat n3, UInt8.ofNat (n3 / 256)] := by
  simp [encL, pack2]

theorem byte_small1 {n : Nat} (h : n < 256) : ((UInt8.ofNat n).toNat : Int) = (n : Int) := by
  rw [UInt8.toNat_ofNat']
  omega
theorem ow_byte (w : World) (b : UInt8) (v : Int) (hv : v = (b.toNat : Int)) : Ow eB ((w.alloc (.cells #[.int .u8 v] 5)).drew) w.heap.size (some ⟨w.heap.size, 0, none⟩) 1 1 [b] :=
  Ow.lit w [b] _ 1 (Nat.le_refl _) (by unfold maxLen; omega) (by simp [Enc.row, eB, hv]) rfl

/-- append as one step of a region: as 'wpList_append_ow'. -/
theorem wp_append_ow {P : Program} {α : Type} {E : Enc α} (hE : EncOk E) (w : World) {o : Oper} {a : Act} {K : Act → World → Prop} {Q : Exit → Act → World → Prop} (s x : Operand) (t : TypeId)
    (ho : o.op = .call { callee := .builtin .append, args := #[s, x], argTypes := #[t, t] })
    (base : Nat) {z : Value} {bytes : Nat} (hinfo : (P.info? E.tid).map (fun i => (i.zero, i.size, i.bytes)) = some (some z, E.size, bytes)) (ht : P.underlying t = some (.slice E.tid)) (hzs : z.cells.size = E.size)
    (A : Option Addr) (n c : Nat) (l : List α) (hs : a.eval s = .slice A n c) (hown : Ow E w base A n c l)
    (X : Option Addr) (m d hi' : Nat) (news : List α) (hx : a.eval x = .slice X m d) (hX : Rd E w hi' X news) (hm : news.length = m)
    (h63 : n + m ≤ maxLen) (hbytes : (n + m) * bytes ≤ 140737488355328) (hbase : base ≤ w.heap.size)
    (h : ∀ A' c' w', Ow E w' base A' (n + m) c' (l ++ news) → w.grownBy w' (A.map (·.block)) → (A'.map (·.block) = A.map (·.block) ∨ A'.map (·.block) = some w.heap.size) → K (a.put o.dst (.slice A' (n + m) c')) w') : o.wp P a w K Q := by
  obtain ⟨i, hi, hz, hsz, hby⟩ := info_parts hinfo
  obtain ⟨A', c', w', hrun, h2, h3, h4⟩ := run_append_ow (P := P) hE w base t o.type i z bytes ht hi hz hsz hby hzs A n c l hown X m d hi' news hX hm h63 hbytes hbase
  unfold Oper.wp execOp
  simp only [ho, resolve, invoke, builtin, Sem.run_bind, Sem.run_pure, Result.andThen_ok, List.map_toArray, List.map_cons, List.map_nil, hs, hx, hrun]
  exact h A' c' w' h2 h3 h4

set_option maxHeartbeats 2000000 in
theorem l2Encode (g n0 n1 n2 n3 : Nat) (w : World) (hx : At w g 25 #[.int .i64 n0, .int .i64 n1, .int .i64 n2, .int .i64 ((n3 : Int) - 1000)]) (h0 : n0 ≤ 9) (h1 : n1 ≤ 999) (h2 : n2 ≤ 9999) (h3 : n3 ≤ 2000) :
    Calls Tryz.prog 101 #[.pointer (some ⟨g, 0, none⟩)] w fun e w' => ∃ A c, e = .returned (.slice A 7 c) ∧ Ow eB w' w.heap.size A 7 c (encL n0 n1 n2 n3) ∧ Below w.heap.size w w' := by
  have hg := hx.lt
  go_enter Tryz.func101, Tryz.ntmps101
  go_wp2
  refine wp_region_fork2 [(0, false), (1, false), (2, false), (3, false), (4, false), (6, false), (7, false), (8, false), (9, false)] [(10, true), (11, true), (12, false)] [(5, true), (11, true), (12, false)] 5 10 (fun u => At u g 25 #[.int .i64 n0, .int .i64 n1, .int .i64 n2, .int .i64 ((n3 : Int) - 1000)]) (by kernel_rfl) (by kernel_rfl) (fun _ _ _ _ _ h => h) hx.drew ?_
  simp only [mixOps, List.map_cons, List.map_nil, List.getElem?_cons_succ, List.getElem?_cons_zero, Option.getD_some]
  repeat (first
    | (refine mixR_skip (by rfl) ?_
       (try simp only [Act.put, List.setIfInBounds_toArray, List.set_cons_zero, List.set_cons_succ]))
    | (refine mixR_pure (v := ?_) (by rfl) (fun u hu => ?_) ?_
       rotate_left
       · obtain ⟨_, _, _, _, _, _, _, _⟩ := hu.four
         go_simp
         (with_reducible rfl)
       (try simp only [Act.put, List.setIfInBounds_toArray, List.set_cons_zero, List.set_cons_succ])))
  have hx0 := hx.drew
  refine mixR_nil ⟨?_, ?_⟩
  · refine mixR_call (by rfl) (fun K hK => ?_)
    go_simp
    have hx1 := (hx.alloc (.cells #[.int .u8 (IntKind.u8.wrap (n0 : Int))] 5)).drew
    refine hK _ _ _ (fun _ h => h) hx1 ?_
    (try simp only [Act.put, List.setIfInBounds_toArray, List.set_cons_zero, List.set_cons_succ])
    have hB1 : Below w.heap.size w ((w.alloc (.cells #[.int .u8 (IntKind.u8.wrap (n0 : Int))] 5)).drew) := ((Below.refl _ _).alloc (Nat.le_refl _) _).drew
    have ob1 := ow_byte w (UInt8.ofNat n0) (IntKind.u8.wrap (n0 : Int)) (by rw [byte_small1 (by omega)]; exact IntWalk.u8_in _ (by omega))
    refine mixR_call (by rfl) (fun K hK => ?_)
    go_simp
    refine (l1Pack n1 2 _ (by omega) (by omega)).mono ?_
    rintro e w2 ⟨A1, c1, rfl, oa2, hb2⟩
    have hB2 := hB1.trans (hb2.mono hB1.size)
    have hx2 := hx1.below hb2 hx1.lt
    have ob2 := ob1.below hb2 (Nat.le_refl _)
    refine hK _ _ _ (fun _ h => h) hx2 ?_
    (try simp only [Act.put, List.setIfInBounds_toArray, List.set_cons_zero, List.set_cons_succ])
    refine mixR_call (by rfl) (fun K hK => ?_)
    refine wp_append_ow okB _ (.tmp 9) (.tmp 14) _ rfl w.heap.size info_u8 Tryz.underlying22 rfl _ 1 1 [UInt8.ofNat n0] rfl ob2 A1 2 c1 _ (packL n1 2) rfl (oa2.rd okB) (packL_len _ _) (by unfold maxLen; omega) (by omega) hB2.size ?_
    intro A2 c2 w3 ow3 hg3 _
    have hB3 : Below w.heap.size w w3 := hB2.grown hg3 hB2.size (fun g hg => (ob2.lt g hg).1)
    have hx3 := hx2.grown hg3 (fun e => by have := (ob2.lt _ e).1; omega)
    refine hK _ _ _ (fun _ h => h) hx3 ?_
    (try simp only [Act.put, List.setIfInBounds_toArray, List.set_cons_zero, List.set_cons_succ])
    refine mixR_pure (v := ?_) (by rfl) (fun u hu => ?_) ?_
    rotate_left
    · go_simp
      (with_reducible rfl)
    (try simp only [Act.put, List.setIfInBounds_toArray, List.set_cons_zero, List.set_cons_succ])
    refine mixR_nil ?_
    clear hx0
    obtain ⟨_, _, y2, y3, _, _, _, _⟩ := hx3.four
    go_wp2_with fail
    refine (l1Pack n2 2 _ (by omega) (by omega)).mono ?_
    rintro e w4 ⟨A4, c4, rfl, o4, hb4⟩
    have hB4 := hB3.trans (hb4.mono hB3.size)
    have hx4 := hx3.below hb4 hx3.lt
    have ow4 := ow3.below hb4 (Nat.le_refl _)
    clear y2 y3
    obtain ⟨_, _, y2, y3, _, _, _, _⟩ := hx4.four
    go_wp2_with (at_builtin; refine wpList_append_ow okB _ rfl (.tmp 16) (.tmp 21) _ rfl w.heap.size info_u8 Tryz.underlying22 rfl A2 (1 + 2) c2 ([UInt8.ofNat n0] ++ packL n1 2) rfl ow4 A4 2 c4 _ (packL n2 2) rfl (o4.rd okB) (packL_len _ _) (by unfold maxLen; omega) (by omega) hB4.size ?_; intro A5 c5 w5 ow5 hg5 _; have hB5 := hB4.grown hg5 hB4.size (fun g hg => (ow4.lt g hg).1); have hx5 := hx4.grown hg5 (fun e => by have := (ow4.lt _ e).1; omega); clear y2 y3; obtain ⟨_, _, y2, y3, _, _, _, _⟩ := hx5.four)
    refine (l1Pack n3 2 _ (by omega) (by omega)).mono ?_
    rintro e w6 ⟨A6, c6, rfl, o6, hb6⟩
    have hB6 := hB5.trans (hb6.mono hB5.size)
    have ow6 : Ow eB w6 w.heap.size A5 5 c5 ([UInt8.ofNat n0] ++ packL n1 2 ++ packL n2 2) := ow5.below hb6 (Nat.le_refl _)
    go_wp2_with (at_builtin; refine wpList_append_ow okB _ rfl (.tmp 23) (.tmp 29) _ rfl w.heap.size info_u8 Tryz.underlying22 rfl A5 5 c5 ([UInt8.ofNat n0] ++ packL n1 2 ++ packL n2 2) rfl ow6 A6 2 c6 _ (packL n3 2) rfl (o6.rd okB) (packL_len _ _) (by unfold maxLen; omega) (by omega) hB6.size ?_; intro A7 c7 w7 ow7 hg7 _; have hB7 := hB6.grown hg7 hB6.size (fun g hg => (ow6.lt g hg).1))
    go_ret
    exact ⟨A7, c7, rfl, ow7, hB7⟩
  · refine mixR_call (by rfl) (fun K hK => ?_)
    go_simp
    have hB0 : Below w.heap.size w w.drew := (Below.refl _ _).drew
    refine (l1Pack n1 2 _ (by omega) (by omega)).mono ?_
    rintro e w1 ⟨A1, c1, rfl, oa1, hb1⟩
    have hB1 := hB0.trans (hb1.mono hB0.size)
    have hx1 := hx0.below hb1 hx0.lt
    refine hK _ _ _ (fun _ h => h) hx1 ?_
    (try simp only [Act.put, List.setIfInBounds_toArray, List.set_cons_zero, List.set_cons_succ])
    refine mixR_call (by rfl) (fun K hK => ?_)
    go_simp
    have hx2 := (hx1.alloc (.cells #[.int .u8 (IntKind.u8.wrap (n0 : Int))] 5))
    have oa2 := oa1.alloc (.cells #[.int .u8 (IntKind.u8.wrap (n0 : Int))] 5)
    have hB2 := hB1.alloc hB1.size (.cells #[.int .u8 (IntKind.u8.wrap (n0 : Int))] 5)
    have ob2 := (ow_byte w1 (UInt8.ofNat n0) (IntKind.u8.wrap (n0 : Int)) (by rw [byte_small1 (by omega)]; exact IntWalk.u8_in _ (by omega))).from_ hB1.size
    refine hK _ _ _ (fun _ h => h) hx2 ?_
    (try simp only [Act.put, List.setIfInBounds_toArray, List.set_cons_zero, List.set_cons_succ])
    refine mixR_call (by rfl) (fun K hK => ?_)
    refine wp_append_ow okB _ (.tmp 9) (.tmp 14) _ rfl w.heap.size info_u8 Tryz.underlying22 rfl _ 1 1 [UInt8.ofNat n0] rfl ob2 A1 2 c1 _ (packL n1 2) rfl (oa2.rd okB) (packL_len _ _) (by unfold maxLen; omega) (by omega) hB2.size ?_
    intro A2 c2 w3 ow3 hg3 _
    have hB3 : Below w.heap.size w w3 := hB2.grown hg3 hB2.size (fun g hg => (ob2.lt g hg).1)
    have hx3 := hx2.grown hg3 (fun e => by have := (ob2.lt _ e).1; omega)
    refine hK _ _ _ (fun _ h => h) hx3 ?_
    (try simp only [Act.put, List.setIfInBounds_toArray, List.set_cons_zero, List.set_cons_succ])
    refine mixR_pure (v := ?_) (by rfl) (fun u hu => ?_) ?_
    rotate_left
    · go_simp
      (with_reducible rfl)
    (try simp only [Act.put, List.setIfInBounds_toArray, List.set_cons_zero, List.set_cons_succ])
    refine mixR_nil ?_
    clear hx0
    obtain ⟨_, _, y2, y3, _, _, _, _⟩ := hx3.four
    go_wp2_with fail
    refine (l1Pack n2 2 _ (by omega) (by omega)).mono ?_
    rintro e w4 ⟨A4, c4, rfl, o4, hb4⟩
    have hB4 := hB3.trans (hb4.mono hB3.size)
    have hx4 := hx3.below hb4 hx3.lt
    have ow4 := ow3.below hb4 (Nat.le_refl _)
    clear y2 y3
    obtain ⟨_, _, y2, y3, _, _, _, _⟩ := hx4.four
    go_wp2_with (at_builtin; refine wpList_append_ow okB _ rfl (.tmp 16) (.tmp 21) _ rfl w.heap.size info_u8 Tryz.underlying22 rfl A2 (1 + 2) c2 ([UInt8.ofNat n0] ++ packL n1 2) rfl ow4 A4 2 c4 _ (packL n2 2) rfl (o4.rd okB) (packL_len _ _) (by unfold maxLen; omega) (by omega) hB4.size ?_; intro A5 c5 w5 ow5 hg5 _; have hB5 := hB4.grown hg5 hB4.size (fun g hg => (ow4.lt g hg).1); have hx5 := hx4.grown hg5 (fun e => by have := (ow4.lt _ e).1; omega); clear y2 y3; obtain ⟨_, _, y2, y3, _, _, _, _⟩ := hx5.four)
    refine (l1Pack n3 2 _ (by omega) (by omega)).mono ?_
    rintro e w6 ⟨A6, c6, rfl, o6, hb6⟩
    have hB6 := hB5.trans (hb6.mono hB5.size)
    have ow6 : Ow eB w6 w.heap.size A5 5 c5 ([UInt8.ofNat n0] ++ packL n1 2 ++ packL n2 2) := ow5.below hb6 (Nat.le_refl _)
    go_wp2_with (at_builtin; refine wpList_append_ow okB _ rfl (.tmp 23) (.tmp 29) _ rfl w.heap.size info_u8 Tryz.underlying22 rfl A5 5 c5 ([UInt8.ofNat n0] ++ packL n1 2 ++ packL n2 2) rfl ow6 A6 2 c6 _ (packL n3 2) rfl (o6.rd okB) (packL_len _ _) (by unfold maxLen; omega) (by omega) hB6.size ?_; intro A7 c7 w7 ow7 hg7 _; have hB7 := hB6.grown hg7 hB6.size (fun g hg => (ow6.lt g hg).1))
    go_ret
    exact ⟨A7, c7, rfl, ow7, hB7⟩

/-- A sample's answer of code and bytes. -/
def encodeM (x : Smp) : Int × List UInt8 := if faultM x = 0 then (0, encL x.1.toNat x.2.1.toNat x.2.2.1.toNat (x.2.2.2 + 1000).toNat) else (3, [])
theorem faultM_in {a0 a1 a2 a3 : Int} (h : faultM (a0, a1, a2, a3) = 0) : (0 ≤ a0 ∧ a0 ≤ 9) ∧ (0 ≤ a1 ∧ a1 ≤ 999) ∧ (0 ≤ a2 ∧ a2 ≤ 9999) ∧ -1000 ≤ a3 ∧ a3 ≤ 1000 := by
  unfold faultM at h
  split at h
  · rename_i hh
    simpa [bndsM, inB] using hh
  · cases h
/-- No fault: the numbers. -/
theorem faultM_nat {a0 a1 a2 a3 : Int} (h : faultM (a0, a1, a2, a3) = 0) : ∃ n0 n1 n2 n3 : Nat, a0 = n0 ∧ a1 = n1 ∧ a2 = n2 ∧ a3 = (n3 : Int) - 1000 ∧ n0 ≤ 9 ∧ n1 ≤ 999 ∧ n2 ≤ 9999 ∧ n3 ≤ 2000 := by
  obtain ⟨h0, h1, h2, h3⟩ := faultM_in h
  exact ⟨a0.toNat, a1.toNat, a2.toNat, (a3 + 1000).toNat, by omega, by omega, by omega, by omega, by omega, by omega, by omega, by omega⟩
theorem encodeM_nat {n0 n1 n2 n3 : Nat} (h : faultM ((n0 : Int), (n1 : Int), (n2 : Int), (n3 : Int) - 1000) = 0) : encodeM ((n0 : Int), (n1 : Int), (n2 : Int), (n3 : Int) - 1000) = (0, encL n0 n1 n2 n3) := by
  unfold encodeM
  rw [if_pos h]
  simp only [Int.toNat_natCast, Int.sub_add_cancel]
theorem encodeM_len (x : Smp) : (encodeM x).2.length ≤ 7 := by
  unfold encodeM
  split
  · rw [encL_eq]
    simp
  · simp
theorem encodeM_no {x : Smp} (h : faultM x = 3) : encodeM x = (3, []) := by
  unfold encodeM
  rw [h]
  rfl

end Go.Proofs.YteiclanlhnccnaaGreatDoor
