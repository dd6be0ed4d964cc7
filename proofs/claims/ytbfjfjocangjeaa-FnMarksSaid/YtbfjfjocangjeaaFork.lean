/-
  A region in which a load may stand on either side of a call, and a store ends it: both orders are walked from there on.
-/
import Derived.Test.YtbfjfjocangjeaaMix
namespace Go.Proofs.Ytbfjfjocangjeaa
set_option maxRecDepth 20000
open Go.RowKit

section
variable {P : Program} {md : Region.Mode} {ops : Array Oper} {Q : Exit → Act → World → Prop}

/-- As 'mixW', nothing known of the worlds; behind it R. -/
def forkW (P : Program) (ops : Array Oper) (Q : Exit → Act → World → Prop) (R : Act → World → Prop) : List (Oper × Bool) → Act → World → Prop
  | [], a, w => R a w
  | (o, c) :: rest, a, w =>
    if Region.wanted o (yielded ops a.tmps) = true then
      if c = true then o.wp P a w (fun a' w' => forkW P ops Q R rest a' w') Q
      else ∃ v, (∀ x, (execOp a.eval o).run P x = .ok (.value v) x) ∧ forkW P ops Q R rest (a.put o.dst v) w
    else forkW P ops Q R rest (a.put o.dst undef) w

/-- The order fits the region. -/
def forkB (md : Region.Mode) (ops : Array Oper) : Array Bool → List (Nat × Bool) → Bool
  | _, [] => true
  | listed, (k, c) :: p => (if c then Region.ready md ops listed == [k] else (Region.ready md ops listed).contains k && Region.free md ops listed k) && forkB md ops (listed.setIfInBounds k true) p
def listedBy (listed : Array Bool) (p : List (Nat × Bool)) : Array Bool := p.foldl (fun t x => t.setIfInBounds x.1 true) listed

theorem any_of_fork {l : List Oper} {R : Act → World → Prop} (hsel : Region.noSelect l.toArray = true) (hQ : ∀ c a (d : Nat) v w, Q (.panic c) (Act.put a (some d) v) w → Q (.panic c) a w) (fuel : Nat) :
    ∀ (p : List (Nat × Bool)) (listed : Array Bool) (a : Act) (w : World), (∀ x ∈ p, x.1 < l.length) → forkB md l.toArray listed p = true →
      (∀ a w, R a w → wpAnyH P md l.toArray Q (fun _ => True) fuel (listedBy listed p) a w) → forkW P l.toArray Q R (mixOps l p) a w →
      wpAnyH P md l.toArray Q (fun _ => True) (p.length + fuel) listed a w
  | [], listed, a, w, _, _, hR, h => by
    rw [List.length_nil, Nat.zero_add]
    exact hR a w h
  | (k, c) :: p, listed, a, w, hl, hB, hR, h => by
    have hk : k < l.length := hl (k, c) (by simp)
    obtain ⟨o, ho⟩ : ∃ o, l[k]? = some o := ⟨_, List.getElem?_eq_getElem hk⟩
    have hoa : l.toArray[k]? = some o := by simpa using ho
    simp only [forkB, Bool.and_eq_true] at hB
    obtain ⟨hb, hB'⟩ := hB
    have hQ' : ∀ c a d v w, Q (.panic c) (Act.put a d v) w → Q (.panic c) a w := fun c a d v w h => by
      cases d with
      | none => exact h
      | some d => exact hQ c a d v w h
    have ih := fun a w => any_of_fork hsel hQ fuel p (listed.setIfInBounds k true) a w (fun x hx => hl x (by simp [hx])) hB' hR
    have e : ((k, c) :: p).length + fuel = p.length + fuel + 1 := by rw [List.length_cons]; omega
    rw [e]
    simp only [mixOps, List.map_cons, ho, Option.getD_some, forkW] at h
    cases c with
    | false =>
      simp only [Bool.false_eq_true, if_false, Bool.and_eq_true] at hb h
      by_cases hw : Region.wanted o (yielded l.toArray a.tmps) = true
      · rw [if_pos hw] at h
        obtain ⟨v, hv, h⟩ := h
        exact wpAnyH_take hoa hsel hb.2 hb.1 (fun c a w => hQ' c a _ _ w) (.inl ⟨hw, fun x _ => hv x⟩) trivial (ih _ w h)
      · rw [if_neg hw] at h
        exact wpAnyH_take hoa hsel hb.2 hb.1 (fun c a w => hQ' c a _ _ w) (.inr ⟨by simpa using hw, rfl⟩) trivial (ih _ w h)
    | true =>
      simp only [if_true] at hb h
      refine wpAnyH_all (rs := [k]) (by simpa using hb) (by simp) fun i hi => ?_
      obtain rfl : i = k := by simpa using hi
      unfold wpOp
      rw [hoa]
      simp only
      by_cases hw : Region.wanted o (yielded l.toArray a.tmps) = true
      · rw [if_pos hw] at h ⊢
        have h1 : wpOp P l.toArray Q i (fun a' w' => forkW P l.toArray Q R (mixOps l p) a' w') a w := by
          unfold wpOp
          rw [hoa]
          simp only
          rw [if_pos hw]
          exact .inl h
        have h2 := wpOp_mono (K' := fun a' w' => True ∧ wpAnyH P md l.toArray Q (fun _ => True) (p.length + fuel) (listed.setIfInBounds i true) a' w') (fun a' w' h3 => ⟨trivial, ih a' w' h3⟩) h1
        unfold wpOp at h2
        rw [hoa] at h2
        simp only at h2
        rwa [if_pos hw] at h2
      · rw [if_neg hw] at h ⊢
        exact ⟨trivial, ih _ w h⟩

/-- One that comes up beside another one. -/
theorem wpOp_of_fork {l : List Oper} {R : Act → World → Prop} {i : Nat} {o : Oper} {rest : List (Oper × Bool)} {a : Act} {w : World} (hoa : l.toArray[i]? = some o)
    (h : forkW P l.toArray Q R ((o, true) :: rest) a w) : wpOp P l.toArray Q i (fun a' w' => forkW P l.toArray Q R rest a' w') a w := by
  unfold wpOp
  rw [hoa]
  simp only
  unfold forkW at h
  by_cases hw : Region.wanted o (yielded l.toArray a.tmps) = true
  · rw [if_pos hw] at h ⊢
    rw [if_pos rfl] at h
    exact .inl h
  · rw [if_neg hw] at h ⊢
    exact h

/-- Both of two. -/
def forkAll (md : Region.Mode) (ops : Array Oper) (n : Nat) (p p1 p2 : List (Nat × Bool)) (i j : Nat) : Bool :=
  Region.noSelect ops && (forkB md ops (Array.replicate n false) p && ((Region.ready md ops (listedBy (Array.replicate n false) p) == [i, j]) &&
    ((forkB md ops ((listedBy (Array.replicate n false) p).setIfInBounds i true) p1 && (Region.ready md ops (listedBy ((listedBy (Array.replicate n false) p).setIfInBounds i true) p1)).isEmpty) &&
     (forkB md ops ((listedBy (Array.replicate n false) p).setIfInBounds j true) p2 && (Region.ready md ops (listedBy ((listedBy (Array.replicate n false) p).setIfInBounds j true) p2)).isEmpty)) &&
    (p.length + (p1.length + 1) == n && p1.length == p2.length && decide (i < n) && decide (j < n) && (p ++ p1 ++ p2).all fun x => decide (x.1 < n))))

theorem wp_region_fork {id : Nat} {l : List Oper} {a : Act} {w : World} (p p1 p2 : List (Nat × Bool)) (i j : Nat) (hm : P.follows .mixedOrders = true) (hB : forkAll .any l.toArray l.length p p1 p2 i j = true)
    (hQ : ∀ c a (d : Nat) v w, Q (.panic c) (Act.put a (some d) v) w → Q (.panic c) a w)
    (h : forkW P l.toArray Q (fun a w => forkW P l.toArray Q (Q .normal) (mixOps l ((i, true) :: p1)) a w ∧ forkW P l.toArray Q (Q .normal) (mixOps l ((j, true) :: p2)) a w) (mixOps l p) a w.drew) : (Code.region id l.toArray true).wp P Q a w := by
  unfold forkAll at hB
  simp only [Bool.and_eq_true, beq_iff_eq, List.all_eq_true, decide_eq_true_eq, List.mem_append] at hB
  obtain ⟨h1, h2, ⟨h3, ⟨h4, h5⟩, h6, h7⟩, ⟨⟨⟨h8, h9⟩, h10⟩, h11⟩, h12⟩ := hB
  refine wp_region_held (S := fun _ => True) hm ?_
  have hi : l[i]? = some l[i] := List.getElem?_eq_getElem h10
  have hj : l[j]? = some l[j] := List.getElem?_eq_getElem h11
  have go := any_of_fork (P := P) (md := .any) (R := fun a w => forkW P l.toArray Q (Q .normal) (mixOps l ((i, true) :: p1)) a w ∧ forkW P l.toArray Q (Q .normal) (mixOps l ((j, true) :: p2)) a w) h1 hQ (p1.length + 1) p
    (Array.replicate l.length false) a w.drew (fun x hx => h12 x (.inl (.inl hx))) h2 (fun a w hR => by
      refine wpAnyH_all (rs := [i, j]) h3 (by simp) fun k hk => ?_
      rcases (show k = i ∨ k = j by simpa using hk) with rfl | rfl
      · have hR1 := hR.1
        simp only [mixOps, List.map_cons, hi, Option.getD_some] at hR1
        refine wpOp_mono (fun a' w' h' => ⟨trivial, ?_⟩) (wpOp_of_fork (by simp) hR1)
        exact any_of_fork h1 hQ 0 p1 _ a' w' (fun x hx => h12 x (.inl (.inr hx))) h4 (fun a w hq => wpAnyH_done (by simpa using h5) hq 0) h'
      · have hR1 := hR.2
        simp only [mixOps, List.map_cons, hj, Option.getD_some] at hR1
        refine wpOp_mono (fun a' w' h' => ⟨trivial, ?_⟩) (wpOp_of_fork (by simp) hR1)
        have := any_of_fork h1 hQ 0 p2 _ a' w' (fun x hx => h12 x (.inr hx)) h6 (fun a w hq => wpAnyH_done (by simpa using h7) hq 0) h'
        rwa [← h9] at this) h
  rw [h8] at go
  simpa using go

theorem fork_pure {R : Act → World → Prop} {o : Oper} {rest : List (Oper × Bool)} {a : Act} {w : World} {v : Value} (hw : Region.wanted o (yielded ops a.tmps) = true)
    (hv : ∀ x, (execOp a.eval o).run P x = .ok (.value v) x) (h : forkW P ops Q R rest (a.put o.dst v) w) : forkW P ops Q R ((o, false) :: rest) a w := by
  unfold forkW
  rw [if_pos hw, if_neg (by simp)]
  exact ⟨v, hv, h⟩
theorem fork_skip {R : Act → World → Prop} {o : Oper} {c : Bool} {rest : List (Oper × Bool)} {a : Act} {w : World} (hw : Region.wanted o (yielded ops a.tmps) = false)
    (h : forkW P ops Q R rest (a.put o.dst undef) w) : forkW P ops Q R ((o, c) :: rest) a w := by
  unfold forkW
  rw [if_neg (by simp [hw])]
  exact h
/-- What is carried out: a call, a load, a store. -/
theorem fork_call {R : Act → World → Prop} {o : Oper} {rest : List (Oper × Bool)} {a : Act} {w : World} (hw : Region.wanted o (yielded ops a.tmps) = true)
    (h : ∀ K : Act → World → Prop, (∀ a' w', forkW P ops Q R rest a' w' → K a' w') → o.wp P a w K Q) : forkW P ops Q R ((o, true) :: rest) a w := by
  unfold forkW
  rw [if_pos hw, if_pos rfl]
  exact h _ fun a' w' h3 => h3
theorem fork_nil {R : Act → World → Prop} {a : Act} {w : World} (h : R a w) : forkW P ops Q R [] a w := h
end
end Go.Proofs.Ytbfjfjocangjeaa
