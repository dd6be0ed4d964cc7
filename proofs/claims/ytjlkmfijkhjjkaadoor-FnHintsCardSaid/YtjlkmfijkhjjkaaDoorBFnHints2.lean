/-
  Texts of one proof, joined: each has its own namespace.
-/
import Derived.Test.YtjlkmfijkhjjkaaDoorBFnHints0
import Derived.Test.YtjlkmfijkhjjkaaDoorBFnHints1
/-
  A region in which a load may stand on either side of a call, and a store ends it: both orders are walked from there on.
-/
namespace Go.Proofs.YtjlkmfijkhjjkaaDoor
set_option maxRecDepth 20000
open Go.RowKit

section
variable {P : Program} {md : Region.Mode} {ops : Array Oper} {Q : Exit → Act → World → Prop}

/-- As 'mixW', nothing known of the worlds; behind it R. -/
def forkW (P : Program) (ops : Array Oper) (Q : Exit → Act → World → Prop) (R : Act → World → Prop) : List (Oper × Bool) → Act → World → Prop
  | [], a, w => R a w
  | (o, c) :: rest, a, w =>
    if Region.wanted o (yielded ops a.tmps) = true then
      if c = true then o.wp P a w (fun a' w' => forkW P ops Q R rest a' w') Q
      else ∃ v, (∀ x, (execOp a.eval o).run P x = .ok (.value v) x) ∧ forkW P ops Q R rest (a.put o.dst v) w
    else forkW P ops Q R rest (a.put o.dst undef) w

/-- The order fits the region. -/
def forkB (md : Region.Mode) (ops : Array Oper) : Array Bool → List (Nat × Bool) → Bool
  | _, [] => true
  | listed, (k, c) :: p => (if c then Region.ready md ops listed == [k] else (Region.ready md ops listed).contains k && Region.free md ops listed k) && forkB md ops (listed.setIfInBounds k true) p
def listedBy (listed : Array Bool) (p : List (Nat × Bool)) : Array Bool := p.foldl (fun t x => t.setIfInBounds x.1 true) listed

theorem any_of_fork {l : List Oper} {R : Act → World → Prop} (hsel : Region.noSelect l.toArray = true) (hQ : ∀ c a (d : Nat) v w, Q (.panic c) (Act.put a (some d) v) w → Q (.panic c) a w) (fuel : Nat) :
    ∀ (p : List (Nat × Bool)) (listed : Array Bool) (a : Act) (w : World), (∀ x ∈ p, x.1 < l.length) → forkB md l.toArray listed p = true →
      (∀ a w, R a w → wpAnyH P md l.toArray Q (fun _ => True) fuel (listedBy listed p) a w) → forkW P l.toArray Q R (mixOps l p) a w →
      wpAnyH P md l.toArray Q (fun _ => True) (p.length + fuel) listed a w
  | [], listed, a, w, _, _, hR, h => by
    rw [List.length_nil, Nat.zero_add]
    exact hR a w h
  | (k, c) :: p, listed, a, w, hl, hB, hR, h => by
    have hk : k < l.length := hl (k, c) (by simp)
    obtain ⟨o, ho⟩ : ∃ o, l[k]? = some o := ⟨_, List.getElem?_eq_getElem hk⟩
    have hoa : l.toArray[k]? = some o := by simpa using ho
    simp only [forkB, Bool.and_eq_true] at hB
    obtain ⟨hb, hB'⟩ := hB
    have hQ' : ∀ c a d v w, Q (.panic c) (Act.put a d v) w → Q (.panic c) a w := fun c a d v w h => by
      cases d with
      | none => exact h
      | some d => exact hQ c a d v w h
    have ih := fun a w => any_of_fork hsel hQ fuel p (listed.setIfInBounds k true) a w (fun x hx => hl x (by simp [hx])) hB' hR
    have e : ((k, c) :: p).length + fuel = p.length + fuel + 1 := by rw [List.length_cons]; omega
    rw [e]
    simp only [mixOps, List.map_cons, ho, Option.getD_some, forkW] at h
    cases c with
    | false =>
      simp only [Bool.false_eq_true, if_false, Bool.and_eq_true] at hb h
      by_cases hw : Region.wanted o (yielded l.toArray a.tmps) = true
      · rw [if_pos hw] at h
        obtain ⟨v, hv, h⟩ := h
        exact wpAnyH_take hoa hsel hb.2 hb.1 (fun c a w => hQ' c a _ _ w) (.inl ⟨hw, fun x _ => hv x⟩) trivial (ih _ w h)
      · rw [if_neg hw] at h
        exact wpAnyH_take hoa hsel hb.2 hb.1 (fun c a w => hQ' c a _ _ w) (.inr ⟨by simpa using hw, rfl⟩) trivial (ih _ w h)
    | true =>
      simp only [if_true] at hb h
      refine wpAnyH_all (rs := [k]) (by simpa using hb) (by simp) fun i hi => ?_
      obtain rfl : i = k := by simpa using hi
      unfold wpOp
      rw [hoa]
      simp only
      by_cases hw : Region.wanted o (yielded l.toArray a.tmps) = true
      · rw [if_pos hw] at h ⊢
        have h1 : wpOp P l.toArray Q i (fun a' w' => forkW P l.toArray Q R (mixOps l p) a' w') a w := by
          unfold wpOp
          rw [hoa]
          simp only
          rw [if_pos hw]
          exact .inl h
        have h2 := wpOp_mono (K' := fun a' w' => True ∧ wpAnyH P md l.toArray Q (fun _ => True) (p.length + fuel) (listed.setIfInBounds i true) a' w') (fun a' w' h3 => ⟨trivial, ih a' w' h3⟩) h1
        unfold wpOp at h2
        rw [hoa] at h2
        simp only at h2
        rwa [if_pos hw] at h2
      · rw [if_neg hw] at h ⊢
        exact ⟨trivial, ih _ w h⟩

/-- One that comes up beside another one. -/
theorem wpOp_of_fork {l : List Oper} {R : Act → World → Prop} {i : Nat} {o : Oper} {rest : List (Oper × Bool)} {a : Act} {w : World} (hoa : l.toArray[i]? = some o)
    (h : forkW P l.toArray Q R ((o, true) :: rest) a w) : wpOp P l.toArray Q i (fun a' w' => forkW P l.toArray Q R rest a' w') a w := by
  unfold wpOp
  rw [hoa]
  simp only
  unfold forkW at h
  by_cases hw : Region.wanted o (yielded l.toArray a.tmps) = true
  · rw [if_pos hw] at h ⊢
    rw [if_pos rfl] at h
    exact .inl h
  · rw [if_neg hw] at h ⊢
    exact h

/-- Both of two. -/
def forkAll (md : Region.Mode) (ops : Array Oper) (n : Nat) (p p1 p2 : List (Nat × Bool)) (i j : Nat) : Bool :=
  Region.noSelect ops && (forkB md ops (Array.replicate n false) p && ((Region.ready md ops (listedBy (Array.replicate n false) p) == [i, j]) &&
    ((forkB md ops ((listedBy (Array.replicate n false) p).setIfInBounds i true) p1 && (Region.ready md ops (listedBy ((listedBy (Array.replicate n false) p).setIfInBounds i true) p1)).isEmpty) &&
     (forkB md ops ((listedBy (Array.replicate n false) p).setIfInBounds j true) p2 && (Region.ready md ops (listedBy ((listedBy (Array.replicate n false) p).setIfInBounds j true) p2)).isEmpty)) &&
    (p.length + (p1.length + 1) == n && p1.length == p2.length && decide (i < n) && decide (j < n) && (p ++ p1 ++ p2).all fun x => decide (x.1 < n))))

theorem wp_region_fork {id : Nat} {l : List Oper} {a : Act} {w : World} (p p1 p2 : List (Nat × Bool)) (i j : Nat) (hm : P.follows .mixedOrders = true) (hB : forkAll .any l.toArray l.length p p1 p2 i j = true)
    (hQ : ∀ c a (d : Nat) v w, Q (.panic c) (Act.put a (some d) v) w → Q (.panic c) a w)
    (h : forkW P l.toArray Q (fun a w => forkW P l.toArray Q (Q .normal) (mixOps l ((i, true) :: p1)) a w ∧ forkW P l.toArray Q (Q .normal) (mixOps l ((j, true) :: p2)) a w) (mixOps l p) a w.drew) : (Code.region id l.toArray true).wp P Q a w := by
  unfold forkAll at hB
  simp only [Bool.and_eq_true, beq_iff_eq, List.all_eq_true, decide_eq_true_eq, List.mem_append] at hB
  obtain ⟨h1, h2, ⟨h3, ⟨h4, h5⟩, h6, h7⟩, ⟨⟨⟨h8, h9⟩, h10⟩, h11⟩, h12⟩ := hB
  refine wp_region_held (S := fun _ => True) hm ?_
  have hi : l[i]? = some l[i] := List.getElem?_eq_getElem h10
  have hj : l[j]? = some l[j] := List.getElem?_eq_getElem h11
  have go := any_of_fork (P := P) (md := .any) (R := fun a w => forkW P l.toArray Q (Q .normal) (mixOps l ((i, true) :: p1)) a w ∧ forkW P l.toArray Q (Q .normal) (mixOps l ((j, true) :: p2)) a w) h1 hQ (p1.length + 1) p
    (Array.replicate l.length false) a w.drew (fun x hx => h12 x (.inl (.inl hx))) h2 (fun a w hR => by
      refine wpAnyH_all (rs := [i, j]) h3 (by simp) fun k hk => ?_
      rcases (show k = i ∨ k = j by simpa using hk) with rfl | rfl
      · have hR1 := hR.1
        simp only [mixOps, List.map_cons, hi, Option.getD_some] at hR1
        refine wpOp_mono (fun a' w' h' => ⟨trivial, ?_⟩) (wpOp_of_fork (by simp) hR1)
        exact any_of_fork h1 hQ 0 p1 _ a' w' (fun x hx => h12 x (.inl (.inr hx))) h4 (fun a w hq => wpAnyH_done (by simpa using h5) hq 0) h'
      · have hR1 := hR.2
        simp only [mixOps, List.map_cons, hj, Option.getD_some] at hR1
        refine wpOp_mono (fun a' w' h' => ⟨trivial, ?_⟩) (wpOp_of_fork (by simp) hR1)
        have := any_of_fork h1 hQ 0 p2 _ a' w' (fun x hx => h12 x (.inr hx)) h6 (fun a w hq => wpAnyH_done (by simpa using h7) hq 0) h'
        rwa [← h9] at this) h
  rw [h8] at go
  simpa using go

theorem fork_pure {R : Act → World → Prop} {o : Oper} {rest : List (Oper × Bool)} {a : Act} {w : World} {v : Value} (hw : Region.wanted o (yielded ops a.tmps) = true)
    (hv : ∀ x, (execOp a.eval o).run P x = .ok (.value v) x) (h : forkW P ops Q R rest (a.put o.dst v) w) : forkW P ops Q R ((o, false) :: rest) a w := by
  unfold forkW
  rw [if_pos hw, if_neg (by simp)]
  exact ⟨v, hv, h⟩
theorem fork_skip {R : Act → World → Prop} {o : Oper} {c : Bool} {rest : List (Oper × Bool)} {a : Act} {w : World} (hw : Region.wanted o (yielded ops a.tmps) = false)
    (h : forkW P ops Q R rest (a.put o.dst undef) w) : forkW P ops Q R ((o, c) :: rest) a w := by
  unfold forkW
  rw [if_neg (by simp [hw])]
  exact h
/-- What is carried out: a call, a load, a store. -/
theorem fork_call {R : Act → World → Prop} {o : Oper} {rest : List (Oper × Bool)} {a : Act} {w : World} (hw : Region.wanted o (yielded ops a.tmps) = true)
    (h : ∀ K : Act → World → Prop, (∀ a' w', forkW P ops Q R rest a' w' → K a' w') → o.wp P a w K Q) : forkW P ops Q R ((o, true) :: rest) a w := by
  unfold forkW
  rw [if_pos hw, if_pos rfl]
  exact h _ fun a' w' h3 => h3
theorem fork_nil {R : Act → World → Prop} {a : Act} {w : World} (h : R a w) : forkW P ops Q R [] a w := h
end
end Go.Proofs.YtjlkmfijkhjjkaaDoor
/-
  As Mix, but two that make memory may come in either order: both are walked from there on, and what is known of every world goes along.
-/
namespace Go.Proofs.YtjlkmfijkhjjkaaDoor
set_option maxRecDepth 20000
open Go.RowKit

section
variable {P : Program} {md : Region.Mode} {ops : Array Oper} {Q : Exit → Act → World → Prop}

/-- As 'mixW'; behind it R. -/
def mixRW (P : Program) (ops : Array Oper) (Q : Exit → Act → World → Prop) (R : (World → Prop) → Act → World → Prop) : List (Oper × Bool) → (World → Prop) → Act → World → Prop
  | [], S, a, w => R S a w
  | (o, c) :: rest, S, a, w =>
    if Region.wanted o (yielded ops a.tmps) = true then
      if c = true then o.wp P a w (fun a' w' => ∃ S' : World → Prop, (∀ x, S' x → S x) ∧ S' w' ∧ mixRW P ops Q R rest S' a' w') Q
      else ∃ v, (∀ x, S x → (execOp a.eval o).run P x = .ok (.value v) x) ∧ mixRW P ops Q R rest S (a.put o.dst v) w
    else mixRW P ops Q R rest S (a.put o.dst undef) w

theorem held_of_mixR {l : List Oper} {R : (World → Prop) → Act → World → Prop} (hsel : Region.noSelect l.toArray = true) (hQ : ∀ c a (d : Nat) v w, Q (.panic c) (Act.put a (some d) v) w → Q (.panic c) a w) (fuel : Nat) :
    ∀ (p : List (Nat × Bool)) (listed : Array Bool) (S : World → Prop) (a : Act) (w : World), (∀ x ∈ p, x.1 < l.length) → forkB md l.toArray listed p = true →
      (∀ S a w, S w → R S a w → wpAnyH P md l.toArray Q S fuel (listedBy listed p) a w) → S w → mixRW P l.toArray Q R (mixOps l p) S a w →
      wpAnyH P md l.toArray Q S (p.length + fuel) listed a w
  | [], listed, S, a, w, _, _, hR, hS, h => by
    rw [List.length_nil, Nat.zero_add]
    exact hR S a w hS h
  | (k, c) :: p, listed, S, a, w, hl, hB, hR, hS, h => by
    have hk : k < l.length := hl (k, c) (by simp)
    obtain ⟨o, ho⟩ : ∃ o, l[k]? = some o := ⟨_, List.getElem?_eq_getElem hk⟩
    have hoa : l.toArray[k]? = some o := by simpa using ho
    simp only [forkB, Bool.and_eq_true] at hB
    obtain ⟨hb, hB'⟩ := hB
    have hQ' : ∀ c a d v w, Q (.panic c) (Act.put a d v) w → Q (.panic c) a w := fun c a d v w h => by
      cases d with
      | none => exact h
      | some d => exact hQ c a d v w h
    have ih := fun S a w => held_of_mixR hsel hQ fuel p (listed.setIfInBounds k true) S a w (fun x hx => hl x (by simp [hx])) hB' hR
    have e : ((k, c) :: p).length + fuel = p.length + fuel + 1 := by rw [List.length_cons]; omega
    rw [e]
    simp only [mixOps, List.map_cons, ho, Option.getD_some, mixRW] at h
    cases c with
    | false =>
      simp only [Bool.false_eq_true, if_false, Bool.and_eq_true] at hb h
      by_cases hw : Region.wanted o (yielded l.toArray a.tmps) = true
      · rw [if_pos hw] at h
        obtain ⟨v, hv, h⟩ := h
        exact wpAnyH_take hoa hsel hb.2 hb.1 (fun c a w => hQ' c a _ _ w) (.inl ⟨hw, hv⟩) hS (ih S _ w hS h)
      · rw [if_neg hw] at h
        exact wpAnyH_take hoa hsel hb.2 hb.1 (fun c a w => hQ' c a _ _ w) (.inr ⟨by simpa using hw, rfl⟩) hS (ih S _ w hS h)
    | true =>
      simp only [if_true] at hb h
      refine wpAnyH_all (rs := [k]) (by simpa using hb) (by simp) fun i hi => ?_
      obtain rfl : i = k := by simpa using hi
      unfold wpOp
      rw [hoa]
      simp only
      by_cases hw : Region.wanted o (yielded l.toArray a.tmps) = true
      · rw [if_pos hw] at h ⊢
        have h1 : wpOp P l.toArray Q i (fun a' w' => ∃ S' : World → Prop, (∀ x, S' x → S x) ∧ S' w' ∧ mixRW P l.toArray Q R (mixOps l p) S' a' w') a w := by
          unfold wpOp
          rw [hoa]
          simp only
          rw [if_pos hw]
          exact .inl h
        have h2 := wpOp_mono (K' := fun a' w' => S w' ∧ wpAnyH P md l.toArray Q S (p.length + fuel) (listed.setIfInBounds i true) a' w') (fun a' w' ⟨S', h1, h2, h3⟩ => ⟨h1 _ h2, held_mono h1 _ _ _ _ (ih S' a' w' h2 h3)⟩) h1
        unfold wpOp at h2
        rw [hoa] at h2
        simp only at h2
        rwa [if_pos hw] at h2
      · rw [if_neg hw] at h ⊢
        exact ⟨hS, ih S _ w hS h⟩

theorem wpOp_of_mixR {l : List Oper} {R : (World → Prop) → Act → World → Prop} {i : Nat} {o : Oper} {rest : List (Oper × Bool)} {S : World → Prop} {a : Act} {w : World} (hoa : l.toArray[i]? = some o) (hS : S w)
    (h : mixRW P l.toArray Q R ((o, true) :: rest) S a w) : wpOp P l.toArray Q i (fun a' w' => ∃ S' : World → Prop, (∀ x, S' x → S x) ∧ S' w' ∧ mixRW P l.toArray Q R rest S' a' w') a w := by
  unfold wpOp
  rw [hoa]
  simp only
  unfold mixRW at h
  by_cases hw : Region.wanted o (yielded l.toArray a.tmps) = true
  · rw [if_pos hw] at h ⊢
    rw [if_pos rfl] at h
    exact .inl h
  · rw [if_neg hw] at h ⊢
    exact ⟨S, fun _ h => h, hS, h⟩

theorem wp_region_fork2 {id : Nat} {l : List Oper} {a : Act} {w : World} (p p1 p2 : List (Nat × Bool)) (i j : Nat) (S : World → Prop) (hm : P.follows .mixedOrders = true) (hB : forkAll .any l.toArray l.length p p1 p2 i j = true)
    (hQ : ∀ c a (d : Nat) v w, Q (.panic c) (Act.put a (some d) v) w → Q (.panic c) a w) (hS : S w.drew)
    (h : mixRW P l.toArray Q (fun S a w => mixRW P l.toArray Q (fun _ a w => Q .normal a w) (mixOps l ((i, true) :: p1)) S a w ∧ mixRW P l.toArray Q (fun _ a w => Q .normal a w) (mixOps l ((j, true) :: p2)) S a w) (mixOps l p) S a w.drew) :
    (Code.region id l.toArray true).wp P Q a w := by
  unfold forkAll at hB
  simp only [Bool.and_eq_true, beq_iff_eq, List.all_eq_true, decide_eq_true_eq, List.mem_append] at hB
  obtain ⟨h1, h2, ⟨h3, ⟨h4, h5⟩, h6, h7⟩, ⟨⟨⟨h8, h9⟩, h10⟩, h11⟩, h12⟩ := hB
  refine wp_region_held (S := S) hm ?_
  have hi : l[i]? = some l[i] := List.getElem?_eq_getElem h10
  have hj : l[j]? = some l[j] := List.getElem?_eq_getElem h11
  have go := held_of_mixR (P := P) (md := .any) (R := fun S a w => mixRW P l.toArray Q (fun _ a w => Q .normal a w) (mixOps l ((i, true) :: p1)) S a w ∧ mixRW P l.toArray Q (fun _ a w => Q .normal a w) (mixOps l ((j, true) :: p2)) S a w) h1 hQ (p1.length + 1) p
    (Array.replicate l.length false) S a w.drew (fun x hx => h12 x (.inl (.inl hx))) h2 (fun S a w hS hR => by
      refine wpAnyH_all (rs := [i, j]) h3 (by simp) fun k hk => ?_
      rcases (show k = i ∨ k = j by simpa using hk) with rfl | rfl
      · have hR1 := hR.1
        simp only [mixOps, List.map_cons, hi, Option.getD_some] at hR1
        refine wpOp_mono (fun a' w' ⟨S', g1, g2, g3⟩ => ⟨g1 _ g2, held_mono g1 _ _ _ _ ?_⟩) (wpOp_of_mixR (by simp) hS hR1)
        exact held_of_mixR h1 hQ 0 p1 _ S' a' w' (fun x hx => h12 x (.inl (.inr hx))) h4 (fun S a w _ hq => wpAnyH_done (by simpa using h5) hq 0) g2 g3
      · have hR1 := hR.2
        simp only [mixOps, List.map_cons, hj, Option.getD_some] at hR1
        refine wpOp_mono (fun a' w' ⟨S', g1, g2, g3⟩ => ⟨g1 _ g2, held_mono g1 _ _ _ _ ?_⟩) (wpOp_of_mixR (by simp) hS hR1)
        have := held_of_mixR h1 hQ 0 p2 _ S' a' w' (fun x hx => h12 x (.inr hx)) h6 (fun S a w _ hq => wpAnyH_done (by simpa using h7) hq 0) g2 g3
        rwa [← h9] at this) hS h
  rw [h8] at go
  simpa using go

theorem mixR_pure {R : (World → Prop) → Act → World → Prop} {o : Oper} {rest : List (Oper × Bool)} {S : World → Prop} {a : Act} {w : World} {v : Value} (hw : Region.wanted o (yielded ops a.tmps) = true)
    (hv : ∀ x, S x → (execOp a.eval o).run P x = .ok (.value v) x) (h : mixRW P ops Q R rest S (a.put o.dst v) w) : mixRW P ops Q R ((o, false) :: rest) S a w := by
  unfold mixRW
  rw [if_pos hw, if_neg (by simp)]
  exact ⟨v, hv, h⟩
theorem mixR_skip {R : (World → Prop) → Act → World → Prop} {o : Oper} {c : Bool} {rest : List (Oper × Bool)} {S : World → Prop} {a : Act} {w : World} (hw : Region.wanted o (yielded ops a.tmps) = false)
    (h : mixRW P ops Q R rest S (a.put o.dst undef) w) : mixRW P ops Q R ((o, c) :: rest) S a w := by
  unfold mixRW
  rw [if_neg (by simp [hw])]
  exact h
theorem mixR_call {R : (World → Prop) → Act → World → Prop} {o : Oper} {rest : List (Oper × Bool)} {S : World → Prop} {a : Act} {w : World} (hw : Region.wanted o (yielded ops a.tmps) = true)
    (h : ∀ K : Act → World → Prop, (∀ a' w' (S' : World → Prop), (∀ x, S' x → S x) → S' w' → mixRW P ops Q R rest S' a' w' → K a' w') → o.wp P a w K Q) : mixRW P ops Q R ((o, true) :: rest) S a w := by
  unfold mixRW
  rw [if_pos hw, if_pos rfl]
  exact h _ fun a' w' S' h1 h2 h3 => ⟨S', h1, h2, h3⟩
theorem mixR_nil {R : (World → Prop) → Act → World → Prop} {S : World → Prop} {a : Act} {w : World} (h : R S a w) : mixRW P ops Q R [] S a w := h
end
end Go.Proofs.YtjlkmfijkhjjkaaDoor
namespace Go.Proofs.YtjlkmfijkhjjkaaDoor
set_option maxRecDepth 20000
open Go.RowKit

theorem alike_all {xs ys : List UInt8} {n : Nat} (hx : xs.length = n) (hy : ys.length = n) (h : ∀ i, i < n → xs[i]? = ys[i]?) : xs = ys := by
  apply List.ext_getElem?
  intro i
  rcases Nat.lt_or_ge i n with h1 | h1
  · exact h i h1
  · rw [List.getElem?_eq_none (by omega), List.getElem?_eq_none (by omega)]

def EqRel (xs ys : List UInt8) (w : World) (n : Nat) (i : Value) (wr : World) : Prop :=
  ∃ k : Nat, k ≤ n ∧ i = .int .i64 k ∧ (∀ i, i < k → xs[i]? = ys[i]?) ∧ Below w.heap.size w wr

end Go.Proofs.YtjlkmfijkhjjkaaDoor
namespace Go.Proofs.YtjlkmfijkhjjkaaDoor
set_option maxRecDepth 20000
open Go.RowKit

/-- What a mark lays: k, k + 1, .. as bytes. -/
def marks (k n : Nat) : List UInt8 := (List.range n).map fun i => UInt8.ofNat (k + i)
theorem marks_len (k n : Nat) : (marks k n).length = n := by simp [marks]
theorem marks_at {k n i : Nat} (h : i < n) : (marks k n)[i]? = some (UInt8.ofNat (k + i)) := by simp [marks, h]
theorem byte_num (n : Nat) : ((UInt8.ofNat n).toNat : Int) = (n : Int) % 256 := by
  rw [UInt8.toNat_ofNat']
  omega

theorem laid_set {α : Type} (f : Nat → α) (l : List α) (n i : Nat) (hi : i < n) (hn : l.length = n) : ((List.range i).map f ++ l.drop i).set i (f i) = (List.range (i + 1)).map f ++ l.drop (i + 1) := by
  apply List.ext_getElem?
  intro j
  have h1 : ((List.range i).map f).length = i := by simp
  have h2 : ((List.range (i + 1)).map f).length = i + 1 := by simp
  rw [List.getElem?_set]
  by_cases hj : i = j
  · subst hj
    rw [if_pos rfl, if_pos (by simp; omega), List.getElem?_append_left (by omega)]
    simp
  · rw [if_neg hj]
    rcases Nat.lt_or_ge j i with h3 | h3
    · rw [List.getElem?_append_left (by omega), List.getElem?_append_left (by omega)]
      simp [h3, show j < i + 1 by omega]
    · rw [List.getElem?_append_right (by omega), List.getElem?_append_right (by omega), h1, h2, List.getElem?_drop, List.getElem?_drop]
      congr 1
      omega

/-- Elements of a row laid over, one by one: 'f i' at place i; each bears 'per' numbers. -/
def MarkRel {α : Type} (E : Enc α) (f : Nat → α) (per : Nat) (w : World) (base : Nat) (A : Option Addr) (n c : Nat) (l : List α) (k : Nat) (vk i : Value) (wr : World) : Prop :=
  ∃ j : Nat, j ≤ n ∧ i = .int .i64 j ∧ vk = .int .i64 ((k : Int) + per * j) ∧ Ow E wr base A n c ((List.range j).map f ++ l.drop j) ∧ w.grownBy wr (A.map (·.block))
theorem markRel_start {α : Type} {E : Enc α} (f : Nat → α) (per : Nat) {w : World} {base : Nat} {A : Option Addr} {n c : Nat} {l : List α} (k : Nat) (h : Ow E w base A n c l) : MarkRel E f per w base A n c l k (.int .i64 k) (.int .i64 0) w :=
  ⟨0, Nat.zero_le _, rfl, by simp, by simpa using h, World.grownBy.refl _ _⟩
theorem markRel_at {α : Type} (f : Nat → α) (l : List α) (n j : Nat) (hj : j < n) (hn : l.length = n) : ∃ a, ((List.range j).map f ++ l.drop j)[j]? = some a := by
  refine ⟨l[j], ?_⟩
  rw [List.getElem?_append_right (by simp)]
  simp [show j < l.length by omega]
theorem markRel_end {α : Type} {E : Enc α} {f : Nat → α} {wr : World} {base : Nat} {A : Option Addr} {n c j : Nat} {l : List α} (h : Ow E wr base A n c ((List.range j).map f ++ l.drop j)) (hj : j = n) (hn : l.length = n) :
    Ow E wr base A n c ((List.range n).map f) := by
  subst hj
  rw [List.drop_of_length_le (by omega), List.append_nil] at h
  exact h

def HeldRel (w : World) (n : Nat) (per k : Nat) (vk i : Value) (wr : World) : Prop :=
  ∃ j : Nat, j ≤ n ∧ i = .int .i64 j ∧ vk = .int .i64 ((k : Int) + per * j) ∧ Below w.heap.size w wr
theorem heldRel_start (w : World) (n per k : Nat) : HeldRel w n per k (.int .i64 k) (.int .i64 0) w := ⟨0, Nat.zero_le _, rfl, by simp, Below.refl _ _⟩

end Go.Proofs.YtjlkmfijkhjjkaaDoor
namespace Go.Proofs.YtjlkmfijkhjjkaaDoor
set_option maxRecDepth 20000
open Go.RowKit

/-- An answer of a code and bytes of the call's own. -/
def RetBR (r : Int × List UInt8) (w : World) (e : Ending) (w' : World) : Prop :=
  ∃ A n c, e = .returned (.agg #[.int .i64 r.1, .slice A n c]) ∧ Ow eB w' w.heap.size A n c r.2 ∧ Below w.heap.size w w'

end Go.Proofs.YtjlkmfijkhjjkaaDoor
namespace Go.Proofs.YtjlkmfijkhjjkaaDoor
set_option maxRecDepth 20000
open Go.RowKit

theorem set_next {α : Type} (z : α) (xs : List α) (n k : Nat) (x : α) (hk : k < n) (hn : xs.length = n) (hx : xs[k]? = some x) :
    (xs.take k ++ List.replicate (n - k) z).set k x = xs.take (k + 1) ++ List.replicate (n - (k + 1)) z := by
  apply List.ext_getElem?
  intro i
  have hl : (xs.take k).length = k := by rw [List.length_take]; omega
  have hl' : (xs.take (k + 1)).length = k + 1 := by rw [List.length_take]; omega
  rw [List.getElem?_set]
  by_cases h1 : k = i
  · subst h1
    rw [if_pos rfl, if_pos (by simp; omega), List.getElem?_append_left (by omega), List.getElem?_take, if_pos (by omega), hx]
  · rw [if_neg h1]
    rcases Nat.lt_or_ge i k with h2 | h2
    · rw [List.getElem?_append_left (by omega), List.getElem?_append_left (by omega), List.getElem?_take, List.getElem?_take, if_pos (by omega), if_pos (by omega)]
    · rw [List.getElem?_append_right (by omega), List.getElem?_append_right (by omega), hl, hl', List.getElem?_replicate, List.getElem?_replicate]
      by_cases h3 : i < n
      · rw [if_pos (by omega), if_pos (by omega)]
      · rw [if_neg (by omega), if_neg (by omega)]
theorem part_at {α : Type} (z : α) (xs : List α) (n k : Nat) (hk : k < n) (hn : xs.length = n) : (xs.take k ++ List.replicate (n - k) z)[k]? = some z := by
  rw [List.getElem?_append_right (by simp; omega), List.length_take, hn, Nat.min_eq_left (by omega), Nat.sub_self, List.getElem?_replicate, if_pos (by omega)]

/-- Elements laid one by one into a row that was made: the first k are there. -/
def ToRel {α : Type} (E : Enc α) (z : α) (w : World) (g : Nat) (xs : List α) (n : Nat) (i : Value) (wr : World) : Prop :=
  ∃ k : Nat, k ≤ n ∧ i = .int .i64 k ∧ Ow E wr w.heap.size (some ⟨g, 0, none⟩) n n (xs.take k ++ List.replicate (n - k) z) ∧ Below w.heap.size w wr
theorem toRel_start {α : Type} {E : Enc α} (z : α) {w w1 : World} (xs : List α) {n : Nat} (h : Ow E w1 w.heap.size (some ⟨w.heap.size, 0, none⟩) n n (List.replicate n z)) (hg : w.grownBy w1 none) :
    ToRel E z w w.heap.size xs n (.int .i64 0) w1 :=
  ⟨0, Nat.zero_le _, rfl, by rw [List.take_zero, List.nil_append, Nat.sub_zero]; exact h, (Below.refl _ _).grown hg (Nat.le_refl _) (by simp)⟩
theorem toRel_end {α : Type} {E : Enc α} {z : α} {wr : World} {g base : Nat} {xs : List α} {n k : Nat} (h : Ow E wr base (some ⟨g, 0, none⟩) n n (xs.take k ++ List.replicate (n - k) z)) (hk : k = n) (hx : xs.length = n) :
    Ow E wr base (some ⟨g, 0, none⟩) n n xs := by
  subst hk
  rw [Nat.sub_self, List.replicate_zero, List.append_nil, List.take_of_length_le (by omega)] at h
  exact h

end Go.Proofs.YtjlkmfijkhjjkaaDoor
namespace Go.Proofs.YtjlkmfijkhjjkaaDoor
set_option maxRecDepth 20000
open Go.RowKit

/-- The first s bytes of a number, the lowest one first. -/
def packL (m s : Nat) : List UInt8 := (List.range s).map fun i => UInt8.ofNat (m / 256 ^ i)
theorem packL_len (m s : Nat) : (packL m s).length = s := by simp [packL]
theorem packL_succ (m s : Nat) : packL m (s + 1) = packL m s ++ [UInt8.ofNat (m / 256 ^ s)] := by simp [packL, List.range_succ]
theorem div_next (m k q : Nat) (h : q = m / 256 ^ k) : q / 256 = m / 256 ^ (k + 1) := by
  rw [h, Nat.div_div_eq_div_mul, Nat.pow_succ]

def PackRel (w : World) (m s : Nat) (vn vs out : Value) (wr : World) : Prop :=
  ∃ (k q : Nat) (A : Option Addr) (c : Nat), k ≤ s ∧ vn = .int .i64 q ∧ q = m / 256 ^ k ∧ vs = .int .i64 ((s : Int) - k) ∧ out = .slice A k c ∧ Ow eB wr w.heap.size A k c (packL m k) ∧ Below w.heap.size w wr

/-- What PackWord answers: the code and the bytes. -/
def packM (n size : Int) : Int × List UInt8 :=
  if 1 ≤ size ∧ size ≤ 4 ∧ 0 ≤ n ∧ n < 256 ^ size.toNat then (0, packL n.toNat size.toNat) else (3, [])

def LeftRel (w : World) (m s : Nat) (vq vi : Value) (wr : World) : Prop :=
  ∃ k q : Nat, k ≤ s ∧ vi = .int .i64 k ∧ vq = .int .i64 q ∧ q = m / 256 ^ k ∧ Below w.heap.size w wr

theorem packM_bad {n size : Int} (h : ¬ (1 ≤ size ∧ size ≤ 4 ∧ 0 ≤ n ∧ n < 256 ^ size.toNat)) : packM n size = (3, []) := if_neg h
theorem packM_nat {m s : Nat} (h1 : 1 ≤ s) (h4 : s ≤ 4) (hm : m < 256 ^ s) : packM m s = (0, packL m s) := by
  have h : (m : Int) < 256 ^ (s : Int).toNat := by
    rw [Int.toNat_natCast]
    have h := Int.ofNat_lt.2 hm
    rw [Int.natCast_pow] at h
    exact h
  unfold packM
  rw [if_pos ⟨by omega, by omega, by omega, h⟩, Int.toNat_natCast, Int.toNat_natCast]

theorem div_zero_iff (m s : Nat) : m / 256 ^ s = 0 ↔ m < 256 ^ s := by
  rw [Nat.div_eq_zero_iff]
  have : 0 < 256 ^ s := Nat.pow_pos (by omega)
  omega

/-! ### impl.PackWord -/
theorem packL_at {m s k : Nat} (h : k < s) : (packL m s)[k]? = some (UInt8.ofNat (m / 256 ^ k)) := by simp [packL, h]
theorem shr_byte (m j : Nat) : (m : Int) / 2 ^ (8 * j) % 256 = ((UInt8.ofNat (m / 256 ^ j)).toNat : Int) := by
  rw [byte_num, Int.natCast_ediv, Int.natCast_pow]
  have h : (2 : Int) ^ (8 * j) = ((256 : Nat) : Int) ^ j := by rw [Int.pow_mul]; rfl
  rw [h]
def ImplRel (w : World) (m s g t : Nat) (vi : Value) (wr : World) : Prop :=
  At wr w.heap.size t #[.int .i64 0, .slice none 0 0] ∧ ToRel eB 0 w g (packL m s) s vi wr

end Go.Proofs.YtjlkmfijkhjjkaaDoor
/-
  A sample's bytes: the model's.
-/
namespace Go.Proofs.YtjlkmfijkhjjkaaDoor
set_option maxRecDepth 20000
open Go.RowKit

/-- The bytes of four numbers, the last one above its low bound. -/
def encL (n0 n1 n2 n3 : Nat) : List UInt8 := [UInt8.ofNat n0] ++ packL n1 2 ++ packL n2 2 ++ packL n3 2
theorem pack1 (n : Nat) : packL n 1 = [UInt8.ofNat n] := by simp [packL]
theorem pack2 (n : Nat) : packL n 2 = [UInt8.ofNat n, UInt8.ofNat (n / 256)] := by simp [packL, List.range_succ]
theorem encL_eq (n0 n1 n2 n3 : Nat) : encL n0 n1 n2 n3 = [UInt8.ofNat n0, UInt8.ofNat n1, UInt8.ofNat (n1 / 256), UInt8.ofNat n2, UInt8.ofNat (n2 / 256), UInt8.ofNat n3, UInt8.ofNat (n3 / 256)] := by
  simp [encL, pack2]

theorem byte_small1 {n : Nat} (h : n < 256) : ((UInt8.ofNat n).toNat : Int) = (n : Int) := by
  rw [UInt8.toNat_ofNat']
  omega
theorem ow_byte (w : World) (b : UInt8) (v : Int) (hv : v = (b.toNat : Int)) : Ow eB ((w.alloc (.cells #[.int .u8 v] 5)).drew) w.heap.size (some ⟨w.heap.size, 0, none⟩) 1 1 [b] :=
  Ow.lit w [b] _ 1 (Nat.le_refl _) (by unfold maxLen; omega) (by simp [Enc.row, eB, hv]) rfl

/-- append as one step of a region: as 'wpList_append_ow'. -/
theorem wp_append_ow {P : Program} {α : Type} {E : Enc α} (hE : EncOk E) (w : World) {o : Oper} {a : Act} {K : Act → World → Prop} {Q : Exit → Act → World → Prop} (s x : Operand) (t : TypeId)
    (ho : o.op = .call { callee := .builtin .append, args := #[s, x], argTypes := #[t, t] })
    (base : Nat) {z : Value} {bytes : Nat} (hinfo : (P.info? E.tid).map (fun i => (i.zero, i.size, i.bytes)) = some (some z, E.size, bytes)) (ht : P.underlying t = some (.slice E.tid)) (hzs : z.cells.size = E.size)
    (A : Option Addr) (n c : Nat) (l : List α) (hs : a.eval s = .slice A n c) (hown : Ow E w base A n c l)
    (X : Option Addr) (m d hi' : Nat) (news : List α) (hx : a.eval x = .slice X m d) (hX : Rd E w hi' X news) (hm : news.length = m)
    (h63 : n + m ≤ maxLen) (hbytes : (n + m) * bytes ≤ 140737488355328) (hbase : base ≤ w.heap.size)
    (h : ∀ A' c' w', Ow E w' base A' (n + m) c' (l ++ news) → w.grownBy w' (A.map (·.block)) → (A'.map (·.block) = A.map (·.block) ∨ A'.map (·.block) = some w.heap.size) → K (a.put o.dst (.slice A' (n + m) c')) w') : o.wp P a w K Q := by
  obtain ⟨i, hi, hz, hsz, hby⟩ := info_parts hinfo
  obtain ⟨A', c', w', hrun, h2, h3, h4⟩ := run_append_ow (P := P) hE w base t o.type i z bytes ht hi hz hsz hby hzs A n c l hown X m d hi' news hX hm h63 hbytes hbase
  unfold Oper.wp execOp
  simp only [ho, resolve, invoke, builtin, Sem.run_bind, Sem.run_pure, Result.andThen_ok, List.map_toArray, List.map_cons, List.map_nil, hs, hx, hrun]
  exact h A' c' w' h2 h3 h4

/-- A sample's answer of code and bytes. -/
def encodeM (x : Smp) : Int × List UInt8 := if faultM x = 0 then (0, encL x.1.toNat x.2.1.toNat x.2.2.1.toNat (x.2.2.2 + 1000).toNat) else (3, [])
theorem faultM_in {a0 a1 a2 a3 : Int} (h : faultM (a0, a1, a2, a3) = 0) : (0 ≤ a0 ∧ a0 ≤ 9) ∧ (0 ≤ a1 ∧ a1 ≤ 999) ∧ (0 ≤ a2 ∧ a2 ≤ 9999) ∧ -1000 ≤ a3 ∧ a3 ≤ 1000 := by
  unfold faultM at h
  split at h
  · rename_i hh
    simpa [bndsM, inB] using hh
  · cases h
/-- No fault: the numbers. -/
theorem faultM_nat {a0 a1 a2 a3 : Int} (h : faultM (a0, a1, a2, a3) = 0) : ∃ n0 n1 n2 n3 : Nat, a0 = n0 ∧ a1 = n1 ∧ a2 = n2 ∧ a3 = (n3 : Int) - 1000 ∧ n0 ≤ 9 ∧ n1 ≤ 999 ∧ n2 ≤ 9999 ∧ n3 ≤ 2000 := by
  obtain ⟨h0, h1, h2, h3⟩ := faultM_in h
  exact ⟨a0.toNat, a1.toNat, a2.toNat, (a3 + 1000).toNat, by omega, by omega, by omega, by omega, by omega, by omega, by omega, by omega⟩
theorem encodeM_nat {n0 n1 n2 n3 : Nat} (h : faultM ((n0 : Int), (n1 : Int), (n2 : Int), (n3 : Int) - 1000) = 0) : encodeM ((n0 : Int), (n1 : Int), (n2 : Int), (n3 : Int) - 1000) = (0, encL n0 n1 n2 n3) := by
  unfold encodeM
  rw [if_pos h]
  simp only [Int.toNat_natCast, Int.sub_add_cancel]
theorem encodeM_len (x : Smp) : (encodeM x).2.length ≤ 7 := by
  unfold encodeM
  split
  · rw [encL_eq]
    simp
  · simp
theorem encodeM_no {x : Smp} (h : faultM x = 3) : encodeM x = (3, []) := by
  unfold encodeM
  rw [h]
  rfl

end Go.Proofs.YtjlkmfijkhjjkaaDoor
/-
  Samples that are drawn, and bytes of samples.
-/
namespace Go.Proofs.YtjlkmfijkhjjkaaDoor
set_option maxRecDepth 20000
open Go.RowKit
set_option linter.unusedSimpArgs false

theorem At.newAt {w : World} {g : Nat} {t : TypeId} {cs : Array Value} (h : w.heap.size = g) : At (w.alloc (.cells cs t)) g t cs := by
  subst h
  exact At.new w t cs
theorem pick_val {xs : List Int} {v : Int} (h : v ∈ xs) (ha : (xs.all fun x => decide (-1000 ≤ x ∧ x ≤ 1000)) = true) : ∃ q : Nat, v = (q : Int) - 1000 ∧ q ≤ 2000 := by
  have := List.all_eq_true.1 ha v h
  simp only [decide_eq_true_eq] at this
  exact ⟨(v + 1000).toNat, by omega, by omega⟩
theorem Within.put {a w : World} {lo hi : Nat} (h : Within lo hi w a) {p : Addr} (hp : w.heap.size ≤ p.block) (u : Value) : Within lo hi w (a.setCell p u) :=
  h.push (grown_setCell a p u) (fun g hg => by obtain rfl := Option.some.inj hg; exact hp)
theorem Src.put {w : World} {base g n c k : Nat} {A : Option Addr} {l : List UInt8} (h : Src w base g A n c k l) {p : Addr} (hp : g < p.block) (u : Value) : Src (w.setCell p u) base g A n c k l :=
  h.grown (grown_setCell w p u) (fun x hx => by obtain rfl := Option.some.inj hx; exact hp)

set_option maxHeartbeats 1000000 in
theorem l2Draw (w : World) (base g : Nat) (A : Option Addr) (m c k : Nat) (l : List UInt8) (h : Src w base g A m c k l) (hk : k < 1000000000) :
    Calls Tryd.prog 66 #[.pointer (some ⟨g, 0, none⟩)] w fun e w' => ∃ n0 n1 n2 n3 : Nat, e = .returned (.agg #[.int .i64 n0, .int .i64 n1, .int .i64 n2, .int .i64 ((n3 : Int) - 1000)]) ∧ n0 ≤ 9 ∧ n1 ≤ 999 ∧ n2 ≤ 9999 ∧ n3 ≤ 2000 ∧ Src w' base g A m c (k + 4) l ∧ Within g (g + 1) w w' := by
  have g0 := h.at_.lt
  have s0 := h.alloc (.cells #[.int .i64 0, .int .i64 0, .int .i64 0, .int .i64 0] 26)
  have WI0 := (Within.refl g (g + 1) w).alloc (.cells #[.int .i64 0, .int .i64 0, .int .i64 0, .int .i64 0] 26)
  have r0 := At.new w 26 #[.int .i64 0, .int .i64 0, .int .i64 0, .int .i64 0]
  go_enter Tryd.func66, Tryd.ntmps66
  go_wp2_with fail
  refine (l1Pick ((w.alloc (.cells #[.int .i64 0, .int .i64 0, .int .i64 0, .int .i64 0] 26)).alloc (.cells #[.int .i64 0, .int .i64 1, .int .i64 2, .int .i64 9] 2)) _ _ A m c k l (w.heap.size + 1) #[.int .i64 0, .int .i64 1, .int .i64 2, .int .i64 9] [0, 1, 2, 9] 4 4 (s0.alloc _) (by omega) (At.newAt (by first | rfl | simp)) (by simp [intCells]) (by omega) rfl (by omega) (by omega)).mono ?_
  rintro e w1 ⟨v1, hv1, rfl, s1, hw1, -⟩
  have g1 := s1.at_.lt
  have WI1 := (WI0.alloc (.cells #[.int .i64 0, .int .i64 1, .int .i64 2, .int .i64 9] 2)).trans hw1
  have z1 := WI1.size
  have r1 := (r0.alloc (.cells #[.int .i64 0, .int .i64 1, .int .i64 2, .int .i64 9] 2)).within hw1 (by omega)
  obtain ⟨q1, rfl, hq1⟩ := pick_nat 9 hv1 rfl
  clear hv1
  go_wp2_with fail
  refine (l1Pick (w1.alloc (.cells #[.int .i64 0, .int .i64 5, .int .i64 7, .int .i64 999, .int .i64 6] 2)) _ _ A m c (k + 1) l w1.heap.size #[.int .i64 0, .int .i64 5, .int .i64 7, .int .i64 999, .int .i64 6] [0, 5, 7, 999, 6] 5 5 (s1.alloc _) (by omega) (At.newAt (by first | rfl | simp)) (by simp [intCells]) (by omega) rfl (by omega) (by omega)).mono ?_
  rintro e w2 ⟨v2, hv2, rfl, s2, hw2, -⟩
  have g2 := s2.at_.lt
  have WI2 := (WI1.alloc (.cells #[.int .i64 0, .int .i64 5, .int .i64 7, .int .i64 999, .int .i64 6] 2)).trans hw2
  have z2 := WI2.size
  have r2 := (r1.alloc (.cells #[.int .i64 0, .int .i64 5, .int .i64 7, .int .i64 999, .int .i64 6] 2)).within hw2 (by omega)
  obtain ⟨q2, rfl, hq2⟩ := pick_nat 999 hv2 rfl
  clear hv2
  go_wp2_with fail
  refine (l1Pick (w2.alloc (.cells #[.int .i64 0, .int .i64 1, .int .i64 2, .int .i64 3, .int .i64 9999] 2)) _ _ A m c (k + 1 + 1) l w2.heap.size #[.int .i64 0, .int .i64 1, .int .i64 2, .int .i64 3, .int .i64 9999] [0, 1, 2, 3, 9999] 5 5 (s2.alloc _) (by omega) (At.newAt (by first | rfl | simp)) (by simp [intCells]) (by omega) rfl (by omega) (by omega)).mono ?_
  rintro e w3 ⟨v3, hv3, rfl, s3, hw3, -⟩
  have g3 := s3.at_.lt
  have WI3 := (WI2.alloc (.cells #[.int .i64 0, .int .i64 1, .int .i64 2, .int .i64 3, .int .i64 9999] 2)).trans hw3
  have z3 := WI3.size
  have r3 := (r2.alloc (.cells #[.int .i64 0, .int .i64 1, .int .i64 2, .int .i64 3, .int .i64 9999] 2)).within hw3 (by omega)
  obtain ⟨q3, rfl, hq3⟩ := pick_nat 9999 hv3 rfl
  clear hv3
  go_wp2_with fail
  refine (l1Pick (w3.alloc (.cells #[.int .i64 0, .int .i64 5, .int .i64 (-5), .int .i64 1000, .int .i64 (-1000)] 2)) _ _ A m c (k + 1 + 1 + 1) l w3.heap.size #[.int .i64 0, .int .i64 5, .int .i64 (-5), .int .i64 1000, .int .i64 (-1000)] [0, 5, (-5), 1000, (-1000)] 5 5 (s3.alloc _) (by omega) (At.newAt (by first | rfl | simp)) (by simp [intCells]) (by omega) rfl (by omega) (by omega)).mono ?_
  rintro e w4 ⟨v4, hv4, rfl, s4, hw4, -⟩
  have g4 := s4.at_.lt
  have WI4 := (WI3.alloc (.cells #[.int .i64 0, .int .i64 5, .int .i64 (-5), .int .i64 1000, .int .i64 (-1000)] 2)).trans hw4
  have z4 := WI4.size
  have r4 := (r3.alloc (.cells #[.int .i64 0, .int .i64 5, .int .i64 (-5), .int .i64 1000, .int .i64 (-1000)] 2)).within hw4 (by omega)
  obtain ⟨q4, rfl, hq4⟩ := pick_val hv4 rfl
  clear hv4
  obtain ⟨c0, c1, c2, c3, f0, f1, f2, f3⟩ := r4.four
  go_wp2_with fail
  refine bodyPost_ret (v := .agg #[.int .i64 q1, .int .i64 q2, .int .i64 q3, .int .i64 ((q4 : Int) - 1000)]) (by simp [results, Tryd.results66, go_sem, c0, c1, c2, c3]) rfl ?_
  exact ⟨q1, q2, q3, q4, rfl, hq1, hq2, hq3, hq4, (((s4.put (p := ⟨w.heap.size, 0, none⟩) g0 _).put (p := ⟨w.heap.size, 1, none⟩) g0 _).put (p := ⟨w.heap.size, 2, none⟩) g0 _).put (p := ⟨w.heap.size, 3, none⟩) g0 _, (((WI4.put (p := ⟨w.heap.size, 0, none⟩) (Nat.le_refl _) _).put (p := ⟨w.heap.size, 1, none⟩) (Nat.le_refl _) _).put (p := ⟨w.heap.size, 2, none⟩) (Nat.le_refl _) _).put (p := ⟨w.heap.size, 3, none⟩) (Nat.le_refl _) _⟩

set_option maxHeartbeats 2000000 in
theorem l2Bent (w : World) (base g : Nat) (A : Option Addr) (m c k : Nat) (l : List UInt8) (h : Src w base g A m c k l) (hk : k < 900000000) :
    Calls Tryd.prog 41 #[.pointer (some ⟨g, 0, none⟩)] w fun e w' => ∃ a0 a1 a2 a3 : Int, e = .returned (.agg #[.int .i64 a0, .int .i64 a1, .int .i64 a2, .int .i64 a3]) ∧ (∃ k' : Nat, k' ≤ k + 6 ∧ Src w' base g A m c k' l) ∧ Within g (g + 1) w w' := by
  have g0 := h.at_.lt
  have s0 := h.alloc (.cells #[.int .i64 0, .int .i64 0, .int .i64 0, .int .i64 0] 26)
  have WI0 := (Within.refl g (g + 1) w).alloc (.cells #[.int .i64 0, .int .i64 0, .int .i64 0, .int .i64 0] 26)
  have r0 := At.new w 26 #[.int .i64 0, .int .i64 0, .int .i64 0, .int .i64 0]
  go_enter Tryd.func41, Tryd.ntmps41
  go_wp2_with fail
  refine (l2Draw _ base g A m c k l s0 (by omega)).mono ?_
  rintro e w1 ⟨n0, n1, n2, n3, rfl, -, -, -, -, s1, hw1⟩
  have WI1 := WI0.trans hw1
  have z1 := WI1.size
  have r1 := r0.within hw1 (by omega)
  have l1 := r1.lt
  have x1 := At.new w1 26 #[.int .i64 n0, .int .i64 n1, .int .i64 n2, .int .i64 ((n3 : Int) - 1000)]
  have s1' := s1.alloc (.cells #[.int .i64 n0, .int .i64 n1, .int .i64 n2, .int .i64 ((n3 : Int) - 1000)] 26)
  have r1' := r1.alloc (.cells #[.int .i64 n0, .int .i64 n1, .int .i64 n2, .int .i64 ((n3 : Int) - 1000)] 26)
  have WI1' := WI1.alloc (.cells #[.int .i64 n0, .int .i64 n1, .int .i64 n2, .int .i64 ((n3 : Int) - 1000)] 26)
  go_wp2_with fail
  refine (l1Next _ base g A m c (k + 4) l 12 s1' (by omega) (by omega)).mono ?_
  rintro e w2 ⟨r, rfl, hr, -, s2, hw2, -⟩
  obtain ⟨hr0, hr1⟩ := hr (by omega)
  have WI2 := WI1'.trans hw2
  have r2 := r1'.within hw2 (by omega)
  have x2 := x1.within hw2 (by have := s1.at_.lt; omega)
  have gx : g < w1.heap.size := s1.at_.lt
  have lx := x2.lt
  have z2 := WI2.size
  generalize ((n3 : Int) - 1000) = y3 at *
  generalize (n0 : Int) = y0 at *
  generalize (n1 : Int) = y1 at *
  generalize (n2 : Int) = y2 at *
  clear hr x1 r1 r1' s1' WI1' WI1 s1 hw1 hw2 WI0 s0 r0
  have hne : ¬ w.heap.size = w1.heap.size := by omega
  obtain ⟨c0, c1, c2, c3, f0, f1, f2, f3⟩ := r2.four
  obtain ⟨d0, d1, d2, d3, e0, e1, e2, e3⟩ := x2.four
  rcases (show r = 0 ∨ r = 1 ∨ r = 2 ∨ r = 3 ∨ 4 ≤ r by omega) with rfl | rfl | rfl | rfl | hr4
  · go_wp2_with fail
    refine (l1Pick (w2.alloc (.cells #[.int .i64 (-1), .int .i64 10] 2)) _ _ A m c (k + 4 + 1) l w2.heap.size #[.int .i64 (-1), .int .i64 10] [(-1), 10] 2 2 (s2.alloc _) (by omega) (At.newAt (by first | rfl | simp)) (by simp [intCells]) (by omega) rfl (by omega) (by omega)).mono ?_
    rintro e w3 ⟨v3, hv3, rfl, s3, hw3, -⟩
    have g3 := s3.at_.lt
    have WI3 := (WI2.alloc (.cells #[.int .i64 (-1), .int .i64 10] 2)).trans hw3
    have z3 := WI3.size
    have r3 := (r2.alloc (.cells #[.int .i64 (-1), .int .i64 10] 2)).within hw3 (by omega)
    have x3 := (x2.alloc (.cells #[.int .i64 (-1), .int .i64 10] 2)).within hw3 (by omega)
    clear c0 c1 c2 c3 f0 f1 f2 f3 d0 d1 d2 d3 e0 e1 e2 e3
    obtain ⟨c0, c1, c2, c3, f0, f1, f2, f3⟩ := r3.four
    obtain ⟨d0, d1, d2, d3, e0, e1, e2, e3⟩ := x3.four
    go_wp2_with fail
    refine bodyPost_ret (v := .agg #[.int .i64 v3, .int .i64 y1, .int .i64 y2, .int .i64 y3]) (by simp [results, Tryd.results41, go_sem, c0, c1, c2, c3]) rfl ?_
    exact ⟨_, _, _, _, rfl, ⟨k + 4 + 1 + 1, by omega, ((((s3.put (p := ⟨w1.heap.size, 0, none⟩) gx _).put (p := ⟨w.heap.size, 0, none⟩) g0 _).put (p := ⟨w.heap.size, 1, none⟩) g0 _).put (p := ⟨w.heap.size, 2, none⟩) g0 _).put (p := ⟨w.heap.size, 3, none⟩) g0 _⟩, ((((WI3.put (p := ⟨w1.heap.size, 0, none⟩) (by show w.heap.size ≤ w1.heap.size; omega) _).put (p := ⟨w.heap.size, 0, none⟩) (Nat.le_refl _) _).put (p := ⟨w.heap.size, 1, none⟩) (Nat.le_refl _) _).put (p := ⟨w.heap.size, 2, none⟩) (Nat.le_refl _) _).put (p := ⟨w.heap.size, 3, none⟩) (Nat.le_refl _) _⟩
  · go_wp2_with fail
    refine (l1Pick (w2.alloc (.cells #[.int .i64 (-1), .int .i64 1000] 2)) _ _ A m c (k + 4 + 1) l w2.heap.size #[.int .i64 (-1), .int .i64 1000] [(-1), 1000] 2 2 (s2.alloc _) (by omega) (At.newAt (by first | rfl | simp)) (by simp [intCells]) (by omega) rfl (by omega) (by omega)).mono ?_
    rintro e w3 ⟨v3, hv3, rfl, s3, hw3, -⟩
    have g3 := s3.at_.lt
    have WI3 := (WI2.alloc (.cells #[.int .i64 (-1), .int .i64 1000] 2)).trans hw3
    have z3 := WI3.size
    have r3 := (r2.alloc (.cells #[.int .i64 (-1), .int .i64 1000] 2)).within hw3 (by omega)
    have x3 := (x2.alloc (.cells #[.int .i64 (-1), .int .i64 1000] 2)).within hw3 (by omega)
    clear c0 c1 c2 c3 f0 f1 f2 f3 d0 d1 d2 d3 e0 e1 e2 e3
    obtain ⟨c0, c1, c2, c3, f0, f1, f2, f3⟩ := r3.four
    obtain ⟨d0, d1, d2, d3, e0, e1, e2, e3⟩ := x3.four
    go_wp2_with fail
    refine bodyPost_ret (v := .agg #[.int .i64 y0, .int .i64 v3, .int .i64 y2, .int .i64 y3]) (by simp [results, Tryd.results41, go_sem, c0, c1, c2, c3]) rfl ?_
    exact ⟨_, _, _, _, rfl, ⟨k + 4 + 1 + 1, by omega, ((((s3.put (p := ⟨w1.heap.size, 1, none⟩) gx _).put (p := ⟨w.heap.size, 0, none⟩) g0 _).put (p := ⟨w.heap.size, 1, none⟩) g0 _).put (p := ⟨w.heap.size, 2, none⟩) g0 _).put (p := ⟨w.heap.size, 3, none⟩) g0 _⟩, ((((WI3.put (p := ⟨w1.heap.size, 1, none⟩) (by show w.heap.size ≤ w1.heap.size; omega) _).put (p := ⟨w.heap.size, 0, none⟩) (Nat.le_refl _) _).put (p := ⟨w.heap.size, 1, none⟩) (Nat.le_refl _) _).put (p := ⟨w.heap.size, 2, none⟩) (Nat.le_refl _) _).put (p := ⟨w.heap.size, 3, none⟩) (Nat.le_refl _) _⟩
  · go_wp2_with fail
    refine (l1Pick (w2.alloc (.cells #[.int .i64 (-1), .int .i64 10000] 2)) _ _ A m c (k + 4 + 1) l w2.heap.size #[.int .i64 (-1), .int .i64 10000] [(-1), 10000] 2 2 (s2.alloc _) (by omega) (At.newAt (by first | rfl | simp)) (by simp [intCells]) (by omega) rfl (by omega) (by omega)).mono ?_
    rintro e w3 ⟨v3, hv3, rfl, s3, hw3, -⟩
    have g3 := s3.at_.lt
    have WI3 := (WI2.alloc (.cells #[.int .i64 (-1), .int .i64 10000] 2)).trans hw3
    have z3 := WI3.size
    have r3 := (r2.alloc (.cells #[.int .i64 (-1), .int .i64 10000] 2)).within hw3 (by omega)
    have x3 := (x2.alloc (.cells #[.int .i64 (-1), .int .i64 10000] 2)).within hw3 (by omega)
    clear c0 c1 c2 c3 f0 f1 f2 f3 d0 d1 d2 d3 e0 e1 e2 e3
    obtain ⟨c0, c1, c2, c3, f0, f1, f2, f3⟩ := r3.four
    obtain ⟨d0, d1, d2, d3, e0, e1, e2, e3⟩ := x3.four
    go_wp2_with fail
    refine bodyPost_ret (v := .agg #[.int .i64 y0, .int .i64 y1, .int .i64 v3, .int .i64 y3]) (by simp [results, Tryd.results41, go_sem, c0, c1, c2, c3]) rfl ?_
    exact ⟨_, _, _, _, rfl, ⟨k + 4 + 1 + 1, by omega, ((((s3.put (p := ⟨w1.heap.size, 2, none⟩) gx _).put (p := ⟨w.heap.size, 0, none⟩) g0 _).put (p := ⟨w.heap.size, 1, none⟩) g0 _).put (p := ⟨w.heap.size, 2, none⟩) g0 _).put (p := ⟨w.heap.size, 3, none⟩) g0 _⟩, ((((WI3.put (p := ⟨w1.heap.size, 2, none⟩) (by show w.heap.size ≤ w1.heap.size; omega) _).put (p := ⟨w.heap.size, 0, none⟩) (Nat.le_refl _) _).put (p := ⟨w.heap.size, 1, none⟩) (Nat.le_refl _) _).put (p := ⟨w.heap.size, 2, none⟩) (Nat.le_refl _) _).put (p := ⟨w.heap.size, 3, none⟩) (Nat.le_refl _) _⟩
  · go_wp2_with fail
    refine (l1Pick (w2.alloc (.cells #[.int .i64 (-1001), .int .i64 1001] 2)) _ _ A m c (k + 4 + 1) l w2.heap.size #[.int .i64 (-1001), .int .i64 1001] [(-1001), 1001] 2 2 (s2.alloc _) (by omega) (At.newAt (by first | rfl | simp)) (by simp [intCells]) (by omega) rfl (by omega) (by omega)).mono ?_
    rintro e w3 ⟨v3, hv3, rfl, s3, hw3, -⟩
    have g3 := s3.at_.lt
    have WI3 := (WI2.alloc (.cells #[.int .i64 (-1001), .int .i64 1001] 2)).trans hw3
    have z3 := WI3.size
    have r3 := (r2.alloc (.cells #[.int .i64 (-1001), .int .i64 1001] 2)).within hw3 (by omega)
    have x3 := (x2.alloc (.cells #[.int .i64 (-1001), .int .i64 1001] 2)).within hw3 (by omega)
    clear c0 c1 c2 c3 f0 f1 f2 f3 d0 d1 d2 d3 e0 e1 e2 e3
    obtain ⟨c0, c1, c2, c3, f0, f1, f2, f3⟩ := r3.four
    obtain ⟨d0, d1, d2, d3, e0, e1, e2, e3⟩ := x3.four
    go_wp2_with fail
    refine bodyPost_ret (v := .agg #[.int .i64 y0, .int .i64 y1, .int .i64 y2, .int .i64 v3]) (by simp [results, Tryd.results41, go_sem, c0, c1, c2, c3]) rfl ?_
    exact ⟨_, _, _, _, rfl, ⟨k + 4 + 1 + 1, by omega, ((((s3.put (p := ⟨w1.heap.size, 3, none⟩) gx _).put (p := ⟨w.heap.size, 0, none⟩) g0 _).put (p := ⟨w.heap.size, 1, none⟩) g0 _).put (p := ⟨w.heap.size, 2, none⟩) g0 _).put (p := ⟨w.heap.size, 3, none⟩) g0 _⟩, ((((WI3.put (p := ⟨w1.heap.size, 3, none⟩) (by show w.heap.size ≤ w1.heap.size; omega) _).put (p := ⟨w.heap.size, 0, none⟩) (Nat.le_refl _) _).put (p := ⟨w.heap.size, 1, none⟩) (Nat.le_refl _) _).put (p := ⟨w.heap.size, 2, none⟩) (Nat.le_refl _) _).put (p := ⟨w.heap.size, 3, none⟩) (Nat.le_refl _) _⟩
  · have b0 : (r == 0) = false := by simp; omega
    have b1 : (r == 1) = false := by simp; omega
    have b2 : (r == 2) = false := by simp; omega
    have b3 : (r == 3) = false := by simp; omega
    go_wp2_with fail
    refine bodyPost_ret (v := .agg #[.int .i64 y0, .int .i64 y1, .int .i64 y2, .int .i64 y3]) (by simp [results, Tryd.results41, go_sem, c0, c1, c2, c3]) rfl ?_
    exact ⟨_, _, _, _, rfl, ⟨k + 4 + 1, by omega, (((s2.put (p := ⟨w.heap.size, 0, none⟩) g0 _).put (p := ⟨w.heap.size, 1, none⟩) g0 _).put (p := ⟨w.heap.size, 2, none⟩) g0 _).put (p := ⟨w.heap.size, 3, none⟩) g0 _⟩, (((WI2.put (p := ⟨w.heap.size, 0, none⟩) (Nat.le_refl _) _).put (p := ⟨w.heap.size, 1, none⟩) (Nat.le_refl _) _).put (p := ⟨w.heap.size, 2, none⟩) (Nat.le_refl _) _).put (p := ⟨w.heap.size, 3, none⟩) (Nat.le_refl _) _⟩

end Go.Proofs.YtjlkmfijkhjjkaaDoor
/-
  Rows of samples: how they lie in memory; the law's own copying, comparing and marking of them.
-/
namespace Go.Proofs.YtjlkmfijkhjjkaaDoor
set_option maxRecDepth 20000
open Go.RowKit
set_option linter.unusedSimpArgs false

def smpCells (x : Smp) : List Value := [.int .i64 x.1, .int .i64 x.2.1, .int .i64 x.2.2.1, .int .i64 x.2.2.2]
/-- Samples. -/
def eS : Enc Smp := ⟨26, 4, smpCells⟩
theorem okS : EncOk eS := ⟨fun _ => rfl, fun a u hu => by simp only [eS, smpCells, List.mem_cons, List.not_mem_nil, or_false] at hu; rcases hu with rfl | rfl | rfl | rfl <;> rfl, by decide⟩
/-- The law's own samples. -/
def eL : Enc Smp := ⟨55, 4, smpCells⟩
theorem okL : EncOk eL := ⟨fun _ => rfl, fun a u hu => by simp only [eL, smpCells, List.mem_cons, List.not_mem_nil, or_false] at hu; rcases hu with rfl | rfl | rfl | rfl <;> rfl, by decide⟩
theorem info_smp : (Tryd.prog.info? 26).map (fun i => (i.zero, i.size, i.bytes)) = some (some (.agg #[.int .i64 0, .int .i64 0, .int .i64 0, .int .i64 0]), 4, 32) := by kernel_rfl

/-- Four cells. -/
def S4 (u : World) (g p : Nat) (a0 a1 a2 a3 : Int) : Prop :=
  u.cell? ⟨g, p, none⟩ = some (.int .i64 a0) ∧ u.cell? ⟨g, p + 1, none⟩ = some (.int .i64 a1) ∧ u.cell? ⟨g, p + 2, none⟩ = some (.int .i64 a2) ∧ u.cell? ⟨g, p + 3, none⟩ = some (.int .i64 a3)
theorem S4.below {B : Nat} {w w' : World} {g p : Nat} {a0 a1 a2 a3 : Int} (h : S4 w g p a0 a1 a2 a3) (hb : Below B w w') (hg : g < B) : S4 w' g p a0 a1 a2 a3 :=
  ⟨(hb.cell (p := ⟨g, p, none⟩) hg).trans h.1, (hb.cell (p := ⟨g, p + 1, none⟩) hg).trans h.2.1, (hb.cell (p := ⟨g, p + 2, none⟩) hg).trans h.2.2.1, (hb.cell (p := ⟨g, p + 3, none⟩) hg).trans h.2.2.2⟩
theorem S4.drew {w : World} {g p : Nat} {a0 a1 a2 a3 : Int} (h : S4 w g p a0 a1 a2 a3) : S4 w.drew g p a0 a1 a2 a3 := h

section
variable {w w' : World} {base hi n c : Nat} {A : Option Addr} {l : List Smp}
theorem Rd.smp (h : Rd eS w hi A l) {k : Nat} (hk : k < l.length) : ∃ g o a0 a1 a2 a3, A = some ⟨g, o, none⟩ ∧ g < hi ∧ l[k]? = some (a0, a1, a2, a3) ∧ S4 w g (o + k * 4) a0 a1 a2 a3 := by
  obtain ⟨g, o, ⟨a0, a1, a2, a3⟩, e, hg, ha, hc⟩ := h.at_ hk
  exact ⟨g, o, a0, a1, a2, a3, e, hg, ha, hc 0 _ rfl, hc 1 _ rfl, hc 2 _ rfl, hc 3 _ rfl⟩
theorem Rd.smp_is {g o k : Nat} {a0 a1 a2 a3 : Int} (h : Rd eS w hi (some ⟨g, o, none⟩) l) (hk : l[k]? = some (a0, a1, a2, a3)) : S4 w g (o + k * 4) a0 a1 a2 a3 := by
  obtain ⟨g', o', e, _, hc⟩ := h (by intro e; subst e; simp at hk)
  obtain ⟨rfl, rfl⟩ : g = g' ∧ o = o' := by simpa using Option.some.inj e
  exact ⟨hc k 0 _ _ hk rfl, hc k 1 _ _ hk rfl, hc k 2 _ _ hk rfl, hc k 3 _ _ hk rfl⟩
theorem Rd.smpL (h : Rd eL w hi A l) {k : Nat} (hk : k < l.length) : ∃ g o a0 a1 a2 a3, A = some ⟨g, o, none⟩ ∧ g < hi ∧ l[k]? = some (a0, a1, a2, a3) ∧ S4 w g (o + k * 4) a0 a1 a2 a3 := h.smp hk
theorem Ow.smpAt {g : Nat} (h : Ow eS w base (some ⟨g, 0, none⟩) n c l) {k : Nat} {a0 a1 a2 a3 : Int} (hk : l[k]? = some (a0, a1, a2, a3)) : S4 w g (k * 4) a0 a1 a2 a3 :=
  ⟨h.cellAt okS hk (j := 0) rfl, h.cellAt okS hk (j := 1) rfl, h.cellAt okS hk (j := 2) rfl, h.cellAt okS hk (j := 3) rfl⟩
/-- One number of a sample. -/
theorem Ow.smpPut {g : Nat} (h : Ow eS w base (some ⟨g, 0, none⟩) n c l) {k j : Nat} {x y : Smp} {u : Value} (hk : l[k]? = some x) (hj : j < 4) (hc : smpCells y = (smpCells x).set j u) :
    Ow eS (w.setCell ⟨g, k * 4 + j, none⟩ u) base (some ⟨g, 0, none⟩) n c (l.set k y) ∧ w.grownBy (w.setCell ⟨g, k * 4 + j, none⟩ u) (some g) :=
  h.stored okS (k := k) (j := j) (a' := y) hk hj hc
/-- A whole sample. -/
theorem Ow.smpSet {g : Nat} (h : Ow eS w base (some ⟨g, 0, none⟩) n c l) {k : Nat} (hk : k < l.length) (b0 b1 b2 b3 : Int) :
    Ow eS ((((w.setCell ⟨g, k * 4, none⟩ (.int .i64 b0)).setCell ⟨g, k * 4 + 1, none⟩ (.int .i64 b1)).setCell ⟨g, k * 4 + 2, none⟩ (.int .i64 b2)).setCell ⟨g, k * 4 + 3, none⟩ (.int .i64 b3)) base (some ⟨g, 0, none⟩) n c (l.set k (b0, b1, b2, b3)) ∧
    w.grownBy ((((w.setCell ⟨g, k * 4, none⟩ (.int .i64 b0)).setCell ⟨g, k * 4 + 1, none⟩ (.int .i64 b1)).setCell ⟨g, k * 4 + 2, none⟩ (.int .i64 b2)).setCell ⟨g, k * 4 + 3, none⟩ (.int .i64 b3)) (some g) := by
  obtain ⟨⟨a0, a1, a2, a3⟩, ha⟩ : ∃ x, l[k]? = some x := ⟨l[k], List.getElem?_eq_getElem hk⟩
  have h0 := h.smpPut (j := 0) (y := (b0, a1, a2, a3)) ha (by omega) rfl
  have h1 := h0.1.smpPut (j := 1) (x := (b0, a1, a2, a3)) (y := (b0, b1, a2, a3)) (by rw [List.getElem?_set_self (by omega)]) (by omega) rfl
  rw [List.set_set] at h1
  have h2 := h1.1.smpPut (j := 2) (x := (b0, b1, a2, a3)) (y := (b0, b1, b2, a3)) (by rw [List.getElem?_set_self (by omega)]) (by omega) rfl
  rw [List.set_set] at h2
  have h3 := h2.1.smpPut (j := 3) (x := (b0, b1, b2, a3)) (y := (b0, b1, b2, b3)) (by rw [List.getElem?_set_self (by omega)]) (by omega) rfl
  rw [List.set_set] at h3
  exact ⟨h3.1, grown_trans (grown_trans (grown_trans h0.2 h1.2) h2.2) h3.2⟩
end

theorem eqSample (a0 a1 a2 a3 b0 b1 b2 b3 : Int) (w : World) :
    Calls Tryd.prog 73 #[.agg #[.int .i64 a0, .int .i64 a1, .int .i64 a2, .int .i64 a3], .agg #[.int .i64 b0, .int .i64 b1, .int .i64 b2, .int .i64 b3]] w fun e w' =>
      e = .returned (.bool (decide ((a0, a1, a2, a3) = (b0, b1, b2, b3)))) ∧ Below w.heap.size w w' := by
  by_cases h0 : a0 = b0
  rotate_left
  · have hn : (a0 != b0) = true := by rw [bne_iff_ne]; exact h0
    have Hf := Lib.hid (show decide ((a0, a1, a2, a3) = (b0, b1, b2, b3)) = false by simp [h0])
    clear h0
    go_enter Tryd.func73, Tryd.ntmps73
    go_wp2
    go_ret
    exact ⟨by rw [Hf.out]; rfl, ((Below.refl _ _).alloc (Nat.le_refl _) _).alloc (by simp) _⟩
  subst h0
  by_cases h1 : a1 = b1
  rotate_left
  · have hn : (a1 != b1) = true := by rw [bne_iff_ne]; exact h1
    have Hf := Lib.hid (show decide ((a0, a1, a2, a3) = (a0, b1, b2, b3)) = false by simp [h1])
    clear h1
    go_enter Tryd.func73, Tryd.ntmps73
    go_wp2
    go_ret
    exact ⟨by rw [Hf.out]; rfl, ((Below.refl _ _).alloc (Nat.le_refl _) _).alloc (by simp) _⟩
  subst h1
  by_cases h2 : a2 = b2
  rotate_left
  · have hn : (a2 != b2) = true := by rw [bne_iff_ne]; exact h2
    have Hf := Lib.hid (show decide ((a0, a1, a2, a3) = (a0, a1, b2, b3)) = false by simp [h2])
    clear h2
    go_enter Tryd.func73, Tryd.ntmps73
    go_wp2
    go_ret
    exact ⟨by rw [Hf.out]; rfl, ((Below.refl _ _).alloc (Nat.le_refl _) _).alloc (by simp) _⟩
  subst h2
  by_cases h3 : a3 = b3
  rotate_left
  · have hn : (a3 != b3) = true := by rw [bne_iff_ne]; exact h3
    have Hf := Lib.hid (show decide ((a0, a1, a2, a3) = (a0, a1, a2, b3)) = false by simp [h3])
    clear h3
    go_enter Tryd.func73, Tryd.ntmps73
    go_wp2
    go_ret
    exact ⟨by rw [Hf.out]; rfl, ((Below.refl _ _).alloc (Nat.le_refl _) _).alloc (by simp) _⟩
  subst h3
  go_enter Tryd.func73, Tryd.ntmps73
  go_wp2
  go_ret
  exact ⟨by simp, ((Below.refl _ _).alloc (Nat.le_refl _) _).alloc (by simp) _⟩

theorem alike_all' {α : Type} {xs ys : List α} {n : Nat} (hx : xs.length = n) (hy : ys.length = n) (h : ∀ i, i < n → xs[i]? = ys[i]?) : xs = ys := by
  apply List.ext_getElem?
  intro i
  rcases Nat.lt_or_ge i n with h1 | h1
  · exact h i h1
  · rw [List.getElem?_eq_none (by omega), List.getElem?_eq_none (by omega)]
def EqRelS (xs ys : List Smp) (w : World) (n : Nat) (i : Value) (wr : World) : Prop :=
  ∃ k : Nat, k ≤ n ∧ i = .int .i64 k ∧ (∀ i, i < k → xs[i]? = ys[i]?) ∧ Below w.heap.size w wr

end Go.Proofs.YtjlkmfijkhjjkaaDoor
