/-
  As Mix, but two that make memory may come in either order: both are walked from there on, and what is known of every world goes along.
-/
import Derived.Test.YtbfjfjocangjeaaFork
namespace Go.Proofs.Ytbfjfjocangjeaa
set_option maxRecDepth 20000
open Go.RowKit

section
variable {P : Program} {md : Region.Mode} {ops : Array Oper} {Q : Exit → Act → World → Prop}

/-- As 'mixW'; behind it R. -/
def mixRW (P : Program) (ops : Array Oper) (Q : Exit → Act → World → Prop) (R : (World → Prop) → Act → World → Prop) : List (Oper × Bool) → (World → Prop) → Act → World → Prop
  | [], S, a, w => R S a w
  | (o, c) :: rest, S, a, w =>
    if Region.wanted o (yielded ops a.tmps) = true then
      if c = true then o.wp P a w (fun a' w' => ∃ S' : World → Prop, (∀ x, S' x → S x) ∧ S' w' ∧ mixRW P ops Q R rest S' a' w') Q
      else ∃ v, (∀ x, S x → (execOp a.eval o).run P x = .ok (.value v) x) ∧ mixRW P ops Q R rest S (a.put o.dst v) w
    else mixRW P ops Q R rest S (a.put o.dst undef) w

theorem held_of_mixR {l : List Oper} {R : (World → Prop) → Act → World → Prop} (hsel : Region.noSelect l.toArray = true) (hQ : ∀ c a (d : Nat) v w, Q (.panic c) (Act.put a (some d) v) w → Q (.panic c) a w) (fuel : Nat) :
    ∀ (p : List (Nat × Bool)) (listed : Array Bool) (S : World → Prop) (a : Act) (w : World), (∀ x ∈ p, x.1 < l.length) → forkB md l.toArray listed p = true →
      (∀ S a w, S w → R S a w → wpAnyH P md l.toArray Q S fuel (listedBy listed p) a w) → S w → mixRW P l.toArray Q R (mixOps l p) S a w →
      wpAnyH P md l.toArray Q S (p.length + fuel) listed a w
  | [], listed, S, a, w, _, _, hR, hS, h => by
    rw [List.length_nil, Nat.zero_add]
    exact hR S a w hS h
  | (k, c) :: p, listed, S, a, w, hl, hB, hR, hS, h => by
    have hk : k < l.length := hl (k, c) (by simp)
    obtain ⟨o, ho⟩ : ∃ o, l[k]? = some o := ⟨_, List.getElem?_eq_getElem hk⟩
    have hoa : l.toArray[k]? = some o := by simpa using ho
    simp only [forkB, Bool.and_eq_true] at hB
    obtain ⟨hb, hB'⟩ := hB
    have hQ' : ∀ c a d v w, Q (.panic c) (Act.put a d v) w → Q (.panic c) a w := fun c a d v w h => by
      cases d with
      | none => exact h
      | some d => exact hQ c a d v w h
    have ih := fun S a w => held_of_mixR hsel hQ fuel p (listed.setIfInBounds k true) S a w (fun x hx => hl x (by simp [hx])) hB' hR
    have e : ((k, c) :: p).length + fuel = p.length + fuel + 1 := by rw [List.length_cons]; omega
    rw [e]
    simp only [mixOps, List.map_cons, ho, Option.getD_some, mixRW] at h
    cases c with
    | false =>
      simp only [Bool.false_eq_true, if_false, Bool.and_eq_true] at hb h
      by_cases hw : Region.wanted o (yielded l.toArray a.tmps) = true
      · rw [if_pos hw] at h
        obtain ⟨v, hv, h⟩ := h
        exact wpAnyH_take hoa hsel hb.2 hb.1 (fun c a w => hQ' c a _ _ w) (.inl ⟨hw, hv⟩) hS (ih S _ w hS h)
      · rw [if_neg hw] at h
        exact wpAnyH_take hoa hsel hb.2 hb.1 (fun c a w => hQ' c a _ _ w) (.inr ⟨by simpa using hw, rfl⟩) hS (ih S _ w hS h)
    | true =>
      simp only [if_true] at hb h
      refine wpAnyH_all (rs := [k]) (by simpa using hb) (by simp) fun i hi => ?_
      obtain rfl : i = k := by simpa using hi
      unfold wpOp
      rw [hoa]
      simp only
      by_cases hw : Region.wanted o (yielded l.toArray a.tmps) = true
      · rw [if_pos hw] at h ⊢
        have h1 : wpOp P l.toArray Q i (fun a' w' => ∃ S' : World → Prop, (∀ x, S' x → S x) ∧ S' w' ∧ mixRW P l.toArray Q R (mixOps l p) S' a' w') a w := by
          unfold wpOp
          rw [hoa]
          simp only
          rw [if_pos hw]
          exact .inl h
        have h2 := wpOp_mono (K' := fun a' w' => S w' ∧ wpAnyH P md l.toArray Q S (p.length + fuel) (listed.setIfInBounds i true) a' w') (fun a' w' ⟨S', h1, h2, h3⟩ => ⟨h1 _ h2, held_mono h1 _ _ _ _ (ih S' a' w' h2 h3)⟩) h1
        unfold wpOp at h2
        rw [hoa] at h2
        simp only at h2
        rwa [if_pos hw] at h2
      · rw [if_neg hw] at h ⊢
        exact ⟨hS, ih S _ w hS h⟩

theorem wpOp_of_mixR {l : List Oper} {R : (World → Prop) → Act → World → Prop} {i : Nat} {o : Oper} {rest : List (Oper × Bool)} {S : World → Prop} {a : Act} {w : World} (hoa : l.toArray[i]? = some o) (hS : S w)
    (h : mixRW P l.toArray Q R ((o, true) :: rest) S a w) : wpOp P l.toArray Q i (fun a' w' => ∃ S' : World → Prop, (∀ x, S' x → S x) ∧ S' w' ∧ mixRW P l.toArray Q R rest S' a' w') a w := by
  unfold wpOp
  rw [hoa]
  simp only
  unfold mixRW at h
  by_cases hw : Region.wanted o (yielded l.toArray a.tmps) = true
  · rw [if_pos hw] at h ⊢
    rw [if_pos rfl] at h
    exact .inl h
  · rw [if_neg hw] at h ⊢
    exact ⟨S, fun _ h => h, hS, h⟩

theorem wp_region_fork2 {id : Nat} {l : List Oper} {a : Act} {w : World} (p p1 p2 : List (Nat × Bool)) (i j : Nat) (S : World → Prop) (hm : P.follows .mixedOrders = true) (hB : forkAll .any l.toArray l.length p p1 p2 i j = true)
    (hQ : ∀ c a (d : Nat) v w, Q (.panic c) (Act.put a (some d) v) w → Q (.panic c) a w) (hS : S w.drew)
    (h : mixRW P l.toArray Q (fun S a w => mixRW P l.toArray Q (fun _ a w => Q .normal a w) (mixOps l ((i, true) :: p1)) S a w ∧ mixRW P l.toArray Q (fun _ a w => Q .normal a w) (mixOps l ((j, true) :: p2)) S a w) (mixOps l p) S a w.drew) :
    (Code.region id l.toArray true).wp P Q a w := by
  unfold forkAll at hB
  simp only [Bool.and_eq_true, beq_iff_eq, List.all_eq_true, decide_eq_true_eq, List.mem_append] at hB
  obtain ⟨h1, h2, ⟨h3, ⟨h4, h5⟩, h6, h7⟩, ⟨⟨⟨h8, h9⟩, h10⟩, h11⟩, h12⟩ := hB
  refine wp_region_held (S := S) hm ?_
  have hi : l[i]? = some l[i] := List.getElem?_eq_getElem h10
  have hj : l[j]? = some l[j] := List.getElem?_eq_getElem h11
  have go := held_of_mixR (P := P) (md := .any) (R := fun S a w => mixRW P l.toArray Q (fun _ a w => Q .normal a w) (mixOps l ((i, true) :: p1)) S a w ∧ mixRW P l.toArray Q (fun _ a w => Q .normal a w) (mixOps l ((j, true) :: p2)) S a w) h1 hQ (p1.length + 1) p
    (Array.replicate l.length false) S a w.drew (fun x hx => h12 x (.inl (.inl hx))) h2 (fun S a w hS hR => by
      refine wpAnyH_all (rs := [i, j]) h3 (by simp) fun k hk => ?_
      rcases (show k = i ∨ k = j by simpa using hk) with rfl | rfl
      · have hR1 := hR.1
        simp only [mixOps, List.map_cons, hi, Option.getD_some] at hR1
        refine wpOp_mono (fun a' w' ⟨S', g1, g2, g3⟩ => ⟨g1 _ g2, held_mono g1 _ _ _ _ ?_⟩) (wpOp_of_mixR (by simp) hS hR1)
        exact held_of_mixR h1 hQ 0 p1 _ S' a' w' (fun x hx => h12 x (.inl (.inr hx))) h4 (fun S a w _ hq => wpAnyH_done (by simpa using h5) hq 0) g2 g3
      · have hR1 := hR.2
        simp only [mixOps, List.map_cons, hj, Option.getD_some] at hR1
        refine wpOp_mono (fun a' w' ⟨S', g1, g2, g3⟩ => ⟨g1 _ g2, held_mono g1 _ _ _ _ ?_⟩) (wpOp_of_mixR (by simp) hS hR1)
        have := held_of_mixR h1 hQ 0 p2 _ S' a' w' (fun x hx => h12 x (.inr hx)) h6 (fun S a w _ hq => wpAnyH_done (by simpa using h7) hq 0) g2 g3
        rwa [← h9] at this) hS h
  rw [h8] at go
  simpa using go

theorem mixR_pure {R : (World → Prop) → Act → World → Prop} {o : Oper} {rest : List (Oper × Bool)} {S : World → Prop} {a : Act} {w : World} {v : Value} (hw : Region.wanted o (yielded ops a.tmps) = true)
    (hv : ∀ x, S x → (execOp a.eval o).run P x = .ok (.value v) x) (h : mixRW P ops Q R rest S (a.put o.dst v) w) : mixRW P ops Q R ((o, false) :: rest) S a w := by
  unfold mixRW
  rw [if_pos hw, if_neg (by simp)]
  exact ⟨v, hv, h⟩
theorem mixR_skip {R : (World → Prop) → Act → World → Prop} {o : Oper} {c : Bool} {rest : List (Oper × Bool)} {S : World → Prop} {a : Act} {w : World} (hw : Region.wanted o (yielded ops a.tmps) = false)
    (h : mixRW P ops Q R rest S (a.put o.dst undef) w) : mixRW P ops Q R ((o, c) :: rest) S a w := by
  unfold mixRW
  rw [if_neg (by simp [hw])]
  exact h
theorem mixR_call {R : (World → Prop) → Act → World → Prop} {o : Oper} {rest : List (Oper × Bool)} {S : World → Prop} {a : Act} {w : World} (hw : Region.wanted o (yielded ops a.tmps) = true)
    (h : ∀ K : Act → World → Prop, (∀ a' w' (S' : World → Prop), (∀ x, S' x → S x) → S' w' → mixRW P ops Q R rest S' a' w' → K a' w') → o.wp P a w K Q) : mixRW P ops Q R ((o, true) :: rest) S a w := by
  unfold mixRW
  rw [if_pos hw, if_pos rfl]
  exact h _ fun a' w' S' h1 h2 h3 => ⟨S', h1, h2, h3⟩
theorem mixR_nil {R : (World → Prop) → Act → World → Prop} {S : World → Prop} {a : Act} {w : World} (h : R S a w) : mixRW P ops Q R [] S a w := h
end
end Go.Proofs.Ytbfjfjocangjeaa
