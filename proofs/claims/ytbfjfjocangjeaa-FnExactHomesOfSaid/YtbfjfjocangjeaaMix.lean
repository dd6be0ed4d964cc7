/-
  A region that draws its order and holds calls that make memory: one walk in an order of our own serves every order. What only computes or reads is taken as soon as it may come, by what is known of EVERY world met from there on ('S'); a call is carried out where nothing else may come, and what is known grows behind it.
-/
import Derived.OrdersHeld
import Derived.Tactics2
import Derived.Tactics
import Derived.Deep.RegionHeld
import Derived.Test.YtbfjfjocangjeaaBase
namespace Go.Proofs.Ytbfjfjocangjeaa
set_option maxRecDepth 20000
open Go.RowKit

section
variable {P : Program} {md : Region.Mode} {ops : Array Oper} {Q : Exit → Act → World → Prop}

theorem held_mono {S S' : World → Prop} (hs : ∀ x, S' x → S x) : ∀ (fuel : Nat) (listed : Array Bool) (a : Act) (w : World), wpAnyH P md ops Q S' fuel listed a w → wpAnyH P md ops Q S fuel listed a w
  | 0, _, _, _, h => h
  | fuel + 1, _, _, _, h => ⟨h.1, fun i hi => wpOp_mono (fun a' w' h' => ⟨hs _ h'.1, held_mono hs fuel _ a' w' h'.2⟩) (h.2 i hi)⟩

/-- The walk: operations in an order of ours ('true': a call), what is known of every world from here on, the frame, the world at hand. -/
def mixW (P : Program) (ops : Array Oper) (Q : Exit → Act → World → Prop) : List (Oper × Bool) → (World → Prop) → Act → World → Prop
  | [], _, a, w => Q .normal a w
  | (o, c) :: rest, S, a, w =>
    if Region.wanted o (yielded ops a.tmps) = true then
      if c = true then o.wp P a w (fun a' w' => ∃ S' : World → Prop, (∀ x, S' x → S x) ∧ S' w' ∧ mixW P ops Q rest S' a' w') Q
      else ∃ v, (∀ x, S x → (execOp a.eval o).run P x = .ok (.value v) x) ∧ mixW P ops Q rest S (a.put o.dst v) w
    else mixW P ops Q rest S (a.put o.dst undef) w

/-- The order fits the region: a call comes where nothing else may come. -/
def mixB (md : Region.Mode) (ops : Array Oper) : Array Bool → List (Nat × Bool) → Bool
  | listed, [] => (Region.ready md ops listed).isEmpty
  | listed, (k, c) :: p => (if c then Region.ready md ops listed == [k] else (Region.ready md ops listed).contains k && Region.free md ops listed k) && mixB md ops (listed.setIfInBounds k true) p

def mixOps (l : List Oper) (p : List (Nat × Bool)) : List (Oper × Bool) := p.map fun x => ((l[x.1]?).getD default, x.2)

theorem held_of_mix {l : List Oper} (hsel : Region.noSelect l.toArray = true) (hQ : ∀ c a (d : Nat) v w, Q (.panic c) (Act.put a (some d) v) w → Q (.panic c) a w) :
    ∀ (p : List (Nat × Bool)) (listed : Array Bool) (S : World → Prop) (a : Act) (w : World), (∀ x ∈ p, x.1 < l.length) → mixB md l.toArray listed p = true → S w → mixW P l.toArray Q (mixOps l p) S a w →
      wpAnyH P md l.toArray Q S p.length listed a w
  | [], listed, S, a, w, _, hB, _, h => wpAnyH_done (by simpa [mixB] using hB) h 0
  | (k, c) :: p, listed, S, a, w, hl, hB, hS, h => by
    have hk : k < l.length := hl (k, c) (by simp)
    obtain ⟨o, ho⟩ : ∃ o, l[k]? = some o := ⟨_, List.getElem?_eq_getElem hk⟩
    have hoa : l.toArray[k]? = some o := by simpa using ho
    simp only [mixB, Bool.and_eq_true] at hB
    obtain ⟨hb, hB'⟩ := hB
    have hQ' : ∀ c a d v w, Q (.panic c) (Act.put a d v) w → Q (.panic c) a w := fun c a d v w h => by
      cases d with
      | none => exact h
      | some d => exact hQ c a d v w h
    have ih := fun S a w => held_of_mix hsel hQ p (listed.setIfInBounds k true) S a w (fun x hx => hl x (by simp [hx])) hB'
    simp only [mixOps, List.map_cons, ho, Option.getD_some, mixW] at h
    cases c with
    | false =>
      simp only [Bool.false_eq_true, if_false, Bool.and_eq_true] at hb h
      by_cases hw : Region.wanted o (yielded l.toArray a.tmps) = true
      · rw [if_pos hw] at h
        obtain ⟨v, hv, h⟩ := h
        exact wpAnyH_take hoa hsel hb.2 hb.1 (fun c a w => hQ' c a _ _ w) (.inl ⟨hw, hv⟩) hS (ih S _ w hS h)
      · rw [if_neg hw] at h
        exact wpAnyH_take hoa hsel hb.2 hb.1 (fun c a w => hQ' c a _ _ w) (.inr ⟨by simpa using hw, rfl⟩) hS (ih S _ w hS h)
    | true =>
      simp only [if_true] at hb h
      refine wpAnyH_all (rs := [k]) (by simpa using hb) (by simp) fun i hi => ?_
      obtain rfl : i = k := by simpa using hi
      unfold wpOp
      rw [hoa]
      simp only
      by_cases hw : Region.wanted o (yielded l.toArray a.tmps) = true
      · rw [if_pos hw] at h ⊢
        have h1 : wpOp P l.toArray Q i (fun a' w' => ∃ S' : World → Prop, (∀ x, S' x → S x) ∧ S' w' ∧ mixW P l.toArray Q (mixOps l p) S' a' w') a w := by
          unfold wpOp
          rw [hoa]
          simp only
          rw [if_pos hw]
          exact .inl h
        have h2 := wpOp_mono (K' := fun a' w' => S w' ∧ wpAnyH P md l.toArray Q S p.length (listed.setIfInBounds i true) a' w') (fun a' w' ⟨S', h1, h2, h3⟩ => ⟨h1 _ h2, held_mono h1 _ _ _ _ (ih S' a' w' h2 h3)⟩) h1
        unfold wpOp at h2
        rw [hoa] at h2
        simp only at h2
        rwa [if_pos hw] at h2
      · rw [if_neg hw] at h ⊢
        exact ⟨hS, ih S _ w hS h⟩

theorem wp_region_mix {id : Nat} {l : List Oper} {a : Act} {w : World} (p : List (Nat × Bool)) (S : World → Prop) (hm : P.follows .mixedOrders = true)
    (hB : (Region.noSelect l.toArray && (mixB .any l.toArray (Array.replicate l.length false) p && (p.length == l.length && p.all fun x => decide (x.1 < l.length)))) = true)
    (hQ : ∀ c a (d : Nat) v w, Q (.panic c) (Act.put a (some d) v) w → Q (.panic c) a w) (hS : S w.drew) (h : mixW P l.toArray Q (mixOps l p) S a w.drew) : (Code.region id l.toArray true).wp P Q a w := by
  simp only [Bool.and_eq_true, beq_iff_eq, List.all_eq_true, decide_eq_true_eq] at hB
  obtain ⟨h1, h2, h3, h4⟩ := hB
  refine wp_region_held (S := S) hm ?_
  have := held_of_mix (P := P) (md := .any) h1 hQ p (Array.replicate l.length false) S a w.drew (fun x hx => h4 x hx) h2 hS h
  rw [h3] at this
  simpa using this

theorem mix_pure {o : Oper} {rest : List (Oper × Bool)} {S : World → Prop} {a : Act} {w : World} {v : Value} (hw : Region.wanted o (yielded ops a.tmps) = true)
    (hv : ∀ x, S x → (execOp a.eval o).run P x = .ok (.value v) x) (h : mixW P ops Q rest S (a.put o.dst v) w) : mixW P ops Q ((o, false) :: rest) S a w := by
  unfold mixW
  rw [if_pos hw, if_neg (by simp)]
  exact ⟨v, hv, h⟩
theorem mix_skip {o : Oper} {c : Bool} {rest : List (Oper × Bool)} {S : World → Prop} {a : Act} {w : World} (hw : Region.wanted o (yielded ops a.tmps) = false)
    (h : mixW P ops Q rest S (a.put o.dst undef) w) : mixW P ops Q ((o, c) :: rest) S a w := by
  unfold mixW
  rw [if_neg (by simp [hw])]
  exact h
/-- A call: its contract's post, then a new 'S'. -/
theorem mix_call {o : Oper} {rest : List (Oper × Bool)} {S : World → Prop} {a : Act} {w : World} (hw : Region.wanted o (yielded ops a.tmps) = true)
    (h : ∀ K : Act → World → Prop, (∀ a' w' (S' : World → Prop), (∀ x, S' x → S x) → S' w' → mixW P ops Q rest S' a' w' → K a' w') → o.wp P a w K Q) : mixW P ops Q ((o, true) :: rest) S a w := by
  unfold mixW
  rw [if_pos hw, if_pos rfl]
  exact h _ fun a' w' S' h1 h2 h3 => ⟨S', h1, h2, h3⟩
theorem mix_nil {S : World → Prop} {a : Act} {w : World} (h : Q .normal a w) : mixW P ops Q [] S a w := h
end
end Go.Proofs.Ytbfjfjocangjeaa
