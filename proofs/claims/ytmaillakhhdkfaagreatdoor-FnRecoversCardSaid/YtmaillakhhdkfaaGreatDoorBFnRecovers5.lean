/-
  Texts of one proof, joined: each has its own namespace.
-/
import Derived.OrdersHeld
import Derived.Tactics2
import Derived.Tactics
import Derived.Deep.RegionHeld
import Derived.Test.YtmaillakhhdkfaaGreatDoorBFnRecovers0
import Derived.Test.YtmaillakhhdkfaaGreatDoorBFnRecovers4
/-
  A region that draws its order and holds calls that make memory: one walk in an order of our own serves every order. What only computes or reads is taken as soon as it may come, by what is known of EVERY world met from there on ('S'); a call is carried out where nothing else may come, and what is known grows behind it.
-/
namespace Go.Proofs.YtmaillakhhdkfaaGreatDoor
set_option maxRecDepth 20000
open Go.RowKit

section
variable {P : Program} {md : Region.Mode} {ops : Array Oper} {Q : Exit → Act → World → Prop}

theorem held_mono {S S' : World → Prop} (hs : ∀ x, S' x → S x) : ∀ (fuel : Nat) (listed : Array Bool) (a : Act) (w : World), wpAnyH P md ops Q S' fuel listed a w → wpAnyH P md ops Q S fuel listed a w
  | 0, _, _, _, h => h
  | fuel + 1, _, _, _, h => ⟨h.1, fun i hi => wpOp_mono (fun a' w' h' => ⟨hs _ h'.1, held_mono hs fuel _ a' w' h'.2⟩) (h.2 i hi)⟩

/-- The walk: operations in an order of ours ('true': a call), what is known of every world from here on, the frame, the world at hand. -/
def mixW (P : Program) (ops : Array Oper) (Q : Exit → Act → World → Prop) : List (Oper × Bool) → (World → Prop) → Act → World → Prop
  | [], _, a, w => Q .normal a w
  | (o, c) :: rest, S, a, w =>
    if Region.wanted o (yielded ops a.tmps) = true then
      if c = true then o.wp P a w (fun a' w' => ∃ S' : World → Prop, (∀ x, S' x → S x) ∧ S' w' ∧ mixW P ops Q rest S' a' w') Q
      else ∃ v, (∀ x, S x → (execOp a.eval o).run P x = .ok (.value v) x) ∧ mixW P ops Q rest S (a.put o.dst v) w
    else mixW P ops Q rest S (a.put o.dst undef) w

/-- The order fits the region: a call comes where nothing else may come. -/
def mixB (md : Region.Mode) (ops : Array Oper) : Array Bool → List (Nat × Bool) → Bool
  | listed, [] => (Region.ready md ops listed).isEmpty
  | listed, (k, c) :: p => (if c then Region.ready md ops listed == [k] else (Region.ready md ops listed).contains k && Region.free md ops listed k) && mixB md ops (listed.setIfInBounds k true) p

def mixOps (l : List Oper) (p : List (Nat × Bool)) : List (Oper × Bool) := p.map fun x => ((l[x.1]?).getD default, x.2)

theorem held_of_mix {l : List Oper} (hsel : Region.noSelect l.toArray = true) (hQ : ∀ c a (d : Nat) v w, Q (.panic c) (Act.put a (some d) v) w → Q (.panic c) a w) :
    ∀ (p : List (Nat × Bool)) (listed : Array Bool) (S : World → Prop) (a : Act) (w : World), (∀ x ∈ p, x.1 < l.length) → mixB md l.toArray listed p = true → S w → mixW P l.toArray Q (mixOps l p) S a w →
      wpAnyH P md l.toArray Q S p.length listed a w
  | [], listed, S, a, w, _, hB, _, h => wpAnyH_done (by simpa [mixB] using hB) h 0
  | (k, c) :: p, listed, S, a, w, hl, hB, hS, h => by
    have hk : k < l.length := hl (k, c) (by simp)
    obtain ⟨o, ho⟩ : ∃ o, l[k]? = some o := ⟨_, List.getElem?_eq_getElem hk⟩
    have hoa : l.toArray[k]? = some o := by simpa using ho
    simp only [mixB, Bool.and_eq_true] at hB
    obtain ⟨hb, hB'⟩ := hB
    have hQ' : ∀ c a d v w, Q (.panic c) (Act.put a d v) w → Q (.panic c) a w := fun c a d v w h => by
      cases d with
      | none => exact h
      | some d => exact hQ c a d v w h
    have ih := fun S a w => held_of_mix hsel hQ p (listed.setIfInBounds k true) S a w (fun x hx => hl x (by simp [hx])) hB'
    simp only [mixOps, List.map_cons, ho, Option.getD_some, mixW] at h
    cases c with
    | false =>
      simp only [Bool.false_eq_true, if_false, Bool.and_eq_true] at hb h
      by_cases hw : Region.wanted o (yielded l.toArray a.tmps) = true
      · rw [if_pos hw] at h
        obtain ⟨v, hv, h⟩ := h
        exact wpAnyH_take hoa hsel hb.2 hb.1 (fun c a w => hQ' c a _ _ w) (.inl ⟨hw, hv⟩) hS (ih S _ w hS h)
      · rw [if_neg hw] at h
        exact wpAnyH_take hoa hsel hb.2 hb.1 (fun c a w => hQ' c a _ _ w) (.inr ⟨by simpa using hw, rfl⟩) hS (ih S _ w hS h)
    | true =>
      simp only [if_true] at hb h
      refine wpAnyH_all (rs := [k]) (by simpa using hb) (by simp) fun i hi => ?_
      obtain rfl : i = k := by simpa using hi
      unfold wpOp
      rw [hoa]
      simp only
      by_cases hw : Region.wanted o (yielded l.toArray a.tmps) = true
      · rw [if_pos hw] at h ⊢
        have h1 : wpOp P l.toArray Q i (fun a' w' => ∃ S' : World → Prop, (∀ x, S' x → S x) ∧ S' w' ∧ mixW P l.toArray Q (mixOps l p) S' a' w') a w := by
          unfold wpOp
          rw [hoa]
          simp only
          rw [if_pos hw]
          exact .inl h
        have h2 := wpOp_mono (K' := fun a' w' => S w' ∧ wpAnyH P md l.toArray Q S p.length (listed.setIfInBounds i true) a' w') (fun a' w' ⟨S', h1, h2, h3⟩ => ⟨h1 _ h2, held_mono h1 _ _ _ _ (ih S' a' w' h2 h3)⟩) h1
        unfold wpOp at h2
        rw [hoa] at h2
        simp only at h2
        rwa [if_pos hw] at h2
      · rw [if_neg hw] at h ⊢
        exact ⟨hS, ih S _ w hS h⟩

theorem wp_region_mix {id : Nat} {l : List Oper} {a : Act} {w : World} (p : List (Nat × Bool)) (S : World → Prop) (hm : P.follows .mixedOrders = true)
    (hB : (Region.noSelect l.toArray && (mixB .any l.toArray (Array.replicate l.length false) p && (p.length == l.length && p.all fun x => decide (x.1 < l.length)))) = true)
    (hQ : ∀ c a (d : Nat) v w, Q (.panic c) (Act.put a (some d) v) w → Q (.panic c) a w) (hS : S w.drew) (h : mixW P l.toArray Q (mixOps l p) S a w.drew) : (Code.region id l.toArray true).wp P Q a w := by
  simp only [Bool.and_eq_true, beq_iff_eq, List.all_eq_true, decide_eq_true_eq] at hB
  obtain ⟨h1, h2, h3, h4⟩ := hB
  refine wp_region_held (S := S) hm ?_
  have := held_of_mix (P := P) (md := .any) h1 hQ p (Array.replicate l.length false) S a w.drew (fun x hx => h4 x hx) h2 hS h
  rw [h3] at this
  simpa using this

theorem mix_pure {o : Oper} {rest : List (Oper × Bool)} {S : World → Prop} {a : Act} {w : World} {v : Value} (hw : Region.wanted o (yielded ops a.tmps) = true)
    (hv : ∀ x, S x → (execOp a.eval o).run P x = .ok (.value v) x) (h : mixW P ops Q rest S (a.put o.dst v) w) : mixW P ops Q ((o, false) :: rest) S a w := by
  unfold mixW
  rw [if_pos hw, if_neg (by simp)]
  exact ⟨v, hv, h⟩
theorem mix_skip {o : Oper} {c : Bool} {rest : List (Oper × Bool)} {S : World → Prop} {a : Act} {w : World} (hw : Region.wanted o (yielded ops a.tmps) = false)
    (h : mixW P ops Q rest S (a.put o.dst undef) w) : mixW P ops Q ((o, c) :: rest) S a w := by
  unfold mixW
  rw [if_neg (by simp [hw])]
  exact h
/-- A call: its contract's post, then a new 'S'. -/
theorem mix_call {o : Oper} {rest : List (Oper × Bool)} {S : World → Prop} {a : Act} {w : World} (hw : Region.wanted o (yielded ops a.tmps) = true)
    (h : ∀ K : Act → World → Prop, (∀ a' w' (S' : World → Prop), (∀ x, S' x → S x) → S' w' → mixW P ops Q rest S' a' w' → K a' w') → o.wp P a w K Q) : mixW P ops Q ((o, true) :: rest) S a w := by
  unfold mixW
  rw [if_pos hw, if_pos rfl]
  exact h _ fun a' w' S' h1 h2 h3 => ⟨S', h1, h2, h3⟩
theorem mix_nil {S : World → Prop} {a : Act} {w : World} (h : Q .normal a w) : mixW P ops Q [] S a w := h
end
end Go.Proofs.YtmaillakhhdkfaaGreatDoor
/-
  Samples and their keys: what is ahead of what; the program's compare by the first difference, and the model's.
-/
namespace Go.Proofs.YtmaillakhhdkfaaGreatDoor
set_option maxRecDepth 20000
open Go.RowKit
set_option linter.unusedSimpArgs false

/-- A sample's four numbers. -/
abbrev Smp := Int × Int × Int × Int

def cmpM (x y : Int) : Int := if x < y then -1 else if y < x then 1 else 0
def orM (l : List Int) : Int := (l.find? fun x => decide (x ≠ 0)).getD 0
def keysM (a b : Smp) : Int := orM [cmpM a.1 b.1, cmpM a.2.1 b.2.1, cmpM a.2.2.1 b.2.2.1]
def aheadM (a b : Smp) : Bool := if a.1 = b.1 then decide (a.2.1 < b.2.1) || (decide (a.2.1 = b.2.1) && decide (a.2.2.1 < b.2.2.1)) else decide (a.1 < b.1)
def sameKeyM (a b : Smp) : Bool := decide (a.1 = b.1) && (decide (a.2.1 = b.2.1) && decide (a.2.2.1 = b.2.2.1))

theorem cmpM_range (x y : Int) : cmpM x y = -1 ∧ x < y ∨ cmpM x y = 0 ∧ x = y ∨ cmpM x y = 1 ∧ y < x := by
  unfold cmpM
  split
  · exact .inl ⟨rfl, by assumption⟩
  · split
    · exact .inr (.inr ⟨rfl, by assumption⟩)
    · exact .inr (.inl ⟨rfl, by omega⟩)
theorem orM_cons (x : Int) (l : List Int) : orM (x :: l) = if x = 0 then orM l else x := by
  unfold orM
  rw [List.find?_cons]
  split
  · rename_i h
    simp only [decide_eq_true_eq] at h
    simp [h]
  · rename_i h
    simp only [decide_eq_false_iff_not, ne_eq, Decidable.not_not] at h
    simp [h]

theorem orM_nil : orM [] = 0 := rfl
theorem keysM_ahead (a b : Smp) : decide (keysM a b < 0) = aheadM a b := by
  obtain ⟨a0, a1, a2, a3⟩ := a
  obtain ⟨b0, b1, b2, b3⟩ := b
  unfold keysM aheadM
  simp only [orM_cons, orM_nil]
  rcases cmpM_range a0 b0 with ⟨h0, k0⟩ | ⟨h0, k0⟩ | ⟨h0, k0⟩
  · have n0 : ¬ a0 = b0 := by omega
    simp [h0, n0, k0]
  · subst k0
    rcases cmpM_range a1 b1 with ⟨h1, k1⟩ | ⟨h1, k1⟩ | ⟨h1, k1⟩
    · have n1 : ¬ a1 = b1 := by omega
      simp [h0, h1, n1, k1]
    · subst k1
      rcases cmpM_range a2 b2 with ⟨h2, k2⟩ | ⟨h2, k2⟩ | ⟨h2, k2⟩
      · have n2 : ¬ a2 = b2 := by omega
        simp [h0, h1, h2, n2, k2]
      · subst k2
        simp [h0, h1, h2]
      · have n2 : ¬ a2 = b2 := by omega
        have m2 : ¬ a2 < b2 := by omega
        have m2' : b2 ≤ a2 := by omega
        simp [h0, h1, h2, n2, m2, m2']
    · have n1 : ¬ a1 = b1 := by omega
      have m1 : ¬ a1 < b1 := by omega
      have m1' : b1 ≤ a1 := by omega
      simp [h0, h1, n1, m1, m1']
  · have n0 : ¬ a0 = b0 := by omega
    have m0 : ¬ a0 < b0 := by omega
    have m0' : b0 ≤ a0 := by omega
    simp [h0, n0, m0, m0']
theorem isNaN64 (a : Int) (w : World) : Calls Tryz.prog 166 #[.int .i64 a] w fun e w' => e = .returned (.bool false) ∧ w' = w := by
  have hf : (a != a) = false := by simp
  go_enter Tryz.func166, Tryz.ntmps166
  go_wp2
  go_ret
  exact ⟨rfl, rfl⟩

set_option maxHeartbeats 400000 in
theorem cmpCompare (a b : Int) (w : World) : Calls Tryz.prog 156 #[.int .i64 a, .int .i64 b] w fun e w' => e = .returned (.int .i64 (cmpM a b)) ∧ w' = w := by
  rcases cmpM_range a b with ⟨h, k⟩ | ⟨h, k⟩ | ⟨h, k⟩
  all_goals
    have H := Lib.hid h
    clear h
    first
      | (have k2 : ¬ b < a := by omega)
      | skip
    go_enter Tryz.func156, Tryz.ntmps156
    go_wp2_with (go_at_call 166; refine (isNaN64 _ _).mono ?_; rintro e w1 ⟨rfl, rfl⟩)
    go_ret
    exact ⟨by rw [H.out]; rfl, rfl⟩

/-- A row of numbers. -/
def Ints (w : World) (g : Nat) (l : List Int) : Prop := ∀ (k : Nat) (x : Int), l[k]? = some x → w.cell? ⟨g, k, none⟩ = some (.int .i64 x)
def OrRel (w : World) (l : List Int) (n : Nat) (i : Value) (wr : World) : Prop :=
  ∃ k : Nat, k ≤ n ∧ i = .int .i64 k ∧ orM (l.drop k) = orM l ∧ wr = w

set_option maxHeartbeats 400000 in
theorem cmpOr (g n c : Nat) (l : List Int) (w : World) (hl : Ints w g l) (hn : l.length = n) (hm : n ≤ 1000) :
    Calls Tryz.prog 162 #[.slice (some ⟨g, 0, none⟩) n c] w fun e w' => e = .returned (.int .i64 (orM l)) ∧ w' = w := by
  have Hn := Lib.hid hn
  clear hn
  go_enter Tryz.func162, Tryz.ntmps162
  go_wp2
  go_loopw [8] (fun i wr => OrRel w l n i wr) (fun i _ => n - (intOf i).toNat)
  case atStart => exact ⟨0, Nat.zero_le _, rfl, rfl, rfl⟩
  case round =>
    obtain ⟨k, hk, rfl, hd, rfl⟩ := hrel
    have Hd := Lib.hid hd
    clear hd
    by_cases hlt : k < n
    · have hkl : k < l.length := by rw [Hn.out]; exact hlt
      obtain ⟨x, hx⟩ : ∃ x, l[k]? = some x := ⟨l[k], List.getElem?_eq_getElem hkl⟩
      have hc := hl k x hx
      have Ho := Lib.hid (show orM (l.drop k) = if x = 0 then orM (l.drop (k + 1)) else x by
        rw [List.drop_eq_getElem_cons hkl, orM_cons]
        rw [List.getElem?_eq_getElem hkl] at hx
        rw [Option.some.inj hx])
      clear hx
      by_cases h0 : x = 0
      · subst h0
        go_wp2
        refine ⟨⟨k + 1, by omega, by go_num, ?_, rfl⟩, by simp [intOf]; omega⟩
        have := Ho.out
        rw [if_pos rfl] at this
        rw [← this]
        exact Hd.out
      · have hne : (x != 0) = true := by simpa using h0
        have Hx := Lib.hid (show orM l = x by rw [← Hd.out, Ho.out, if_neg h0])
        clear h0
        go_wp2
        go_ret
        exact ⟨by rw [Hx.out]; rfl, rfl⟩
    · obtain rfl : k = n := by omega
      have Hf := Lib.hid (show orM l = 0 by rw [← Hd.out, List.drop_eq_nil_of_le (Nat.le_of_eq Hn.out)]; rfl)
      go_wp2
      go_ret
      exact ⟨by rw [Hf.out]; rfl, rfl⟩
end Go.Proofs.YtmaillakhhdkfaaGreatDoor
/-
  What is ahead of what, and what has one key: the program's answers and the model's.
-/
namespace Go.Proofs.YtmaillakhhdkfaaGreatDoor
set_option maxRecDepth 20000
open Go.RowKit

theorem ints_three {w : World} {t : TypeId} {x y z : Int} {g : Nat} (hg : w.heap.size = g) : Ints ((w.alloc (.cells #[.int .i64 x, .int .i64 y, .int .i64 z] t)).drew) g [x, y, z] := by
  subst hg
  have h := At.new w t #[.int .i64 x, .int .i64 y, .int .i64 z]
  intro k u hk
  match k, hk with
  | 0, hk => obtain rfl : x = u := by simpa using hk
             exact h.cell 0
  | 1, hk => obtain rfl : y = u := by simpa using hk
             exact h.cell 1
  | 2, hk => obtain rfl : z = u := by simpa using hk
             exact h.cell 2
  | k + 3, hk => simp at hk

set_option maxHeartbeats 1000000 in
set_option maxRecDepth 2000 in
theorem compareKeys (a0 a1 a2 a3 b0 b1 b2 b3 : Int) (w : World) :
    Calls Tryz.prog 152 #[.agg #[.int .i64 a0, .int .i64 a1, .int .i64 a2, .int .i64 a3], .agg #[.int .i64 b0, .int .i64 b1, .int .i64 b2, .int .i64 b3]] w fun e w' =>
      e = .returned (.int .i64 (keysM (a0, a1, a2, a3) (b0, b1, b2, b3))) ∧ Below w.heap.size w w' := by
  go_enter Tryz.func152, Tryz.ntmps152
  go_wp2
  refine wp_region_mix [(0, false), (1, false), (2, false), (3, false), (5, false), (6, false), (7, false), (8, false), (10, false), (11, false), (12, false), (13, false), (4, true), (9, true), (14, true), (15, true), (16, true), (17, false)] (fun u => u.cell? ⟨w.heap.size, 0, none⟩ = some (.int .i64 a0) ∧ u.cell? ⟨w.heap.size, 1, none⟩ = some (.int .i64 a1) ∧ u.cell? ⟨w.heap.size, 2, none⟩ = some (.int .i64 a2) ∧ u.cell? ⟨w.heap.size + 1, 0, none⟩ = some (.int .i64 b0) ∧ u.cell? ⟨w.heap.size + 1, 1, none⟩ = some (.int .i64 b1) ∧ u.cell? ⟨w.heap.size + 1, 2, none⟩ = some (.int .i64 b2)) (by kernel_rfl) (by kernel_rfl) (fun _ _ _ _ _ h => h) (by go_simp) ?_
  simp only [mixOps, List.map_cons, List.map_nil, List.getElem?_cons_succ, List.getElem?_cons_zero, Option.getD_some]
  repeat (first
    | (refine mix_skip (by rfl) ?_
       (try simp only [Act.put, List.setIfInBounds_toArray, List.set_cons_zero, List.set_cons_succ]))
    | (refine mix_pure (v := ?_) (by rfl) (fun u hu => ?_) ?_
       rotate_left
       · obtain ⟨_, _, _, _, _, _⟩ := hu
         go_simp
         (with_reducible rfl)
       (try simp only [Act.put, List.setIfInBounds_toArray, List.set_cons_zero, List.set_cons_succ])))
  iterate 3
    refine mix_call (by rfl) (fun K hK => ?_)
    go_simp
    refine (cmpCompare _ _ _).mono ?_
    rintro e w1 ⟨rfl, rfl⟩
    refine hK _ _ _ (fun _ h => h) (by go_simp) ?_
    (try simp only [Act.put, List.setIfInBounds_toArray, List.set_cons_zero, List.set_cons_succ])
  refine mix_call (by rfl) (fun K hK => ?_)
  go_simp
  refine hK _ _ _ (fun _ h => h) (by go_simp) ?_
  (try simp only [Act.put, List.setIfInBounds_toArray, List.set_cons_zero, List.set_cons_succ])
  refine mix_call (by rfl) (fun K hK => ?_)
  go_simp
  refine (cmpOr _ 3 _ [cmpM a0 b0, cmpM a1 b1, cmpM a2 b2] _ (ints_three (by simp)) rfl (by omega)).mono ?_
  rintro e w1 ⟨rfl, rfl⟩
  refine hK _ _ _ (fun _ h => h) (by go_simp) ?_
  (try simp only [Act.put, List.setIfInBounds_toArray, List.set_cons_zero, List.set_cons_succ])
  refine mix_pure (v := ?_) (by rfl) (fun u hu => ?_) ?_
  rotate_left
  · go_simp
    (with_reducible rfl)
  (try simp only [Act.put, List.setIfInBounds_toArray, List.set_cons_zero, List.set_cons_succ])
  refine mix_nil ?_
  go_wp2
  go_ret
  exact ⟨rfl, (((Below.refl _ _).alloc (Nat.le_refl _) _).alloc (by simp) _).alloc (by simp; omega) _ |>.drew⟩

theorem implIsAhead (a0 a1 a2 a3 b0 b1 b2 b3 : Int) (w : World) :
    Calls Tryz.prog 140 #[.agg #[.int .i64 a0, .int .i64 a1, .int .i64 a2, .int .i64 a3], .agg #[.int .i64 b0, .int .i64 b1, .int .i64 b2, .int .i64 b3]] w fun e w' =>
      e = .returned (.bool (aheadM (a0, a1, a2, a3) (b0, b1, b2, b3))) ∧ Below w.heap.size w w' := by
  go_enter Tryz.func140, Tryz.ntmps140
  go_wp2_with (go_at_call 152; refine (compareKeys a0 a1 a2 a3 b0 b1 b2 b3 _).mono ?_; rintro e w1 ⟨rfl, hb1⟩)
  go_ret
  exact ⟨by rw [← keysM_ahead]; rfl, (((Below.refl _ _).alloc (Nat.le_refl _) _).alloc (by simp) _).trans (hb1.mono (by simp; omega))⟩

theorem specIsAhead (a0 a1 a2 a3 b0 b1 b2 b3 : Int) (w : World) :
    Calls Tryz.prog 116 #[.agg #[.int .i64 a0, .int .i64 a1, .int .i64 a2, .int .i64 a3], .agg #[.int .i64 b0, .int .i64 b1, .int .i64 b2, .int .i64 b3]] w fun e w' =>
      e = .returned (.bool (aheadM (a0, a1, a2, a3) (b0, b1, b2, b3))) ∧ Below w.heap.size w w' := by
  by_cases h0 : a0 = b0
  · subst h0
    have hm : aheadM (a0, a1, a2, a3) (a0, b1, b2, b3) = (decide (a1 < b1) || (decide (a1 = b1) && decide (a2 < b2))) := by simp [aheadM]
    have h00 : (a0 != a0) = false := by simp
    have Hm := Lib.hid hm
    clear hm
    by_cases h1 : a1 < b1
    · have d1 := decide_eq_true h1
      go_enter Tryz.func116, Tryz.ntmps116
      go_wp2
      go_ret
      exact ⟨by rw [Hm.out, d1]; rfl, ((Below.refl _ _).alloc (Nat.le_refl _) _).alloc (by simp) _⟩
    · have d1 := decide_eq_false h1
      by_cases h2 : a1 = b1
      · subst h2
        have d2 : (a1 == a1) = true := by simp
        go_enter Tryz.func116, Tryz.ntmps116
        go_wp2
        go_ret
        exact ⟨by rw [Hm.out]; simp, ((Below.refl _ _).alloc (Nat.le_refl _) _).alloc (by simp) _⟩
      · have d2 : (a1 == b1) = false := by simpa using h2
        have Hd := Lib.hid (decide_eq_false h2)
        clear h2
        go_enter Tryz.func116, Tryz.ntmps116
        go_wp2
        go_ret
        exact ⟨by rw [Hm.out, d1, Hd.out]; rfl, ((Below.refl _ _).alloc (Nat.le_refl _) _).alloc (by simp) _⟩
  · have hm : aheadM (a0, a1, a2, a3) (b0, b1, b2, b3) = decide (a0 < b0) := by simp [aheadM, h0]
    have hne : (a0 != b0) = true := by rw [bne_iff_ne]; exact h0
    have Hm := Lib.hid hm
    clear hm h0
    go_enter Tryz.func116, Tryz.ntmps116
    go_wp2
    go_ret
    exact ⟨by rw [Hm.out]; rfl, ((Below.refl _ _).alloc (Nat.le_refl _) _).alloc (by simp) _⟩

theorem specIsSameKey (a0 a1 a2 a3 b0 b1 b2 b3 : Int) (w : World) :
    Calls Tryz.prog 139 #[.agg #[.int .i64 a0, .int .i64 a1, .int .i64 a2, .int .i64 a3], .agg #[.int .i64 b0, .int .i64 b1, .int .i64 b2, .int .i64 b3]] w fun e w' =>
      e = .returned (.bool (sameKeyM (a0, a1, a2, a3) (b0, b1, b2, b3))) ∧ Below w.heap.size w w' := by
  have Hm := Lib.hid (show sameKeyM (a0, a1, a2, a3) (b0, b1, b2, b3) = (decide (a0 = b0) && (decide (a1 = b1) && decide (a2 = b2))) from rfl)
  by_cases h0 : a0 = b0
  · subst h0
    have d0 : (a0 == a0) = true := by simp
    by_cases h1 : a1 = b1
    · subst h1
      have d1 : (a1 == a1) = true := by simp
      go_enter Tryz.func139, Tryz.ntmps139
      go_wp2
      go_ret
      exact ⟨by rw [Hm.out]; simp; rfl, ((Below.refl _ _).alloc (Nat.le_refl _) _).alloc (by simp) _⟩
    · have d1 : (a1 == b1) = false := by simpa using h1
      have Hd := Lib.hid (decide_eq_false h1)
      clear h1
      go_enter Tryz.func139, Tryz.ntmps139
      go_wp2
      go_ret
      exact ⟨by rw [Hm.out, Hd.out]; simp, ((Below.refl _ _).alloc (Nat.le_refl _) _).alloc (by simp) _⟩
  · have d0 : (a0 == b0) = false := by simpa using h0
    have Hd := Lib.hid (decide_eq_false h0)
    clear h0
    go_enter Tryz.func139, Tryz.ntmps139
    go_wp2
    go_ret
    exact ⟨by rw [Hm.out, Hd.out]; rfl, ((Below.refl _ _).alloc (Nat.le_refl _) _).alloc (by simp) _⟩

theorem At.four {w : World} {g : Nat} {t : TypeId} {a b c d : Value} (h : At w g t #[a, b, c, d]) : w.cell? ⟨g, 0, none⟩ = some a ∧ w.cell? ⟨g, 1, none⟩ = some b ∧ w.cell? ⟨g, 2, none⟩ = some c ∧ w.cell? ⟨g, 3, none⟩ = some d ∧ w.frozen? ⟨g, 0, none⟩ = false ∧ w.frozen? ⟨g, 1, none⟩ = false ∧ w.frozen? ⟨g, 2, none⟩ = false ∧ w.frozen? ⟨g, 3, none⟩ = false :=
  ⟨h.cell 0, h.cell 1, h.cell 2, h.cell 3, h.frozen 0, h.frozen 1, h.frozen 2, h.frozen 3⟩
theorem At.drew {w : World} {g : Nat} {t : TypeId} {cs : Array Value} (h : At w g t cs) : At w.drew g t cs := h
end Go.Proofs.YtmaillakhhdkfaaGreatDoor
/-
  A sample's bounds: SampleFault on both sides, and the table of fields that the program reads.
-/
namespace Go.Proofs.YtmaillakhhdkfaaGreatDoor
set_option maxRecDepth 20000
open Go.RowKit

/-- The table's cells. -/
def fldCells : List Value := [.int .i64 0, .int .i64 1, .int .i64 0, .int .i64 9, .int .i64 1, .int .i64 2, .int .i64 0, .int .i64 999, .int .i64 3, .int .i64 2, .int .i64 0, .int .i64 9999, .int .i64 5, .int .i64 2, .int .i64 (-1000), .int .i64 1000]
/-- The program's table of fields, as start-up laid it. -/
def Flds (w : World) : Prop := ∀ (i : Nat) (u : Value), fldCells[i]? = some u → w.cell? ⟨1, i, none⟩ = some u
theorem Flds.pos {w : World} (h : Flds w) : 1 < w.heap.size := World.block_lt_of_cell? w ⟨1, 0, none⟩ (h 0 _ rfl)
theorem Flds.below {w w' : World} (h : Flds w) (hb : Below w.heap.size w w') : Flds w' := fun i u hu => by
  rw [hb.cell (p := ⟨1, i, none⟩) h.pos]
  exact h i u hu
theorem Flds.all {w : World} (h : Flds w) : w.cell? ⟨1, 0, none⟩ = some (.int .i64 0) ∧ w.cell? ⟨1, 1, none⟩ = some (.int .i64 1) ∧ w.cell? ⟨1, 2, none⟩ = some (.int .i64 0) ∧ w.cell? ⟨1, 3, none⟩ = some (.int .i64 9) ∧ w.cell? ⟨1, 4, none⟩ = some (.int .i64 1) ∧ w.cell? ⟨1, 5, none⟩ = some (.int .i64 2) ∧ w.cell? ⟨1, 6, none⟩ = some (.int .i64 0) ∧ w.cell? ⟨1, 7, none⟩ = some (.int .i64 999) ∧ w.cell? ⟨1, 8, none⟩ = some (.int .i64 3) ∧ w.cell? ⟨1, 9, none⟩ = some (.int .i64 2) ∧ w.cell? ⟨1, 10, none⟩ = some (.int .i64 0) ∧ w.cell? ⟨1, 11, none⟩ = some (.int .i64 9999) ∧ w.cell? ⟨1, 12, none⟩ = some (.int .i64 5) ∧ w.cell? ⟨1, 13, none⟩ = some (.int .i64 2) ∧ w.cell? ⟨1, 14, none⟩ = some (.int .i64 (-1000)) ∧ w.cell? ⟨1, 15, none⟩ = some (.int .i64 1000) :=
  ⟨h 0 _ rfl, h 1 _ rfl, h 2 _ rfl, h 3 _ rfl, h 4 _ rfl, h 5 _ rfl, h 6 _ rfl, h 7 _ rfl, h 8 _ rfl, h 9 _ rfl, h 10 _ rfl, h 11 _ rfl, h 12 _ rfl, h 13 _ rfl, h 14 _ rfl, h 15 _ rfl⟩

/-- An answer of a code and a sample. -/
def RetSR (r : Int × Smp) (w : World) (e : Ending) (w' : World) : Prop :=
  e = .returned (.agg #[.int .i64 r.1, .int .i64 r.2.1, .int .i64 r.2.2.1, .int .i64 r.2.2.2.1, .int .i64 r.2.2.2.2]) ∧ Below w.heap.size w w'
def RetS (r : Smp) (w : World) (e : Ending) (w' : World) : Prop :=
  e = .returned (.agg #[.int .i64 r.1, .int .i64 r.2.1, .int .i64 r.2.2.1, .int .i64 r.2.2.2]) ∧ Below w.heap.size w w'

theorem At.five {w : World} {g : Nat} {t : TypeId} {a b c d e : Value} (h : At w g t #[a, b, c, d, e]) : w.cell? ⟨g, 0, none⟩ = some a ∧ w.cell? ⟨g, 1, none⟩ = some b ∧ w.cell? ⟨g, 2, none⟩ = some c ∧ w.cell? ⟨g, 3, none⟩ = some d ∧ w.cell? ⟨g, 4, none⟩ = some e ∧ w.frozen? ⟨g, 0, none⟩ = false ∧ w.frozen? ⟨g, 1, none⟩ = false ∧ w.frozen? ⟨g, 2, none⟩ = false ∧ w.frozen? ⟨g, 3, none⟩ = false ∧ w.frozen? ⟨g, 4, none⟩ = false :=
  ⟨h.cell 0, h.cell 1, h.cell 2, h.cell 3, h.cell 4, h.frozen 0, h.frozen 1, h.frozen 2, h.frozen 3, h.frozen 4⟩

def bndsM (x : Smp) : List (Int × Int × Int) := [(x.1, 0, 9), (x.2.1, 0, 999), (x.2.2.1, 0, 9999), (x.2.2.2, -1000, 1000)]
def faultM (x : Smp) : Int := if (bndsM x).all inB then 0 else 3

theorem numbersOf (a0 a1 a2 a3 : Int) (w : World) :
    Calls Tryz.prog 111 #[.agg #[.int .i64 a0, .int .i64 a1, .int .i64 a2, .int .i64 a3]] w fun e w' => e = .returned (.agg #[.int .i64 a0, .int .i64 a1, .int .i64 a2, .int .i64 a3]) ∧ Below w.heap.size w w' := by
  go_enter Tryz.func111, Tryz.ntmps111
  go_wp2
  refine bodyPost_ret (v := .agg #[.int .i64 a0, .int .i64 a1, .int .i64 a2, .int .i64 a3]) (by simp [results, Tryz.results111, go_sem]) rfl ?_
  exact ⟨rfl, ((Below.refl _ _).alloc (Nat.le_refl _) _).alloc (by simp) _⟩

def FaultRel (w : World) (x : Smp) (i : Value) (wr : World) : Prop :=
  ∃ k : Nat, k ≤ 4 ∧ i = .int .i64 k ∧ (∀ j b, j < k → (bndsM x)[j]? = some b → inB b = true) ∧ Below w.heap.size w wr
theorem fault_no {x : Smp} {k : Nat} {b : Int × Int × Int} (h : (bndsM x)[k]? = some b) (hb : inB b = false) : faultM x = 3 := by
  unfold faultM
  rw [all_no h hb]
  rfl
theorem fault_yes {x : Smp} (h : ∀ j b, j < 4 → (bndsM x)[j]? = some b → inB b = true) : faultM x = 0 := by
  unfold faultM
  rw [all_yes (n := 4) rfl h]
  rfl
theorem faultM_or (x : Smp) : faultM x = 0 ∨ faultM x = 3 := by
  unfold faultM
  split
  · exact .inl rfl
  · exact .inr rfl
theorem bnds_one_drew {w : World} {t : TypeId} {x lo hi : Int} {g : Nat} (hg : w.heap.size = g) : Bnds ((w.alloc (.cells #[.int .i64 x, .int .i64 lo, .int .i64 hi] t)).drew) g [(x, lo, hi)] := bnds_one (w := w) (t := t) hg
theorem fldAt0 (u : World) : (Instr.index 155 (.agg #[.int .i64 0, .int .i64 1, .int .i64 0, .int .i64 9, .int .i64 1, .int .i64 2, .int .i64 0, .int .i64 999, .int .i64 3, .int .i64 2, .int .i64 0, .int .i64 9999, .int .i64 5, .int .i64 2, .int .i64 (-1000), .int .i64 1000]) (.int .i64 0)).run Tryz.prog u = .ok (.agg #[.int .i64 0, .int .i64 1, .int .i64 0, .int .i64 9]) u := by kernel_rfl
theorem fldAt1 (u : World) : (Instr.index 155 (.agg #[.int .i64 0, .int .i64 1, .int .i64 0, .int .i64 9, .int .i64 1, .int .i64 2, .int .i64 0, .int .i64 999, .int .i64 3, .int .i64 2, .int .i64 0, .int .i64 9999, .int .i64 5, .int .i64 2, .int .i64 (-1000), .int .i64 1000]) (.int .i64 1)).run Tryz.prog u = .ok (.agg #[.int .i64 1, .int .i64 2, .int .i64 0, .int .i64 999]) u := by kernel_rfl
theorem fldAt2 (u : World) : (Instr.index 155 (.agg #[.int .i64 0, .int .i64 1, .int .i64 0, .int .i64 9, .int .i64 1, .int .i64 2, .int .i64 0, .int .i64 999, .int .i64 3, .int .i64 2, .int .i64 0, .int .i64 9999, .int .i64 5, .int .i64 2, .int .i64 (-1000), .int .i64 1000]) (.int .i64 2)).run Tryz.prog u = .ok (.agg #[.int .i64 3, .int .i64 2, .int .i64 0, .int .i64 9999]) u := by kernel_rfl
theorem fldAt3 (u : World) : (Instr.index 155 (.agg #[.int .i64 0, .int .i64 1, .int .i64 0, .int .i64 9, .int .i64 1, .int .i64 2, .int .i64 0, .int .i64 999, .int .i64 3, .int .i64 2, .int .i64 0, .int .i64 9999, .int .i64 5, .int .i64 2, .int .i64 (-1000), .int .i64 1000]) (.int .i64 3)).run Tryz.prog u = .ok (.agg #[.int .i64 5, .int .i64 2, .int .i64 (-1000), .int .i64 1000]) u := by kernel_rfl

set_option maxRecDepth 100000 in
set_option maxHeartbeats 2000000 in
theorem implSampleFault (a0 a1 a2 a3 : Int) (w : World) (hF : Flds w) :
    Calls Tryz.prog 60 #[.agg #[.int .i64 a0, .int .i64 a1, .int .i64 a2, .int .i64 a3]] w fun e w' => e = .returned (.int .i64 (faultM (a0, a1, a2, a3))) ∧ Below w.heap.size w w' := by
  have hA0 : Below w.heap.size w (w.alloc (.cells #[.int .i64 a0, .int .i64 a1, .int .i64 a2, .int .i64 a3] 25)) := (Below.refl _ _).alloc (Nat.le_refl _) _
  go_enter Tryz.func60, Tryz.ntmps60
  go_wp2_with fail
  refine (numbersOf a0 a1 a2 a3 _).mono ?_
  rintro e w1 ⟨rfl, hb1⟩
  have hB1 : Below w.heap.size w w1 := hA0.trans (hb1.mono hA0.size)
  have hp1 := (hF.below hB1).pos
  obtain ⟨c0, c1, c2, c3, c4, c5, c6, c7, c8, c9, c10, c11, c12, c13, c14, c15⟩ := (hF.below hB1).all
  have hN := At.new w1 151 #[.int .i64 a0, .int .i64 a1, .int .i64 a2, .int .i64 a3]
  have hS2 : (w1.alloc (.cells #[.int .i64 a0, .int .i64 a1, .int .i64 a2, .int .i64 a3] 151)).heap.size = w1.heap.size + 1 := by simp
  have hB2 : Below w.heap.size w (w1.alloc (.cells #[.int .i64 a0, .int .i64 a1, .int .i64 a2, .int .i64 a3] 151)) := hB1.alloc hB1.size _
  go_wp2_with fail
  clear c0 c1 c2 c3 c4 c5 c6 c7 c8 c9 c10 c11 c12 c13 c14 c15
  go_loopw [9] (fun i wr => FaultRel (w1.alloc (.cells #[.int .i64 a0, .int .i64 a1, .int .i64 a2, .int .i64 a3] 151)) (a0, a1, a2, a3) i wr) (fun i _ => 4 - (intOf i).toNat)
  case atStart => exact ⟨0, by omega, rfl, fun _ _ h => absurd h (by omega), Below.refl _ _⟩
  case round =>
    obtain ⟨k, hk, rfl, hal, hbel⟩ := hrel
    have Hal := Lib.hid hal
    clear hal
    have hsz := hbel.size
    have hN' := hN.below hbel (by simp)
    obtain ⟨n0, n1, n2, n3, _, _, _, _⟩ := hN'.four
    have hlt := hN'.lt
    rw [hS2] at hsz
    rcases (show k = 0 ∨ k = 1 ∨ k = 2 ∨ k = 3 ∨ k = 4 by omega) with rfl | rfl | rfl | rfl | rfl
    · have Hb := Lib.hid (show (bndsM (a0, a1, a2, a3))[0]? = some (a0, 0, 9) from rfl)
      have hidx := fldAt0 wr
      go_wp2
      refine wp_region_mix [(0, false), (1, false), (2, false), (3, false), (4, false), (5, false), (6, false), (7, false), (8, true), (9, true), (10, false)] (fun u => u.cell? ⟨w1.heap.size, 0, none⟩ = some (.int .i64 a0) ∧ u.cell? ⟨wr.heap.size, 2, none⟩ = some (.int .i64 0) ∧ u.cell? ⟨wr.heap.size, 3, none⟩ = some (.int .i64 9)) (by kernel_rfl) (by kernel_rfl) (fun _ _ _ _ _ h => h) (by go_simp) ?_
      simp only [mixOps, List.map_cons, List.map_nil, List.getElem?_cons_succ, List.getElem?_cons_zero, Option.getD_some]
      repeat (first
        | (refine mix_skip (by rfl) ?_
           (try simp only [Act.put, List.setIfInBounds_toArray, List.set_cons_zero, List.set_cons_succ]))
        | (refine mix_pure (v := ?_) (by rfl) (fun u hu => ?_) ?_
           rotate_left
           · obtain ⟨_, _, _⟩ := hu
             go_simp
             (with_reducible rfl)
           (try simp only [Act.put, List.setIfInBounds_toArray, List.set_cons_zero, List.set_cons_succ])))
      refine mix_call (by rfl) (fun K hK => ?_)
      go_simp
      refine hK _ _ _ (fun _ h => h) (by go_simp) ?_
      (try simp only [Act.put, List.setIfInBounds_toArray, List.set_cons_zero, List.set_cons_succ])
      refine mix_call (by rfl) (fun K hK => ?_)
      go_simp
      refine (areWithin_any _ _ _ [(a0, 0, 9)] _ (bnds_one_drew (by simp)) (by simp) rfl (by simp)).mono ?_
      rintro e w2 ⟨rfl, hb2⟩
      have HA := hbel.alloc hbel.size (.cells #[.int .i64 0, .int .i64 1, .int .i64 0, .int .i64 9] 154)
      have HC := (HA.alloc HA.size (.cells #[.int .i64 a0, .int .i64 0, .int .i64 9] 99)).drew
      have HD := HC.trans (hb2.mono HC.size)
      refine hK _ _ _ (fun _ h => h) ⟨(hb2.cell (p := ⟨w1.heap.size, 0, none⟩) (by simp; omega)).trans (by go_simp), (hb2.cell (p := ⟨wr.heap.size, 2, none⟩) (by simp; omega)).trans (by go_simp), (hb2.cell (p := ⟨wr.heap.size, 3, none⟩) (by simp; omega)).trans (by go_simp)⟩ ?_
      (try simp only [Act.put, List.setIfInBounds_toArray, List.set_cons_zero, List.set_cons_succ])
      by_cases hin : inB (a0, 0, 9) = true
      · have hq : [(a0, 0, 9)].all inB = true := by simp [hin]
        rw [hq]
        have Hin := Lib.hid hin
        clear hin hq
        refine mix_pure (v := ?_) (by rfl) (fun u hu => ?_) ?_
        rotate_left
        · go_simp
          (with_reducible rfl)
        (try simp only [Act.put, List.setIfInBounds_toArray, List.set_cons_zero, List.set_cons_succ])
        refine mix_nil ?_
        go_wp2
        refine ⟨⟨0 + 1, by omega, by go_num, fun j b hj hb => ?_, HD⟩, by simp [intOf]⟩
        rcases Nat.lt_or_ge j 0 with h | h
        · exact Hal.out j b h hb
        · obtain rfl : j = 0 := by omega
          obtain rfl := Option.some.inj (Hb.out.symm.trans hb)
          exact Hin.out
      · have hq : [(a0, 0, 9)].all inB = false := by simpa using hin
        rw [hq]
        have Hf := Lib.hid (fault_no Hb.out (by simpa using hin))
        clear hin hq
        refine mix_pure (v := ?_) (by rfl) (fun u hu => ?_) ?_
        rotate_left
        · go_simp
          (with_reducible rfl)
        (try simp only [Act.put, List.setIfInBounds_toArray, List.set_cons_zero, List.set_cons_succ])
        refine mix_nil ?_
        go_wp2
        go_ret
        exact ⟨by rw [Hf.out]; rfl, hB2.trans (HD.mono hB2.size)⟩
    · have Hb := Lib.hid (show (bndsM (a0, a1, a2, a3))[1]? = some (a1, 0, 999) from rfl)
      have hidx := fldAt1 wr
      go_wp2
      refine wp_region_mix [(0, false), (1, false), (2, false), (3, false), (4, false), (5, false), (6, false), (7, false), (8, true), (9, true), (10, false)] (fun u => u.cell? ⟨w1.heap.size, 1, none⟩ = some (.int .i64 a1) ∧ u.cell? ⟨wr.heap.size, 2, none⟩ = some (.int .i64 0) ∧ u.cell? ⟨wr.heap.size, 3, none⟩ = some (.int .i64 999)) (by kernel_rfl) (by kernel_rfl) (fun _ _ _ _ _ h => h) (by go_simp) ?_
      simp only [mixOps, List.map_cons, List.map_nil, List.getElem?_cons_succ, List.getElem?_cons_zero, Option.getD_some]
      repeat (first
        | (refine mix_skip (by rfl) ?_
           (try simp only [Act.put, List.setIfInBounds_toArray, List.set_cons_zero, List.set_cons_succ]))
        | (refine mix_pure (v := ?_) (by rfl) (fun u hu => ?_) ?_
           rotate_left
           · obtain ⟨_, _, _⟩ := hu
             go_simp
             (with_reducible rfl)
           (try simp only [Act.put, List.setIfInBounds_toArray, List.set_cons_zero, List.set_cons_succ])))
      refine mix_call (by rfl) (fun K hK => ?_)
      go_simp
      refine hK _ _ _ (fun _ h => h) (by go_simp) ?_
      (try simp only [Act.put, List.setIfInBounds_toArray, List.set_cons_zero, List.set_cons_succ])
      refine mix_call (by rfl) (fun K hK => ?_)
      go_simp
      refine (areWithin_any _ _ _ [(a1, 0, 999)] _ (bnds_one_drew (by simp)) (by simp) rfl (by simp)).mono ?_
      rintro e w2 ⟨rfl, hb2⟩
      have HA := hbel.alloc hbel.size (.cells #[.int .i64 1, .int .i64 2, .int .i64 0, .int .i64 999] 154)
      have HC := (HA.alloc HA.size (.cells #[.int .i64 a1, .int .i64 0, .int .i64 999] 99)).drew
      have HD := HC.trans (hb2.mono HC.size)
      refine hK _ _ _ (fun _ h => h) ⟨(hb2.cell (p := ⟨w1.heap.size, 1, none⟩) (by simp; omega)).trans (by go_simp), (hb2.cell (p := ⟨wr.heap.size, 2, none⟩) (by simp; omega)).trans (by go_simp), (hb2.cell (p := ⟨wr.heap.size, 3, none⟩) (by simp; omega)).trans (by go_simp)⟩ ?_
      (try simp only [Act.put, List.setIfInBounds_toArray, List.set_cons_zero, List.set_cons_succ])
      by_cases hin : inB (a1, 0, 999) = true
      · have hq : [(a1, 0, 999)].all inB = true := by simp [hin]
        rw [hq]
        have Hin := Lib.hid hin
        clear hin hq
        refine mix_pure (v := ?_) (by rfl) (fun u hu => ?_) ?_
        rotate_left
        · go_simp
          (with_reducible rfl)
        (try simp only [Act.put, List.setIfInBounds_toArray, List.set_cons_zero, List.set_cons_succ])
        refine mix_nil ?_
        go_wp2
        refine ⟨⟨1 + 1, by omega, by go_num, fun j b hj hb => ?_, HD⟩, by simp [intOf]⟩
        rcases Nat.lt_or_ge j 1 with h | h
        · exact Hal.out j b h hb
        · obtain rfl : j = 1 := by omega
          obtain rfl := Option.some.inj (Hb.out.symm.trans hb)
          exact Hin.out
      · have hq : [(a1, 0, 999)].all inB = false := by simpa using hin
        rw [hq]
        have Hf := Lib.hid (fault_no Hb.out (by simpa using hin))
        clear hin hq
        refine mix_pure (v := ?_) (by rfl) (fun u hu => ?_) ?_
        rotate_left
        · go_simp
          (with_reducible rfl)
        (try simp only [Act.put, List.setIfInBounds_toArray, List.set_cons_zero, List.set_cons_succ])
        refine mix_nil ?_
        go_wp2
        go_ret
        exact ⟨by rw [Hf.out]; rfl, hB2.trans (HD.mono hB2.size)⟩
    · have Hb := Lib.hid (show (bndsM (a0, a1, a2, a3))[2]? = some (a2, 0, 9999) from rfl)
      have hidx := fldAt2 wr
      go_wp2
      refine wp_region_mix [(0, false), (1, false), (2, false), (3, false), (4, false), (5, false), (6, false), (7, false), (8, true), (9, true), (10, false)] (fun u => u.cell? ⟨w1.heap.size, 2, none⟩ = some (.int .i64 a2) ∧ u.cell? ⟨wr.heap.size, 2, none⟩ = some (.int .i64 0) ∧ u.cell? ⟨wr.heap.size, 3, none⟩ = some (.int .i64 9999)) (by kernel_rfl) (by kernel_rfl) (fun _ _ _ _ _ h => h) (by go_simp) ?_
      simp only [mixOps, List.map_cons, List.map_nil, List.getElem?_cons_succ, List.getElem?_cons_zero, Option.getD_some]
      repeat (first
        | (refine mix_skip (by rfl) ?_
           (try simp only [Act.put, List.setIfInBounds_toArray, List.set_cons_zero, List.set_cons_succ]))
        | (refine mix_pure (v := ?_) (by rfl) (fun u hu => ?_) ?_
           rotate_left
           · obtain ⟨_, _, _⟩ := hu
             go_simp
             (with_reducible rfl)
           (try simp only [Act.put, List.setIfInBounds_toArray, List.set_cons_zero, List.set_cons_succ])))
      refine mix_call (by rfl) (fun K hK => ?_)
      go_simp
      refine hK _ _ _ (fun _ h => h) (by go_simp) ?_
      (try simp only [Act.put, List.setIfInBounds_toArray, List.set_cons_zero, List.set_cons_succ])
      refine mix_call (by rfl) (fun K hK => ?_)
      go_simp
      refine (areWithin_any _ _ _ [(a2, 0, 9999)] _ (bnds_one_drew (by simp)) (by simp) rfl (by simp)).mono ?_
      rintro e w2 ⟨rfl, hb2⟩
      have HA := hbel.alloc hbel.size (.cells #[.int .i64 3, .int .i64 2, .int .i64 0, .int .i64 9999] 154)
      have HC := (HA.alloc HA.size (.cells #[.int .i64 a2, .int .i64 0, .int .i64 9999] 99)).drew
      have HD := HC.trans (hb2.mono HC.size)
      refine hK _ _ _ (fun _ h => h) ⟨(hb2.cell (p := ⟨w1.heap.size, 2, none⟩) (by simp; omega)).trans (by go_simp), (hb2.cell (p := ⟨wr.heap.size, 2, none⟩) (by simp; omega)).trans (by go_simp), (hb2.cell (p := ⟨wr.heap.size, 3, none⟩) (by simp; omega)).trans (by go_simp)⟩ ?_
      (try simp only [Act.put, List.setIfInBounds_toArray, List.set_cons_zero, List.set_cons_succ])
      by_cases hin : inB (a2, 0, 9999) = true
      · have hq : [(a2, 0, 9999)].all inB = true := by simp [hin]
        rw [hq]
        have Hin := Lib.hid hin
        clear hin hq
        refine mix_pure (v := ?_) (by rfl) (fun u hu => ?_) ?_
        rotate_left
        · go_simp
          (with_reducible rfl)
        (try simp only [Act.put, List.setIfInBounds_toArray, List.set_cons_zero, List.set_cons_succ])
        refine mix_nil ?_
        go_wp2
        refine ⟨⟨2 + 1, by omega, by go_num, fun j b hj hb => ?_, HD⟩, by simp [intOf]⟩
        rcases Nat.lt_or_ge j 2 with h | h
        · exact Hal.out j b h hb
        · obtain rfl : j = 2 := by omega
          obtain rfl := Option.some.inj (Hb.out.symm.trans hb)
          exact Hin.out
      · have hq : [(a2, 0, 9999)].all inB = false := by simpa using hin
        rw [hq]
        have Hf := Lib.hid (fault_no Hb.out (by simpa using hin))
        clear hin hq
        refine mix_pure (v := ?_) (by rfl) (fun u hu => ?_) ?_
        rotate_left
        · go_simp
          (with_reducible rfl)
        (try simp only [Act.put, List.setIfInBounds_toArray, List.set_cons_zero, List.set_cons_succ])
        refine mix_nil ?_
        go_wp2
        go_ret
        exact ⟨by rw [Hf.out]; rfl, hB2.trans (HD.mono hB2.size)⟩
    · have Hb := Lib.hid (show (bndsM (a0, a1, a2, a3))[3]? = some (a3, (-1000), 1000) from rfl)
      have hidx := fldAt3 wr
      go_wp2
      refine wp_region_mix [(0, false), (1, false), (2, false), (3, false), (4, false), (5, false), (6, false), (7, false), (8, true), (9, true), (10, false)] (fun u => u.cell? ⟨w1.heap.size, 3, none⟩ = some (.int .i64 a3) ∧ u.cell? ⟨wr.heap.size, 2, none⟩ = some (.int .i64 (-1000)) ∧ u.cell? ⟨wr.heap.size, 3, none⟩ = some (.int .i64 1000)) (by kernel_rfl) (by kernel_rfl) (fun _ _ _ _ _ h => h) (by go_simp) ?_
      simp only [mixOps, List.map_cons, List.map_nil, List.getElem?_cons_succ, List.getElem?_cons_zero, Option.getD_some]
      repeat (first
        | (refine mix_skip (by rfl) ?_
           (try simp only [Act.put, List.setIfInBounds_toArray, List.set_cons_zero, List.set_cons_succ]))
        | (refine mix_pure (v := ?_) (by rfl) (fun u hu => ?_) ?_
           rotate_left
           · obtain ⟨_, _, _⟩ := hu
             go_simp
             (with_reducible rfl)
           (try simp only [Act.put, List.setIfInBounds_toArray, List.set_cons_zero, List.set_cons_succ])))
      refine mix_call (by rfl) (fun K hK => ?_)
      go_simp
      refine hK _ _ _ (fun _ h => h) (by go_simp) ?_
      (try simp only [Act.put, List.setIfInBounds_toArray, List.set_cons_zero, List.set_cons_succ])
      refine mix_call (by rfl) (fun K hK => ?_)
      go_simp
      refine (areWithin_any _ _ _ [(a3, (-1000), 1000)] _ (bnds_one_drew (by simp)) (by simp) rfl (by simp)).mono ?_
      rintro e w2 ⟨rfl, hb2⟩
      have HA := hbel.alloc hbel.size (.cells #[.int .i64 5, .int .i64 2, .int .i64 (-1000), .int .i64 1000] 154)
      have HC := (HA.alloc HA.size (.cells #[.int .i64 a3, .int .i64 (-1000), .int .i64 1000] 99)).drew
      have HD := HC.trans (hb2.mono HC.size)
      refine hK _ _ _ (fun _ h => h) ⟨(hb2.cell (p := ⟨w1.heap.size, 3, none⟩) (by simp; omega)).trans (by go_simp), (hb2.cell (p := ⟨wr.heap.size, 2, none⟩) (by simp; omega)).trans (by go_simp), (hb2.cell (p := ⟨wr.heap.size, 3, none⟩) (by simp; omega)).trans (by go_simp)⟩ ?_
      (try simp only [Act.put, List.setIfInBounds_toArray, List.set_cons_zero, List.set_cons_succ])
      by_cases hin : inB (a3, (-1000), 1000) = true
      · have hq : [(a3, (-1000), 1000)].all inB = true := by simp [hin]
        rw [hq]
        have Hin := Lib.hid hin
        clear hin hq
        refine mix_pure (v := ?_) (by rfl) (fun u hu => ?_) ?_
        rotate_left
        · go_simp
          (with_reducible rfl)
        (try simp only [Act.put, List.setIfInBounds_toArray, List.set_cons_zero, List.set_cons_succ])
        refine mix_nil ?_
        go_wp2
        refine ⟨⟨3 + 1, by omega, by go_num, fun j b hj hb => ?_, HD⟩, by simp [intOf]⟩
        rcases Nat.lt_or_ge j 3 with h | h
        · exact Hal.out j b h hb
        · obtain rfl : j = 3 := by omega
          obtain rfl := Option.some.inj (Hb.out.symm.trans hb)
          exact Hin.out
      · have hq : [(a3, (-1000), 1000)].all inB = false := by simpa using hin
        rw [hq]
        have Hf := Lib.hid (fault_no Hb.out (by simpa using hin))
        clear hin hq
        refine mix_pure (v := ?_) (by rfl) (fun u hu => ?_) ?_
        rotate_left
        · go_simp
          (with_reducible rfl)
        (try simp only [Act.put, List.setIfInBounds_toArray, List.set_cons_zero, List.set_cons_succ])
        refine mix_nil ?_
        go_wp2
        go_ret
        exact ⟨by rw [Hf.out]; rfl, hB2.trans (HD.mono hB2.size)⟩
    · have Hf := Lib.hid (fault_yes Hal.out)
      go_wp2
      go_ret
      exact ⟨by rw [Hf.out]; rfl, hB2.trans (hbel.mono hB2.size)⟩

theorem specSampleFault (a0 a1 a2 a3 : Int) (w : World) :
    Calls Tryz.prog 115 #[.agg #[.int .i64 a0, .int .i64 a1, .int .i64 a2, .int .i64 a3]] w fun e w' => e = .returned (.int .i64 (faultM (a0, a1, a2, a3))) ∧ Below w.heap.size w w' := by
  by_cases h0 : inB (a0, 0, 9) = true
  rotate_left
  · have Hf := Lib.hid (fault_no (show (bndsM (a0, a1, a2, a3))[0]? = some (a0, 0, 9) from rfl) (by simpa using h0))
    have g0 : inB (a0, 0, 9) = false := by simpa using h0
    clear h0
    go_enter Tryz.func115, Tryz.ntmps115
    go_wp2_with (go_at_call 67; refine (l1In_any _ _ _ _).mono ?_; rintro e w1 ⟨rfl, rfl⟩)
    go_ret
    exact ⟨by rw [Hf.out]; rfl, (Below.refl _ _).alloc (Nat.le_refl _) _⟩
  by_cases h1 : inB (a1, 0, 999) = true
  rotate_left
  · have Hf := Lib.hid (fault_no (show (bndsM (a0, a1, a2, a3))[1]? = some (a1, 0, 999) from rfl) (by simpa using h1))
    have g1 : inB (a1, 0, 999) = false := by simpa using h1
    clear h1
    go_enter Tryz.func115, Tryz.ntmps115
    go_wp2_with (go_at_call 67; refine (l1In_any _ _ _ _).mono ?_; rintro e w1 ⟨rfl, rfl⟩)
    go_ret
    exact ⟨by rw [Hf.out]; rfl, (Below.refl _ _).alloc (Nat.le_refl _) _⟩
  by_cases h2 : inB (a2, 0, 9999) = true
  rotate_left
  · have Hf := Lib.hid (fault_no (show (bndsM (a0, a1, a2, a3))[2]? = some (a2, 0, 9999) from rfl) (by simpa using h2))
    have g2 : inB (a2, 0, 9999) = false := by simpa using h2
    clear h2
    go_enter Tryz.func115, Tryz.ntmps115
    go_wp2_with (go_at_call 67; refine (l1In_any _ _ _ _).mono ?_; rintro e w1 ⟨rfl, rfl⟩)
    go_ret
    exact ⟨by rw [Hf.out]; rfl, (Below.refl _ _).alloc (Nat.le_refl _) _⟩
  by_cases h3 : inB (a3, (-1000), 1000) = true
  rotate_left
  · have Hf := Lib.hid (fault_no (show (bndsM (a0, a1, a2, a3))[3]? = some (a3, (-1000), 1000) from rfl) (by simpa using h3))
    have g3 : inB (a3, (-1000), 1000) = false := by simpa using h3
    clear h3
    go_enter Tryz.func115, Tryz.ntmps115
    go_wp2_with (go_at_call 67; refine (l1In_any _ _ _ _).mono ?_; rintro e w1 ⟨rfl, rfl⟩)
    go_ret
    exact ⟨by rw [Hf.out]; rfl, (Below.refl _ _).alloc (Nat.le_refl _) _⟩
  have Hf := Lib.hid (show faultM (a0, a1, a2, a3) = 0 by simp [faultM, bndsM, h0, h1, h2, h3])
  go_enter Tryz.func115, Tryz.ntmps115
  go_wp2_with (go_at_call 67; refine (l1In_any _ _ _ _).mono ?_; rintro e w1 ⟨rfl, rfl⟩)
  go_ret
  exact ⟨by rw [Hf.out]; rfl, (Below.refl _ _).alloc (Nat.le_refl _) _⟩

end Go.Proofs.YtmaillakhhdkfaaGreatDoor
namespace Go.Proofs.YtmaillakhhdkfaaGreatDoor
set_option maxRecDepth 20000
open Go.RowKit

/-- The body of the frame at the front, if there is one. -/
def firstM (d : List UInt8) : Option (List UInt8) :=
  match d with
  | [] => none
  | b :: r => if 1 ≤ b.toNat ∧ b.toNat ≤ 40 ∧ b.toNat + 2 ≤ r.length ∧ d.take (b.toNat + 3) = frameL (r.take b.toNat) then some (r.take b.toNat) else none
theorem firstM_no {b : UInt8} {r : List UInt8} (h : ¬ (1 ≤ b.toNat ∧ b.toNat ≤ 40 ∧ b.toNat + 2 ≤ r.length ∧ (b :: r).take (b.toNat + 3) = frameL (r.take b.toNat))) : firstM (b :: r) = none := if_neg h
theorem firstM_yes {b : UInt8} {r : List UInt8} (h : 1 ≤ b.toNat ∧ b.toNat ≤ 40 ∧ b.toNat + 2 ≤ r.length ∧ (b :: r).take (b.toNat + 3) = frameL (r.take b.toNat)) : firstM (b :: r) = some (r.take b.toNat) := if_pos h
/-- How many bytes the frame at the front has. -/
def frontM (d : List UInt8) : Nat := match firstM d with | some b => b.length + 3 | none => 0
theorem frontM_no {d : List UInt8} (h : firstM d = none) : frontM d = 0 := by simp [frontM, h]

set_option maxHeartbeats 400000 in
theorem l1Front_nil (A : Option Addr) (c : Nat) (w : World) :
    Calls Tryz.prog 143 #[.slice A 0 c] w fun e w' => e = .returned (.int .i64 0) ∧ Below w.heap.size w w' := by
  go_enter Tryz.func143, Tryz.ntmps143
  go_wp2
  go_ret
  exact ⟨rfl, Below.refl _ _⟩

set_option maxHeartbeats 800000 in
/-- The length is none, or there are not so many bytes. -/
theorem l1Front_len (g o n c : Nat) (x : Nat) (w : World) (hx : x < 256) (cx : w.cell? ⟨g, o, none⟩ = some (.int .u8 (x : Int))) (h0 : 0 < n) (hm : n ≤ 1048576) (h : x < 1 ∨ 40 < x ∨ n < x + 3) :
    Calls Tryz.prog 143 #[.slice (some ⟨g, o, none⟩) n c] w fun e w' => e = .returned (.int .i64 0) ∧ Below w.heap.size w w' := by
  have hne : ((n : Int) == 0) = false := by simp; omega
  have hpos : (0 : Int) < (n : Int) := by omega
  by_cases h1 : x < 1
  · obtain rfl : x = 0 := by omega
    go_enter Tryz.func143, Tryz.ntmps143
    go_wp2
    go_quiet (fail)
    go_wp2
    go_ret
    exact ⟨rfl, bdrewN (Below.refl _ _) _⟩
  by_cases h2 : 40 < x
  · have d1 : decide ((x : Int) < 1) = false := decide_eq_false (by omega)
    have d2 : decide ((40 : Int) < (x : Int)) = true := decide_eq_true (by omega)
    clear h h1
    go_enter Tryz.func143, Tryz.ntmps143
    go_wp2
    go_quiet (fail)
    go_wp2
    go_ret
    exact ⟨rfl, bdrewN (Below.refl _ _) _⟩
  · have h3 : n < x + 3 := by omega
    have d1 : decide ((x : Int) < 1) = false := decide_eq_false (by omega)
    have d2 : decide ((40 : Int) < (x : Int)) = false := decide_eq_false (by omega)
    have d3 : decide ((n : Int) < (x : Int) + 3) = true := decide_eq_true (by omega)
    clear h h1 h2
    go_enter Tryz.func143, Tryz.ntmps143
    go_wp2
    go_quiet (fail)
    go_wp2
    go_ret
    exact ⟨rfl, bdrewN (Below.refl _ _) _⟩

set_option maxHeartbeats 2000000 in
/-- The length is one, and there are as many bytes: the frame's bytes are compared. -/
theorem l1Front_sum (g o n c : Nat) (b : UInt8) (r : List UInt8) (w : World) (hr : Rd eB w w.heap.size (some ⟨g, o, none⟩) (b :: r)) (hn : (b :: r).length = n) (hc : n ≤ c) (hm : n ≤ 1048576) (h1 : 1 ≤ b.toNat) (h2 : b.toNat ≤ 40) (h3 : b.toNat + 3 ≤ n) :
    Calls Tryz.prog 143 #[.slice (some ⟨g, o, none⟩) n c] w fun e w' => e = .returned (.int .i64 (frontM (b :: r) : Nat)) ∧ Below w.heap.size w w' := by
  have hn' : r.length + 1 = n := by simpa using hn
  obtain ⟨_, _, _, e0, hg, hb0, cx⟩ := hr.byte (k := 0) (by simp)
  obtain ⟨rfl, rfl⟩ : _ ∧ _ := by simpa using Option.some.inj e0
  obtain rfl := Option.some.inj hb0
  have cx0 : w.cell? ⟨g, o, none⟩ = some (.int .u8 (b.toNat : Int)) := by simpa using cx
  have hrb : Rd eB w w.heap.size (some ⟨g, o + 1, none⟩) (r.take b.toNat) := by
    obtain ⟨g', o', e', h'⟩ := hr.add (k := 1) (by simp; omega)
    obtain ⟨rfl, rfl⟩ : g = g' ∧ o = o' := by simpa using Option.some.inj e'
    exact h'.take b.toNat
  have hrt := hr.take (b.toNat + 3)
  have hlb : (r.take b.toNat).length = b.toNat := by rw [List.length_take]; omega
  have hlt : ((b :: r).take (b.toNat + 3)).length = b.toNat + 3 := by rw [List.length_take, hn]; omega
  obtain ⟨F, hF⟩ : ∃ F, F = frameL (r.take b.toNat) := ⟨_, rfl⟩
  obtain ⟨K, hK⟩ : ∃ K, K = (b :: r).take (b.toNat + 3) := ⟨_, rfl⟩
  have Hf := Lib.hid (show frontM (b :: r) = if K = F then b.toNat + 3 else 0 by
    by_cases he : K = F
    · rw [if_pos he, frontM, firstM_yes ⟨h1, h2, by omega, by rw [← hK, ← hF]; exact he⟩]
      simp only
      rw [hlb]
    · rw [if_neg he]
      exact frontM_no (firstM_no (by rw [← hK, ← hF]; exact fun h => he h.2.2.2)))
  rw [← hK] at hrt hlt
  have HF := fun W (hW : Below w.heap.size w W) => l1Frame (some ⟨g, o + 1, none⟩) b.toNat (c - 1) (r.take b.toNat) W (hrb.lift hW) hlb h2
  have HS := fun W (hW : Below w.heap.size w W) => conv_bytes (c := c) (hrt.lift hW) hlt
  rw [← hF] at HF
  have HFF := Lib.hid (show F = F from rfl)
  generalize frontM (b :: r) = fm at Hf
  generalize b.toNat = x at *
  have HF' := Lib.hid HF
  have HS' := Lib.hid HS
  clear HF HS hr hn hrb hrt hlb hlt hF hK hb0 cx e0 HFF
  have hbd : Below w.heap.size w w.drew := (Below.refl _ _).drew
  have hne : ((n : Int) == 0) = false := by simp; omega
  have hpos : (0 : Int) < (n : Int) := by omega
  have d1 : decide ((x : Int) < 1) = false := decide_eq_false (by omega)
  have d2 : decide ((40 : Int) < (x : Int)) = false := decide_eq_false (by omega)
  have d3 : decide ((n : Int) < (x : Int) + 3) = false := decide_eq_false (by omega)
  have e3 : IntKind.i64.wrap ((x : Int) + 3) = (x : Int) + 3 := IntWalk.i64_in _ (by omega)
  have e1 : IntKind.i64.wrap ((x : Int) + 1) = (x : Int) + 1 := IntWalk.i64_in _ (by omega)
  have p3 : (0 : Int) ≤ (x : Int) + 3 := by omega
  have p1 : (0 : Int) ≤ (x : Int) + 1 := by omega
  have t3 : ((x : Int) + 3).toNat = x + 3 := by omega
  have t1 : ((x : Int) + 1).toNat = x + 1 := by omega
  have l3 : (x : Int) + 3 ≤ (c : Int) := by omega
  have l1 : (x : Int) + 1 ≤ (c : Int) := by omega
  have s1 : ¬ c = 1 := by omega
  have q1 : (1 : Int) ≤ (x : Int) + 1 := by omega
  by_cases he : K = F
  all_goals
    first
      | (have hq : ((txt F).toList == (txt K).toList) = true := by rw [txt_beq]; simp [he])
      | (have hq : ((txt F).toList == (txt K).toList) = false := by rw [txt_beq]; simp; exact fun h => he h.symm)
    have He := Lib.hid he
    clear he
    go_enter Tryz.func143, Tryz.ntmps143
    go_wp2
    refine wp_region_mix [(0, false), (1, false), (2, false), (3, false), (4, false), (5, false), (6, false), (7, false), (8, false), (9, false), (10, false), (11, false), (12, false), (13, false), (14, false), (15, false), (16, false), (17, false), (20, false), (21, false), (22, false), (23, false), (24, false), (18, true), (19, false), (25, false), (26, false)] (fun u => (convert 22 9 (.slice (some ⟨g, o, none⟩) (x + 3) c)).run Tryz.prog u = .ok (.string (txt K)) u) (by kernel_rfl) (by kernel_rfl) (fun _ _ _ _ _ h => h) (HS'.out _ hbd) ?_
    simp only [mixOps, List.map_cons, List.map_nil, List.getElem?_cons_succ, List.getElem?_cons_zero, Option.getD_some]
    repeat (first
      | (refine mix_skip (by rfl) ?_
         (try simp only [Act.put, List.setIfInBounds_toArray, List.set_cons_zero, List.set_cons_succ]))
      | (refine mix_pure (v := ?_) (by rfl) (fun u hu => ?_) ?_
         rotate_left
         · (try dsimp only at hu)
           go_simp
           (with_reducible rfl)
         (try simp only [Act.put, List.setIfInBounds_toArray, List.set_cons_zero, List.set_cons_succ])))
    refine mix_call (by rfl) (fun K hK => ?_)
    go_simp
    refine (HF'.out _ hbd).mono ?_
    rintro e w1 ⟨A1, c1, rfl, ow1, hb1⟩
    have hB1 : Below w.heap.size w w1 := hbd.trans (hb1.mono hbd.size)
    refine hK _ _ (fun u => u = w1) (fun u hu => by subst hu; exact HS'.out _ hB1) rfl ?_
    have hk1 := conv_bytes (c := c1) (ow1.rd okB) (ow1.len okB)
    clear hK K
    (try simp only [Act.put, List.setIfInBounds_toArray, List.set_cons_zero, List.set_cons_succ])
    repeat (first
      | (refine mix_skip (by rfl) ?_
         (try simp only [Act.put, List.setIfInBounds_toArray, List.set_cons_zero, List.set_cons_succ]))
      | (refine mix_pure (v := ?_) (by rfl) (fun u hu => ?_) ?_
         rotate_left
         · subst hu
           go_simp
           (with_reducible rfl)
         (try simp only [Act.put, List.setIfInBounds_toArray, List.set_cons_zero, List.set_cons_succ])))
    refine mix_nil ?_
    go_wp2
    go_ret
    refine ⟨?_, hB1⟩
    rw [Hf.out]
    first
      | (rw [if_pos He.out]; rfl)
      | (rw [if_neg He.out]; rfl)

/-- spec.l1Front, whatever the bytes. -/
theorem l1Front (A : Option Addr) (n c : Nat) (d : List UInt8) (w : World) (hr : Rd eB w w.heap.size A d) (hn : d.length = n) (hc : n ≤ c) (hm : n ≤ 1048576) :
    Calls Tryz.prog 143 #[.slice A n c] w fun e w' => e = .returned (.int .i64 (frontM d : Nat)) ∧ Below w.heap.size w w' := by
  cases d with
  | nil =>
    subst hn
    exact l1Front_nil A c w
  | cons b r =>
    have hn' : r.length + 1 = n := by simpa using hn
    obtain ⟨g, o, x, rfl, hg, hx, cx⟩ := hr.byte (k := 0) (by simp)
    obtain rfl : b = x := by simpa using hx
    have cx0 : w.cell? ⟨g, o, none⟩ = some (.int .u8 (b.toNat : Int)) := by simpa using cx
    by_cases h : b.toNat < 1 ∨ 40 < b.toNat ∨ n < b.toNat + 3
    · rw [frontM_no (firstM_no (by omega))]
      exact l1Front_len g o n c b.toNat w b.toNat_lt cx0 (by omega) hm h
    · exact l1Front_sum g o n c b r w hr hn hc hm (by omega) (by omega) (by omega)

/-! ### impl -/
set_option maxHeartbeats 400000 in
theorem bytesClone (a : Addr) (n c : Nat) (l : List UInt8) (w : World) (hr : Rd eB w w.heap.size (some a) l) (hn : l.length = n) (hm : n ≤ 1048576) :
    Calls Tryz.prog 142 #[.slice (some a) n c] w fun e w' => ∃ A' c', e = .returned (.slice A' n c') ∧ Ow eB w' w.heap.size A' n c' l ∧ Below w.heap.size w w' := by
  have Hn := Lib.hid hn
  clear hn
  have heq : ∀ u : World, (binOp .eql 22 (.slice (some a) n c) (.slice none 0 0)).run Tryz.prog u = .ok (.bool false) u := fun u => Lib.run_eql_slice_nil (P := Tryz.prog) u 22 5 (some a) n c 0 0 Tryz.underlying22
  have o1 : Ow eB (w.alloc (.cells #[] 5)) w.heap.size (some ⟨w.heap.size, 0, none⟩) 0 0 [] := Ow.lit w [] #[] 0 (Nat.le_refl _) (Nat.zero_le _) rfl rfl
  have B1 := (Below.refl w.heap.size w).alloc (Nat.le_refl _) (.cells #[] 5)
  have a1 := hr.lift B1
  go_enter Tryz.func142, Tryz.ntmps142
  go_wp2_with (at_builtin; refine wpList_append_ow okB _ rfl (.tmp 5) (.tmp 6) _ rfl w.heap.size info_u8 Tryz.underlying22 rfl (some ⟨w.heap.size, 0, none⟩) 0 0 [] rfl o1 (some a) n c _ l rfl a1 Hn.out (by unfold maxLen; omega) (by omega) (by simp) ?_; intro A1 c1 w1 ow1 hg1 _)
  go_ret
  rw [List.nil_append] at ow1
  rw [Nat.zero_add] at ow1
  exact ⟨A1, c1, rfl, ow1, B1.grown hg1 (by simp) (fun g hg => by simp at hg; omega)⟩

/-- A slice's value: nil where there is none. -/
def RetOpt (r : Option (List UInt8)) (w : World) (e : Ending) (w' : World) : Prop :=
  Below w.heap.size w w' ∧ match r with
    | none => e = .returned (.slice none 0 0)
    | some b => ∃ g c, e = .returned (.slice (some ⟨g, 0, none⟩) b.length c) ∧ Ow eB w' w.heap.size (some ⟨g, 0, none⟩) b.length c b

set_option maxHeartbeats 400000 in
theorem firstBody_nil (A : Option Addr) (c : Nat) (w : World) :
    Calls Tryz.prog 119 #[.slice A 0 c] w fun e w' => RetOpt (firstM []) w e w' := by
  go_enter Tryz.func119, Tryz.ntmps119
  go_wp2
  go_ret
  exact ⟨Below.refl _ _, rfl⟩

set_option maxHeartbeats 800000 in
theorem firstBody_len (g o n c : Nat) (b : UInt8) (r : List UInt8) (w : World) (cx : w.cell? ⟨g, o, none⟩ = some (.int .u8 (b.toNat : Int))) (hn : (b :: r).length = n) (hm : n ≤ 1048576) (h : b.toNat < 1 ∨ 40 < b.toNat ∨ n < b.toNat + 3) :
    Calls Tryz.prog 119 #[.slice (some ⟨g, o, none⟩) n c] w fun e w' => RetOpt (firstM (b :: r)) w e w' := by
  have hn' : r.length + 1 = n := by simpa using hn
  have Hf := Lib.hid (firstM_no (b := b) (r := r) (by omega))
  have hne : ((n : Int) == 0) = false := by simp; omega
  have hpos : (0 : Int) < (n : Int) := by omega
  have hb8 := b.toNat_lt
  have hno : [((b.toNat : Int), (1 : Int), (40 : Int)), ((b.toNat : Int) + 3, 0, (n : Int))].all inB = false := by simp [inB]; omega
  clear hn hn' h
  go_enter Tryz.func119, Tryz.ntmps119
  go_wp2_with (go_at_call 73; refine (areWithin_any _ _ _ [((b.toNat : Int), 1, 40), ((b.toNat : Int) + 3, 0, (n : Int))] _ (bnds_two (by simp)) (by simp) rfl (by simp)).mono ?_; rintro e w1 ⟨rfl, hb1⟩)
  go_ret
  refine ⟨((Below.refl _ _).alloc (Nat.le_refl _) _).trans (hb1.mono (by simp)), ?_⟩
  rw [Hf.out]
  rfl

/-- The frame's bytes are its front and its sum. -/
theorem frame_iff {b : UInt8} {r : List UInt8} (h3 : b.toNat + 2 ≤ r.length) :
    (b :: r).take (b.toNat + 3) = frameL (r.take b.toNat) ↔ sumL ((b :: r).take (1 + b.toNat)) = ((b :: r).drop (1 + b.toNat)).take 2 := by
  have hf : frontL (r.take b.toNat) = (b :: r).take (1 + b.toNat) := by
    have hl : (r.take b.toNat).length = b.toNat := by rw [List.length_take]; omega
    rw [frontL, hl, Nat.add_comm, List.take_succ_cons]
    congr 1
    exact UInt8.ofNat_toNat
  have hs : (b :: r).take (b.toNat + 3) = (b :: r).take (1 + b.toNat) ++ ((b :: r).drop (1 + b.toNat)).take 2 := by
    rw [show b.toNat + 3 = (1 + b.toNat) + 2 by omega, List.take_add]
  rw [frameL, hf, hs]
  constructor
  · intro h
    exact (List.append_cancel_left h).symm
  · intro h
    rw [h]

set_option maxHeartbeats 2000000 in
theorem firstBody_sum (g o n c : Nat) (b : UInt8) (r : List UInt8) (w : World) (hr : Rd eB w w.heap.size (some ⟨g, o, none⟩) (b :: r)) (hn : (b :: r).length = n) (hc : n ≤ c) (hm : n ≤ 1048576) (h1 : 1 ≤ b.toNat) (h2 : b.toNat ≤ 40) (h3 : b.toNat + 3 ≤ n) :
    Calls Tryz.prog 119 #[.slice (some ⟨g, o, none⟩) n c] w fun e w' => RetOpt (firstM (b :: r)) w e w' := by
  have hn' : r.length + 1 = n := by simpa using hn
  obtain ⟨_, _, _, e0, hg, hb0, cx⟩ := hr.byte (k := 0) (by simp)
  obtain ⟨rfl, rfl⟩ : _ ∧ _ := by simpa using Option.some.inj e0
  obtain rfl := Option.some.inj hb0
  have cx0 : w.cell? ⟨g, o, none⟩ = some (.int .u8 (b.toNat : Int)) := by simpa using cx
  have hrb : Rd eB w w.heap.size (some ⟨g, o + 1, none⟩) (r.take b.toNat) := by
    obtain ⟨g', o', e', h'⟩ := hr.add (k := 1) (by simp; omega)
    obtain ⟨rfl, rfl⟩ : g = g' ∧ o = o' := by simpa using Option.some.inj e'
    exact h'.take b.toNat
  have hrs : Rd eB w w.heap.size (some ⟨g, o + (1 + b.toNat), none⟩) (((b :: r).drop (1 + b.toNat)).take 2) := by
    obtain ⟨g', o', e', h'⟩ := hr.add (k := 1 + b.toNat) (by simp; omega)
    obtain ⟨rfl, rfl⟩ : g = g' ∧ o = o' := by simpa using Option.some.inj e'
    have := h'.take 2
    simpa [eB] using this
  have hrf := hr.take (1 + b.toNat)
  have hlb : (r.take b.toNat).length = b.toNat := by rw [List.length_take]; omega
  have hls : (((b :: r).drop (1 + b.toNat)).take 2).length = 2 := by rw [List.length_take, List.length_drop, hn]; omega
  have hlf : ((b :: r).take (1 + b.toNat)).length = 1 + b.toNat := by rw [List.length_take, hn]; omega
  have hiff := frame_iff (b := b) (r := r) (by omega)
  have hyes : sumL ((b :: r).take (1 + b.toNat)) = ((b :: r).drop (1 + b.toNat)).take 2 → firstM (b :: r) = some (r.take b.toNat) := fun h => firstM_yes ⟨h1, h2, by omega, hiff.2 h⟩
  have hnot : sumL ((b :: r).take (1 + b.toNat)) ≠ ((b :: r).drop (1 + b.toNat)).take 2 → firstM (b :: r) = none := fun h => firstM_no fun h' => h (hiff.1 h'.2.2.2)
  generalize (b :: r).take (1 + b.toNat) = F at *
  generalize ((b :: r).drop (1 + b.toNat)).take 2 = K at *
  generalize r.take b.toNat = D at *
  generalize firstM (b :: r) = fm at *
  generalize b.toNat = x at *
  have hyes' := Lib.hid hyes
  have hnot' := Lib.hid hnot
  have HB := Lib.hid fun W (hW : Below w.heap.size w W) => bytesClone ⟨g, o + 1, none⟩ x (c - 1) D W (hrb.lift hW) hlb (by omega)
  have HS := Lib.hid fun W (hW : Below w.heap.size w W) => sumBytes (some ⟨g, o, none⟩) (1 + x) c F W (hrf.lift hW) hlf (by omega)
  have HE := Lib.hid fun (A1 : Option Addr) (c1 : Nat) W (hW : Below w.heap.size w W) (h : Rd eB W W.heap.size A1 (sumL F)) => implSameBytes A1 (some ⟨g, o + (1 + x), none⟩) 2 2 c1 (c - (1 + x)) (sumL F) K W h (hrs.lift hW) rfl hls
  have Hl := Lib.hid hlb
  clear hyes hnot hiff hr hn hrb hrs hrf hlb hls hlf hb0 cx e0
  have hne : ((n : Int) == 0) = false := by simp; omega
  have hpos : (0 : Int) < (n : Int) := by omega
  have hno : [((x : Int), (1 : Int), (40 : Int)), ((x : Int) + 3, 0, (n : Int))].all inB = true := by simp [inB]; omega
  have e3 : IntKind.i64.wrap ((x : Int) + 3) = (x : Int) + 3 := IntWalk.i64_in _ (by omega)
  have e1 : IntKind.i64.wrap (1 + (x : Int)) = 1 + (x : Int) := IntWalk.i64_in _ (by omega)
  have p3 : (0 : Int) ≤ (x : Int) + 3 := by omega
  have p1 : (0 : Int) ≤ 1 + (x : Int) := by omega
  have t3 : ((x : Int) + 3).toNat = x + 3 := by omega
  have t1 : (1 + (x : Int)).toNat = 1 + x := by omega
  have l3 : (x : Int) + 3 ≤ (c : Int) := by omega
  have l1 : 1 + (x : Int) ≤ (c : Int) := by omega
  have s1 : ¬ c = 1 + x := by omega
  have s2 : x + 3 - (1 + x) = 2 := by omega
  have s3 : ¬ c = 1 := by omega
  have q1 : 1 + (x : Int) ≤ (x : Int) + 3 := by omega
  go_enter Tryz.func119, Tryz.ntmps119
  go_wp2_with (go_at_call 73; refine (areWithin_any _ _ _ [((x : Int), 1, 40), ((x : Int) + 3, 0, (n : Int))] _ (bnds_two (by simp)) (by simp) rfl (by simp)).mono ?_; rintro e w1 ⟨rfl, hb1⟩)
  have hB1 : Below w.heap.size w w1 := ((Below.refl _ _).alloc (Nat.le_refl _) _).trans (hb1.mono (by simp))
  have hbd : Below w.heap.size w w1.drew := hB1.drew
  refine wp_region_mix [(0, false), (2, false), (3, false), (4, false), (5, false), (6, false), (7, false), (1, true), (8, true), (9, false)] (fun _ => True) (by kernel_rfl) (by kernel_rfl) (fun _ _ _ _ _ h => h) trivial ?_
  simp only [mixOps, List.map_cons, List.map_nil, List.getElem?_cons_succ, List.getElem?_cons_zero, Option.getD_some]
  repeat (first
      | (refine mix_skip (by rfl) ?_
         (try simp only [Act.put, List.setIfInBounds_toArray, List.set_cons_zero, List.set_cons_succ]))
      | (refine mix_pure (v := ?_) (by rfl) (fun u hu => ?_) ?_
         rotate_left
         · clear hu
           go_simp
           (with_reducible rfl)
         (try simp only [Act.put, List.setIfInBounds_toArray, List.set_cons_zero, List.set_cons_succ])))
  refine mix_call (by rfl) (fun K' hK => ?_)
  go_simp
  refine (HS.out _ hbd).mono ?_
  rintro e w2 ⟨A2, c2, rfl, ow2, hb2⟩
  have hB2 : Below w.heap.size w w2 := hbd.trans (hb2.mono hbd.size)
  refine hK _ _ (fun _ => True) (fun _ _ => trivial) trivial ?_
  clear hK K'
  (try simp only [Act.put, List.setIfInBounds_toArray, List.set_cons_zero, List.set_cons_succ])
  refine mix_call (by rfl) (fun K' hK => ?_)
  go_simp
  refine (HE.out A2 c2 _ hB2 (ow2.rd okB)).mono ?_
  rintro e w3 ⟨rfl, rfl⟩
  refine hK _ _ (fun _ => True) (fun _ _ => trivial) trivial ?_
  clear hK K'
  (try simp only [Act.put, List.setIfInBounds_toArray, List.set_cons_zero, List.set_cons_succ])
  repeat (first
      | (refine mix_skip (by rfl) ?_
         (try simp only [Act.put, List.setIfInBounds_toArray, List.set_cons_zero, List.set_cons_succ]))
      | (refine mix_pure (v := ?_) (by rfl) (fun u hu => ?_) ?_
         rotate_left
         · clear hu
           go_simp
           (with_reducible rfl)
         (try simp only [Act.put, List.setIfInBounds_toArray, List.set_cons_zero, List.set_cons_succ])))
  refine mix_nil ?_
  by_cases he : sumL F = K
  · have hd : decide (sumL F = K) = true := by simpa using he
    have Hf := Lib.hid (hyes'.out he)
    clear he
    simp only [hd, Bool.not_true]
    go_wp2_with (go_at_call 142; refine (HB.out _ hB2).mono ?_; rintro e w4 ⟨A4, c4, rfl, ow4, hb4⟩)
    go_ret
    obtain ⟨g4, rfl, _, _⟩ := ow4.form (by omega)
    refine ⟨hB2.trans (hb4.mono hB2.size), ?_⟩
    rw [Hf.out]
    have hx := Hl.out
    subst hx
    exact ⟨g4, c4, rfl, ow4.from_ hB2.size⟩
  · have hd : decide (sumL F = K) = false := by simpa using he
    have Hf := Lib.hid (hnot'.out he)
    clear he
    simp only [hd, Bool.not_false]
    go_wp2
    go_ret
    refine ⟨hB2, ?_⟩
    rw [Hf.out]
    rfl

/-- impl.firstBody, whatever the bytes. -/
theorem firstBody (A : Option Addr) (n c : Nat) (d : List UInt8) (w : World) (hr : Rd eB w w.heap.size A d) (hn : d.length = n) (hc : n ≤ c) (hm : n ≤ 1048576) :
    Calls Tryz.prog 119 #[.slice A n c] w fun e w' => RetOpt (firstM d) w e w' := by
  cases d with
  | nil =>
    subst hn
    exact firstBody_nil A c w
  | cons b r =>
    have hn' : r.length + 1 = n := by simpa using hn
    obtain ⟨g, o, x, rfl, hg, hx, cx⟩ := hr.byte (k := 0) (by simp)
    obtain rfl : b = x := by simpa using hx
    have cx0 : w.cell? ⟨g, o, none⟩ = some (.int .u8 (b.toNat : Int)) := by simpa using cx
    by_cases h : b.toNat < 1 ∨ 40 < b.toNat ∨ n < b.toNat + 3
    · exact firstBody_len g o n c b r w cx0 hn hm h
    · exact firstBody_sum g o n c b r w hr hn hc hm (by omega) (by omega) (by omega)
end Go.Proofs.YtmaillakhhdkfaaGreatDoor
namespace Go.Proofs.YtmaillakhhdkfaaGreatDoor
set_option maxRecDepth 20000
open Go.RowKit

theorem firstM_len {d b : List UInt8} (h : firstM d = some b) : 1 ≤ b.length ∧ b.length + 3 ≤ d.length ∧ b.length ≤ 40 ∧ b = (d.drop 1).take b.length := by
  cases d with
  | nil => simp [firstM] at h
  | cons x r =>
    unfold firstM at h
    simp only at h
    split at h
    · rename_i hc
      obtain rfl := Option.some.inj h
      have hl : (r.take x.toNat).length = x.toNat := by rw [List.length_take]; omega
      refine ⟨by omega, by rw [hl, List.length_cons]; omega, by omega, ?_⟩
      rw [hl]
      rfl
    · cases h
theorem frontM_yes {d b : List UInt8} (h : firstM d = some b) : frontM d = b.length + 3 := by simp [frontM, h]

/-- Where the j-th frame begins; the first j bodies. -/
def posF (d : List UInt8) : Nat → Nat
  | 0 => 0
  | j + 1 => posF d j + frontM (d.drop (posF d j))
def bodF (d : List UInt8) : Nat → List (List UInt8)
  | 0 => []
  | j + 1 => bodF d j ++ (firstM (d.drop (posF d j))).toList
theorem posF_le (d : List UInt8) : ∀ j, posF d j ≤ d.length
  | 0 => Nat.zero_le _
  | j + 1 => by
    have ih := posF_le d j
    unfold posF
    cases h : firstM (d.drop (posF d j)) with
    | none => rw [frontM_no h]; exact ih
    | some b =>
      have := (firstM_len h).2.1
      rw [List.length_drop] at this
      rw [frontM_yes h]
      omega
def Going (d : List UInt8) (J : Nat) : Prop := ∀ i, i < J → firstM (d.drop (posF d i)) ≠ none
def EndF (d : List UInt8) (J : Nat) : Prop := firstM (d.drop (posF d J)) = none ∧ Going d J
theorem posF_ge {d : List UInt8} : ∀ {J : Nat}, Going d J → J ≤ posF d J
  | 0, _ => Nat.zero_le _
  | J + 1, h => by
    have ih := posF_ge (J := J) fun i hi => h i (by omega)
    unfold posF
    cases hf : firstM (d.drop (posF d J)) with
    | none => exact absurd hf (h J (by omega))
    | some b => rw [frontM_yes hf]; omega
def endF (d : List UInt8) : Nat → Nat → Nat
  | 0, j => j
  | k + 1, j => match firstM (d.drop (posF d j)) with
    | none => j
    | some _ => endF d k (j + 1)
theorem endF_of {d : List UInt8} {J : Nat} (h : EndF d J) : ∀ (k j : Nat), j ≤ J → J - j ≤ k → endF d k j = J
  | 0, j, h1, h2 => by simp only [endF]; omega
  | k + 1, j, h1, h2 => by
    unfold endF
    by_cases e : j = J
    · subst e
      rw [h.1]
    · cases hf : firstM (d.drop (posF d j)) with
      | none => exact absurd hf (h.2 j (by omega))
      | some b =>
        simp only
        exact endF_of h k (j + 1) (by omega) (by omega)
/-- What ReadFrames answers. -/
def framesM (d : List UInt8) : Int × List (List UInt8) × Int :=
  if d.length ≤ 20000 then (0, bodF d (endF d d.length 0), (posF d (endF d d.length 0) : Nat)) else (2, [], 0)
theorem framesM_big {d : List UInt8} (h : 20000 < d.length) : framesM d = (2, [], 0) := if_neg (by omega)
theorem framesM_ok {d : List UInt8} {J : Nat} (h : d.length ≤ 20000) (hJ : EndF d J) : framesM d = (0, bodF d J, ((posF d J : Nat) : Int)) := by
  have hle := posF_ge hJ.2
  have := posF_le d J
  unfold framesM
  rw [if_pos h, endF_of hJ d.length 0 (Nat.zero_le _) (by omega)]

/-- A slice of what is read, from a place on. -/
theorem Rd.cut {w : World} {hi : Nat} {A : Option Addr} {l : List UInt8} (h : Rd eB w hi A l) (p : Nat) (c : Nat) (hc : l.length ≤ c) : Rd eB w hi (if c = p then A else A.map (·.add p)) (l.drop p) := by
  rcases Nat.lt_or_ge p l.length with h1 | h1
  · obtain ⟨g, o, rfl, hr⟩ := h.add h1
    rw [if_neg (by omega)]
    simpa [eB, addr_add] using hr
  · rw [List.drop_of_length_le h1]
    exact Rd.nil

set_option maxHeartbeats 400000 in
theorem l1Copy (A : Option Addr) (n c : Nat) (l : List UInt8) (w : World) (hr : Rd eB w w.heap.size A l) (hn : l.length = n) (hm : n ≤ 1048576) :
    Calls Tryz.prog 144 #[.slice A n c] w fun e w' => ∃ A' c', e = .returned (.slice A' n c') ∧ Ow eB w' w.heap.size A' n c' l ∧ Below w.heap.size w w' := by
  have Hn := Lib.hid hn
  clear hn
  have o1 : Ow eB (w.alloc (.cells #[] 5)) w.heap.size (some ⟨w.heap.size, 0, none⟩) 0 0 [] := Ow.lit w [] #[] 0 (Nat.le_refl _) (Nat.zero_le _) rfl rfl
  have B1 := (Below.refl w.heap.size w).alloc (Nat.le_refl _) (.cells #[] 5)
  have a1 := hr.lift B1
  go_enter Tryz.func144, Tryz.ntmps144
  go_wp2_with (at_builtin; refine wpList_append_ow okB _ rfl (.tmp 3) (.tmp 4) _ rfl w.heap.size info_u8 Tryz.underlying22 rfl (some ⟨w.heap.size, 0, none⟩) 0 0 [] rfl o1 A n c _ l rfl a1 Hn.out (by unfold maxLen; omega) (by omega) (by simp) ?_; intro A1 c1 w1 ow1 hg1 _)
  go_ret
  rw [List.nil_append] at ow1
  rw [Nat.zero_add] at ow1
  exact ⟨A1, c1, rfl, ow1, B1.grown hg1 (by simp) (fun g hg => by simp at hg; omega)⟩

def FramesRel (w : World) (d : List UInt8) (out vat : Value) (wr : World) : Prop :=
  ∃ j A c ps, out = .slice A j c ∧ vat = .int .i64 (posF d j : Nat) ∧ DOw eBB wr w.heap.size A j c ps ∧ ps.map (·.1) = bodF d j ∧ Going d j ∧ Below w.heap.size w wr

set_option maxHeartbeats 600000 in
theorem l1Frames (A : Option Addr) (n c : Nat) (d : List UInt8) (w : World) (hr : Rd eB w w.heap.size A d) (hn : d.length = n) (hc : n ≤ c) (hm : n ≤ 1048576) (hcm : c ≤ maxLen) :
    Calls Tryz.prog 122 #[.slice A n c] w fun e w' => ∃ J A' c' ps, e = .returned (.tuple #[.slice A' J c', .int .i64 (posF d J : Nat)]) ∧ EndF d J ∧ DOw eBB w' w.heap.size A' J c' ps ∧ ps.map (·.1) = bodF d J ∧ Below w.heap.size w w' := by
  have Hn := Lib.hid hn
  clear hn
  unfold maxLen at hcm
  go_enter Tryz.func122, Tryz.ntmps122
  go_wp2
  have o1 : DOw eBB (w.alloc (.cells #[] 22)) w.heap.size (some ⟨w.heap.size, 0, none⟩) 0 0 [] :=
    ⟨Ow.lit (E := eBB.enc) w [] #[] 0 (Nat.le_refl _) (Nat.zero_le _) rfl rfl, fun p hp => absurd hp (by simp), by simp [blks, blkOf]⟩
  have B1 := (Below.refl w.heap.size w).alloc (Nat.le_refl _) (.cells #[] 22)
  go_loopw [4, 5, 6] (fun out vat _ wr => FramesRel w d out vat wr) (fun _ vat _ _ => n - (intOf vat).toNat)
  case atStart => exact ⟨0, _, _, [], rfl, rfl, o1, rfl, fun i hi => absurd hi (by omega), B1⟩
  case round =>
    obtain ⟨j, A1, c1, ps, rfl, rfl, how, hps, hgo, hbel⟩ := hrel
    have hpl := posF_le d j
    obtain ⟨p, hp⟩ : ∃ p, p = posF d j := ⟨_, rfl⟩
    rw [← hp] at hpl
    have hpn : p ≤ n := by rw [← Hn.out]; exact hpl
    rw [← hp]
    have Hp := Lib.hid hp
    clear hp hpl
    have HF := Lib.hid (l1Front (if c = p then A else A.map (·.add p)) (n - p) (c - p) (d.drop p) wr ((hr.lift hbel).cut p c (by rw [Hn.out]; exact hc)) (by rw [List.length_drop, Hn.out]) (by omega) (by omega))
    cases hfm : firstM (d.drop p) with
    | none =>
      have HE := Lib.hid (show EndF d j from ⟨by rw [← Hp.out]; exact hfm, hgo⟩)
      have H0 := frontM_no hfm
      rw [H0] at HF
      have Hgo := Lib.hid hgo
      clear hfm H0 hgo
      by_cases hcp : c = p
      · have hnp : n = p := by omega
        subst hnp
        subst hcp
        rw [if_pos rfl, Nat.sub_self] at HF
        go_wp2_with (go_at_call 143; refine HF.out.mono ?_; rintro e w1 ⟨rfl, hb1⟩)
        go_ret2
        refine ⟨j, A1, c1, ps, ?_, HE.out, how.below hb1 (Nat.le_refl _), hps, hbel.trans (hb1.mono hbel.size)⟩
        rw [← Hp.out]
        rfl
      · rw [if_neg hcp] at HF
        go_wp2_with (go_at_call 143; refine HF.out.mono ?_; rintro e w1 ⟨rfl, hb1⟩)
        go_ret2
        refine ⟨j, A1, c1, ps, ?_, HE.out, how.below hb1 (Nat.le_refl _), hps, hbel.trans (hb1.mono hbel.size)⟩
        rw [← Hp.out]
        rfl
    | some b =>
      obtain ⟨hb1, hb3, hb40, hbd⟩ := firstM_len hfm
      rw [List.length_drop, Hn.out] at hb3
      rw [frontM_yes hfm] at HF
      have hcp : ¬ c = p := by omega
      rw [if_neg hcp] at HF
      obtain ⟨g, o, rfl, hra⟩ := (hr.lift hbel).add (k := p + 1) (by rw [Hn.out]; omega)
      have hrb : Rd eB wr wr.heap.size (some ⟨g, o + (p + 1), none⟩) b := by
        have := hra.take b.length
        rw [hbd, List.drop_drop]
        simpa [eB] using this
      have HG := Lib.hid (show Going d (j + 1) from fun i hi => by
        rcases Nat.lt_or_ge i j with h1 | h1
        · exact hgo i h1
        · obtain rfl : i = j := by omega
          rw [← Hp.out, hfm]
          simp)
      have HP := Lib.hid (show posF d (j + 1) = p + (b.length + 3) by rw [posF, ← Hp.out, frontM_yes hfm])
      have HB := Lib.hid (show bodF d (j + 1) = bodF d j ++ [b] by rw [bodF, ← Hp.out, hfm]; rfl)
      have HC := Lib.hid fun (W : World) (h : Below wr.heap.size wr W) => l1Copy (some ⟨g, o + (p + 1), none⟩) b.length (c - (p + 1)) b W (hrb.lift h) rfl (by omega)
      have Hgo := Lib.hid hgo
      have Hps := Lib.hid hps
      obtain ⟨m, hm⟩ : ∃ m, m = b.length := ⟨_, rfl⟩
      rw [← hm] at HF HC hb1 hb3 hb40
      have HM := Lib.hid hm
      rw [Option.map_some, addr_add, show ((m + 3 : Nat) : Int) = (m : Int) + 3 from by omega] at HF
      clear hm hgo hps hfm hbd hra hrb hr
      have t1 : ((p : Int) + 1).toNat = p + 1 := by omega
      have t2 : ((p : Int) + ((m : Int) + 3) - 2).toNat = p + (m + 1) := by omega
      have s1 : ¬ c = p + 1 := by omega
      have s2 : p + (m + 1) - (p + 1) = m := by omega
      have l1 : (p : Int) + ((m : Int) + 3) - 2 ≤ (c : Int) := by omega
      have l2 : (p : Int) + 1 ≤ (p : Int) + ((m : Int) + 3) - 2 := by omega
      have hjn : j ≤ 1048576 := by
        have h1 := posF_ge Hgo.out
        have h2 := Hp.out
        omega
      go_wp2_with (first
        | (go_at_call 143; refine HF.out.mono ?_; rintro e w1 ⟨rfl, hw1⟩)
        | (go_at_call 144
           refine (HC.out _ hw1).mono ?_
           rintro e w2 ⟨A2, c2, rfl, ow2, hw2⟩
           have hB2 : Below w.heap.size w w2 := (hbel.trans (hw1.mono hbel.size)).trans (hw2.mono (Nat.le_trans hbel.size hw1.size))
           have d1 := how.below hw1 (Nat.le_refl _)
           have d3 := (d1.below hw2 (Nat.le_refl _)).alloc (.cells #[.slice A2 m c2] 22)
           have o3 := ow2.alloc (.cells #[.slice A2 m c2] 22)
           have hrd := rd_one_row w2 22 b ⟨A2, m, c2⟩
           have hB3 := hB2.alloc hB2.size (.cells #[.slice A2 m c2] 22))
        | (at_builtin
           refine wpList_append_ow okBB _ rfl (.tmp 16) (.tmp 26) _ rfl w.heap.size info_bb Tryz.underlying105 rfl A1 j c1 ps rfl d3.1 (some ⟨w2.heap.size, 0, none⟩) 1 1 _ [(b, [⟨A2, m, c2⟩])] rfl hrd rfl (by unfold maxLen; omega) (by omega) hB3.size ?_
           intro A4 c4 w4 ow4 hg4 hat4))
      have hB1 := hbel.trans (hw1.mono hbel.size)
      have d4 := d1.snocB d3 o3 hB1.size ow4 hg4 hat4
      have hB4 := hB3.grown hg4 hB3.size (fun g hg => (Ow.lt d3.1 g hg).1)
      refine ⟨⟨j + 1, A4, c4, _, rfl, ?_, d4, by rw [HB.out, List.map_append, Hps.out]; rfl, HG.out, hB4⟩, by simp [intOf]; omega⟩
      rw [HP.out, ← HM.out]
      congr 1

/-! ### impl -/
set_option maxHeartbeats 400000 in
theorem implReadFrames_big (A : Option Addr) (n c : Nat) (d : List UInt8) (w : World) (hn : d.length = n) (h : 20000 < n) :
    Calls Tryz.prog 69 #[.slice A n c] w fun e w' => RetFR (framesM d) w e w' := by
  have Hf := Lib.hid (framesM_big (d := d) (by omega))
  have hgt : (20000 : Int) < (n : Int) := by omega
  clear hn h
  go_enter Tryz.func69, Tryz.ntmps69
  go_wp2
  refine bodyPost_ret (v := .agg #[.int .i64 2, .slice none 0 0, .int .i64 0]) (by simp [results, Tryz.results69, go_sem]) rfl ?_
  rw [Hf.out]
  exact ⟨none, 0, 0, [], rfl, DOw.nil, rfl, (Below.refl _ _).alloc (Nat.le_refl _) _⟩

def IFramesRel (w : World) (d : List UInt8) (wr : World) : Prop :=
  ∃ j A c ps, At wr w.heap.size 107 #[.int .i64 0, .slice none 0 0, .int .i64 0] ∧ At wr (w.heap.size + 1) 107 #[.int .i64 0, .slice A j c, .int .i64 (posF d j : Nat)] ∧ DOw eBB wr (w.heap.size + 2) A j c ps ∧ ps.map (·.1) = bodF d j ∧ Going d j ∧ Below w.heap.size w wr
def posAt (w wr : World) : Nat := (intOf ((wr.cell? ⟨w.heap.size + 1, 2, none⟩).getD undef)).toNat

set_option maxHeartbeats 600000 in
theorem implReadFrames_ok (A : Option Addr) (n c : Nat) (d : List UInt8) (w : World) (hr : Rd eB w w.heap.size A d) (hn : d.length = n) (hc : n ≤ c) (h : n ≤ 20000) :
    Calls Tryz.prog 69 #[.slice A n c] w fun e w' => RetFR (framesM d) w e w' := by
  have Hf := fun J => framesM_ok (d := d) (J := J) (by omega)
  have Hf' := Lib.hid Hf
  have Hn := Lib.hid hn
  have hle : (n : Int) ≤ 20000 := by omega
  clear Hf hn
  have hnil : ∀ u : World, (binOp .eql 22 (.slice none 0 0) (.slice none 0 0)).run Tryz.prog u = .ok (.bool true) u := fun u => Lib.run_eql_slice_nil (P := Tryz.prog) u 22 5 none 0 0 0 0 Tryz.underlying22
  go_enter Tryz.func69, Tryz.ntmps69
  go_wp2
  have B0 := ((Below.refl w.heap.size w).alloc (Nat.le_refl _) (.cells #[.int .i64 0, .slice none 0 0, .int .i64 0] 107)).alloc (by simp) (.cells #[.int .i64 0, .slice none 0 0, .int .i64 0] 107)
  have aR0 := (At.new w 107 #[.int .i64 0, .slice none 0 0, .int .i64 0]).alloc (.cells #[.int .i64 0, .slice none 0 0, .int .i64 0] 107)
  have aV0 := At.new (w.alloc (.cells #[.int .i64 0, .slice none 0 0, .int .i64 0] 107)) 107 #[.int .i64 0, .slice none 0 0, .int .i64 0]
  simp only [World.size_alloc] at aV0
  go_loopw [4] (fun _ wr => IFramesRel w d wr) (fun _ wr => n - posAt w wr)
  case atStart => exact ⟨0, none, 0, [], aR0, aV0, DOw.nil, rfl, fun i hi => absurd hi (by omega), B0⟩
  case round =>
    obtain ⟨j, A1, c1, ps, aR, aV, how, hps, hgo, hbel⟩ := hrel
    have hpl := posF_le d j
    have hpos0 : posAt w wr = posF d j := by
      unfold posAt
      rw [aV.cell 2]
      rfl
    have Hpos := Lib.hid hpos0
    clear hpos0
    obtain ⟨p, hp⟩ : ∃ p, p = posF d j := ⟨_, rfl⟩
    rw [← hp] at hpl aV
    have hpn : p ≤ n := by rw [← Hn.out]; exact hpl
    have Hp := Lib.hid hp
    clear hp hpl
    obtain ⟨v0, v1, v2, _, _, _⟩ := aV.three
    have HF := Lib.hid (firstBody (if c = p then A else A.map (·.add p)) (n - p) (c - p) (d.drop p) wr ((hr.lift hbel).cut p c (by rw [Hn.out]; exact hc)) (by rw [List.length_drop, Hn.out]) (by omega) (by omega))
    cases hfm : firstM (d.drop p) with
    | none =>
      have HE := Lib.hid (Hf'.out j ⟨by rw [← Hp.out]; exact hfm, hgo⟩)
      have Hps := Lib.hid hps
      rw [hfm] at HF
      clear hfm hgo hps
      by_cases hcp : c = p
      all_goals
        first
          | (have hnp : n = p := by omega
             subst hnp
             subst hcp
             rw [if_pos rfl, Nat.sub_self] at HF)
          | (rw [if_neg hcp] at HF)
        go_wp2_with (go_at_call 119; refine HF.out.mono ?_; rintro e w1 ⟨hw1, he1⟩; obtain rfl : e = .returned (.slice none 0 0) := he1; have aR1 := aR.below hw1 aR.lt; have aV1 := aV.below hw1 aV.lt; obtain ⟨r0, r1, r2, _, _, _⟩ := aR1.three; obtain ⟨u0, u1, u2, _, _, _⟩ := aV1.three)
        refine bodyPost_ret (v := .agg #[.int .i64 0, .slice A1 j c1, .int .i64 (posF d j : Nat)]) (by rw [← Hp.out]; simp [results, Tryz.results69, go_sem, r0, r1, r2]) rfl ?_
        rw [HE.out]
        have hB1 := hbel.trans (hw1.mono hbel.size)
        exact ⟨A1, j, c1, ps, rfl, ((((how.below hw1 (Nat.le_refl _)).under (p := ⟨w.heap.size, 0, none⟩) (by simp) _).under (p := ⟨w.heap.size, 1, none⟩) (by simp) _).under (p := ⟨w.heap.size, 2, none⟩) (by simp) _).from_ (by omega), Hps.out,
          ((hB1.setCell (Nat.le_refl _) _).setCell (Nat.le_refl _) _).setCell (Nat.le_refl _) _⟩
    | some b =>
      obtain ⟨hb1, hb3, hb40, _⟩ := firstM_len hfm
      rw [List.length_drop, Hn.out] at hb3
      rw [hfm] at HF
      have hcp : ¬ c = p := by omega
      rw [if_neg hcp] at HF
      have HG := Lib.hid (show Going d (j + 1) from fun i hi => by
        rcases Nat.lt_or_ge i j with h1 | h1
        · exact hgo i h1
        · obtain rfl : i = j := by omega
          rw [← Hp.out, hfm]
          simp)
      have HP := Lib.hid (show posF d (j + 1) = p + (b.length + 3) by rw [posF, ← Hp.out, frontM_yes hfm])
      have HB := Lib.hid (show bodF d (j + 1) = bodF d j ++ [b] by rw [bodF, ← Hp.out, hfm]; rfl)
      have Hps := Lib.hid hps
      have hjn : j ≤ 1048576 := by
        have h1 := posF_ge hgo
        have h2 := Hp.out
        omega
      obtain ⟨m, hm⟩ : ∃ m, m = b.length := ⟨_, rfl⟩
      have HM := Lib.hid hm
      rw [← hm] at hb1 hb3 hb40
      clear hm hgo hps hfm
      go_wp2_with (first
        | (go_at_call 119
           refine HF.out.mono ?_
           rintro e w1 ⟨hw1, g2, c2, he1, ow2⟩
           rw [← HM.out] at he1 ow2
           obtain rfl : e = .returned (.slice (some ⟨g2, 0, none⟩) m c2) := he1
           have heq : ∀ u : World, (binOp .eql 22 (.slice (some ⟨g2, 0, none⟩) m c2) (.slice none 0 0)).run Tryz.prog u = .ok (.bool false) u := fun u => Lib.run_eql_slice_nil (P := Tryz.prog) u 22 5 (some ⟨g2, 0, none⟩) m c2 0 0 Tryz.underlying22
           have aR1 := aR.below hw1 aR.lt
           have aV1 := aV.below hw1 aV.lt
           have z1 := aV1.lt
           obtain ⟨u0, u1, u2, _, _, _⟩ := aV1.three
           have hB1 := hbel.trans (hw1.mono hbel.size)
           have hrd := rd_one_row w1 22 b ⟨some ⟨g2, 0, none⟩, m, c2⟩
           have d3 := (how.below hw1 (Nat.le_refl _)).alloc (.cells #[.slice (some ⟨g2, 0, none⟩) m c2] 22)
           have o3 := ow2.alloc (.cells #[.slice (some ⟨g2, 0, none⟩) m c2] 22)
           have aR3 := aR1.alloc (.cells #[.slice (some ⟨g2, 0, none⟩) m c2] 22)
           have aV3 := aV1.alloc (.cells #[.slice (some ⟨g2, 0, none⟩) m c2] 22)
           have hB3 := hB1.alloc hB1.size (.cells #[.slice (some ⟨g2, 0, none⟩) m c2] 22)
           have hb2 : w.heap.size + 2 ≤ w1.heap.size + 1 := by omega)
        | (at_builtin
           refine wpList_append_ow okBB _ rfl (.tmp 18) (.tmp 20) _ rfl (w.heap.size + 2) info_bb Tryz.underlying105 rfl A1 j c1 ps rfl d3.1 (some ⟨w1.heap.size, 0, none⟩) 1 1 _ [(b, [⟨some ⟨g2, 0, none⟩, m, c2⟩])] rfl hrd rfl (by unfold maxLen; omega) (by omega) (by simpa using hb2) ?_
           intro A4 c4 w4 ow4 hg4 hat4
           have aR4 := aR3.grown hg4 (fun e => by have := (Ow.lt d3.1 _ e).1; omega)
           have aV4 := aV3.grown hg4 (fun e => by have := (Ow.lt d3.1 _ e).1; omega)
           obtain ⟨x0, x1, x2, y0, y1, y2⟩ := aV4.three))
      have hcast : (p : Int) + ((m : Int) + 3) = ((posF d (j + 1) : Nat) : Int) := by rw [HP.out, ← HM.out]; omega
      rw [hcast]
      have aR5 := (aR4.far (p := ⟨w.heap.size + 1, 1, none⟩) (by simp) (.slice A4 (j + 1) c4)).far (p := ⟨w.heap.size + 1, 2, none⟩) (by simp) (.int .i64 ((posF d (j + 1) : Nat) : Int))
      have aV5 := (aV4.set 1 (.slice A4 (j + 1) c4)).set 2 (.int .i64 ((posF d (j + 1) : Nat) : Int))
      have hz := aV.lt
      have d4 := how.snocB d3 o3 (by omega) ow4 hg4 hat4
      have d5 := (d4.under (p := ⟨w.heap.size + 1, 1, none⟩) (by simp) (.slice A4 (j + 1) c4)).under (p := ⟨w.heap.size + 1, 2, none⟩) (by simp) (.int .i64 ((posF d (j + 1) : Nat) : Int))
      have hB4 := hB3.grown hg4 hB3.size (fun g hg => by have := (Ow.lt d3.1 g hg).1; omega)
      have hB5 := (hB4.setCell (p := ⟨w.heap.size + 1, 1, none⟩) (by simp) (.slice A4 (j + 1) c4)).setCell (p := ⟨w.heap.size + 1, 2, none⟩) (by simp) (.int .i64 ((posF d (j + 1) : Nat) : Int))
      refine ⟨⟨j + 1, A4, c4, _, aR5, aV5, d5, by rw [HB.out, List.map_append, Hps.out]; rfl, HG.out, hB5⟩, ?_⟩
      rw [Hpos.out]
      unfold posAt
      rw [aV5.cell 2]
      have h1 := HP.out
      have h2 := HM.out
      have h3 := Hp.out
      simp [intOf]
      omega

theorem implReadFrames (A : Option Addr) (n c : Nat) (d : List UInt8) (w : World) (hr : Rd eB w w.heap.size A d) (hn : d.length = n) (hc : n ≤ c) :
    Calls Tryz.prog 69 #[.slice A n c] w fun e w' => RetFR (framesM d) w e w' := by
  by_cases h : n ≤ 20000
  · exact implReadFrames_ok A n c d w hr hn hc h
  · exact implReadFrames_big A n c d w hn (by omega)
end Go.Proofs.YtmaillakhhdkfaaGreatDoor
/-
  Two rows of bytes that are the same or nearly so.
-/
namespace Go.Proofs.YtmaillakhhdkfaaGreatDoor
set_option maxRecDepth 20000
open Go.RowKit

theorem xor_u8 (x y : UInt8) : bits .xor .u8 (x.toNat : Int) (y.toNat : Int) = ((x ^^^ y).toNat : Int) := by
  have h : ∀ z : UInt8, BitVec.ofInt 8 (z.toNat : Int) = z.toBitVec := fun z => by
    rw [BitVec.ofInt_natCast]
    apply BitVec.eq_of_toNat_eq
    rw [BitVec.toNat_ofNat]
    exact Nat.mod_eq_of_lt z.toNat_lt
  show IntKind.u8.wrap ((BitVec.ofInt 8 (x.toNat : Int) ^^^ BitVec.ofInt 8 (y.toNat : Int)).toNat : Int) = _
  rw [h, h, IntKind.wrap_u8]
  have := (x ^^^ y).toNat_lt
  show ((x ^^^ y).toNat : Int) % 256 = _
  omega

end Go.Proofs.YtmaillakhhdkfaaGreatDoor
/-
  A region in which a load may stand on either side of a call, and a store ends it: both orders are walked from there on.
-/
namespace Go.Proofs.YtmaillakhhdkfaaGreatDoor
set_option maxRecDepth 20000
open Go.RowKit

section
variable {P : Program} {md : Region.Mode} {ops : Array Oper} {Q : Exit → Act → World → Prop}

/-- As 'mixW', nothing known of the worlds; behind it R. -/
def forkW (P : Program) (ops : Array Oper) (Q : Exit → Act → World → Prop) (R : Act → World → Prop) : List (Oper × Bool) → Act → World → Prop
  | [], a, w => R a w
  | (o, c) :: rest, a, w =>
    if Region.wanted o (yielded ops a.tmps) = true then
      if c = true then o.wp P a w (fun a' w' => forkW P ops Q R rest a' w') Q
      else ∃ v, (∀ x, (execOp a.eval o).run P x = .ok (.value v) x) ∧ forkW P ops Q R rest (a.put o.dst v) w
    else forkW P ops Q R rest (a.put o.dst undef) w

/-- The order fits the region. -/
def forkB (md : Region.Mode) (ops : Array Oper) : Array Bool → List (Nat × Bool) → Bool
  | _, [] => true
  | listed, (k, c) :: p => (if c then Region.ready md ops listed == [k] else (Region.ready md ops listed).contains k && Region.free md ops listed k) && forkB md ops (listed.setIfInBounds k true) p
def listedBy (listed : Array Bool) (p : List (Nat × Bool)) : Array Bool := p.foldl (fun t x => t.setIfInBounds x.1 true) listed

theorem any_of_fork {l : List Oper} {R : Act → World → Prop} (hsel : Region.noSelect l.toArray = true) (hQ : ∀ c a (d : Nat) v w, Q (.panic c) (Act.put a (some d) v) w → Q (.panic c) a w) (fuel : Nat) :
    ∀ (p : List (Nat × Bool)) (listed : Array Bool) (a : Act) (w : World), (∀ x ∈ p, x.1 < l.length) → forkB md l.toArray listed p = true →
      (∀ a w, R a w → wpAnyH P md l.toArray Q (fun _ => True) fuel (listedBy listed p) a w) → forkW P l.toArray Q R (mixOps l p) a w →
      wpAnyH P md l.toArray Q (fun _ => True) (p.length + fuel) listed a w
  | [], listed, a, w, _, _, hR, h => by
    rw [List.length_nil, Nat.zero_add]
    exact hR a w h
  | (k, c) :: p, listed, a, w, hl, hB, hR, h => by
    have hk : k < l.length := hl (k, c) (by simp)
    obtain ⟨o, ho⟩ : ∃ o, l[k]? = some o := ⟨_, List.getElem?_eq_getElem hk⟩
    have hoa : l.toArray[k]? = some o := by simpa using ho
    simp only [forkB, Bool.and_eq_true] at hB
    obtain ⟨hb, hB'⟩ := hB
    have hQ' : ∀ c a d v w, Q (.panic c) (Act.put a d v) w → Q (.panic c) a w := fun c a d v w h => by
      cases d with
      | none => exact h
      | some d => exact hQ c a d v w h
    have ih := fun a w => any_of_fork hsel hQ fuel p (listed.setIfInBounds k true) a w (fun x hx => hl x (by simp [hx])) hB' hR
    have e : ((k, c) :: p).length + fuel = p.length + fuel + 1 := by rw [List.length_cons]; omega
    rw [e]
    simp only [mixOps, List.map_cons, ho, Option.getD_some, forkW] at h
    cases c with
    | false =>
      simp only [Bool.false_eq_true, if_false, Bool.and_eq_true] at hb h
      by_cases hw : Region.wanted o (yielded l.toArray a.tmps) = true
      · rw [if_pos hw] at h
        obtain ⟨v, hv, h⟩ := h
        exact wpAnyH_take hoa hsel hb.2 hb.1 (fun c a w => hQ' c a _ _ w) (.inl ⟨hw, fun x _ => hv x⟩) trivial (ih _ w h)
      · rw [if_neg hw] at h
        exact wpAnyH_take hoa hsel hb.2 hb.1 (fun c a w => hQ' c a _ _ w) (.inr ⟨by simpa using hw, rfl⟩) trivial (ih _ w h)
    | true =>
      simp only [if_true] at hb h
      refine wpAnyH_all (rs := [k]) (by simpa using hb) (by simp) fun i hi => ?_
      obtain rfl : i = k := by simpa using hi
      unfold wpOp
      rw [hoa]
      simp only
      by_cases hw : Region.wanted o (yielded l.toArray a.tmps) = true
      · rw [if_pos hw] at h ⊢
        have h1 : wpOp P l.toArray Q i (fun a' w' => forkW P l.toArray Q R (mixOps l p) a' w') a w := by
          unfold wpOp
          rw [hoa]
          simp only
          rw [if_pos hw]
          exact .inl h
        have h2 := wpOp_mono (K' := fun a' w' => True ∧ wpAnyH P md l.toArray Q (fun _ => True) (p.length + fuel) (listed.setIfInBounds i true) a' w') (fun a' w' h3 => ⟨trivial, ih a' w' h3⟩) h1
        unfold wpOp at h2
        rw [hoa] at h2
        simp only at h2
        rwa [if_pos hw] at h2
      · rw [if_neg hw] at h ⊢
        exact ⟨trivial, ih _ w h⟩

/-- One that comes up beside another one. -/
theorem wpOp_of_fork {l : List Oper} {R : Act → World → Prop} {i : Nat} {o : Oper} {rest : List (Oper × Bool)} {a : Act} {w : World} (hoa : l.toArray[i]? = some o)
    (h : forkW P l.toArray Q R ((o, true) :: rest) a w) : wpOp P l.toArray Q i (fun a' w' => forkW P l.toArray Q R rest a' w') a w := by
  unfold wpOp
  rw [hoa]
  simp only
  unfold forkW at h
  by_cases hw : Region.wanted o (yielded l.toArray a.tmps) = true
  · rw [if_pos hw] at h ⊢
    rw [if_pos rfl] at h
    exact .inl h
  · rw [if_neg hw] at h ⊢
    exact h

/-- Both of two. -/
def forkAll (md : Region.Mode) (ops : Array Oper) (n : Nat) (p p1 p2 : List (Nat × Bool)) (i j : Nat) : Bool :=
  Region.noSelect ops && (forkB md ops (Array.replicate n false) p && ((Region.ready md ops (listedBy (Array.replicate n false) p) == [i, j]) &&
    ((forkB md ops ((listedBy (Array.replicate n false) p).setIfInBounds i true) p1 && (Region.ready md ops (listedBy ((listedBy (Array.replicate n false) p).setIfInBounds i true) p1)).isEmpty) &&
     (forkB md ops ((listedBy (Array.replicate n false) p).setIfInBounds j true) p2 && (Region.ready md ops (listedBy ((listedBy (Array.replicate n false) p).setIfInBounds j true) p2)).isEmpty)) &&
    (p.length + (p1.length + 1) == n && p1.length == p2.length && decide (i < n) && decide (j < n) && (p ++ p1 ++ p2).all fun x => decide (x.1 < n))))

theorem wp_region_fork {id : Nat} {l : List Oper} {a : Act} {w : World} (p p1 p2 : List (Nat × Bool)) (i j : Nat) (hm : P.follows .mixedOrders = true) (hB : forkAll .any l.toArray l.length p p1 p2 i j = true)
    (hQ : ∀ c a (d : Nat) v w, Q (.panic c) (Act.put a (some d) v) w → Q (.panic c) a w)
    (h : forkW P l.toArray Q (fun a w => forkW P l.toArray Q (Q .normal) (mixOps l ((i, true) :: p1)) a w ∧ forkW P l.toArray Q (Q .normal) (mixOps l ((j, true) :: p2)) a w) (mixOps l p) a w.drew) : (Code.region id l.toArray true).wp P Q a w := by
  unfold forkAll at hB
  simp only [Bool.and_eq_true, beq_iff_eq, List.all_eq_true, decide_eq_true_eq, List.mem_append] at hB
  obtain ⟨h1, h2, ⟨h3, ⟨h4, h5⟩, h6, h7⟩, ⟨⟨⟨h8, h9⟩, h10⟩, h11⟩, h12⟩ := hB
  refine wp_region_held (S := fun _ => True) hm ?_
  have hi : l[i]? = some l[i] := List.getElem?_eq_getElem h10
  have hj : l[j]? = some l[j] := List.getElem?_eq_getElem h11
  have go := any_of_fork (P := P) (md := .any) (R := fun a w => forkW P l.toArray Q (Q .normal) (mixOps l ((i, true) :: p1)) a w ∧ forkW P l.toArray Q (Q .normal) (mixOps l ((j, true) :: p2)) a w) h1 hQ (p1.length + 1) p
    (Array.replicate l.length false) a w.drew (fun x hx => h12 x (.inl (.inl hx))) h2 (fun a w hR => by
      refine wpAnyH_all (rs := [i, j]) h3 (by simp) fun k hk => ?_
      rcases (show k = i ∨ k = j by simpa using hk) with rfl | rfl
      · have hR1 := hR.1
        simp only [mixOps, List.map_cons, hi, Option.getD_some] at hR1
        refine wpOp_mono (fun a' w' h' => ⟨trivial, ?_⟩) (wpOp_of_fork (by simp) hR1)
        exact any_of_fork h1 hQ 0 p1 _ a' w' (fun x hx => h12 x (.inl (.inr hx))) h4 (fun a w hq => wpAnyH_done (by simpa using h5) hq 0) h'
      · have hR1 := hR.2
        simp only [mixOps, List.map_cons, hj, Option.getD_some] at hR1
        refine wpOp_mono (fun a' w' h' => ⟨trivial, ?_⟩) (wpOp_of_fork (by simp) hR1)
        have := any_of_fork h1 hQ 0 p2 _ a' w' (fun x hx => h12 x (.inr hx)) h6 (fun a w hq => wpAnyH_done (by simpa using h7) hq 0) h'
        rwa [← h9] at this) h
  rw [h8] at go
  simpa using go

theorem fork_pure {R : Act → World → Prop} {o : Oper} {rest : List (Oper × Bool)} {a : Act} {w : World} {v : Value} (hw : Region.wanted o (yielded ops a.tmps) = true)
    (hv : ∀ x, (execOp a.eval o).run P x = .ok (.value v) x) (h : forkW P ops Q R rest (a.put o.dst v) w) : forkW P ops Q R ((o, false) :: rest) a w := by
  unfold forkW
  rw [if_pos hw, if_neg (by simp)]
  exact ⟨v, hv, h⟩
theorem fork_skip {R : Act → World → Prop} {o : Oper} {c : Bool} {rest : List (Oper × Bool)} {a : Act} {w : World} (hw : Region.wanted o (yielded ops a.tmps) = false)
    (h : forkW P ops Q R rest (a.put o.dst undef) w) : forkW P ops Q R ((o, c) :: rest) a w := by
  unfold forkW
  rw [if_neg (by simp [hw])]
  exact h
/-- What is carried out: a call, a load, a store. -/
theorem fork_call {R : Act → World → Prop} {o : Oper} {rest : List (Oper × Bool)} {a : Act} {w : World} (hw : Region.wanted o (yielded ops a.tmps) = true)
    (h : ∀ K : Act → World → Prop, (∀ a' w', forkW P ops Q R rest a' w' → K a' w') → o.wp P a w K Q) : forkW P ops Q R ((o, true) :: rest) a w := by
  unfold forkW
  rw [if_pos hw, if_pos rfl]
  exact h _ fun a' w' h3 => h3
theorem fork_nil {R : Act → World → Prop} {a : Act} {w : World} (h : R a w) : forkW P ops Q R [] a w := h
end
end Go.Proofs.YtmaillakhhdkfaaGreatDoor
/-
  A disk: frames, and something behind them, or less of them, or one byte turned.
-/
namespace Go.Proofs.YtmaillakhhdkfaaGreatDoor
set_option maxRecDepth 20000
open Go.RowKit

/-- Bytes that read as a list. -/
def RetRd (w : World) (e : Ending) (w' : World) : Prop :=
  ∃ (A : Option Addr) (n c : Nat) (xs : List UInt8), e = .returned (.slice A n c) ∧ xs.length = n ∧ n ≤ c ∧ c ≤ maxLen ∧ n ≤ 20001 ∧ Rd eB w' w'.heap.size A xs ∧ Below w.heap.size w w'
theorem retRd_of {w w' : World} {base : Nat} {A : Option Addr} {n c : Nat} {xs : List UInt8} (h : Ow eB w' base A n c xs) (hn : n ≤ 20001) (hb : Below w.heap.size w w') : RetRd w (.returned (.slice A n c)) w' :=
  ⟨A, n, c, xs, rfl, h.len okB, h.cap, h.capMax, hn, h.rd okB, hb⟩

end Go.Proofs.YtmaillakhhdkfaaGreatDoor
/-
  As Mix, but two that make memory may come in either order: both are walked from there on, and what is known of every world goes along.
-/
namespace Go.Proofs.YtmaillakhhdkfaaGreatDoor
set_option maxRecDepth 20000
open Go.RowKit

section
variable {P : Program} {md : Region.Mode} {ops : Array Oper} {Q : Exit → Act → World → Prop}

/-- As 'mixW'; behind it R. -/
def mixRW (P : Program) (ops : Array Oper) (Q : Exit → Act → World → Prop) (R : (World → Prop) → Act → World → Prop) : List (Oper × Bool) → (World → Prop) → Act → World → Prop
  | [], S, a, w => R S a w
  | (o, c) :: rest, S, a, w =>
    if Region.wanted o (yielded ops a.tmps) = true then
      if c = true then o.wp P a w (fun a' w' => ∃ S' : World → Prop, (∀ x, S' x → S x) ∧ S' w' ∧ mixRW P ops Q R rest S' a' w') Q
      else ∃ v, (∀ x, S x → (execOp a.eval o).run P x = .ok (.value v) x) ∧ mixRW P ops Q R rest S (a.put o.dst v) w
    else mixRW P ops Q R rest S (a.put o.dst undef) w

theorem held_of_mixR {l : List Oper} {R : (World → Prop) → Act → World → Prop} (hsel : Region.noSelect l.toArray = true) (hQ : ∀ c a (d : Nat) v w, Q (.panic c) (Act.put a (some d) v) w → Q (.panic c) a w) (fuel : Nat) :
    ∀ (p : List (Nat × Bool)) (listed : Array Bool) (S : World → Prop) (a : Act) (w : World), (∀ x ∈ p, x.1 < l.length) → forkB md l.toArray listed p = true →
      (∀ S a w, S w → R S a w → wpAnyH P md l.toArray Q S fuel (listedBy listed p) a w) → S w → mixRW P l.toArray Q R (mixOps l p) S a w →
      wpAnyH P md l.toArray Q S (p.length + fuel) listed a w
  | [], listed, S, a, w, _, _, hR, hS, h => by
    rw [List.length_nil, Nat.zero_add]
    exact hR S a w hS h
  | (k, c) :: p, listed, S, a, w, hl, hB, hR, hS, h => by
    have hk : k < l.length := hl (k, c) (by simp)
    obtain ⟨o, ho⟩ : ∃ o, l[k]? = some o := ⟨_, List.getElem?_eq_getElem hk⟩
    have hoa : l.toArray[k]? = some o := by simpa using ho
    simp only [forkB, Bool.and_eq_true] at hB
    obtain ⟨hb, hB'⟩ := hB
    have hQ' : ∀ c a d v w, Q (.panic c) (Act.put a d v) w → Q (.panic c) a w := fun c a d v w h => by
      cases d with
      | none => exact h
      | some d => exact hQ c a d v w h
    have ih := fun S a w => held_of_mixR hsel hQ fuel p (listed.setIfInBounds k true) S a w (fun x hx => hl x (by simp [hx])) hB' hR
    have e : ((k, c) :: p).length + fuel = p.length + fuel + 1 := by rw [List.length_cons]; omega
    rw [e]
    simp only [mixOps, List.map_cons, ho, Option.getD_some, mixRW] at h
    cases c with
    | false =>
      simp only [Bool.false_eq_true, if_false, Bool.and_eq_true] at hb h
      by_cases hw : Region.wanted o (yielded l.toArray a.tmps) = true
      · rw [if_pos hw] at h
        obtain ⟨v, hv, h⟩ := h
        exact wpAnyH_take hoa hsel hb.2 hb.1 (fun c a w => hQ' c a _ _ w) (.inl ⟨hw, hv⟩) hS (ih S _ w hS h)
      · rw [if_neg hw] at h
        exact wpAnyH_take hoa hsel hb.2 hb.1 (fun c a w => hQ' c a _ _ w) (.inr ⟨by simpa using hw, rfl⟩) hS (ih S _ w hS h)
    | true =>
      simp only [if_true] at hb h
      refine wpAnyH_all (rs := [k]) (by simpa using hb) (by simp) fun i hi => ?_
      obtain rfl : i = k := by simpa using hi
      unfold wpOp
      rw [hoa]
      simp only
      by_cases hw : Region.wanted o (yielded l.toArray a.tmps) = true
      · rw [if_pos hw] at h ⊢
        have h1 : wpOp P l.toArray Q i (fun a' w' => ∃ S' : World → Prop, (∀ x, S' x → S x) ∧ S' w' ∧ mixRW P l.toArray Q R (mixOps l p) S' a' w') a w := by
          unfold wpOp
          rw [hoa]
          simp only
          rw [if_pos hw]
          exact .inl h
        have h2 := wpOp_mono (K' := fun a' w' => S w' ∧ wpAnyH P md l.toArray Q S (p.length + fuel) (listed.setIfInBounds i true) a' w') (fun a' w' ⟨S', h1, h2, h3⟩ => ⟨h1 _ h2, held_mono h1 _ _ _ _ (ih S' a' w' h2 h3)⟩) h1
        unfold wpOp at h2
        rw [hoa] at h2
        simp only at h2
        rwa [if_pos hw] at h2
      · rw [if_neg hw] at h ⊢
        exact ⟨hS, ih S _ w hS h⟩

theorem wpOp_of_mixR {l : List Oper} {R : (World → Prop) → Act → World → Prop} {i : Nat} {o : Oper} {rest : List (Oper × Bool)} {S : World → Prop} {a : Act} {w : World} (hoa : l.toArray[i]? = some o) (hS : S w)
    (h : mixRW P l.toArray Q R ((o, true) :: rest) S a w) : wpOp P l.toArray Q i (fun a' w' => ∃ S' : World → Prop, (∀ x, S' x → S x) ∧ S' w' ∧ mixRW P l.toArray Q R rest S' a' w') a w := by
  unfold wpOp
  rw [hoa]
  simp only
  unfold mixRW at h
  by_cases hw : Region.wanted o (yielded l.toArray a.tmps) = true
  · rw [if_pos hw] at h ⊢
    rw [if_pos rfl] at h
    exact .inl h
  · rw [if_neg hw] at h ⊢
    exact ⟨S, fun _ h => h, hS, h⟩

theorem wp_region_fork2 {id : Nat} {l : List Oper} {a : Act} {w : World} (p p1 p2 : List (Nat × Bool)) (i j : Nat) (S : World → Prop) (hm : P.follows .mixedOrders = true) (hB : forkAll .any l.toArray l.length p p1 p2 i j = true)
    (hQ : ∀ c a (d : Nat) v w, Q (.panic c) (Act.put a (some d) v) w → Q (.panic c) a w) (hS : S w.drew)
    (h : mixRW P l.toArray Q (fun S a w => mixRW P l.toArray Q (fun _ a w => Q .normal a w) (mixOps l ((i, true) :: p1)) S a w ∧ mixRW P l.toArray Q (fun _ a w => Q .normal a w) (mixOps l ((j, true) :: p2)) S a w) (mixOps l p) S a w.drew) :
    (Code.region id l.toArray true).wp P Q a w := by
  unfold forkAll at hB
  simp only [Bool.and_eq_true, beq_iff_eq, List.all_eq_true, decide_eq_true_eq, List.mem_append] at hB
  obtain ⟨h1, h2, ⟨h3, ⟨h4, h5⟩, h6, h7⟩, ⟨⟨⟨h8, h9⟩, h10⟩, h11⟩, h12⟩ := hB
  refine wp_region_held (S := S) hm ?_
  have hi : l[i]? = some l[i] := List.getElem?_eq_getElem h10
  have hj : l[j]? = some l[j] := List.getElem?_eq_getElem h11
  have go := held_of_mixR (P := P) (md := .any) (R := fun S a w => mixRW P l.toArray Q (fun _ a w => Q .normal a w) (mixOps l ((i, true) :: p1)) S a w ∧ mixRW P l.toArray Q (fun _ a w => Q .normal a w) (mixOps l ((j, true) :: p2)) S a w) h1 hQ (p1.length + 1) p
    (Array.replicate l.length false) S a w.drew (fun x hx => h12 x (.inl (.inl hx))) h2 (fun S a w hS hR => by
      refine wpAnyH_all (rs := [i, j]) h3 (by simp) fun k hk => ?_
      rcases (show k = i ∨ k = j by simpa using hk) with rfl | rfl
      · have hR1 := hR.1
        simp only [mixOps, List.map_cons, hi, Option.getD_some] at hR1
        refine wpOp_mono (fun a' w' ⟨S', g1, g2, g3⟩ => ⟨g1 _ g2, held_mono g1 _ _ _ _ ?_⟩) (wpOp_of_mixR (by simp) hS hR1)
        exact held_of_mixR h1 hQ 0 p1 _ S' a' w' (fun x hx => h12 x (.inl (.inr hx))) h4 (fun S a w _ hq => wpAnyH_done (by simpa using h5) hq 0) g2 g3
      · have hR1 := hR.2
        simp only [mixOps, List.map_cons, hj, Option.getD_some] at hR1
        refine wpOp_mono (fun a' w' ⟨S', g1, g2, g3⟩ => ⟨g1 _ g2, held_mono g1 _ _ _ _ ?_⟩) (wpOp_of_mixR (by simp) hS hR1)
        have := held_of_mixR h1 hQ 0 p2 _ S' a' w' (fun x hx => h12 x (.inr hx)) h6 (fun S a w _ hq => wpAnyH_done (by simpa using h7) hq 0) g2 g3
        rwa [← h9] at this) hS h
  rw [h8] at go
  simpa using go

theorem mixR_pure {R : (World → Prop) → Act → World → Prop} {o : Oper} {rest : List (Oper × Bool)} {S : World → Prop} {a : Act} {w : World} {v : Value} (hw : Region.wanted o (yielded ops a.tmps) = true)
    (hv : ∀ x, S x → (execOp a.eval o).run P x = .ok (.value v) x) (h : mixRW P ops Q R rest S (a.put o.dst v) w) : mixRW P ops Q R ((o, false) :: rest) S a w := by
  unfold mixRW
  rw [if_pos hw, if_neg (by simp)]
  exact ⟨v, hv, h⟩
theorem mixR_skip {R : (World → Prop) → Act → World → Prop} {o : Oper} {c : Bool} {rest : List (Oper × Bool)} {S : World → Prop} {a : Act} {w : World} (hw : Region.wanted o (yielded ops a.tmps) = false)
    (h : mixRW P ops Q R rest S (a.put o.dst undef) w) : mixRW P ops Q R ((o, c) :: rest) S a w := by
  unfold mixRW
  rw [if_neg (by simp [hw])]
  exact h
theorem mixR_call {R : (World → Prop) → Act → World → Prop} {o : Oper} {rest : List (Oper × Bool)} {S : World → Prop} {a : Act} {w : World} (hw : Region.wanted o (yielded ops a.tmps) = true)
    (h : ∀ K : Act → World → Prop, (∀ a' w' (S' : World → Prop), (∀ x, S' x → S x) → S' w' → mixRW P ops Q R rest S' a' w' → K a' w') → o.wp P a w K Q) : mixRW P ops Q R ((o, true) :: rest) S a w := by
  unfold mixRW
  rw [if_pos hw, if_pos rfl]
  exact h _ fun a' w' S' h1 h2 h3 => ⟨S', h1, h2, h3⟩
theorem mixR_nil {R : (World → Prop) → Act → World → Prop} {S : World → Prop} {a : Act} {w : World} (h : R S a w) : mixRW P ops Q R [] S a w := h
end
end Go.Proofs.YtmaillakhhdkfaaGreatDoor
/-
  A sample's bytes: the model's.
-/
namespace Go.Proofs.YtmaillakhhdkfaaGreatDoor
set_option maxRecDepth 20000
open Go.RowKit

/-- The bytes of four numbers, the last one above its low bound. -/
def encL (n0 n1 n2 n3 : Nat) : List UInt8 := [UInt8.ofNat n0] ++ packL n1 2 ++ packL n2 2 ++ packL n3 2
theorem pack1 (n : Nat) : packL n 1 = [UInt8.ofNat n] := by simp [packL]
theorem pack2 (n : Nat) : packL n 2 = [UInt8.ofNat n, UInt8.ofNat (n / 256)] := by simp [packL, List.range_succ]
theorem encL_eq (n0 n1 n2 n3 : Nat) : encL n0 n1 n2 n3 = [UInt8.ofNat n0, UInt8.ofNat n1, UInt8.ofNat (n1 / 256), UInt8.ofNat n2, UInt8.ofNat (n2 / 256), UInt8.ofNat n3, UInt8.ofNat (n3 / 256)] := by
  simp [encL, pack2]

theorem byte_small1 {n : Nat} (h : n < 256) : ((UInt8.ofNat n).toNat : Int) = (n : Int) := by
  rw [UInt8.toNat_ofNat']
  omega
theorem ow_byte (w : World) (b : UInt8) (v : Int) (hv : v = (b.toNat : Int)) : Ow eB ((w.alloc (.cells #[.int .u8 v] 5)).drew) w.heap.size (some ⟨w.heap.size, 0, none⟩) 1 1 [b] :=
  Ow.lit w [b] _ 1 (Nat.le_refl _) (by unfold maxLen; omega) (by simp [Enc.row, eB, hv]) rfl

/-- append as one step of a region: as 'wpList_append_ow'. -/
theorem wp_append_ow {P : Program} {α : Type} {E : Enc α} (hE : EncOk E) (w : World) {o : Oper} {a : Act} {K : Act → World → Prop} {Q : Exit → Act → World → Prop} (s x : Operand) (t : TypeId)
    (ho : o.op = .call { callee := .builtin .append, args := #[s, x], argTypes := #[t, t] })
    (base : Nat) {z : Value} {bytes : Nat} (hinfo : (P.info? E.tid).map (fun i => (i.zero, i.size, i.bytes)) = some (some z, E.size, bytes)) (ht : P.underlying t = some (.slice E.tid)) (hzs : z.cells.size = E.size)
    (A : Option Addr) (n c : Nat) (l : List α) (hs : a.eval s = .slice A n c) (hown : Ow E w base A n c l)
    (X : Option Addr) (m d hi' : Nat) (news : List α) (hx : a.eval x = .slice X m d) (hX : Rd E w hi' X news) (hm : news.length = m)
    (h63 : n + m ≤ maxLen) (hbytes : (n + m) * bytes ≤ 140737488355328) (hbase : base ≤ w.heap.size)
    (h : ∀ A' c' w', Ow E w' base A' (n + m) c' (l ++ news) → w.grownBy w' (A.map (·.block)) → (A'.map (·.block) = A.map (·.block) ∨ A'.map (·.block) = some w.heap.size) → K (a.put o.dst (.slice A' (n + m) c')) w') : o.wp P a w K Q := by
  obtain ⟨i, hi, hz, hsz, hby⟩ := info_parts hinfo
  obtain ⟨A', c', w', hrun, h2, h3, h4⟩ := run_append_ow (P := P) hE w base t o.type i z bytes ht hi hz hsz hby hzs A n c l hown X m d hi' news hX hm h63 hbytes hbase
  unfold Oper.wp execOp
  simp only [ho, resolve, invoke, builtin, Sem.run_bind, Sem.run_pure, Result.andThen_ok, List.map_toArray, List.map_cons, List.map_nil, hs, hx, hrun]
  exact h A' c' w' h2 h3 h4

/-- A sample's answer of code and bytes. -/
def encodeM (x : Smp) : Int × List UInt8 := if faultM x = 0 then (0, encL x.1.toNat x.2.1.toNat x.2.2.1.toNat (x.2.2.2 + 1000).toNat) else (3, [])
theorem faultM_in {a0 a1 a2 a3 : Int} (h : faultM (a0, a1, a2, a3) = 0) : (0 ≤ a0 ∧ a0 ≤ 9) ∧ (0 ≤ a1 ∧ a1 ≤ 999) ∧ (0 ≤ a2 ∧ a2 ≤ 9999) ∧ -1000 ≤ a3 ∧ a3 ≤ 1000 := by
  unfold faultM at h
  split at h
  · rename_i hh
    simpa [bndsM, inB] using hh
  · cases h
/-- No fault: the numbers. -/
theorem faultM_nat {a0 a1 a2 a3 : Int} (h : faultM (a0, a1, a2, a3) = 0) : ∃ n0 n1 n2 n3 : Nat, a0 = n0 ∧ a1 = n1 ∧ a2 = n2 ∧ a3 = (n3 : Int) - 1000 ∧ n0 ≤ 9 ∧ n1 ≤ 999 ∧ n2 ≤ 9999 ∧ n3 ≤ 2000 := by
  obtain ⟨h0, h1, h2, h3⟩ := faultM_in h
  exact ⟨a0.toNat, a1.toNat, a2.toNat, (a3 + 1000).toNat, by omega, by omega, by omega, by omega, by omega, by omega, by omega, by omega⟩
theorem encodeM_nat {n0 n1 n2 n3 : Nat} (h : faultM ((n0 : Int), (n1 : Int), (n2 : Int), (n3 : Int) - 1000) = 0) : encodeM ((n0 : Int), (n1 : Int), (n2 : Int), (n3 : Int) - 1000) = (0, encL n0 n1 n2 n3) := by
  unfold encodeM
  rw [if_pos h]
  simp only [Int.toNat_natCast, Int.sub_add_cancel]
theorem encodeM_no {x : Smp} (h : faultM x = 3) : encodeM x = (3, []) := by
  unfold encodeM
  rw [h]
  rfl

end Go.Proofs.YtmaillakhhdkfaaGreatDoor
/-
  Samples that are drawn, and bytes of samples.
-/
namespace Go.Proofs.YtmaillakhhdkfaaGreatDoor
set_option maxRecDepth 20000
open Go.RowKit
set_option linter.unusedSimpArgs false

theorem At.newAt {w : World} {g : Nat} {t : TypeId} {cs : Array Value} (h : w.heap.size = g) : At (w.alloc (.cells cs t)) g t cs := by
  subst h
  exact At.new w t cs
theorem pick_val {xs : List Int} {v : Int} (h : v ∈ xs) (ha : (xs.all fun x => decide (-1000 ≤ x ∧ x ≤ 1000)) = true) : ∃ q : Nat, v = (q : Int) - 1000 ∧ q ≤ 2000 := by
  have := List.all_eq_true.1 ha v h
  simp only [decide_eq_true_eq] at this
  exact ⟨(v + 1000).toNat, by omega, by omega⟩
theorem Within.put {a w : World} {lo hi : Nat} (h : Within lo hi w a) {p : Addr} (hp : w.heap.size ≤ p.block) (u : Value) : Within lo hi w (a.setCell p u) :=
  h.push (grown_setCell a p u) (fun g hg => by obtain rfl := Option.some.inj hg; exact hp)
theorem Src.put {w : World} {base g n c k : Nat} {A : Option Addr} {l : List UInt8} (h : Src w base g A n c k l) {p : Addr} (hp : g < p.block) (u : Value) : Src (w.setCell p u) base g A n c k l :=
  h.grown (grown_setCell w p u) (fun x hx => by obtain rfl := Option.some.inj hx; exact hp)

set_option maxHeartbeats 1000000 in
theorem l2Draw (w : World) (base g : Nat) (A : Option Addr) (m c k : Nat) (l : List UInt8) (h : Src w base g A m c k l) (hk : k < 1000000000) :
    Calls Tryz.prog 84 #[.pointer (some ⟨g, 0, none⟩)] w fun e w' => ∃ n0 n1 n2 n3 : Nat, e = .returned (.agg #[.int .i64 n0, .int .i64 n1, .int .i64 n2, .int .i64 ((n3 : Int) - 1000)]) ∧ n0 ≤ 9 ∧ n1 ≤ 999 ∧ n2 ≤ 9999 ∧ n3 ≤ 2000 ∧ Src w' base g A m c (k + 4) l ∧ Within g (g + 1) w w' := by
  have g0 := h.at_.lt
  have s0 := h.alloc (.cells #[.int .i64 0, .int .i64 0, .int .i64 0, .int .i64 0] 25)
  have WI0 := (Within.refl g (g + 1) w).alloc (.cells #[.int .i64 0, .int .i64 0, .int .i64 0, .int .i64 0] 25)
  have r0 := At.new w 25 #[.int .i64 0, .int .i64 0, .int .i64 0, .int .i64 0]
  go_enter Tryz.func84, Tryz.ntmps84
  go_wp2_with fail
  refine (l1Pick ((w.alloc (.cells #[.int .i64 0, .int .i64 0, .int .i64 0, .int .i64 0] 25)).alloc (.cells #[.int .i64 0, .int .i64 1, .int .i64 2, .int .i64 9] 2)) _ _ A m c k l (w.heap.size + 1) #[.int .i64 0, .int .i64 1, .int .i64 2, .int .i64 9] [0, 1, 2, 9] 4 4 (s0.alloc _) (by omega) (At.newAt (by first | rfl | simp)) (by simp [intCells]) (by omega) rfl (by omega) (by omega)).mono ?_
  rintro e w1 ⟨v1, hv1, rfl, s1, hw1, -⟩
  have g1 := s1.at_.lt
  have WI1 := (WI0.alloc (.cells #[.int .i64 0, .int .i64 1, .int .i64 2, .int .i64 9] 2)).trans hw1
  have z1 := WI1.size
  have r1 := (r0.alloc (.cells #[.int .i64 0, .int .i64 1, .int .i64 2, .int .i64 9] 2)).within hw1 (by omega)
  obtain ⟨q1, rfl, hq1⟩ := pick_nat 9 hv1 rfl
  clear hv1
  go_wp2_with fail
  refine (l1Pick (w1.alloc (.cells #[.int .i64 0, .int .i64 5, .int .i64 7, .int .i64 999, .int .i64 6] 2)) _ _ A m c (k + 1) l w1.heap.size #[.int .i64 0, .int .i64 5, .int .i64 7, .int .i64 999, .int .i64 6] [0, 5, 7, 999, 6] 5 5 (s1.alloc _) (by omega) (At.newAt (by first | rfl | simp)) (by simp [intCells]) (by omega) rfl (by omega) (by omega)).mono ?_
  rintro e w2 ⟨v2, hv2, rfl, s2, hw2, -⟩
  have g2 := s2.at_.lt
  have WI2 := (WI1.alloc (.cells #[.int .i64 0, .int .i64 5, .int .i64 7, .int .i64 999, .int .i64 6] 2)).trans hw2
  have z2 := WI2.size
  have r2 := (r1.alloc (.cells #[.int .i64 0, .int .i64 5, .int .i64 7, .int .i64 999, .int .i64 6] 2)).within hw2 (by omega)
  obtain ⟨q2, rfl, hq2⟩ := pick_nat 999 hv2 rfl
  clear hv2
  go_wp2_with fail
  refine (l1Pick (w2.alloc (.cells #[.int .i64 0, .int .i64 1, .int .i64 2, .int .i64 3, .int .i64 9999] 2)) _ _ A m c (k + 1 + 1) l w2.heap.size #[.int .i64 0, .int .i64 1, .int .i64 2, .int .i64 3, .int .i64 9999] [0, 1, 2, 3, 9999] 5 5 (s2.alloc _) (by omega) (At.newAt (by first | rfl | simp)) (by simp [intCells]) (by omega) rfl (by omega) (by omega)).mono ?_
  rintro e w3 ⟨v3, hv3, rfl, s3, hw3, -⟩
  have g3 := s3.at_.lt
  have WI3 := (WI2.alloc (.cells #[.int .i64 0, .int .i64 1, .int .i64 2, .int .i64 3, .int .i64 9999] 2)).trans hw3
  have z3 := WI3.size
  have r3 := (r2.alloc (.cells #[.int .i64 0, .int .i64 1, .int .i64 2, .int .i64 3, .int .i64 9999] 2)).within hw3 (by omega)
  obtain ⟨q3, rfl, hq3⟩ := pick_nat 9999 hv3 rfl
  clear hv3
  go_wp2_with fail
  refine (l1Pick (w3.alloc (.cells #[.int .i64 0, .int .i64 5, .int .i64 (-5), .int .i64 1000, .int .i64 (-1000)] 2)) _ _ A m c (k + 1 + 1 + 1) l w3.heap.size #[.int .i64 0, .int .i64 5, .int .i64 (-5), .int .i64 1000, .int .i64 (-1000)] [0, 5, (-5), 1000, (-1000)] 5 5 (s3.alloc _) (by omega) (At.newAt (by first | rfl | simp)) (by simp [intCells]) (by omega) rfl (by omega) (by omega)).mono ?_
  rintro e w4 ⟨v4, hv4, rfl, s4, hw4, -⟩
  have g4 := s4.at_.lt
  have WI4 := (WI3.alloc (.cells #[.int .i64 0, .int .i64 5, .int .i64 (-5), .int .i64 1000, .int .i64 (-1000)] 2)).trans hw4
  have z4 := WI4.size
  have r4 := (r3.alloc (.cells #[.int .i64 0, .int .i64 5, .int .i64 (-5), .int .i64 1000, .int .i64 (-1000)] 2)).within hw4 (by omega)
  obtain ⟨q4, rfl, hq4⟩ := pick_val hv4 rfl
  clear hv4
  obtain ⟨c0, c1, c2, c3, f0, f1, f2, f3⟩ := r4.four
  go_wp2_with fail
  refine bodyPost_ret (v := .agg #[.int .i64 q1, .int .i64 q2, .int .i64 q3, .int .i64 ((q4 : Int) - 1000)]) (by simp [results, Tryz.results84, go_sem, c0, c1, c2, c3]) rfl ?_
  exact ⟨q1, q2, q3, q4, rfl, hq1, hq2, hq3, hq4, (((s4.put (p := ⟨w.heap.size, 0, none⟩) g0 _).put (p := ⟨w.heap.size, 1, none⟩) g0 _).put (p := ⟨w.heap.size, 2, none⟩) g0 _).put (p := ⟨w.heap.size, 3, none⟩) g0 _, (((WI4.put (p := ⟨w.heap.size, 0, none⟩) (Nat.le_refl _) _).put (p := ⟨w.heap.size, 1, none⟩) (Nat.le_refl _) _).put (p := ⟨w.heap.size, 2, none⟩) (Nat.le_refl _) _).put (p := ⟨w.heap.size, 3, none⟩) (Nat.le_refl _) _⟩

end Go.Proofs.YtmaillakhhdkfaaGreatDoor
