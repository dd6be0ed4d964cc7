/-
  Texts of one proof, joined: each has its own namespace.
-/
import Derived.OrdersHeld
import Derived.Tactics2
import Derived.Tactics
import Derived.Deep.RegionHeld
import Derived.Test.YtmaillakhhdkfaaGreatDoorBFnRecords0
import Derived.Test.YtmaillakhhdkfaaGreatDoorBFnRecords2
/-
  A region that draws its order and holds calls that make memory: one walk in an order of our own serves every order. What only computes or reads is taken as soon as it may come, by what is known of EVERY world met from there on ('S'); a call is carried out where nothing else may come, and what is known grows behind it.
-/
namespace Go.Proofs.YtmaillakhhdkfaaGreatDoor
set_option maxRecDepth 20000
open Go.RowKit

section
variable {P : Program} {md : Region.Mode} {ops : Array Oper} {Q : Exit → Act → World → Prop}

theorem held_mono {S S' : World → Prop} (hs : ∀ x, S' x → S x) : ∀ (fuel : Nat) (listed : Array Bool) (a : Act) (w : World), wpAnyH P md ops Q S' fuel listed a w → wpAnyH P md ops Q S fuel listed a w
  | 0, _, _, _, h => h
  | fuel + 1, _, _, _, h => ⟨h.1, fun i hi => wpOp_mono (fun a' w' h' => ⟨hs _ h'.1, held_mono hs fuel _ a' w' h'.2⟩) (h.2 i hi)⟩

/-- The walk: operations in an order of ours ('true': a call), what is known of every world from here on, the frame, the world at hand. -/
def mixW (P : Program) (ops : Array Oper) (Q : Exit → Act → World → Prop) : List (Oper × Bool) → (World → Prop) → Act → World → Prop
  | [], _, a, w => Q .normal a w
  | (o, c) :: rest, S, a, w =>
    if Region.wanted o (yielded ops a.tmps) = true then
      if c = true then o.wp P a w (fun a' w' => ∃ S' : World → Prop, (∀ x, S' x → S x) ∧ S' w' ∧ mixW P ops Q rest S' a' w') Q
      else ∃ v, (∀ x, S x → (execOp a.eval o).run P x = .ok (.value v) x) ∧ mixW P ops Q rest S (a.put o.dst v) w
    else mixW P ops Q rest S (a.put o.dst undef) w

/-- The order fits the region: a call comes where nothing else may come. -/
def mixB (md : Region.Mode) (ops : Array Oper) : Array Bool → List (Nat × Bool) → Bool
  | listed, [] => (Region.ready md ops listed).isEmpty
  | listed, (k, c) :: p => (if c then Region.ready md ops listed == [k] else (Region.ready md ops listed).contains k && Region.free md ops listed k) && mixB md ops (listed.setIfInBounds k true) p

def mixOps (l : List Oper) (p : List (Nat × Bool)) : List (Oper × Bool) := p.map fun x => ((l[x.1]?).getD default, x.2)

theorem held_of_mix {l : List Oper} (hsel : Region.noSelect l.toArray = true) (hQ : ∀ c a (d : Nat) v w, Q (.panic c) (Act.put a (some d) v) w → Q (.panic c) a w) :
    ∀ (p : List (Nat × Bool)) (listed : Array Bool) (S : World → Prop) (a : Act) (w : World), (∀ x ∈ p, x.1 < l.length) → mixB md l.toArray listed p = true → S w → mixW P l.toArray Q (mixOps l p) S a w →
      wpAnyH P md l.toArray Q S p.length listed a w
  | [], listed, S, a, w, _, hB, _, h => wpAnyH_done (by simpa [mixB] using hB) h 0
  | (k, c) :: p, listed, S, a, w, hl, hB, hS, h => by
    have hk : k < l.length := hl (k, c) (by simp)
    obtain ⟨o, ho⟩ : ∃ o, l[k]? = some o := ⟨_, List.getElem?_eq_getElem hk⟩
    have hoa : l.toArray[k]? = some o := by simpa using ho
    simp only [mixB, Bool.and_eq_true] at hB
    obtain ⟨hb, hB'⟩ := hB
    have hQ' : ∀ c a d v w, Q (.panic c) (Act.put a d v) w → Q (.panic c) a w := fun c a d v w h => by
      cases d with
      | none => exact h
      | some d => exact hQ c a d v w h
    have ih := fun S a w => held_of_mix hsel hQ p (listed.setIfInBounds k true) S a w (fun x hx => hl x (by simp [hx])) hB'
    simp only [mixOps, List.map_cons, ho, Option.getD_some, mixW] at h
    cases c with
    | false =>
      simp only [Bool.false_eq_true, if_false, Bool.and_eq_true] at hb h
      by_cases hw : Region.wanted o (yielded l.toArray a.tmps) = true
      · rw [if_pos hw] at h
        obtain ⟨v, hv, h⟩ := h
        exact wpAnyH_take hoa hsel hb.2 hb.1 (fun c a w => hQ' c a _ _ w) (.inl ⟨hw, hv⟩) hS (ih S _ w hS h)
      · rw [if_neg hw] at h
        exact wpAnyH_take hoa hsel hb.2 hb.1 (fun c a w => hQ' c a _ _ w) (.inr ⟨by simpa using hw, rfl⟩) hS (ih S _ w hS h)
    | true =>
      simp only [if_true] at hb h
      refine wpAnyH_all (rs := [k]) (by simpa using hb) (by simp) fun i hi => ?_
      obtain rfl : i = k := by simpa using hi
      unfold wpOp
      rw [hoa]
      simp only
      by_cases hw : Region.wanted o (yielded l.toArray a.tmps) = true
      · rw [if_pos hw] at h ⊢
        have h1 : wpOp P l.toArray Q i (fun a' w' => ∃ S' : World → Prop, (∀ x, S' x → S x) ∧ S' w' ∧ mixW P l.toArray Q (mixOps l p) S' a' w') a w := by
          unfold wpOp
          rw [hoa]
          simp only
          rw [if_pos hw]
          exact .inl h
        have h2 := wpOp_mono (K' := fun a' w' => S w' ∧ wpAnyH P md l.toArray Q S p.length (listed.setIfInBounds i true) a' w') (fun a' w' ⟨S', h1, h2, h3⟩ => ⟨h1 _ h2, held_mono h1 _ _ _ _ (ih S' a' w' h2 h3)⟩) h1
        unfold wpOp at h2
        rw [hoa] at h2
        simp only at h2
        rwa [if_pos hw] at h2
      · rw [if_neg hw] at h ⊢
        exact ⟨hS, ih S _ w hS h⟩

theorem wp_region_mix {id : Nat} {l : List Oper} {a : Act} {w : World} (p : List (Nat × Bool)) (S : World → Prop) (hm : P.follows .mixedOrders = true)
    (hB : (Region.noSelect l.toArray && (mixB .any l.toArray (Array.replicate l.length false) p && (p.length == l.length && p.all fun x => decide (x.1 < l.length)))) = true)
    (hQ : ∀ c a (d : Nat) v w, Q (.panic c) (Act.put a (some d) v) w → Q (.panic c) a w) (hS : S w.drew) (h : mixW P l.toArray Q (mixOps l p) S a w.drew) : (Code.region id l.toArray true).wp P Q a w := by
  simp only [Bool.and_eq_true, beq_iff_eq, List.all_eq_true, decide_eq_true_eq] at hB
  obtain ⟨h1, h2, h3, h4⟩ := hB
  refine wp_region_held (S := S) hm ?_
  have := held_of_mix (P := P) (md := .any) h1 hQ p (Array.replicate l.length false) S a w.drew (fun x hx => h4 x hx) h2 hS h
  rw [h3] at this
  simpa using this

theorem mix_pure {o : Oper} {rest : List (Oper × Bool)} {S : World → Prop} {a : Act} {w : World} {v : Value} (hw : Region.wanted o (yielded ops a.tmps) = true)
    (hv : ∀ x, S x → (execOp a.eval o).run P x = .ok (.value v) x) (h : mixW P ops Q rest S (a.put o.dst v) w) : mixW P ops Q ((o, false) :: rest) S a w := by
  unfold mixW
  rw [if_pos hw, if_neg (by simp)]
  exact ⟨v, hv, h⟩
theorem mix_skip {o : Oper} {c : Bool} {rest : List (Oper × Bool)} {S : World → Prop} {a : Act} {w : World} (hw : Region.wanted o (yielded ops a.tmps) = false)
    (h : mixW P ops Q rest S (a.put o.dst undef) w) : mixW P ops Q ((o, c) :: rest) S a w := by
  unfold mixW
  rw [if_neg (by simp [hw])]
  exact h
/-- A call: its contract's post, then a new 'S'. -/
theorem mix_call {o : Oper} {rest : List (Oper × Bool)} {S : World → Prop} {a : Act} {w : World} (hw : Region.wanted o (yielded ops a.tmps) = true)
    (h : ∀ K : Act → World → Prop, (∀ a' w' (S' : World → Prop), (∀ x, S' x → S x) → S' w' → mixW P ops Q rest S' a' w' → K a' w') → o.wp P a w K Q) : mixW P ops Q ((o, true) :: rest) S a w := by
  unfold mixW
  rw [if_pos hw, if_pos rfl]
  exact h _ fun a' w' S' h1 h2 h3 => ⟨S', h1, h2, h3⟩
theorem mix_nil {S : World → Prop} {a : Act} {w : World} (h : Q .normal a w) : mixW P ops Q [] S a w := h
end
end Go.Proofs.YtmaillakhhdkfaaGreatDoor
/-
  Samples and their keys: what is ahead of what; the program's compare by the first difference, and the model's.
-/
namespace Go.Proofs.YtmaillakhhdkfaaGreatDoor
set_option maxRecDepth 20000
open Go.RowKit
set_option linter.unusedSimpArgs false

/-- A sample's four numbers. -/
abbrev Smp := Int × Int × Int × Int

def cmpM (x y : Int) : Int := if x < y then -1 else if y < x then 1 else 0
def orM (l : List Int) : Int := (l.find? fun x => decide (x ≠ 0)).getD 0
def keysM (a b : Smp) : Int := orM [cmpM a.1 b.1, cmpM a.2.1 b.2.1, cmpM a.2.2.1 b.2.2.1]
def aheadM (a b : Smp) : Bool := if a.1 = b.1 then decide (a.2.1 < b.2.1) || (decide (a.2.1 = b.2.1) && decide (a.2.2.1 < b.2.2.1)) else decide (a.1 < b.1)
def sameKeyM (a b : Smp) : Bool := decide (a.1 = b.1) && (decide (a.2.1 = b.2.1) && decide (a.2.2.1 = b.2.2.1))

theorem cmpM_range (x y : Int) : cmpM x y = -1 ∧ x < y ∨ cmpM x y = 0 ∧ x = y ∨ cmpM x y = 1 ∧ y < x := by
  unfold cmpM
  split
  · exact .inl ⟨rfl, by assumption⟩
  · split
    · exact .inr (.inr ⟨rfl, by assumption⟩)
    · exact .inr (.inl ⟨rfl, by omega⟩)
theorem orM_cons (x : Int) (l : List Int) : orM (x :: l) = if x = 0 then orM l else x := by
  unfold orM
  rw [List.find?_cons]
  split
  · rename_i h
    simp only [decide_eq_true_eq] at h
    simp [h]
  · rename_i h
    simp only [decide_eq_false_iff_not, ne_eq, Decidable.not_not] at h
    simp [h]

theorem orM_nil : orM [] = 0 := rfl
theorem keysM_ahead (a b : Smp) : decide (keysM a b < 0) = aheadM a b := by
  obtain ⟨a0, a1, a2, a3⟩ := a
  obtain ⟨b0, b1, b2, b3⟩ := b
  unfold keysM aheadM
  simp only [orM_cons, orM_nil]
  rcases cmpM_range a0 b0 with ⟨h0, k0⟩ | ⟨h0, k0⟩ | ⟨h0, k0⟩
  · have n0 : ¬ a0 = b0 := by omega
    simp [h0, n0, k0]
  · subst k0
    rcases cmpM_range a1 b1 with ⟨h1, k1⟩ | ⟨h1, k1⟩ | ⟨h1, k1⟩
    · have n1 : ¬ a1 = b1 := by omega
      simp [h0, h1, n1, k1]
    · subst k1
      rcases cmpM_range a2 b2 with ⟨h2, k2⟩ | ⟨h2, k2⟩ | ⟨h2, k2⟩
      · have n2 : ¬ a2 = b2 := by omega
        simp [h0, h1, h2, n2, k2]
      · subst k2
        simp [h0, h1, h2]
      · have n2 : ¬ a2 = b2 := by omega
        have m2 : ¬ a2 < b2 := by omega
        have m2' : b2 ≤ a2 := by omega
        simp [h0, h1, h2, n2, m2, m2']
    · have n1 : ¬ a1 = b1 := by omega
      have m1 : ¬ a1 < b1 := by omega
      have m1' : b1 ≤ a1 := by omega
      simp [h0, h1, n1, m1, m1']
  · have n0 : ¬ a0 = b0 := by omega
    have m0 : ¬ a0 < b0 := by omega
    have m0' : b0 ≤ a0 := by omega
    simp [h0, n0, m0, m0']
theorem isNaN64 (a : Int) (w : World) : Calls Tryz.prog 166 #[.int .i64 a] w fun e w' => e = .returned (.bool false) ∧ w' = w := by
  have hf : (a != a) = false := by simp
  go_enter Tryz.func166, Tryz.ntmps166
  go_wp2
  go_ret
  exact ⟨rfl, rfl⟩

set_option maxHeartbeats 400000 in
theorem cmpCompare (a b : Int) (w : World) : Calls Tryz.prog 156 #[.int .i64 a, .int .i64 b] w fun e w' => e = .returned (.int .i64 (cmpM a b)) ∧ w' = w := by
  rcases cmpM_range a b with ⟨h, k⟩ | ⟨h, k⟩ | ⟨h, k⟩
  all_goals
    have H := Lib.hid h
    clear h
    first
      | (have k2 : ¬ b < a := by omega)
      | skip
    go_enter Tryz.func156, Tryz.ntmps156
    go_wp2_with (go_at_call 166; refine (isNaN64 _ _).mono ?_; rintro e w1 ⟨rfl, rfl⟩)
    go_ret
    exact ⟨by rw [H.out]; rfl, rfl⟩

/-- A row of numbers. -/
def Ints (w : World) (g : Nat) (l : List Int) : Prop := ∀ (k : Nat) (x : Int), l[k]? = some x → w.cell? ⟨g, k, none⟩ = some (.int .i64 x)
def OrRel (w : World) (l : List Int) (n : Nat) (i : Value) (wr : World) : Prop :=
  ∃ k : Nat, k ≤ n ∧ i = .int .i64 k ∧ orM (l.drop k) = orM l ∧ wr = w

set_option maxHeartbeats 400000 in
theorem cmpOr (g n c : Nat) (l : List Int) (w : World) (hl : Ints w g l) (hn : l.length = n) (hm : n ≤ 1000) :
    Calls Tryz.prog 162 #[.slice (some ⟨g, 0, none⟩) n c] w fun e w' => e = .returned (.int .i64 (orM l)) ∧ w' = w := by
  have Hn := Lib.hid hn
  clear hn
  go_enter Tryz.func162, Tryz.ntmps162
  go_wp2
  go_loopw [8] (fun i wr => OrRel w l n i wr) (fun i _ => n - (intOf i).toNat)
  case atStart => exact ⟨0, Nat.zero_le _, rfl, rfl, rfl⟩
  case round =>
    obtain ⟨k, hk, rfl, hd, rfl⟩ := hrel
    have Hd := Lib.hid hd
    clear hd
    by_cases hlt : k < n
    · have hkl : k < l.length := by rw [Hn.out]; exact hlt
      obtain ⟨x, hx⟩ : ∃ x, l[k]? = some x := ⟨l[k], List.getElem?_eq_getElem hkl⟩
      have hc := hl k x hx
      have Ho := Lib.hid (show orM (l.drop k) = if x = 0 then orM (l.drop (k + 1)) else x by
        rw [List.drop_eq_getElem_cons hkl, orM_cons]
        rw [List.getElem?_eq_getElem hkl] at hx
        rw [Option.some.inj hx])
      clear hx
      by_cases h0 : x = 0
      · subst h0
        go_wp2
        refine ⟨⟨k + 1, by omega, by go_num, ?_, rfl⟩, by simp [intOf]; omega⟩
        have := Ho.out
        rw [if_pos rfl] at this
        rw [← this]
        exact Hd.out
      · have hne : (x != 0) = true := by simpa using h0
        have Hx := Lib.hid (show orM l = x by rw [← Hd.out, Ho.out, if_neg h0])
        clear h0
        go_wp2
        go_ret
        exact ⟨by rw [Hx.out]; rfl, rfl⟩
    · obtain rfl : k = n := by omega
      have Hf := Lib.hid (show orM l = 0 by rw [← Hd.out, List.drop_eq_nil_of_le (Nat.le_of_eq Hn.out)]; rfl)
      go_wp2
      go_ret
      exact ⟨by rw [Hf.out]; rfl, rfl⟩
end Go.Proofs.YtmaillakhhdkfaaGreatDoor
/-
  What is ahead of what, and what has one key: the program's answers and the model's.
-/
namespace Go.Proofs.YtmaillakhhdkfaaGreatDoor
set_option maxRecDepth 20000
open Go.RowKit

theorem ints_three {w : World} {t : TypeId} {x y z : Int} {g : Nat} (hg : w.heap.size = g) : Ints ((w.alloc (.cells #[.int .i64 x, .int .i64 y, .int .i64 z] t)).drew) g [x, y, z] := by
  subst hg
  have h := At.new w t #[.int .i64 x, .int .i64 y, .int .i64 z]
  intro k u hk
  match k, hk with
  | 0, hk => obtain rfl : x = u := by simpa using hk
             exact h.cell 0
  | 1, hk => obtain rfl : y = u := by simpa using hk
             exact h.cell 1
  | 2, hk => obtain rfl : z = u := by simpa using hk
             exact h.cell 2
  | k + 3, hk => simp at hk

set_option maxHeartbeats 1000000 in
set_option maxRecDepth 2000 in
theorem compareKeys (a0 a1 a2 a3 b0 b1 b2 b3 : Int) (w : World) :
    Calls Tryz.prog 152 #[.agg #[.int .i64 a0, .int .i64 a1, .int .i64 a2, .int .i64 a3], .agg #[.int .i64 b0, .int .i64 b1, .int .i64 b2, .int .i64 b3]] w fun e w' =>
      e = .returned (.int .i64 (keysM (a0, a1, a2, a3) (b0, b1, b2, b3))) ∧ Below w.heap.size w w' := by
  go_enter Tryz.func152, Tryz.ntmps152
  go_wp2
  refine wp_region_mix [(0, false), (1, false), (2, false), (3, false), (5, false), (6, false), (7, false), (8, false), (10, false), (11, false), (12, false), (13, false), (4, true), (9, true), (14, true), (15, true), (16, true), (17, false)] (fun u => u.cell? ⟨w.heap.size, 0, none⟩ = some (.int .i64 a0) ∧ u.cell? ⟨w.heap.size, 1, none⟩ = some (.int .i64 a1) ∧ u.cell? ⟨w.heap.size, 2, none⟩ = some (.int .i64 a2) ∧ u.cell? ⟨w.heap.size + 1, 0, none⟩ = some (.int .i64 b0) ∧ u.cell? ⟨w.heap.size + 1, 1, none⟩ = some (.int .i64 b1) ∧ u.cell? ⟨w.heap.size + 1, 2, none⟩ = some (.int .i64 b2)) (by kernel_rfl) (by kernel_rfl) (fun _ _ _ _ _ h => h) (by go_simp) ?_
  simp only [mixOps, List.map_cons, List.map_nil, List.getElem?_cons_succ, List.getElem?_cons_zero, Option.getD_some]
  repeat (first
    | (refine mix_skip (by rfl) ?_
       (try simp only [Act.put, List.setIfInBounds_toArray, List.set_cons_zero, List.set_cons_succ]))
    | (refine mix_pure (v := ?_) (by rfl) (fun u hu => ?_) ?_
       rotate_left
       · obtain ⟨_, _, _, _, _, _⟩ := hu
         go_simp
         (with_reducible rfl)
       (try simp only [Act.put, List.setIfInBounds_toArray, List.set_cons_zero, List.set_cons_succ])))
  iterate 3
    refine mix_call (by rfl) (fun K hK => ?_)
    go_simp
    refine (cmpCompare _ _ _).mono ?_
    rintro e w1 ⟨rfl, rfl⟩
    refine hK _ _ _ (fun _ h => h) (by go_simp) ?_
    (try simp only [Act.put, List.setIfInBounds_toArray, List.set_cons_zero, List.set_cons_succ])
  refine mix_call (by rfl) (fun K hK => ?_)
  go_simp
  refine hK _ _ _ (fun _ h => h) (by go_simp) ?_
  (try simp only [Act.put, List.setIfInBounds_toArray, List.set_cons_zero, List.set_cons_succ])
  refine mix_call (by rfl) (fun K hK => ?_)
  go_simp
  refine (cmpOr _ 3 _ [cmpM a0 b0, cmpM a1 b1, cmpM a2 b2] _ (ints_three (by simp)) rfl (by omega)).mono ?_
  rintro e w1 ⟨rfl, rfl⟩
  refine hK _ _ _ (fun _ h => h) (by go_simp) ?_
  (try simp only [Act.put, List.setIfInBounds_toArray, List.set_cons_zero, List.set_cons_succ])
  refine mix_pure (v := ?_) (by rfl) (fun u hu => ?_) ?_
  rotate_left
  · go_simp
    (with_reducible rfl)
  (try simp only [Act.put, List.setIfInBounds_toArray, List.set_cons_zero, List.set_cons_succ])
  refine mix_nil ?_
  go_wp2
  go_ret
  exact ⟨rfl, (((Below.refl _ _).alloc (Nat.le_refl _) _).alloc (by simp) _).alloc (by simp; omega) _ |>.drew⟩

theorem implIsAhead (a0 a1 a2 a3 b0 b1 b2 b3 : Int) (w : World) :
    Calls Tryz.prog 140 #[.agg #[.int .i64 a0, .int .i64 a1, .int .i64 a2, .int .i64 a3], .agg #[.int .i64 b0, .int .i64 b1, .int .i64 b2, .int .i64 b3]] w fun e w' =>
      e = .returned (.bool (aheadM (a0, a1, a2, a3) (b0, b1, b2, b3))) ∧ Below w.heap.size w w' := by
  go_enter Tryz.func140, Tryz.ntmps140
  go_wp2_with (go_at_call 152; refine (compareKeys a0 a1 a2 a3 b0 b1 b2 b3 _).mono ?_; rintro e w1 ⟨rfl, hb1⟩)
  go_ret
  exact ⟨by rw [← keysM_ahead]; rfl, (((Below.refl _ _).alloc (Nat.le_refl _) _).alloc (by simp) _).trans (hb1.mono (by simp; omega))⟩

theorem specIsAhead (a0 a1 a2 a3 b0 b1 b2 b3 : Int) (w : World) :
    Calls Tryz.prog 116 #[.agg #[.int .i64 a0, .int .i64 a1, .int .i64 a2, .int .i64 a3], .agg #[.int .i64 b0, .int .i64 b1, .int .i64 b2, .int .i64 b3]] w fun e w' =>
      e = .returned (.bool (aheadM (a0, a1, a2, a3) (b0, b1, b2, b3))) ∧ Below w.heap.size w w' := by
  by_cases h0 : a0 = b0
  · subst h0
    have hm : aheadM (a0, a1, a2, a3) (a0, b1, b2, b3) = (decide (a1 < b1) || (decide (a1 = b1) && decide (a2 < b2))) := by simp [aheadM]
    have h00 : (a0 != a0) = false := by simp
    have Hm := Lib.hid hm
    clear hm
    by_cases h1 : a1 < b1
    · have d1 := decide_eq_true h1
      go_enter Tryz.func116, Tryz.ntmps116
      go_wp2
      go_ret
      exact ⟨by rw [Hm.out, d1]; rfl, ((Below.refl _ _).alloc (Nat.le_refl _) _).alloc (by simp) _⟩
    · have d1 := decide_eq_false h1
      by_cases h2 : a1 = b1
      · subst h2
        have d2 : (a1 == a1) = true := by simp
        go_enter Tryz.func116, Tryz.ntmps116
        go_wp2
        go_ret
        exact ⟨by rw [Hm.out]; simp, ((Below.refl _ _).alloc (Nat.le_refl _) _).alloc (by simp) _⟩
      · have d2 : (a1 == b1) = false := by simpa using h2
        have Hd := Lib.hid (decide_eq_false h2)
        clear h2
        go_enter Tryz.func116, Tryz.ntmps116
        go_wp2
        go_ret
        exact ⟨by rw [Hm.out, d1, Hd.out]; rfl, ((Below.refl _ _).alloc (Nat.le_refl _) _).alloc (by simp) _⟩
  · have hm : aheadM (a0, a1, a2, a3) (b0, b1, b2, b3) = decide (a0 < b0) := by simp [aheadM, h0]
    have hne : (a0 != b0) = true := by rw [bne_iff_ne]; exact h0
    have Hm := Lib.hid hm
    clear hm h0
    go_enter Tryz.func116, Tryz.ntmps116
    go_wp2
    go_ret
    exact ⟨by rw [Hm.out]; rfl, ((Below.refl _ _).alloc (Nat.le_refl _) _).alloc (by simp) _⟩

theorem specIsSameKey (a0 a1 a2 a3 b0 b1 b2 b3 : Int) (w : World) :
    Calls Tryz.prog 139 #[.agg #[.int .i64 a0, .int .i64 a1, .int .i64 a2, .int .i64 a3], .agg #[.int .i64 b0, .int .i64 b1, .int .i64 b2, .int .i64 b3]] w fun e w' =>
      e = .returned (.bool (sameKeyM (a0, a1, a2, a3) (b0, b1, b2, b3))) ∧ Below w.heap.size w w' := by
  have Hm := Lib.hid (show sameKeyM (a0, a1, a2, a3) (b0, b1, b2, b3) = (decide (a0 = b0) && (decide (a1 = b1) && decide (a2 = b2))) from rfl)
  by_cases h0 : a0 = b0
  · subst h0
    have d0 : (a0 == a0) = true := by simp
    by_cases h1 : a1 = b1
    · subst h1
      have d1 : (a1 == a1) = true := by simp
      go_enter Tryz.func139, Tryz.ntmps139
      go_wp2
      go_ret
      exact ⟨by rw [Hm.out]; simp; rfl, ((Below.refl _ _).alloc (Nat.le_refl _) _).alloc (by simp) _⟩
    · have d1 : (a1 == b1) = false := by simpa using h1
      have Hd := Lib.hid (decide_eq_false h1)
      clear h1
      go_enter Tryz.func139, Tryz.ntmps139
      go_wp2
      go_ret
      exact ⟨by rw [Hm.out, Hd.out]; simp, ((Below.refl _ _).alloc (Nat.le_refl _) _).alloc (by simp) _⟩
  · have d0 : (a0 == b0) = false := by simpa using h0
    have Hd := Lib.hid (decide_eq_false h0)
    clear h0
    go_enter Tryz.func139, Tryz.ntmps139
    go_wp2
    go_ret
    exact ⟨by rw [Hm.out, Hd.out]; rfl, ((Below.refl _ _).alloc (Nat.le_refl _) _).alloc (by simp) _⟩

theorem At.four {w : World} {g : Nat} {t : TypeId} {a b c d : Value} (h : At w g t #[a, b, c, d]) : w.cell? ⟨g, 0, none⟩ = some a ∧ w.cell? ⟨g, 1, none⟩ = some b ∧ w.cell? ⟨g, 2, none⟩ = some c ∧ w.cell? ⟨g, 3, none⟩ = some d ∧ w.frozen? ⟨g, 0, none⟩ = false ∧ w.frozen? ⟨g, 1, none⟩ = false ∧ w.frozen? ⟨g, 2, none⟩ = false ∧ w.frozen? ⟨g, 3, none⟩ = false :=
  ⟨h.cell 0, h.cell 1, h.cell 2, h.cell 3, h.frozen 0, h.frozen 1, h.frozen 2, h.frozen 3⟩
theorem At.drew {w : World} {g : Nat} {t : TypeId} {cs : Array Value} (h : At w g t cs) : At w.drew g t cs := h
end Go.Proofs.YtmaillakhhdkfaaGreatDoor
/-
  A sample's bounds: SampleFault on both sides, and the table of fields that the program reads.
-/
namespace Go.Proofs.YtmaillakhhdkfaaGreatDoor
set_option maxRecDepth 20000
open Go.RowKit

/-- The table's cells. -/
def fldCells : List Value := [.int .i64 0, .int .i64 1, .int .i64 0, .int .i64 9, .int .i64 1, .int .i64 2, .int .i64 0, .int .i64 999, .int .i64 3, .int .i64 2, .int .i64 0, .int .i64 9999, .int .i64 5, .int .i64 2, .int .i64 (-1000), .int .i64 1000]
/-- The program's table of fields, as start-up laid it. -/
def Flds (w : World) : Prop := ∀ (i : Nat) (u : Value), fldCells[i]? = some u → w.cell? ⟨1, i, none⟩ = some u
theorem Flds.pos {w : World} (h : Flds w) : 1 < w.heap.size := World.block_lt_of_cell? w ⟨1, 0, none⟩ (h 0 _ rfl)
theorem Flds.below {w w' : World} (h : Flds w) (hb : Below w.heap.size w w') : Flds w' := fun i u hu => by
  rw [hb.cell (p := ⟨1, i, none⟩) h.pos]
  exact h i u hu
theorem Flds.all {w : World} (h : Flds w) : w.cell? ⟨1, 0, none⟩ = some (.int .i64 0) ∧ w.cell? ⟨1, 1, none⟩ = some (.int .i64 1) ∧ w.cell? ⟨1, 2, none⟩ = some (.int .i64 0) ∧ w.cell? ⟨1, 3, none⟩ = some (.int .i64 9) ∧ w.cell? ⟨1, 4, none⟩ = some (.int .i64 1) ∧ w.cell? ⟨1, 5, none⟩ = some (.int .i64 2) ∧ w.cell? ⟨1, 6, none⟩ = some (.int .i64 0) ∧ w.cell? ⟨1, 7, none⟩ = some (.int .i64 999) ∧ w.cell? ⟨1, 8, none⟩ = some (.int .i64 3) ∧ w.cell? ⟨1, 9, none⟩ = some (.int .i64 2) ∧ w.cell? ⟨1, 10, none⟩ = some (.int .i64 0) ∧ w.cell? ⟨1, 11, none⟩ = some (.int .i64 9999) ∧ w.cell? ⟨1, 12, none⟩ = some (.int .i64 5) ∧ w.cell? ⟨1, 13, none⟩ = some (.int .i64 2) ∧ w.cell? ⟨1, 14, none⟩ = some (.int .i64 (-1000)) ∧ w.cell? ⟨1, 15, none⟩ = some (.int .i64 1000) :=
  ⟨h 0 _ rfl, h 1 _ rfl, h 2 _ rfl, h 3 _ rfl, h 4 _ rfl, h 5 _ rfl, h 6 _ rfl, h 7 _ rfl, h 8 _ rfl, h 9 _ rfl, h 10 _ rfl, h 11 _ rfl, h 12 _ rfl, h 13 _ rfl, h 14 _ rfl, h 15 _ rfl⟩

/-- An answer of a code and a sample. -/
def RetSR (r : Int × Smp) (w : World) (e : Ending) (w' : World) : Prop :=
  e = .returned (.agg #[.int .i64 r.1, .int .i64 r.2.1, .int .i64 r.2.2.1, .int .i64 r.2.2.2.1, .int .i64 r.2.2.2.2]) ∧ Below w.heap.size w w'
def RetS (r : Smp) (w : World) (e : Ending) (w' : World) : Prop :=
  e = .returned (.agg #[.int .i64 r.1, .int .i64 r.2.1, .int .i64 r.2.2.1, .int .i64 r.2.2.2]) ∧ Below w.heap.size w w'

theorem At.five {w : World} {g : Nat} {t : TypeId} {a b c d e : Value} (h : At w g t #[a, b, c, d, e]) : w.cell? ⟨g, 0, none⟩ = some a ∧ w.cell? ⟨g, 1, none⟩ = some b ∧ w.cell? ⟨g, 2, none⟩ = some c ∧ w.cell? ⟨g, 3, none⟩ = some d ∧ w.cell? ⟨g, 4, none⟩ = some e ∧ w.frozen? ⟨g, 0, none⟩ = false ∧ w.frozen? ⟨g, 1, none⟩ = false ∧ w.frozen? ⟨g, 2, none⟩ = false ∧ w.frozen? ⟨g, 3, none⟩ = false ∧ w.frozen? ⟨g, 4, none⟩ = false :=
  ⟨h.cell 0, h.cell 1, h.cell 2, h.cell 3, h.cell 4, h.frozen 0, h.frozen 1, h.frozen 2, h.frozen 3, h.frozen 4⟩

def bndsM (x : Smp) : List (Int × Int × Int) := [(x.1, 0, 9), (x.2.1, 0, 999), (x.2.2.1, 0, 9999), (x.2.2.2, -1000, 1000)]
def faultM (x : Smp) : Int := if (bndsM x).all inB then 0 else 3

theorem numbersOf (a0 a1 a2 a3 : Int) (w : World) :
    Calls Tryz.prog 111 #[.agg #[.int .i64 a0, .int .i64 a1, .int .i64 a2, .int .i64 a3]] w fun e w' => e = .returned (.agg #[.int .i64 a0, .int .i64 a1, .int .i64 a2, .int .i64 a3]) ∧ Below w.heap.size w w' := by
  go_enter Tryz.func111, Tryz.ntmps111
  go_wp2
  refine bodyPost_ret (v := .agg #[.int .i64 a0, .int .i64 a1, .int .i64 a2, .int .i64 a3]) (by simp [results, Tryz.results111, go_sem]) rfl ?_
  exact ⟨rfl, ((Below.refl _ _).alloc (Nat.le_refl _) _).alloc (by simp) _⟩

def FaultRel (w : World) (x : Smp) (i : Value) (wr : World) : Prop :=
  ∃ k : Nat, k ≤ 4 ∧ i = .int .i64 k ∧ (∀ j b, j < k → (bndsM x)[j]? = some b → inB b = true) ∧ Below w.heap.size w wr
theorem fault_no {x : Smp} {k : Nat} {b : Int × Int × Int} (h : (bndsM x)[k]? = some b) (hb : inB b = false) : faultM x = 3 := by
  unfold faultM
  rw [all_no h hb]
  rfl
theorem fault_yes {x : Smp} (h : ∀ j b, j < 4 → (bndsM x)[j]? = some b → inB b = true) : faultM x = 0 := by
  unfold faultM
  rw [all_yes (n := 4) rfl h]
  rfl
theorem faultM_or (x : Smp) : faultM x = 0 ∨ faultM x = 3 := by
  unfold faultM
  split
  · exact .inl rfl
  · exact .inr rfl
theorem bnds_one_drew {w : World} {t : TypeId} {x lo hi : Int} {g : Nat} (hg : w.heap.size = g) : Bnds ((w.alloc (.cells #[.int .i64 x, .int .i64 lo, .int .i64 hi] t)).drew) g [(x, lo, hi)] := bnds_one (w := w) (t := t) hg
theorem fldAt0 (u : World) : (Instr.index 155 (.agg #[.int .i64 0, .int .i64 1, .int .i64 0, .int .i64 9, .int .i64 1, .int .i64 2, .int .i64 0, .int .i64 999, .int .i64 3, .int .i64 2, .int .i64 0, .int .i64 9999, .int .i64 5, .int .i64 2, .int .i64 (-1000), .int .i64 1000]) (.int .i64 0)).run Tryz.prog u = .ok (.agg #[.int .i64 0, .int .i64 1, .int .i64 0, .int .i64 9]) u := by kernel_rfl
theorem fldAt1 (u : World) : (Instr.index 155 (.agg #[.int .i64 0, .int .i64 1, .int .i64 0, .int .i64 9, .int .i64 1, .int .i64 2, .int .i64 0, .int .i64 999, .int .i64 3, .int .i64 2, .int .i64 0, .int .i64 9999, .int .i64 5, .int .i64 2, .int .i64 (-1000), .int .i64 1000]) (.int .i64 1)).run Tryz.prog u = .ok (.agg #[.int .i64 1, .int .i64 2, .int .i64 0, .int .i64 999]) u := by kernel_rfl
theorem fldAt2 (u : World) : (Instr.index 155 (.agg #[.int .i64 0, .int .i64 1, .int .i64 0, .int .i64 9, .int .i64 1, .int .i64 2, .int .i64 0, .int .i64 999, .int .i64 3, .int .i64 2, .int .i64 0, .int .i64 9999, .int .i64 5, .int .i64 2, .int .i64 (-1000), .int .i64 1000]) (.int .i64 2)).run Tryz.prog u = .ok (.agg #[.int .i64 3, .int .i64 2, .int .i64 0, .int .i64 9999]) u := by kernel_rfl
theorem fldAt3 (u : World) : (Instr.index 155 (.agg #[.int .i64 0, .int .i64 1, .int .i64 0, .int .i64 9, .int .i64 1, .int .i64 2, .int .i64 0, .int .i64 999, .int .i64 3, .int .i64 2, .int .i64 0, .int .i64 9999, .int .i64 5, .int .i64 2, .int .i64 (-1000), .int .i64 1000]) (.int .i64 3)).run Tryz.prog u = .ok (.agg #[.int .i64 5, .int .i64 2, .int .i64 (-1000), .int .i64 1000]) u := by kernel_rfl

set_option maxRecDepth 100000 in
set_option maxHeartbeats 2000000 in
theorem implSampleFault (a0 a1 a2 a3 : Int) (w : World) (hF : Flds w) :
    Calls Tryz.prog 60 #[.agg #[.int .i64 a0, .int .i64 a1, .int .i64 a2, .int .i64 a3]] w fun e w' => e = .returned (.int .i64 (faultM (a0, a1, a2, a3))) ∧ Below w.heap.size w w' := by
  have hA0 : Below w.heap.size w (w.alloc (.cells #[.int .i64 a0, .int .i64 a1, .int .i64 a2, .int .i64 a3] 25)) := (Below.refl _ _).alloc (Nat.le_refl _) _
  go_enter Tryz.func60, Tryz.ntmps60
  go_wp2_with fail
  refine (numbersOf a0 a1 a2 a3 _).mono ?_
  rintro e w1 ⟨rfl, hb1⟩
  have hB1 : Below w.heap.size w w1 := hA0.trans (hb1.mono hA0.size)
  have hp1 := (hF.below hB1).pos
  obtain ⟨c0, c1, c2, c3, c4, c5, c6, c7, c8, c9, c10, c11, c12, c13, c14, c15⟩ := (hF.below hB1).all
  have hN := At.new w1 151 #[.int .i64 a0, .int .i64 a1, .int .i64 a2, .int .i64 a3]
  have hS2 : (w1.alloc (.cells #[.int .i64 a0, .int .i64 a1, .int .i64 a2, .int .i64 a3] 151)).heap.size = w1.heap.size + 1 := by simp
  have hB2 : Below w.heap.size w (w1.alloc (.cells #[.int .i64 a0, .int .i64 a1, .int .i64 a2, .int .i64 a3] 151)) := hB1.alloc hB1.size _
  go_wp2_with fail
  clear c0 c1 c2 c3 c4 c5 c6 c7 c8 c9 c10 c11 c12 c13 c14 c15
  go_loopw [9] (fun i wr => FaultRel (w1.alloc (.cells #[.int .i64 a0, .int .i64 a1, .int .i64 a2, .int .i64 a3] 151)) (a0, a1, a2, a3) i wr) (fun i _ => 4 - (intOf i).toNat)
  case atStart => exact ⟨0, by omega, rfl, fun _ _ h => absurd h (by omega), Below.refl _ _⟩
  case round =>
    obtain ⟨k, hk, rfl, hal, hbel⟩ := hrel
    have Hal := Lib.hid hal
    clear hal
    have hsz := hbel.size
    have hN' := hN.below hbel (by simp)
    obtain ⟨n0, n1, n2, n3, _, _, _, _⟩ := hN'.four
    have hlt := hN'.lt
    rw [hS2] at hsz
    rcases (show k = 0 ∨ k = 1 ∨ k = 2 ∨ k = 3 ∨ k = 4 by omega) with rfl | rfl | rfl | rfl | rfl
    · have Hb := Lib.hid (show (bndsM (a0, a1, a2, a3))[0]? = some (a0, 0, 9) from rfl)
      have hidx := fldAt0 wr
      go_wp2
      refine wp_region_mix [(0, false), (1, false), (2, false), (3, false), (4, false), (5, false), (6, false), (7, false), (8, true), (9, true), (10, false)] (fun u => u.cell? ⟨w1.heap.size, 0, none⟩ = some (.int .i64 a0) ∧ u.cell? ⟨wr.heap.size, 2, none⟩ = some (.int .i64 0) ∧ u.cell? ⟨wr.heap.size, 3, none⟩ = some (.int .i64 9)) (by kernel_rfl) (by kernel_rfl) (fun _ _ _ _ _ h => h) (by go_simp) ?_
      simp only [mixOps, List.map_cons, List.map_nil, List.getElem?_cons_succ, List.getElem?_cons_zero, Option.getD_some]
      repeat (first
        | (refine mix_skip (by rfl) ?_
           (try simp only [Act.put, List.setIfInBounds_toArray, List.set_cons_zero, List.set_cons_succ]))
        | (refine mix_pure (v := ?_) (by rfl) (fun u hu => ?_) ?_
           rotate_left
           · obtain ⟨_, _, _⟩ := hu
             go_simp
             (with_reducible rfl)
           (try simp only [Act.put, List.setIfInBounds_toArray, List.set_cons_zero, List.set_cons_succ])))
      refine mix_call (by rfl) (fun K hK => ?_)
      go_simp
      refine hK _ _ _ (fun _ h => h) (by go_simp) ?_
      (try simp only [Act.put, List.setIfInBounds_toArray, List.set_cons_zero, List.set_cons_succ])
      refine mix_call (by rfl) (fun K hK => ?_)
      go_simp
      refine (areWithin_any _ _ _ [(a0, 0, 9)] _ (bnds_one_drew (by simp)) (by simp) rfl (by simp)).mono ?_
      rintro e w2 ⟨rfl, hb2⟩
      have HA := hbel.alloc hbel.size (.cells #[.int .i64 0, .int .i64 1, .int .i64 0, .int .i64 9] 154)
      have HC := (HA.alloc HA.size (.cells #[.int .i64 a0, .int .i64 0, .int .i64 9] 99)).drew
      have HD := HC.trans (hb2.mono HC.size)
      refine hK _ _ _ (fun _ h => h) ⟨(hb2.cell (p := ⟨w1.heap.size, 0, none⟩) (by simp; omega)).trans (by go_simp), (hb2.cell (p := ⟨wr.heap.size, 2, none⟩) (by simp; omega)).trans (by go_simp), (hb2.cell (p := ⟨wr.heap.size, 3, none⟩) (by simp; omega)).trans (by go_simp)⟩ ?_
      (try simp only [Act.put, List.setIfInBounds_toArray, List.set_cons_zero, List.set_cons_succ])
      by_cases hin : inB (a0, 0, 9) = true
      · have hq : [(a0, 0, 9)].all inB = true := by simp [hin]
        rw [hq]
        have Hin := Lib.hid hin
        clear hin hq
        refine mix_pure (v := ?_) (by rfl) (fun u hu => ?_) ?_
        rotate_left
        · go_simp
          (with_reducible rfl)
        (try simp only [Act.put, List.setIfInBounds_toArray, List.set_cons_zero, List.set_cons_succ])
        refine mix_nil ?_
        go_wp2
        refine ⟨⟨0 + 1, by omega, by go_num, fun j b hj hb => ?_, HD⟩, by simp [intOf]⟩
        rcases Nat.lt_or_ge j 0 with h | h
        · exact Hal.out j b h hb
        · obtain rfl : j = 0 := by omega
          obtain rfl := Option.some.inj (Hb.out.symm.trans hb)
          exact Hin.out
      · have hq : [(a0, 0, 9)].all inB = false := by simpa using hin
        rw [hq]
        have Hf := Lib.hid (fault_no Hb.out (by simpa using hin))
        clear hin hq
        refine mix_pure (v := ?_) (by rfl) (fun u hu => ?_) ?_
        rotate_left
        · go_simp
          (with_reducible rfl)
        (try simp only [Act.put, List.setIfInBounds_toArray, List.set_cons_zero, List.set_cons_succ])
        refine mix_nil ?_
        go_wp2
        go_ret
        exact ⟨by rw [Hf.out]; rfl, hB2.trans (HD.mono hB2.size)⟩
    · have Hb := Lib.hid (show (bndsM (a0, a1, a2, a3))[1]? = some (a1, 0, 999) from rfl)
      have hidx := fldAt1 wr
      go_wp2
      refine wp_region_mix [(0, false), (1, false), (2, false), (3, false), (4, false), (5, false), (6, false), (7, false), (8, true), (9, true), (10, false)] (fun u => u.cell? ⟨w1.heap.size, 1, none⟩ = some (.int .i64 a1) ∧ u.cell? ⟨wr.heap.size, 2, none⟩ = some (.int .i64 0) ∧ u.cell? ⟨wr.heap.size, 3, none⟩ = some (.int .i64 999)) (by kernel_rfl) (by kernel_rfl) (fun _ _ _ _ _ h => h) (by go_simp) ?_
      simp only [mixOps, List.map_cons, List.map_nil, List.getElem?_cons_succ, List.getElem?_cons_zero, Option.getD_some]
      repeat (first
        | (refine mix_skip (by rfl) ?_
           (try simp only [Act.put, List.setIfInBounds_toArray, List.set_cons_zero, List.set_cons_succ]))
        | (refine mix_pure (v := ?_) (by rfl) (fun u hu => ?_) ?_
           rotate_left
           · obtain ⟨_, _, _⟩ := hu
             go_simp
             (with_reducible rfl)
           (try simp only [Act.put, List.setIfInBounds_toArray, List.set_cons_zero, List.set_cons_succ])))
      refine mix_call (by rfl) (fun K hK => ?_)
      go_simp
      refine hK _ _ _ (fun _ h => h) (by go_simp) ?_
      (try simp only [Act.put, List.setIfInBounds_toArray, List.set_cons_zero, List.set_cons_succ])
      refine mix_call (by rfl) (fun K hK => ?_)
      go_simp
      refine (areWithin_any _ _ _ [(a1, 0, 999)] _ (bnds_one_drew (by simp)) (by simp) rfl (by simp)).mono ?_
      rintro e w2 ⟨rfl, hb2⟩
      have HA := hbel.alloc hbel.size (.cells #[.int .i64 1, .int .i64 2, .int .i64 0, .int .i64 999] 154)
      have HC := (HA.alloc HA.size (.cells #[.int .i64 a1, .int .i64 0, .int .i64 999] 99)).drew
      have HD := HC.trans (hb2.mono HC.size)
      refine hK _ _ _ (fun _ h => h) ⟨(hb2.cell (p := ⟨w1.heap.size, 1, none⟩) (by simp; omega)).trans (by go_simp), (hb2.cell (p := ⟨wr.heap.size, 2, none⟩) (by simp; omega)).trans (by go_simp), (hb2.cell (p := ⟨wr.heap.size, 3, none⟩) (by simp; omega)).trans (by go_simp)⟩ ?_
      (try simp only [Act.put, List.setIfInBounds_toArray, List.set_cons_zero, List.set_cons_succ])
      by_cases hin : inB (a1, 0, 999) = true
      · have hq : [(a1, 0, 999)].all inB = true := by simp [hin]
        rw [hq]
        have Hin := Lib.hid hin
        clear hin hq
        refine mix_pure (v := ?_) (by rfl) (fun u hu => ?_) ?_
        rotate_left
        · go_simp
          (with_reducible rfl)
        (try simp only [Act.put, List.setIfInBounds_toArray, List.set_cons_zero, List.set_cons_succ])
        refine mix_nil ?_
        go_wp2
        refine ⟨⟨1 + 1, by omega, by go_num, fun j b hj hb => ?_, HD⟩, by simp [intOf]⟩
        rcases Nat.lt_or_ge j 1 with h | h
        · exact Hal.out j b h hb
        · obtain rfl : j = 1 := by omega
          obtain rfl := Option.some.inj (Hb.out.symm.trans hb)
          exact Hin.out
      · have hq : [(a1, 0, 999)].all inB = false := by simpa using hin
        rw [hq]
        have Hf := Lib.hid (fault_no Hb.out (by simpa using hin))
        clear hin hq
        refine mix_pure (v := ?_) (by rfl) (fun u hu => ?_) ?_
        rotate_left
        · go_simp
          (with_reducible rfl)
        (try simp only [Act.put, List.setIfInBounds_toArray, List.set_cons_zero, List.set_cons_succ])
        refine mix_nil ?_
        go_wp2
        go_ret
        exact ⟨by rw [Hf.out]; rfl, hB2.trans (HD.mono hB2.size)⟩
    · have Hb := Lib.hid (show (bndsM (a0, a1, a2, a3))[2]? = some (a2, 0, 9999) from rfl)
      have hidx := fldAt2 wr
      go_wp2
      refine wp_region_mix [(0, false), (1, false), (2, false), (3, false), (4, false), (5, false), (6, false), (7, false), (8, true), (9, true), (10, false)] (fun u => u.cell? ⟨w1.heap.size, 2, none⟩ = some (.int .i64 a2) ∧ u.cell? ⟨wr.heap.size, 2, none⟩ = some (.int .i64 0) ∧ u.cell? ⟨wr.heap.size, 3, none⟩ = some (.int .i64 9999)) (by kernel_rfl) (by kernel_rfl) (fun _ _ _ _ _ h => h) (by go_simp) ?_
      simp only [mixOps, List.map_cons, List.map_nil, List.getElem?_cons_succ, List.getElem?_cons_zero, Option.getD_some]
      repeat (first
        | (refine mix_skip (by rfl) ?_
           (try simp only [Act.put, List.setIfInBounds_toArray, List.set_cons_zero, List.set_cons_succ]))
        | (refine mix_pure (v := ?_) (by rfl) (fun u hu => ?_) ?_
           rotate_left
           · obtain ⟨_, _, _⟩ := hu
             go_simp
             (with_reducible rfl)
           (try simp only [Act.put, List.setIfInBounds_toArray, List.set_cons_zero, List.set_cons_succ])))
      refine mix_call (by rfl) (fun K hK => ?_)
      go_simp
      refine hK _ _ _ (fun _ h => h) (by go_simp) ?_
      (try simp only [Act.put, List.setIfInBounds_toArray, List.set_cons_zero, List.set_cons_succ])
      refine mix_call (by rfl) (fun K hK => ?_)
      go_simp
      refine (areWithin_any _ _ _ [(a2, 0, 9999)] _ (bnds_one_drew (by simp)) (by simp) rfl (by simp)).mono ?_
      rintro e w2 ⟨rfl, hb2⟩
      have HA := hbel.alloc hbel.size (.cells #[.int .i64 3, .int .i64 2, .int .i64 0, .int .i64 9999] 154)
      have HC := (HA.alloc HA.size (.cells #[.int .i64 a2, .int .i64 0, .int .i64 9999] 99)).drew
      have HD := HC.trans (hb2.mono HC.size)
      refine hK _ _ _ (fun _ h => h) ⟨(hb2.cell (p := ⟨w1.heap.size, 2, none⟩) (by simp; omega)).trans (by go_simp), (hb2.cell (p := ⟨wr.heap.size, 2, none⟩) (by simp; omega)).trans (by go_simp), (hb2.cell (p := ⟨wr.heap.size, 3, none⟩) (by simp; omega)).trans (by go_simp)⟩ ?_
      (try simp only [Act.put, List.setIfInBounds_toArray, List.set_cons_zero, List.set_cons_succ])
      by_cases hin : inB (a2, 0, 9999) = true
      · have hq : [(a2, 0, 9999)].all inB = true := by simp [hin]
        rw [hq]
        have Hin := Lib.hid hin
        clear hin hq
        refine mix_pure (v := ?_) (by rfl) (fun u hu => ?_) ?_
        rotate_left
        · go_simp
          (with_reducible rfl)
        (try simp only [Act.put, List.setIfInBounds_toArray, List.set_cons_zero, List.set_cons_succ])
        refine mix_nil ?_
        go_wp2
        refine ⟨⟨2 + 1, by omega, by go_num, fun j b hj hb => ?_, HD⟩, by simp [intOf]⟩
        rcases Nat.lt_or_ge j 2 with h | h
        · exact Hal.out j b h hb
        · obtain rfl : j = 2 := by omega
          obtain rfl := Option.some.inj (Hb.out.symm.trans hb)
          exact Hin.out
      · have hq : [(a2, 0, 9999)].all inB = false := by simpa using hin
        rw [hq]
        have Hf := Lib.hid (fault_no Hb.out (by simpa using hin))
        clear hin hq
        refine mix_pure (v := ?_) (by rfl) (fun u hu => ?_) ?_
        rotate_left
        · go_simp
          (with_reducible rfl)
        (try simp only [Act.put, List.setIfInBounds_toArray, List.set_cons_zero, List.set_cons_succ])
        refine mix_nil ?_
        go_wp2
        go_ret
        exact ⟨by rw [Hf.out]; rfl, hB2.trans (HD.mono hB2.size)⟩
    · have Hb := Lib.hid (show (bndsM (a0, a1, a2, a3))[3]? = some (a3, (-1000), 1000) from rfl)
      have hidx := fldAt3 wr
      go_wp2
      refine wp_region_mix [(0, false), (1, false), (2, false), (3, false), (4, false), (5, false), (6, false), (7, false), (8, true), (9, true), (10, false)] (fun u => u.cell? ⟨w1.heap.size, 3, none⟩ = some (.int .i64 a3) ∧ u.cell? ⟨wr.heap.size, 2, none⟩ = some (.int .i64 (-1000)) ∧ u.cell? ⟨wr.heap.size, 3, none⟩ = some (.int .i64 1000)) (by kernel_rfl) (by kernel_rfl) (fun _ _ _ _ _ h => h) (by go_simp) ?_
      simp only [mixOps, List.map_cons, List.map_nil, List.getElem?_cons_succ, List.getElem?_cons_zero, Option.getD_some]
      repeat (first
        | (refine mix_skip (by rfl) ?_
           (try simp only [Act.put, List.setIfInBounds_toArray, List.set_cons_zero, List.set_cons_succ]))
        | (refine mix_pure (v := ?_) (by rfl) (fun u hu => ?_) ?_
           rotate_left
           · obtain ⟨_, _, _⟩ := hu
             go_simp
             (with_reducible rfl)
           (try simp only [Act.put, List.setIfInBounds_toArray, List.set_cons_zero, List.set_cons_succ])))
      refine mix_call (by rfl) (fun K hK => ?_)
      go_simp
      refine hK _ _ _ (fun _ h => h) (by go_simp) ?_
      (try simp only [Act.put, List.setIfInBounds_toArray, List.set_cons_zero, List.set_cons_succ])
      refine mix_call (by rfl) (fun K hK => ?_)
      go_simp
      refine (areWithin_any _ _ _ [(a3, (-1000), 1000)] _ (bnds_one_drew (by simp)) (by simp) rfl (by simp)).mono ?_
      rintro e w2 ⟨rfl, hb2⟩
      have HA := hbel.alloc hbel.size (.cells #[.int .i64 5, .int .i64 2, .int .i64 (-1000), .int .i64 1000] 154)
      have HC := (HA.alloc HA.size (.cells #[.int .i64 a3, .int .i64 (-1000), .int .i64 1000] 99)).drew
      have HD := HC.trans (hb2.mono HC.size)
      refine hK _ _ _ (fun _ h => h) ⟨(hb2.cell (p := ⟨w1.heap.size, 3, none⟩) (by simp; omega)).trans (by go_simp), (hb2.cell (p := ⟨wr.heap.size, 2, none⟩) (by simp; omega)).trans (by go_simp), (hb2.cell (p := ⟨wr.heap.size, 3, none⟩) (by simp; omega)).trans (by go_simp)⟩ ?_
      (try simp only [Act.put, List.setIfInBounds_toArray, List.set_cons_zero, List.set_cons_succ])
      by_cases hin : inB (a3, (-1000), 1000) = true
      · have hq : [(a3, (-1000), 1000)].all inB = true := by simp [hin]
        rw [hq]
        have Hin := Lib.hid hin
        clear hin hq
        refine mix_pure (v := ?_) (by rfl) (fun u hu => ?_) ?_
        rotate_left
        · go_simp
          (with_reducible rfl)
        (try simp only [Act.put, List.setIfInBounds_toArray, List.set_cons_zero, List.set_cons_succ])
        refine mix_nil ?_
        go_wp2
        refine ⟨⟨3 + 1, by omega, by go_num, fun j b hj hb => ?_, HD⟩, by simp [intOf]⟩
        rcases Nat.lt_or_ge j 3 with h | h
        · exact Hal.out j b h hb
        · obtain rfl : j = 3 := by omega
          obtain rfl := Option.some.inj (Hb.out.symm.trans hb)
          exact Hin.out
      · have hq : [(a3, (-1000), 1000)].all inB = false := by simpa using hin
        rw [hq]
        have Hf := Lib.hid (fault_no Hb.out (by simpa using hin))
        clear hin hq
        refine mix_pure (v := ?_) (by rfl) (fun u hu => ?_) ?_
        rotate_left
        · go_simp
          (with_reducible rfl)
        (try simp only [Act.put, List.setIfInBounds_toArray, List.set_cons_zero, List.set_cons_succ])
        refine mix_nil ?_
        go_wp2
        go_ret
        exact ⟨by rw [Hf.out]; rfl, hB2.trans (HD.mono hB2.size)⟩
    · have Hf := Lib.hid (fault_yes Hal.out)
      go_wp2
      go_ret
      exact ⟨by rw [Hf.out]; rfl, hB2.trans (hbel.mono hB2.size)⟩

theorem specSampleFault (a0 a1 a2 a3 : Int) (w : World) :
    Calls Tryz.prog 115 #[.agg #[.int .i64 a0, .int .i64 a1, .int .i64 a2, .int .i64 a3]] w fun e w' => e = .returned (.int .i64 (faultM (a0, a1, a2, a3))) ∧ Below w.heap.size w w' := by
  by_cases h0 : inB (a0, 0, 9) = true
  rotate_left
  · have Hf := Lib.hid (fault_no (show (bndsM (a0, a1, a2, a3))[0]? = some (a0, 0, 9) from rfl) (by simpa using h0))
    have g0 : inB (a0, 0, 9) = false := by simpa using h0
    clear h0
    go_enter Tryz.func115, Tryz.ntmps115
    go_wp2_with (go_at_call 67; refine (l1In_any _ _ _ _).mono ?_; rintro e w1 ⟨rfl, rfl⟩)
    go_ret
    exact ⟨by rw [Hf.out]; rfl, (Below.refl _ _).alloc (Nat.le_refl _) _⟩
  by_cases h1 : inB (a1, 0, 999) = true
  rotate_left
  · have Hf := Lib.hid (fault_no (show (bndsM (a0, a1, a2, a3))[1]? = some (a1, 0, 999) from rfl) (by simpa using h1))
    have g1 : inB (a1, 0, 999) = false := by simpa using h1
    clear h1
    go_enter Tryz.func115, Tryz.ntmps115
    go_wp2_with (go_at_call 67; refine (l1In_any _ _ _ _).mono ?_; rintro e w1 ⟨rfl, rfl⟩)
    go_ret
    exact ⟨by rw [Hf.out]; rfl, (Below.refl _ _).alloc (Nat.le_refl _) _⟩
  by_cases h2 : inB (a2, 0, 9999) = true
  rotate_left
  · have Hf := Lib.hid (fault_no (show (bndsM (a0, a1, a2, a3))[2]? = some (a2, 0, 9999) from rfl) (by simpa using h2))
    have g2 : inB (a2, 0, 9999) = false := by simpa using h2
    clear h2
    go_enter Tryz.func115, Tryz.ntmps115
    go_wp2_with (go_at_call 67; refine (l1In_any _ _ _ _).mono ?_; rintro e w1 ⟨rfl, rfl⟩)
    go_ret
    exact ⟨by rw [Hf.out]; rfl, (Below.refl _ _).alloc (Nat.le_refl _) _⟩
  by_cases h3 : inB (a3, (-1000), 1000) = true
  rotate_left
  · have Hf := Lib.hid (fault_no (show (bndsM (a0, a1, a2, a3))[3]? = some (a3, (-1000), 1000) from rfl) (by simpa using h3))
    have g3 : inB (a3, (-1000), 1000) = false := by simpa using h3
    clear h3
    go_enter Tryz.func115, Tryz.ntmps115
    go_wp2_with (go_at_call 67; refine (l1In_any _ _ _ _).mono ?_; rintro e w1 ⟨rfl, rfl⟩)
    go_ret
    exact ⟨by rw [Hf.out]; rfl, (Below.refl _ _).alloc (Nat.le_refl _) _⟩
  have Hf := Lib.hid (show faultM (a0, a1, a2, a3) = 0 by simp [faultM, bndsM, h0, h1, h2, h3])
  go_enter Tryz.func115, Tryz.ntmps115
  go_wp2_with (go_at_call 67; refine (l1In_any _ _ _ _).mono ?_; rintro e w1 ⟨rfl, rfl⟩)
  go_ret
  exact ⟨by rw [Hf.out]; rfl, (Below.refl _ _).alloc (Nat.le_refl _) _⟩

end Go.Proofs.YtmaillakhhdkfaaGreatDoor
/-
  A region in which a load may stand on either side of a call, and a store ends it: both orders are walked from there on.
-/
namespace Go.Proofs.YtmaillakhhdkfaaGreatDoor
set_option maxRecDepth 20000
open Go.RowKit

section
variable {P : Program} {md : Region.Mode} {ops : Array Oper} {Q : Exit → Act → World → Prop}

/-- The order fits the region. -/
def forkB (md : Region.Mode) (ops : Array Oper) : Array Bool → List (Nat × Bool) → Bool
  | _, [] => true
  | listed, (k, c) :: p => (if c then Region.ready md ops listed == [k] else (Region.ready md ops listed).contains k && Region.free md ops listed k) && forkB md ops (listed.setIfInBounds k true) p
def listedBy (listed : Array Bool) (p : List (Nat × Bool)) : Array Bool := p.foldl (fun t x => t.setIfInBounds x.1 true) listed

/-- Both of two. -/
def forkAll (md : Region.Mode) (ops : Array Oper) (n : Nat) (p p1 p2 : List (Nat × Bool)) (i j : Nat) : Bool :=
  Region.noSelect ops && (forkB md ops (Array.replicate n false) p && ((Region.ready md ops (listedBy (Array.replicate n false) p) == [i, j]) &&
    ((forkB md ops ((listedBy (Array.replicate n false) p).setIfInBounds i true) p1 && (Region.ready md ops (listedBy ((listedBy (Array.replicate n false) p).setIfInBounds i true) p1)).isEmpty) &&
     (forkB md ops ((listedBy (Array.replicate n false) p).setIfInBounds j true) p2 && (Region.ready md ops (listedBy ((listedBy (Array.replicate n false) p).setIfInBounds j true) p2)).isEmpty)) &&
    (p.length + (p1.length + 1) == n && p1.length == p2.length && decide (i < n) && decide (j < n) && (p ++ p1 ++ p2).all fun x => decide (x.1 < n))))

end
end Go.Proofs.YtmaillakhhdkfaaGreatDoor
/-
  As Mix, but two that make memory may come in either order: both are walked from there on, and what is known of every world goes along.
-/
namespace Go.Proofs.YtmaillakhhdkfaaGreatDoor
set_option maxRecDepth 20000
open Go.RowKit

section
variable {P : Program} {md : Region.Mode} {ops : Array Oper} {Q : Exit → Act → World → Prop}

/-- As 'mixW'; behind it R. -/
def mixRW (P : Program) (ops : Array Oper) (Q : Exit → Act → World → Prop) (R : (World → Prop) → Act → World → Prop) : List (Oper × Bool) → (World → Prop) → Act → World → Prop
  | [], S, a, w => R S a w
  | (o, c) :: rest, S, a, w =>
    if Region.wanted o (yielded ops a.tmps) = true then
      if c = true then o.wp P a w (fun a' w' => ∃ S' : World → Prop, (∀ x, S' x → S x) ∧ S' w' ∧ mixRW P ops Q R rest S' a' w') Q
      else ∃ v, (∀ x, S x → (execOp a.eval o).run P x = .ok (.value v) x) ∧ mixRW P ops Q R rest S (a.put o.dst v) w
    else mixRW P ops Q R rest S (a.put o.dst undef) w

theorem held_of_mixR {l : List Oper} {R : (World → Prop) → Act → World → Prop} (hsel : Region.noSelect l.toArray = true) (hQ : ∀ c a (d : Nat) v w, Q (.panic c) (Act.put a (some d) v) w → Q (.panic c) a w) (fuel : Nat) :
    ∀ (p : List (Nat × Bool)) (listed : Array Bool) (S : World → Prop) (a : Act) (w : World), (∀ x ∈ p, x.1 < l.length) → forkB md l.toArray listed p = true →
      (∀ S a w, S w → R S a w → wpAnyH P md l.toArray Q S fuel (listedBy listed p) a w) → S w → mixRW P l.toArray Q R (mixOps l p) S a w →
      wpAnyH P md l.toArray Q S (p.length + fuel) listed a w
  | [], listed, S, a, w, _, _, hR, hS, h => by
    rw [List.length_nil, Nat.zero_add]
    exact hR S a w hS h
  | (k, c) :: p, listed, S, a, w, hl, hB, hR, hS, h => by
    have hk : k < l.length := hl (k, c) (by simp)
    obtain ⟨o, ho⟩ : ∃ o, l[k]? = some o := ⟨_, List.getElem?_eq_getElem hk⟩
    have hoa : l.toArray[k]? = some o := by simpa using ho
    simp only [forkB, Bool.and_eq_true] at hB
    obtain ⟨hb, hB'⟩ := hB
    have hQ' : ∀ c a d v w, Q (.panic c) (Act.put a d v) w → Q (.panic c) a w := fun c a d v w h => by
      cases d with
      | none => exact h
      | some d => exact hQ c a d v w h
    have ih := fun S a w => held_of_mixR hsel hQ fuel p (listed.setIfInBounds k true) S a w (fun x hx => hl x (by simp [hx])) hB' hR
    have e : ((k, c) :: p).length + fuel = p.length + fuel + 1 := by rw [List.length_cons]; omega
    rw [e]
    simp only [mixOps, List.map_cons, ho, Option.getD_some, mixRW] at h
    cases c with
    | false =>
      simp only [Bool.false_eq_true, if_false, Bool.and_eq_true] at hb h
      by_cases hw : Region.wanted o (yielded l.toArray a.tmps) = true
      · rw [if_pos hw] at h
        obtain ⟨v, hv, h⟩ := h
        exact wpAnyH_take hoa hsel hb.2 hb.1 (fun c a w => hQ' c a _ _ w) (.inl ⟨hw, hv⟩) hS (ih S _ w hS h)
      · rw [if_neg hw] at h
        exact wpAnyH_take hoa hsel hb.2 hb.1 (fun c a w => hQ' c a _ _ w) (.inr ⟨by simpa using hw, rfl⟩) hS (ih S _ w hS h)
    | true =>
      simp only [if_true] at hb h
      refine wpAnyH_all (rs := [k]) (by simpa using hb) (by simp) fun i hi => ?_
      obtain rfl : i = k := by simpa using hi
      unfold wpOp
      rw [hoa]
      simp only
      by_cases hw : Region.wanted o (yielded l.toArray a.tmps) = true
      · rw [if_pos hw] at h ⊢
        have h1 : wpOp P l.toArray Q i (fun a' w' => ∃ S' : World → Prop, (∀ x, S' x → S x) ∧ S' w' ∧ mixRW P l.toArray Q R (mixOps l p) S' a' w') a w := by
          unfold wpOp
          rw [hoa]
          simp only
          rw [if_pos hw]
          exact .inl h
        have h2 := wpOp_mono (K' := fun a' w' => S w' ∧ wpAnyH P md l.toArray Q S (p.length + fuel) (listed.setIfInBounds i true) a' w') (fun a' w' ⟨S', h1, h2, h3⟩ => ⟨h1 _ h2, held_mono h1 _ _ _ _ (ih S' a' w' h2 h3)⟩) h1
        unfold wpOp at h2
        rw [hoa] at h2
        simp only at h2
        rwa [if_pos hw] at h2
      · rw [if_neg hw] at h ⊢
        exact ⟨hS, ih S _ w hS h⟩

theorem wpOp_of_mixR {l : List Oper} {R : (World → Prop) → Act → World → Prop} {i : Nat} {o : Oper} {rest : List (Oper × Bool)} {S : World → Prop} {a : Act} {w : World} (hoa : l.toArray[i]? = some o) (hS : S w)
    (h : mixRW P l.toArray Q R ((o, true) :: rest) S a w) : wpOp P l.toArray Q i (fun a' w' => ∃ S' : World → Prop, (∀ x, S' x → S x) ∧ S' w' ∧ mixRW P l.toArray Q R rest S' a' w') a w := by
  unfold wpOp
  rw [hoa]
  simp only
  unfold mixRW at h
  by_cases hw : Region.wanted o (yielded l.toArray a.tmps) = true
  · rw [if_pos hw] at h ⊢
    rw [if_pos rfl] at h
    exact .inl h
  · rw [if_neg hw] at h ⊢
    exact ⟨S, fun _ h => h, hS, h⟩

theorem wp_region_fork2 {id : Nat} {l : List Oper} {a : Act} {w : World} (p p1 p2 : List (Nat × Bool)) (i j : Nat) (S : World → Prop) (hm : P.follows .mixedOrders = true) (hB : forkAll .any l.toArray l.length p p1 p2 i j = true)
    (hQ : ∀ c a (d : Nat) v w, Q (.panic c) (Act.put a (some d) v) w → Q (.panic c) a w) (hS : S w.drew)
    (h : mixRW P l.toArray Q (fun S a w => mixRW P l.toArray Q (fun _ a w => Q .normal a w) (mixOps l ((i, true) :: p1)) S a w ∧ mixRW P l.toArray Q (fun _ a w => Q .normal a w) (mixOps l ((j, true) :: p2)) S a w) (mixOps l p) S a w.drew) :
    (Code.region id l.toArray true).wp P Q a w := by
  unfold forkAll at hB
  simp only [Bool.and_eq_true, beq_iff_eq, List.all_eq_true, decide_eq_true_eq, List.mem_append] at hB
  obtain ⟨h1, h2, ⟨h3, ⟨h4, h5⟩, h6, h7⟩, ⟨⟨⟨h8, h9⟩, h10⟩, h11⟩, h12⟩ := hB
  refine wp_region_held (S := S) hm ?_
  have hi : l[i]? = some l[i] := List.getElem?_eq_getElem h10
  have hj : l[j]? = some l[j] := List.getElem?_eq_getElem h11
  have go := held_of_mixR (P := P) (md := .any) (R := fun S a w => mixRW P l.toArray Q (fun _ a w => Q .normal a w) (mixOps l ((i, true) :: p1)) S a w ∧ mixRW P l.toArray Q (fun _ a w => Q .normal a w) (mixOps l ((j, true) :: p2)) S a w) h1 hQ (p1.length + 1) p
    (Array.replicate l.length false) S a w.drew (fun x hx => h12 x (.inl (.inl hx))) h2 (fun S a w hS hR => by
      refine wpAnyH_all (rs := [i, j]) h3 (by simp) fun k hk => ?_
      rcases (show k = i ∨ k = j by simpa using hk) with rfl | rfl
      · have hR1 := hR.1
        simp only [mixOps, List.map_cons, hi, Option.getD_some] at hR1
        refine wpOp_mono (fun a' w' ⟨S', g1, g2, g3⟩ => ⟨g1 _ g2, held_mono g1 _ _ _ _ ?_⟩) (wpOp_of_mixR (by simp) hS hR1)
        exact held_of_mixR h1 hQ 0 p1 _ S' a' w' (fun x hx => h12 x (.inl (.inr hx))) h4 (fun S a w _ hq => wpAnyH_done (by simpa using h5) hq 0) g2 g3
      · have hR1 := hR.2
        simp only [mixOps, List.map_cons, hj, Option.getD_some] at hR1
        refine wpOp_mono (fun a' w' ⟨S', g1, g2, g3⟩ => ⟨g1 _ g2, held_mono g1 _ _ _ _ ?_⟩) (wpOp_of_mixR (by simp) hS hR1)
        have := held_of_mixR h1 hQ 0 p2 _ S' a' w' (fun x hx => h12 x (.inr hx)) h6 (fun S a w _ hq => wpAnyH_done (by simpa using h7) hq 0) g2 g3
        rwa [← h9] at this) hS h
  rw [h8] at go
  simpa using go

theorem mixR_pure {R : (World → Prop) → Act → World → Prop} {o : Oper} {rest : List (Oper × Bool)} {S : World → Prop} {a : Act} {w : World} {v : Value} (hw : Region.wanted o (yielded ops a.tmps) = true)
    (hv : ∀ x, S x → (execOp a.eval o).run P x = .ok (.value v) x) (h : mixRW P ops Q R rest S (a.put o.dst v) w) : mixRW P ops Q R ((o, false) :: rest) S a w := by
  unfold mixRW
  rw [if_pos hw, if_neg (by simp)]
  exact ⟨v, hv, h⟩
theorem mixR_skip {R : (World → Prop) → Act → World → Prop} {o : Oper} {c : Bool} {rest : List (Oper × Bool)} {S : World → Prop} {a : Act} {w : World} (hw : Region.wanted o (yielded ops a.tmps) = false)
    (h : mixRW P ops Q R rest S (a.put o.dst undef) w) : mixRW P ops Q R ((o, c) :: rest) S a w := by
  unfold mixRW
  rw [if_neg (by simp [hw])]
  exact h
theorem mixR_call {R : (World → Prop) → Act → World → Prop} {o : Oper} {rest : List (Oper × Bool)} {S : World → Prop} {a : Act} {w : World} (hw : Region.wanted o (yielded ops a.tmps) = true)
    (h : ∀ K : Act → World → Prop, (∀ a' w' (S' : World → Prop), (∀ x, S' x → S x) → S' w' → mixRW P ops Q R rest S' a' w' → K a' w') → o.wp P a w K Q) : mixRW P ops Q R ((o, true) :: rest) S a w := by
  unfold mixRW
  rw [if_pos hw, if_pos rfl]
  exact h _ fun a' w' S' h1 h2 h3 => ⟨S', h1, h2, h3⟩
theorem mixR_nil {R : (World → Prop) → Act → World → Prop} {S : World → Prop} {a : Act} {w : World} (h : R S a w) : mixRW P ops Q R [] S a w := h
end
end Go.Proofs.YtmaillakhhdkfaaGreatDoor
/-
  A sample's bytes: the model's.
-/
namespace Go.Proofs.YtmaillakhhdkfaaGreatDoor
set_option maxRecDepth 20000
open Go.RowKit

/-- The bytes of four numbers, the last one above its low bound. -/
def encL (n0 n1 n2 n3 : Nat) : List UInt8 := [UInt8.ofNat n0] ++ packL n1 2 ++ packL n2 2 ++ packL n3 2
theorem pack1 (n : Nat) : packL n 1 = [UInt8.ofNat n] := by simp [packL]
theorem pack2 (n : Nat) : packL n 2 = [UInt8.ofNat n, UInt8.ofNat (n / 256)] := by simp [packL, List.range_succ]
theorem encL_eq (n0 n1 n2 n3 : Nat) : encL n0 n1 n2 n3 = [UInt8.ofNat n0, UInt8.ofNat n1, UInt8.ofNat (n1 / 256), UInt8.ofNat n2, UInt8.ofNat (n2 / 256), UInt8.ofNat n3, UInt8.ofNat (n3 / 256)] := by
  simp [encL, pack2]

theorem byte_small1 {n : Nat} (h : n < 256) : ((UInt8.ofNat n).toNat : Int) = (n : Int) := by
  rw [UInt8.toNat_ofNat']
  omega
theorem ow_byte (w : World) (b : UInt8) (v : Int) (hv : v = (b.toNat : Int)) : Ow eB ((w.alloc (.cells #[.int .u8 v] 5)).drew) w.heap.size (some ⟨w.heap.size, 0, none⟩) 1 1 [b] :=
  Ow.lit w [b] _ 1 (Nat.le_refl _) (by unfold maxLen; omega) (by simp [Enc.row, eB, hv]) rfl

/-- append as one step of a region: as 'wpList_append_ow'. -/
theorem wp_append_ow {P : Program} {α : Type} {E : Enc α} (hE : EncOk E) (w : World) {o : Oper} {a : Act} {K : Act → World → Prop} {Q : Exit → Act → World → Prop} (s x : Operand) (t : TypeId)
    (ho : o.op = .call { callee := .builtin .append, args := #[s, x], argTypes := #[t, t] })
    (base : Nat) {z : Value} {bytes : Nat} (hinfo : (P.info? E.tid).map (fun i => (i.zero, i.size, i.bytes)) = some (some z, E.size, bytes)) (ht : P.underlying t = some (.slice E.tid)) (hzs : z.cells.size = E.size)
    (A : Option Addr) (n c : Nat) (l : List α) (hs : a.eval s = .slice A n c) (hown : Ow E w base A n c l)
    (X : Option Addr) (m d hi' : Nat) (news : List α) (hx : a.eval x = .slice X m d) (hX : Rd E w hi' X news) (hm : news.length = m)
    (h63 : n + m ≤ maxLen) (hbytes : (n + m) * bytes ≤ 140737488355328) (hbase : base ≤ w.heap.size)
    (h : ∀ A' c' w', Ow E w' base A' (n + m) c' (l ++ news) → w.grownBy w' (A.map (·.block)) → (A'.map (·.block) = A.map (·.block) ∨ A'.map (·.block) = some w.heap.size) → K (a.put o.dst (.slice A' (n + m) c')) w') : o.wp P a w K Q := by
  obtain ⟨i, hi, hz, hsz, hby⟩ := info_parts hinfo
  obtain ⟨A', c', w', hrun, h2, h3, h4⟩ := run_append_ow (P := P) hE w base t o.type i z bytes ht hi hz hsz hby hzs A n c l hown X m d hi' news hX hm h63 hbytes hbase
  unfold Oper.wp execOp
  simp only [ho, resolve, invoke, builtin, Sem.run_bind, Sem.run_pure, Result.andThen_ok, List.map_toArray, List.map_cons, List.map_nil, hs, hx, hrun]
  exact h A' c' w' h2 h3 h4

/-- A sample's answer of code and bytes. -/
def encodeM (x : Smp) : Int × List UInt8 := if faultM x = 0 then (0, encL x.1.toNat x.2.1.toNat x.2.2.1.toNat (x.2.2.2 + 1000).toNat) else (3, [])
theorem faultM_in {a0 a1 a2 a3 : Int} (h : faultM (a0, a1, a2, a3) = 0) : (0 ≤ a0 ∧ a0 ≤ 9) ∧ (0 ≤ a1 ∧ a1 ≤ 999) ∧ (0 ≤ a2 ∧ a2 ≤ 9999) ∧ -1000 ≤ a3 ∧ a3 ≤ 1000 := by
  unfold faultM at h
  split at h
  · rename_i hh
    simpa [bndsM, inB] using hh
  · cases h
/-- No fault: the numbers. -/
theorem faultM_nat {a0 a1 a2 a3 : Int} (h : faultM (a0, a1, a2, a3) = 0) : ∃ n0 n1 n2 n3 : Nat, a0 = n0 ∧ a1 = n1 ∧ a2 = n2 ∧ a3 = (n3 : Int) - 1000 ∧ n0 ≤ 9 ∧ n1 ≤ 999 ∧ n2 ≤ 9999 ∧ n3 ≤ 2000 := by
  obtain ⟨h0, h1, h2, h3⟩ := faultM_in h
  exact ⟨a0.toNat, a1.toNat, a2.toNat, (a3 + 1000).toNat, by omega, by omega, by omega, by omega, by omega, by omega, by omega, by omega⟩
theorem encodeM_nat {n0 n1 n2 n3 : Nat} (h : faultM ((n0 : Int), (n1 : Int), (n2 : Int), (n3 : Int) - 1000) = 0) : encodeM ((n0 : Int), (n1 : Int), (n2 : Int), (n3 : Int) - 1000) = (0, encL n0 n1 n2 n3) := by
  unfold encodeM
  rw [if_pos h]
  simp only [Int.toNat_natCast, Int.sub_add_cancel]
theorem encodeM_no {x : Smp} (h : faultM x = 3) : encodeM x = (3, []) := by
  unfold encodeM
  rw [h]
  rfl

end Go.Proofs.YtmaillakhhdkfaaGreatDoor
/-
  Samples that are drawn, and bytes of samples.
-/
namespace Go.Proofs.YtmaillakhhdkfaaGreatDoor
set_option maxRecDepth 20000
open Go.RowKit
set_option linter.unusedSimpArgs false

theorem At.newAt {w : World} {g : Nat} {t : TypeId} {cs : Array Value} (h : w.heap.size = g) : At (w.alloc (.cells cs t)) g t cs := by
  subst h
  exact At.new w t cs
theorem pick_val {xs : List Int} {v : Int} (h : v ∈ xs) (ha : (xs.all fun x => decide (-1000 ≤ x ∧ x ≤ 1000)) = true) : ∃ q : Nat, v = (q : Int) - 1000 ∧ q ≤ 2000 := by
  have := List.all_eq_true.1 ha v h
  simp only [decide_eq_true_eq] at this
  exact ⟨(v + 1000).toNat, by omega, by omega⟩
theorem Within.put {a w : World} {lo hi : Nat} (h : Within lo hi w a) {p : Addr} (hp : w.heap.size ≤ p.block) (u : Value) : Within lo hi w (a.setCell p u) :=
  h.push (grown_setCell a p u) (fun g hg => by obtain rfl := Option.some.inj hg; exact hp)
theorem Src.put {w : World} {base g n c k : Nat} {A : Option Addr} {l : List UInt8} (h : Src w base g A n c k l) {p : Addr} (hp : g < p.block) (u : Value) : Src (w.setCell p u) base g A n c k l :=
  h.grown (grown_setCell w p u) (fun x hx => by obtain rfl := Option.some.inj hx; exact hp)

set_option maxHeartbeats 1000000 in
theorem l2Draw (w : World) (base g : Nat) (A : Option Addr) (m c k : Nat) (l : List UInt8) (h : Src w base g A m c k l) (hk : k < 1000000000) :
    Calls Tryz.prog 84 #[.pointer (some ⟨g, 0, none⟩)] w fun e w' => ∃ n0 n1 n2 n3 : Nat, e = .returned (.agg #[.int .i64 n0, .int .i64 n1, .int .i64 n2, .int .i64 ((n3 : Int) - 1000)]) ∧ n0 ≤ 9 ∧ n1 ≤ 999 ∧ n2 ≤ 9999 ∧ n3 ≤ 2000 ∧ Src w' base g A m c (k + 4) l ∧ Within g (g + 1) w w' := by
  have g0 := h.at_.lt
  have s0 := h.alloc (.cells #[.int .i64 0, .int .i64 0, .int .i64 0, .int .i64 0] 25)
  have WI0 := (Within.refl g (g + 1) w).alloc (.cells #[.int .i64 0, .int .i64 0, .int .i64 0, .int .i64 0] 25)
  have r0 := At.new w 25 #[.int .i64 0, .int .i64 0, .int .i64 0, .int .i64 0]
  go_enter Tryz.func84, Tryz.ntmps84
  go_wp2_with fail
  refine (l1Pick ((w.alloc (.cells #[.int .i64 0, .int .i64 0, .int .i64 0, .int .i64 0] 25)).alloc (.cells #[.int .i64 0, .int .i64 1, .int .i64 2, .int .i64 9] 2)) _ _ A m c k l (w.heap.size + 1) #[.int .i64 0, .int .i64 1, .int .i64 2, .int .i64 9] [0, 1, 2, 9] 4 4 (s0.alloc _) (by omega) (At.newAt (by first | rfl | simp)) (by simp [intCells]) (by omega) rfl (by omega) (by omega)).mono ?_
  rintro e w1 ⟨v1, hv1, rfl, s1, hw1, -⟩
  have g1 := s1.at_.lt
  have WI1 := (WI0.alloc (.cells #[.int .i64 0, .int .i64 1, .int .i64 2, .int .i64 9] 2)).trans hw1
  have z1 := WI1.size
  have r1 := (r0.alloc (.cells #[.int .i64 0, .int .i64 1, .int .i64 2, .int .i64 9] 2)).within hw1 (by omega)
  obtain ⟨q1, rfl, hq1⟩ := pick_nat 9 hv1 rfl
  clear hv1
  go_wp2_with fail
  refine (l1Pick (w1.alloc (.cells #[.int .i64 0, .int .i64 5, .int .i64 7, .int .i64 999, .int .i64 6] 2)) _ _ A m c (k + 1) l w1.heap.size #[.int .i64 0, .int .i64 5, .int .i64 7, .int .i64 999, .int .i64 6] [0, 5, 7, 999, 6] 5 5 (s1.alloc _) (by omega) (At.newAt (by first | rfl | simp)) (by simp [intCells]) (by omega) rfl (by omega) (by omega)).mono ?_
  rintro e w2 ⟨v2, hv2, rfl, s2, hw2, -⟩
  have g2 := s2.at_.lt
  have WI2 := (WI1.alloc (.cells #[.int .i64 0, .int .i64 5, .int .i64 7, .int .i64 999, .int .i64 6] 2)).trans hw2
  have z2 := WI2.size
  have r2 := (r1.alloc (.cells #[.int .i64 0, .int .i64 5, .int .i64 7, .int .i64 999, .int .i64 6] 2)).within hw2 (by omega)
  obtain ⟨q2, rfl, hq2⟩ := pick_nat 999 hv2 rfl
  clear hv2
  go_wp2_with fail
  refine (l1Pick (w2.alloc (.cells #[.int .i64 0, .int .i64 1, .int .i64 2, .int .i64 3, .int .i64 9999] 2)) _ _ A m c (k + 1 + 1) l w2.heap.size #[.int .i64 0, .int .i64 1, .int .i64 2, .int .i64 3, .int .i64 9999] [0, 1, 2, 3, 9999] 5 5 (s2.alloc _) (by omega) (At.newAt (by first | rfl | simp)) (by simp [intCells]) (by omega) rfl (by omega) (by omega)).mono ?_
  rintro e w3 ⟨v3, hv3, rfl, s3, hw3, -⟩
  have g3 := s3.at_.lt
  have WI3 := (WI2.alloc (.cells #[.int .i64 0, .int .i64 1, .int .i64 2, .int .i64 3, .int .i64 9999] 2)).trans hw3
  have z3 := WI3.size
  have r3 := (r2.alloc (.cells #[.int .i64 0, .int .i64 1, .int .i64 2, .int .i64 3, .int .i64 9999] 2)).within hw3 (by omega)
  obtain ⟨q3, rfl, hq3⟩ := pick_nat 9999 hv3 rfl
  clear hv3
  go_wp2_with fail
  refine (l1Pick (w3.alloc (.cells #[.int .i64 0, .int .i64 5, .int .i64 (-5), .int .i64 1000, .int .i64 (-1000)] 2)) _ _ A m c (k + 1 + 1 + 1) l w3.heap.size #[.int .i64 0, .int .i64 5, .int .i64 (-5), .int .i64 1000, .int .i64 (-1000)] [0, 5, (-5), 1000, (-1000)] 5 5 (s3.alloc _) (by omega) (At.newAt (by first | rfl | simp)) (by simp [intCells]) (by omega) rfl (by omega) (by omega)).mono ?_
  rintro e w4 ⟨v4, hv4, rfl, s4, hw4, -⟩
  have g4 := s4.at_.lt
  have WI4 := (WI3.alloc (.cells #[.int .i64 0, .int .i64 5, .int .i64 (-5), .int .i64 1000, .int .i64 (-1000)] 2)).trans hw4
  have z4 := WI4.size
  have r4 := (r3.alloc (.cells #[.int .i64 0, .int .i64 5, .int .i64 (-5), .int .i64 1000, .int .i64 (-1000)] 2)).within hw4 (by omega)
  obtain ⟨q4, rfl, hq4⟩ := pick_val hv4 rfl
  clear hv4
  obtain ⟨c0, c1, c2, c3, f0, f1, f2, f3⟩ := r4.four
  go_wp2_with fail
  refine bodyPost_ret (v := .agg #[.int .i64 q1, .int .i64 q2, .int .i64 q3, .int .i64 ((q4 : Int) - 1000)]) (by simp [results, Tryz.results84, go_sem, c0, c1, c2, c3]) rfl ?_
  exact ⟨q1, q2, q3, q4, rfl, hq1, hq2, hq3, hq4, (((s4.put (p := ⟨w.heap.size, 0, none⟩) g0 _).put (p := ⟨w.heap.size, 1, none⟩) g0 _).put (p := ⟨w.heap.size, 2, none⟩) g0 _).put (p := ⟨w.heap.size, 3, none⟩) g0 _, (((WI4.put (p := ⟨w.heap.size, 0, none⟩) (Nat.le_refl _) _).put (p := ⟨w.heap.size, 1, none⟩) (Nat.le_refl _) _).put (p := ⟨w.heap.size, 2, none⟩) (Nat.le_refl _) _).put (p := ⟨w.heap.size, 3, none⟩) (Nat.le_refl _) _⟩

set_option maxHeartbeats 2000000 in
theorem l2Bent (w : World) (base g : Nat) (A : Option Addr) (m c k : Nat) (l : List UInt8) (h : Src w base g A m c k l) (hk : k < 900000000) :
    Calls Tryz.prog 81 #[.pointer (some ⟨g, 0, none⟩)] w fun e w' => ∃ a0 a1 a2 a3 : Int, e = .returned (.agg #[.int .i64 a0, .int .i64 a1, .int .i64 a2, .int .i64 a3]) ∧ (∃ k' : Nat, k' ≤ k + 6 ∧ Src w' base g A m c k' l) ∧ Within g (g + 1) w w' := by
  have g0 := h.at_.lt
  have s0 := h.alloc (.cells #[.int .i64 0, .int .i64 0, .int .i64 0, .int .i64 0] 25)
  have WI0 := (Within.refl g (g + 1) w).alloc (.cells #[.int .i64 0, .int .i64 0, .int .i64 0, .int .i64 0] 25)
  have r0 := At.new w 25 #[.int .i64 0, .int .i64 0, .int .i64 0, .int .i64 0]
  go_enter Tryz.func81, Tryz.ntmps81
  go_wp2_with fail
  refine (l2Draw _ base g A m c k l s0 (by omega)).mono ?_
  rintro e w1 ⟨n0, n1, n2, n3, rfl, -, -, -, -, s1, hw1⟩
  have WI1 := WI0.trans hw1
  have z1 := WI1.size
  have r1 := r0.within hw1 (by omega)
  have l1 := r1.lt
  have x1 := At.new w1 25 #[.int .i64 n0, .int .i64 n1, .int .i64 n2, .int .i64 ((n3 : Int) - 1000)]
  have s1' := s1.alloc (.cells #[.int .i64 n0, .int .i64 n1, .int .i64 n2, .int .i64 ((n3 : Int) - 1000)] 25)
  have r1' := r1.alloc (.cells #[.int .i64 n0, .int .i64 n1, .int .i64 n2, .int .i64 ((n3 : Int) - 1000)] 25)
  have WI1' := WI1.alloc (.cells #[.int .i64 n0, .int .i64 n1, .int .i64 n2, .int .i64 ((n3 : Int) - 1000)] 25)
  go_wp2_with fail
  refine (l1Next _ base g A m c (k + 4) l 12 s1' (by omega) (by omega)).mono ?_
  rintro e w2 ⟨r, rfl, hr, -, s2, hw2, -⟩
  obtain ⟨hr0, hr1⟩ := hr (by omega)
  have WI2 := WI1'.trans hw2
  have r2 := r1'.within hw2 (by omega)
  have x2 := x1.within hw2 (by have := s1.at_.lt; omega)
  have gx : g < w1.heap.size := s1.at_.lt
  have lx := x2.lt
  have z2 := WI2.size
  generalize ((n3 : Int) - 1000) = y3 at *
  generalize (n0 : Int) = y0 at *
  generalize (n1 : Int) = y1 at *
  generalize (n2 : Int) = y2 at *
  clear hr x1 r1 r1' s1' WI1' WI1 s1 hw1 hw2 WI0 s0 r0
  have hne : ¬ w.heap.size = w1.heap.size := by omega
  obtain ⟨c0, c1, c2, c3, f0, f1, f2, f3⟩ := r2.four
  obtain ⟨d0, d1, d2, d3, e0, e1, e2, e3⟩ := x2.four
  rcases (show r = 0 ∨ r = 1 ∨ r = 2 ∨ r = 3 ∨ 4 ≤ r by omega) with rfl | rfl | rfl | rfl | hr4
  · go_wp2_with fail
    refine (l1Pick (w2.alloc (.cells #[.int .i64 (-1), .int .i64 10] 2)) _ _ A m c (k + 4 + 1) l w2.heap.size #[.int .i64 (-1), .int .i64 10] [(-1), 10] 2 2 (s2.alloc _) (by omega) (At.newAt (by first | rfl | simp)) (by simp [intCells]) (by omega) rfl (by omega) (by omega)).mono ?_
    rintro e w3 ⟨v3, hv3, rfl, s3, hw3, -⟩
    have g3 := s3.at_.lt
    have WI3 := (WI2.alloc (.cells #[.int .i64 (-1), .int .i64 10] 2)).trans hw3
    have z3 := WI3.size
    have r3 := (r2.alloc (.cells #[.int .i64 (-1), .int .i64 10] 2)).within hw3 (by omega)
    have x3 := (x2.alloc (.cells #[.int .i64 (-1), .int .i64 10] 2)).within hw3 (by omega)
    clear c0 c1 c2 c3 f0 f1 f2 f3 d0 d1 d2 d3 e0 e1 e2 e3
    obtain ⟨c0, c1, c2, c3, f0, f1, f2, f3⟩ := r3.four
    obtain ⟨d0, d1, d2, d3, e0, e1, e2, e3⟩ := x3.four
    go_wp2_with fail
    refine bodyPost_ret (v := .agg #[.int .i64 v3, .int .i64 y1, .int .i64 y2, .int .i64 y3]) (by simp [results, Tryz.results81, go_sem, c0, c1, c2, c3]) rfl ?_
    exact ⟨_, _, _, _, rfl, ⟨k + 4 + 1 + 1, by omega, ((((s3.put (p := ⟨w1.heap.size, 0, none⟩) gx _).put (p := ⟨w.heap.size, 0, none⟩) g0 _).put (p := ⟨w.heap.size, 1, none⟩) g0 _).put (p := ⟨w.heap.size, 2, none⟩) g0 _).put (p := ⟨w.heap.size, 3, none⟩) g0 _⟩, ((((WI3.put (p := ⟨w1.heap.size, 0, none⟩) (by show w.heap.size ≤ w1.heap.size; omega) _).put (p := ⟨w.heap.size, 0, none⟩) (Nat.le_refl _) _).put (p := ⟨w.heap.size, 1, none⟩) (Nat.le_refl _) _).put (p := ⟨w.heap.size, 2, none⟩) (Nat.le_refl _) _).put (p := ⟨w.heap.size, 3, none⟩) (Nat.le_refl _) _⟩
  · go_wp2_with fail
    refine (l1Pick (w2.alloc (.cells #[.int .i64 (-1), .int .i64 1000] 2)) _ _ A m c (k + 4 + 1) l w2.heap.size #[.int .i64 (-1), .int .i64 1000] [(-1), 1000] 2 2 (s2.alloc _) (by omega) (At.newAt (by first | rfl | simp)) (by simp [intCells]) (by omega) rfl (by omega) (by omega)).mono ?_
    rintro e w3 ⟨v3, hv3, rfl, s3, hw3, -⟩
    have g3 := s3.at_.lt
    have WI3 := (WI2.alloc (.cells #[.int .i64 (-1), .int .i64 1000] 2)).trans hw3
    have z3 := WI3.size
    have r3 := (r2.alloc (.cells #[.int .i64 (-1), .int .i64 1000] 2)).within hw3 (by omega)
    have x3 := (x2.alloc (.cells #[.int .i64 (-1), .int .i64 1000] 2)).within hw3 (by omega)
    clear c0 c1 c2 c3 f0 f1 f2 f3 d0 d1 d2 d3 e0 e1 e2 e3
    obtain ⟨c0, c1, c2, c3, f0, f1, f2, f3⟩ := r3.four
    obtain ⟨d0, d1, d2, d3, e0, e1, e2, e3⟩ := x3.four
    go_wp2_with fail
    refine bodyPost_ret (v := .agg #[.int .i64 y0, .int .i64 v3, .int .i64 y2, .int .i64 y3]) (by simp [results, Tryz.results81, go_sem, c0, c1, c2, c3]) rfl ?_
    exact ⟨_, _, _, _, rfl, ⟨k + 4 + 1 + 1, by omega, ((((s3.put (p := ⟨w1.heap.size, 1, none⟩) gx _).put (p := ⟨w.heap.size, 0, none⟩) g0 _).put (p := ⟨w.heap.size, 1, none⟩) g0 _).put (p := ⟨w.heap.size, 2, none⟩) g0 _).put (p := ⟨w.heap.size, 3, none⟩) g0 _⟩, ((((WI3.put (p := ⟨w1.heap.size, 1, none⟩) (by show w.heap.size ≤ w1.heap.size; omega) _).put (p := ⟨w.heap.size, 0, none⟩) (Nat.le_refl _) _).put (p := ⟨w.heap.size, 1, none⟩) (Nat.le_refl _) _).put (p := ⟨w.heap.size, 2, none⟩) (Nat.le_refl _) _).put (p := ⟨w.heap.size, 3, none⟩) (Nat.le_refl _) _⟩
  · go_wp2_with fail
    refine (l1Pick (w2.alloc (.cells #[.int .i64 (-1), .int .i64 10000] 2)) _ _ A m c (k + 4 + 1) l w2.heap.size #[.int .i64 (-1), .int .i64 10000] [(-1), 10000] 2 2 (s2.alloc _) (by omega) (At.newAt (by first | rfl | simp)) (by simp [intCells]) (by omega) rfl (by omega) (by omega)).mono ?_
    rintro e w3 ⟨v3, hv3, rfl, s3, hw3, -⟩
    have g3 := s3.at_.lt
    have WI3 := (WI2.alloc (.cells #[.int .i64 (-1), .int .i64 10000] 2)).trans hw3
    have z3 := WI3.size
    have r3 := (r2.alloc (.cells #[.int .i64 (-1), .int .i64 10000] 2)).within hw3 (by omega)
    have x3 := (x2.alloc (.cells #[.int .i64 (-1), .int .i64 10000] 2)).within hw3 (by omega)
    clear c0 c1 c2 c3 f0 f1 f2 f3 d0 d1 d2 d3 e0 e1 e2 e3
    obtain ⟨c0, c1, c2, c3, f0, f1, f2, f3⟩ := r3.four
    obtain ⟨d0, d1, d2, d3, e0, e1, e2, e3⟩ := x3.four
    go_wp2_with fail
    refine bodyPost_ret (v := .agg #[.int .i64 y0, .int .i64 y1, .int .i64 v3, .int .i64 y3]) (by simp [results, Tryz.results81, go_sem, c0, c1, c2, c3]) rfl ?_
    exact ⟨_, _, _, _, rfl, ⟨k + 4 + 1 + 1, by omega, ((((s3.put (p := ⟨w1.heap.size, 2, none⟩) gx _).put (p := ⟨w.heap.size, 0, none⟩) g0 _).put (p := ⟨w.heap.size, 1, none⟩) g0 _).put (p := ⟨w.heap.size, 2, none⟩) g0 _).put (p := ⟨w.heap.size, 3, none⟩) g0 _⟩, ((((WI3.put (p := ⟨w1.heap.size, 2, none⟩) (by show w.heap.size ≤ w1.heap.size; omega) _).put (p := ⟨w.heap.size, 0, none⟩) (Nat.le_refl _) _).put (p := ⟨w.heap.size, 1, none⟩) (Nat.le_refl _) _).put (p := ⟨w.heap.size, 2, none⟩) (Nat.le_refl _) _).put (p := ⟨w.heap.size, 3, none⟩) (Nat.le_refl _) _⟩
  · go_wp2_with fail
    refine (l1Pick (w2.alloc (.cells #[.int .i64 (-1001), .int .i64 1001] 2)) _ _ A m c (k + 4 + 1) l w2.heap.size #[.int .i64 (-1001), .int .i64 1001] [(-1001), 1001] 2 2 (s2.alloc _) (by omega) (At.newAt (by first | rfl | simp)) (by simp [intCells]) (by omega) rfl (by omega) (by omega)).mono ?_
    rintro e w3 ⟨v3, hv3, rfl, s3, hw3, -⟩
    have g3 := s3.at_.lt
    have WI3 := (WI2.alloc (.cells #[.int .i64 (-1001), .int .i64 1001] 2)).trans hw3
    have z3 := WI3.size
    have r3 := (r2.alloc (.cells #[.int .i64 (-1001), .int .i64 1001] 2)).within hw3 (by omega)
    have x3 := (x2.alloc (.cells #[.int .i64 (-1001), .int .i64 1001] 2)).within hw3 (by omega)
    clear c0 c1 c2 c3 f0 f1 f2 f3 d0 d1 d2 d3 e0 e1 e2 e3
    obtain ⟨c0, c1, c2, c3, f0, f1, f2, f3⟩ := r3.four
    obtain ⟨d0, d1, d2, d3, e0, e1, e2, e3⟩ := x3.four
    go_wp2_with fail
    refine bodyPost_ret (v := .agg #[.int .i64 y0, .int .i64 y1, .int .i64 y2, .int .i64 v3]) (by simp [results, Tryz.results81, go_sem, c0, c1, c2, c3]) rfl ?_
    exact ⟨_, _, _, _, rfl, ⟨k + 4 + 1 + 1, by omega, ((((s3.put (p := ⟨w1.heap.size, 3, none⟩) gx _).put (p := ⟨w.heap.size, 0, none⟩) g0 _).put (p := ⟨w.heap.size, 1, none⟩) g0 _).put (p := ⟨w.heap.size, 2, none⟩) g0 _).put (p := ⟨w.heap.size, 3, none⟩) g0 _⟩, ((((WI3.put (p := ⟨w1.heap.size, 3, none⟩) (by show w.heap.size ≤ w1.heap.size; omega) _).put (p := ⟨w.heap.size, 0, none⟩) (Nat.le_refl _) _).put (p := ⟨w.heap.size, 1, none⟩) (Nat.le_refl _) _).put (p := ⟨w.heap.size, 2, none⟩) (Nat.le_refl _) _).put (p := ⟨w.heap.size, 3, none⟩) (Nat.le_refl _) _⟩
  · have b0 : (r == 0) = false := by simp; omega
    have b1 : (r == 1) = false := by simp; omega
    have b2 : (r == 2) = false := by simp; omega
    have b3 : (r == 3) = false := by simp; omega
    go_wp2_with fail
    refine bodyPost_ret (v := .agg #[.int .i64 y0, .int .i64 y1, .int .i64 y2, .int .i64 y3]) (by simp [results, Tryz.results81, go_sem, c0, c1, c2, c3]) rfl ?_
    exact ⟨_, _, _, _, rfl, ⟨k + 4 + 1, by omega, (((s2.put (p := ⟨w.heap.size, 0, none⟩) g0 _).put (p := ⟨w.heap.size, 1, none⟩) g0 _).put (p := ⟨w.heap.size, 2, none⟩) g0 _).put (p := ⟨w.heap.size, 3, none⟩) g0 _⟩, (((WI2.put (p := ⟨w.heap.size, 0, none⟩) (Nat.le_refl _) _).put (p := ⟨w.heap.size, 1, none⟩) (Nat.le_refl _) _).put (p := ⟨w.heap.size, 2, none⟩) (Nat.le_refl _) _).put (p := ⟨w.heap.size, 3, none⟩) (Nat.le_refl _) _⟩

end Go.Proofs.YtmaillakhhdkfaaGreatDoor
/-
  Rows of samples: how they lie in memory; the law's own copying, comparing and marking of them.
-/
namespace Go.Proofs.YtmaillakhhdkfaaGreatDoor
set_option maxRecDepth 20000
open Go.RowKit
set_option linter.unusedSimpArgs false

def smpCells (x : Smp) : List Value := [.int .i64 x.1, .int .i64 x.2.1, .int .i64 x.2.2.1, .int .i64 x.2.2.2]
/-- Samples. -/
def eS : Enc Smp := ⟨25, 4, smpCells⟩
theorem okS : EncOk eS := ⟨fun _ => rfl, fun a u hu => by simp only [eS, smpCells, List.mem_cons, List.not_mem_nil, or_false] at hu; rcases hu with rfl | rfl | rfl | rfl <;> rfl, by decide⟩
theorem info_smp : (Tryz.prog.info? 25).map (fun i => (i.zero, i.size, i.bytes)) = some (some (.agg #[.int .i64 0, .int .i64 0, .int .i64 0, .int .i64 0]), 4, 32) := by kernel_rfl

/-- Four cells. -/
def S4 (u : World) (g p : Nat) (a0 a1 a2 a3 : Int) : Prop :=
  u.cell? ⟨g, p, none⟩ = some (.int .i64 a0) ∧ u.cell? ⟨g, p + 1, none⟩ = some (.int .i64 a1) ∧ u.cell? ⟨g, p + 2, none⟩ = some (.int .i64 a2) ∧ u.cell? ⟨g, p + 3, none⟩ = some (.int .i64 a3)
theorem S4.below {B : Nat} {w w' : World} {g p : Nat} {a0 a1 a2 a3 : Int} (h : S4 w g p a0 a1 a2 a3) (hb : Below B w w') (hg : g < B) : S4 w' g p a0 a1 a2 a3 :=
  ⟨(hb.cell (p := ⟨g, p, none⟩) hg).trans h.1, (hb.cell (p := ⟨g, p + 1, none⟩) hg).trans h.2.1, (hb.cell (p := ⟨g, p + 2, none⟩) hg).trans h.2.2.1, (hb.cell (p := ⟨g, p + 3, none⟩) hg).trans h.2.2.2⟩
theorem S4.drew {w : World} {g p : Nat} {a0 a1 a2 a3 : Int} (h : S4 w g p a0 a1 a2 a3) : S4 w.drew g p a0 a1 a2 a3 := h

section
variable {w w' : World} {base hi n c : Nat} {A : Option Addr} {l : List Smp}
theorem Rd.smp (h : Rd eS w hi A l) {k : Nat} (hk : k < l.length) : ∃ g o a0 a1 a2 a3, A = some ⟨g, o, none⟩ ∧ g < hi ∧ l[k]? = some (a0, a1, a2, a3) ∧ S4 w g (o + k * 4) a0 a1 a2 a3 := by
  obtain ⟨g, o, ⟨a0, a1, a2, a3⟩, e, hg, ha, hc⟩ := h.at_ hk
  exact ⟨g, o, a0, a1, a2, a3, e, hg, ha, hc 0 _ rfl, hc 1 _ rfl, hc 2 _ rfl, hc 3 _ rfl⟩
theorem Rd.smp_is {g o k : Nat} {a0 a1 a2 a3 : Int} (h : Rd eS w hi (some ⟨g, o, none⟩) l) (hk : l[k]? = some (a0, a1, a2, a3)) : S4 w g (o + k * 4) a0 a1 a2 a3 := by
  obtain ⟨g', o', e, _, hc⟩ := h (by intro e; subst e; simp at hk)
  obtain ⟨rfl, rfl⟩ : g = g' ∧ o = o' := by simpa using Option.some.inj e
  exact ⟨hc k 0 _ _ hk rfl, hc k 1 _ _ hk rfl, hc k 2 _ _ hk rfl, hc k 3 _ _ hk rfl⟩
end

theorem alike_all' {α : Type} {xs ys : List α} {n : Nat} (hx : xs.length = n) (hy : ys.length = n) (h : ∀ i, i < n → xs[i]? = ys[i]?) : xs = ys := by
  apply List.ext_getElem?
  intro i
  rcases Nat.lt_or_ge i n with h1 | h1
  · exact h i h1
  · rw [List.getElem?_eq_none (by omega), List.getElem?_eq_none (by omega)]
def EqRelS (xs ys : List Smp) (w : World) (n : Nat) (i : Value) (wr : World) : Prop :=
  ∃ k : Nat, k ≤ n ∧ i = .int .i64 k ∧ (∀ i, i < k → xs[i]? = ys[i]?) ∧ Below w.heap.size w wr

end Go.Proofs.YtmaillakhhdkfaaGreatDoor
/-
  Rows of hints: how they lie in memory; the law's own copying and comparing of them.
-/
namespace Go.Proofs.YtmaillakhhdkfaaGreatDoor
set_option maxRecDepth 20000
open Go.RowKit
set_option linter.unusedSimpArgs false

/-- A hint: its node, its sample, how often it was sent, when it is due. -/
abbrev Hnt := Int × Smp × Int × Int
def hntCells (x : Hnt) : List Value := [.int .i64 x.1, .int .i64 x.2.1.1, .int .i64 x.2.1.2.1, .int .i64 x.2.1.2.2.1, .int .i64 x.2.1.2.2.2, .int .i64 x.2.2.1, .int .i64 x.2.2.2]
theorem hnt_one (a : Hnt) (u : Value) (hu : u ∈ hntCells a) : u.oneCell' = true := by
  simp only [hntCells, List.mem_cons, List.not_mem_nil, or_false] at hu
  rcases hu with rfl | rfl | rfl | rfl | rfl | rfl | rfl <;> rfl
/-- Hints. -/
def eH : Enc Hnt := ⟨75, 7, hntCells⟩
theorem okH : EncOk eH := ⟨fun _ => rfl, hnt_one, by decide⟩
abbrev zeroH : Hnt := (0, (0, 0, 0, 0), 0, 0)
theorem info_hnt : (Tryz.prog.info? 75).map (fun i => (i.zero, i.size, i.bytes)) = some (some (.agg #[.int .i64 0, .int .i64 0, .int .i64 0, .int .i64 0, .int .i64 0, .int .i64 0, .int .i64 0]), 7, 56) := by kernel_rfl

/-- Seven cells. -/
def S7 (u : World) (g p : Nat) (a0 a1 a2 a3 a4 a5 a6 : Int) : Prop :=
  u.cell? ⟨g, p, none⟩ = some (.int .i64 a0) ∧ u.cell? ⟨g, p + 1, none⟩ = some (.int .i64 a1) ∧ u.cell? ⟨g, p + 2, none⟩ = some (.int .i64 a2) ∧ u.cell? ⟨g, p + 3, none⟩ = some (.int .i64 a3) ∧ u.cell? ⟨g, p + 4, none⟩ = some (.int .i64 a4) ∧ u.cell? ⟨g, p + 5, none⟩ = some (.int .i64 a5) ∧ u.cell? ⟨g, p + 6, none⟩ = some (.int .i64 a6)
theorem S7.below {B : Nat} {w w' : World} {g p : Nat} {a0 a1 a2 a3 a4 a5 a6 : Int} (h : S7 w g p a0 a1 a2 a3 a4 a5 a6) (hb : Below B w w') (hg : g < B) : S7 w' g p a0 a1 a2 a3 a4 a5 a6 :=
  ⟨(hb.cell (p := ⟨g, p, none⟩) hg).trans h.1, (hb.cell (p := ⟨g, p + 1, none⟩) hg).trans h.2.1, (hb.cell (p := ⟨g, p + 2, none⟩) hg).trans h.2.2.1, (hb.cell (p := ⟨g, p + 3, none⟩) hg).trans h.2.2.2.1, (hb.cell (p := ⟨g, p + 4, none⟩) hg).trans h.2.2.2.2.1, (hb.cell (p := ⟨g, p + 5, none⟩) hg).trans h.2.2.2.2.2.1, (hb.cell (p := ⟨g, p + 6, none⟩) hg).trans h.2.2.2.2.2.2⟩
theorem S7.drew {w : World} {g p : Nat} {a0 a1 a2 a3 a4 a5 a6 : Int} (h : S7 w g p a0 a1 a2 a3 a4 a5 a6) : S7 w.drew g p a0 a1 a2 a3 a4 a5 a6 := h
theorem S7.grown {w w' : World} {row : Option Nat} {g p : Nat} {a0 a1 a2 a3 a4 a5 a6 : Int} (h : S7 w g p a0 a1 a2 a3 a4 a5 a6) (hg : w.grownBy w' row) (hne : some g ≠ row) : S7 w' g p a0 a1 a2 a3 a4 a5 a6 :=
  ⟨hg.cell h.1 hne, hg.cell h.2.1 hne, hg.cell h.2.2.1 hne, hg.cell h.2.2.2.1 hne, hg.cell h.2.2.2.2.1 hne, hg.cell h.2.2.2.2.2.1 hne, hg.cell h.2.2.2.2.2.2 hne⟩
theorem At.seven {w : World} {g : Nat} {t : TypeId} {a b c d e f h : Value} (k : At w g t #[a, b, c, d, e, f, h]) : w.cell? ⟨g, 0, none⟩ = some a ∧ w.cell? ⟨g, 1, none⟩ = some b ∧ w.cell? ⟨g, 2, none⟩ = some c ∧ w.cell? ⟨g, 3, none⟩ = some d ∧ w.cell? ⟨g, 4, none⟩ = some e ∧ w.cell? ⟨g, 5, none⟩ = some f ∧ w.cell? ⟨g, 6, none⟩ = some h :=
  ⟨k.cell 0, k.cell 1, k.cell 2, k.cell 3, k.cell 4, k.cell 5, k.cell 6⟩
theorem At.sevenF {w : World} {g : Nat} {t : TypeId} {a b c d e f h : Value} (k : At w g t #[a, b, c, d, e, f, h]) : w.frozen? ⟨g, 0, none⟩ = false ∧ w.frozen? ⟨g, 1, none⟩ = false ∧ w.frozen? ⟨g, 2, none⟩ = false ∧ w.frozen? ⟨g, 3, none⟩ = false ∧ w.frozen? ⟨g, 4, none⟩ = false ∧ w.frozen? ⟨g, 5, none⟩ = false ∧ w.frozen? ⟨g, 6, none⟩ = false :=
  ⟨k.frozen 0, k.frozen 1, k.frozen 2, k.frozen 3, k.frozen 4, k.frozen 5, k.frozen 6⟩

section
variable {w w' : World} {base hi n c : Nat} {A : Option Addr} {l : List Hnt}
theorem Rd.hnt (h : Rd eH w hi A l) {k : Nat} (hk : k < l.length) : ∃ g o a0 a1 a2 a3 a4 a5 a6, A = some ⟨g, o, none⟩ ∧ g < hi ∧ l[k]? = some (a0, (a1, a2, a3, a4), a5, a6) ∧ S7 w g (o + k * 7) a0 a1 a2 a3 a4 a5 a6 := by
  obtain ⟨g, o, ⟨a0, ⟨a1, a2, a3, a4⟩, a5, a6⟩, e, hg, ha, hc⟩ := h.at_ hk
  exact ⟨g, o, a0, a1, a2, a3, a4, a5, a6, e, hg, ha, hc 0 _ rfl, hc 1 _ rfl, hc 2 _ rfl, hc 3 _ rfl, hc 4 _ rfl, hc 5 _ rfl, hc 6 _ rfl⟩
theorem Ow.hntAt {g : Nat} (h : Ow eH w base (some ⟨g, 0, none⟩) n c l) {k : Nat} {a0 a1 a2 a3 a4 a5 a6 : Int} (hk : l[k]? = some (a0, (a1, a2, a3, a4), a5, a6)) : S7 w g (k * 7) a0 a1 a2 a3 a4 a5 a6 :=
  ⟨h.cellAt okH hk (j := 0) rfl, h.cellAt okH hk (j := 1) rfl, h.cellAt okH hk (j := 2) rfl, h.cellAt okH hk (j := 3) rfl, h.cellAt okH hk (j := 4) rfl, h.cellAt okH hk (j := 5) rfl, h.cellAt okH hk (j := 6) rfl⟩
/-- One number of a hint. -/
theorem Ow.hntPut {g : Nat} (h : Ow eH w base (some ⟨g, 0, none⟩) n c l) {k j : Nat} {x y : Hnt} {u : Value} (hk : l[k]? = some x) (hj : j < 7) (hc : hntCells y = (hntCells x).set j u) :
    Ow eH (w.setCell ⟨g, k * 7 + j, none⟩ u) base (some ⟨g, 0, none⟩) n c (l.set k y) ∧ w.grownBy (w.setCell ⟨g, k * 7 + j, none⟩ u) (some g) :=
  h.stored okH (k := k) (j := j) (a' := y) hk hj hc
end

def EqRelH (xs ys : List Hnt) (w : World) (n : Nat) (i : Value) (wr : World) : Prop :=
  ∃ k : Nat, k ≤ n ∧ i = .int .i64 k ∧ (∀ i, i < k → xs[i]? = ys[i]?) ∧ Below w.heap.size w wr

end Go.Proofs.YtmaillakhhdkfaaGreatDoor
/-
  What is asked of hints, of the pure answers: faults, one looked for, put, done, due, sent; a queue of hints by their keys.
-/
namespace Go.Proofs.YtmaillakhhdkfaaGreatDoor
set_option maxRecDepth 20000
open Go.RowKit
set_option linter.unusedSimpArgs false
set_option linter.unusedVariables false

abbrev idH (x : Hnt) : Int := x.2.1.2.2.1
def sameH (a b : Hnt) : Bool := decide (a.1 = b.1) && decide (idH a = idH b)
theorem sameH_iff (a b : Hnt) : sameH a b = true ↔ a.1 = b.1 ∧ idH a = idH b := by unfold sameH; simp
theorem sameH_comm (a b : Hnt) : sameH a b = sameH b a := by
  rw [Bool.eq_iff_iff, sameH_iff, sameH_iff]
  exact ⟨fun h => ⟨h.1.symm, h.2.symm⟩, fun h => ⟨h.1.symm, h.2.symm⟩⟩
def rangeH (h : Hnt) : Bool := inB (h.1, 0, 3) && (inB (h.2.2.1, 0, 4) && inB (h.2.2.2, 0, 200000))
def hfaultM (h : Hnt) : Int := if faultM h.2.1 ≠ 0 then 3 else if rangeH h then 0 else 3
theorem hfault_or (h : Hnt) : hfaultM h = 0 ∨ hfaultM h = 3 := by
  unfold hfaultM
  split
  · exact .inr rfl
  · split
    · exact .inl rfl
    · exact .inr rfl
theorem hfault_smp {h : Hnt} (k : faultM h.2.1 = 3) : hfaultM h = 3 := by unfold hfaultM; rw [if_pos (by simp [k])]
theorem hfault_yes {h : Hnt} (k : faultM h.2.1 = 0) (r : rangeH h = true) : hfaultM h = 0 := by unfold hfaultM; rw [if_neg (by simp [k]), if_pos r]
theorem hfault_no {h : Hnt} (k : faultM h.2.1 = 0) (r : rangeH h = false) : hfaultM h = 3 := by unfold hfaultM; rw [if_neg (by simp [k]), if_neg (by simp [r])]
def rightHM (l : List Hnt) : Bool := l.all fun x => decide (hfaultM x = 0)
/-- No two are for one node and have one Id. -/
def Dis (l : List Hnt) : Prop := l.Pairwise fun a b => sameH a b = false
instance (l : List Hnt) : Decidable (Dis l) := inferInstanceAs (Decidable (List.Pairwise _ l))
def hintsFaultM (l : List Hnt) : Int := if 8 < l.length then 2 else if rightHM l = false then 3 else if Dis l then 0 else 6
theorem hintsFault_many {l : List Hnt} (h : 8 < l.length) : hintsFaultM l = 2 := if_pos h
theorem hintsFault_wrong {l : List Hnt} {k : Nat} {x : Hnt} (h : ¬ 8 < l.length) (hx : l[k]? = some x) (hf : hfaultM x = 3) : hintsFaultM l = 3 := by
  have hr : rightHM l = false := by
    unfold rightHM
    rw [List.all_eq_false]
    exact ⟨x, List.mem_of_getElem? hx, by simp [hf]⟩
  unfold hintsFaultM
  rw [if_neg h, if_pos hr]
theorem rightHM_of {l : List Hnt} {n : Nat} (hn : l.length = n) (hal : ∀ j x, j < n → l[j]? = some x → hfaultM x = 0) : rightHM l = true := by
  unfold rightHM
  rw [List.all_eq_true]
  intro x hx
  obtain ⟨j, hj⟩ := List.mem_iff_getElem?.1 hx
  exact decide_eq_true (hal j x (by have := getElem?_some_lt hj; omega) hj)
theorem hintsFault_taken {l : List Hnt} (h : ¬ 8 < l.length) (hr : rightHM l = true) (hd : ¬ Dis l) : hintsFaultM l = 6 := by
  unfold hintsFaultM
  rw [if_neg h, if_neg (by simp [hr]), if_neg hd]
theorem hintsFault_ok {l : List Hnt} (h : ¬ 8 < l.length) (hr : rightHM l = true) (hd : Dis l) : hintsFaultM l = 0 := by
  unfold hintsFaultM
  rw [if_neg h, if_neg (by simp [hr]), if_pos hd]
theorem hintsFault_iff (l : List Hnt) : hintsFaultM l = 0 ↔ l.length ≤ 8 ∧ (∀ x ∈ l, hfaultM x = 0) ∧ Dis l := by
  constructor
  · intro h
    unfold hintsFaultM at h
    by_cases h1 : 8 < l.length
    · rw [if_pos h1] at h; cases h
    · rw [if_neg h1] at h
      by_cases h2 : rightHM l = false
      · rw [if_pos h2] at h; cases h
      · rw [if_neg h2] at h
        by_cases h3 : Dis l
        · refine ⟨by omega, fun x hx => ?_, h3⟩
          have : rightHM l = true := by simpa using h2
          unfold rightHM at this
          rw [List.all_eq_true] at this
          exact of_decide_eq_true (this x hx)
        · rw [if_neg h3] at h; cases h
  · rintro ⟨h1, h2, h3⟩
    refine hintsFault_ok (by omega) ?_ h3
    unfold rightHM
    rw [List.all_eq_true]
    exact fun x hx => decide_eq_true (h2 x hx)

/-- One is looked for. -/
def hitH (l : List Hnt) (p i : Int) (k : Nat) : Bool := match l[k]? with | some a => decide (a.1 = p) && decide (idH a = i) | none => false
theorem hitH_at {l : List Hnt} {p i : Int} {k : Nat} {a : Hnt} (h : l[k]? = some a) : hitH l p i k = (decide (a.1 = p) && decide (idH a = i)) := by
  unfold hitH
  rw [h]
def findH (l : List Hnt) (p i : Int) : Option Nat := (List.range l.length).find? (hitH l p i)
def findHI (l : List Hnt) (p i : Int) : Int := match findH l p i with | some k => (k : Int) | none => -1
theorem findH_some {l : List Hnt} {p i : Int} {k : Nat} (hk : k < l.length) (h : hitH l p i k = true) (hal : ∀ j, j < k → hitH l p i j = false) : findH l p i = some k := by
  unfold findH
  rw [List.find?_range_eq_some]
  exact ⟨h, by simpa using hk, fun j hj => by simp [hal j hj]⟩
theorem findH_none {l : List Hnt} {p i : Int} (hal : ∀ j, j < l.length → hitH l p i j = false) : findH l p i = none := by
  unfold findH
  rw [List.find?_range_eq_none]
  exact fun j hj => by simp [hal j hj]
theorem findH_is {l : List Hnt} {p i : Int} {k : Nat} (h : findH l p i = some k) : k < l.length ∧ hitH l p i k = true ∧ ∀ j, j < k → hitH l p i j = false := by
  unfold findH at h
  rw [List.find?_range_eq_some] at h
  refine ⟨by simpa using h.2.1, h.1, fun j hj => by simpa using h.2.2 j hj⟩
theorem findHI_some {l : List Hnt} {p i : Int} {k : Nat} (hk : k < l.length) (h : hitH l p i k = true) (hal : ∀ j, j < k → hitH l p i j = false) : findHI l p i = (k : Int) := by
  unfold findHI
  rw [findH_some hk h hal]
theorem findHI_none {l : List Hnt} {p i : Int} {n : Nat} (hn : l.length = n) (hal : ∀ j, j < n → hitH l p i j = false) : findHI l p i = -1 := by
  unfold findHI
  rw [findH_none (by rw [hn]; exact hal)]
theorem findHI_or (l : List Hnt) (p i : Int) : (findHI l p i = -1 ∧ findH l p i = none) ∨ ∃ k : Nat, findHI l p i = (k : Int) ∧ findH l p i = some k ∧ k < l.length := by
  unfold findHI
  rcases h : findH l p i with _ | k
  · exact .inl ⟨rfl, rfl⟩
  · exact .inr ⟨k, rfl, rfl, (findH_is h).1⟩
theorem findHI_self {l : List Hnt} (hd : Dis l) {k : Nat} {a : Hnt} (h : l[k]? = some a) : findHI l a.1 (idH a) = (k : Int) := by
  refine findHI_some (getElem?_some_lt h) (by rw [hitH_at h]; simp) fun j hj => ?_
  have hk := getElem?_some_lt h
  have hjl : j < l.length := by omega
  rw [hitH_at (List.getElem?_eq_getElem hjl)]
  have := (List.pairwise_iff_getElem.1 hd) j k hjl hk hj
  rw [List.getElem?_eq_getElem hk] at h
  rw [Option.some.inj h] at this
  exact this
/-- Whether each is found at its own place tells whether no two are alike. -/
theorem dis_of {l : List Hnt} (h : ∀ (k : Nat) (a : Hnt), l[k]? = some a → findHI l a.1 (idH a) = (k : Int)) : Dis l := by
  refine List.pairwise_iff_getElem.2 fun i j hi hj hij => ?_
  rcases hs : sameH l[i] l[j]
  · rfl
  · exfalso
    obtain ⟨h1, h2⟩ := (sameH_iff _ _).1 hs
    have hf := h j _ (List.getElem?_eq_getElem hj)
    rcases findHI_or l l[j].1 (idH l[j]) with ⟨h3, _⟩ | ⟨k, h3, h4, _⟩
    · omega
    · obtain rfl : k = j := by omega
      have := (findH_is h4).2.2 i hij
      rw [hitH_at (List.getElem?_eq_getElem hi), h1, h2] at this
      simp at this

/-- What AddHint, DoneHint, DueHints, SentHint answer. -/
def addM (l : List Hnt) (p : Int) (x : Smp) : Int × List Hnt :=
  if hintsFaultM l ≠ 0 then (hintsFaultM l, []) else if faultM x ≠ 0 then (3, []) else if inB (p, 0, 3) = false then (3, []) else if 0 ≤ findHI l p x.2.2.1 then (6, []) else if 8 ≤ l.length then (7, []) else (0, l ++ [(p, x, 0, 0)])
def doneM (l : List Hnt) (p i : Int) : Int × List Hnt :=
  if hintsFaultM l ≠ 0 then (hintsFaultM l, []) else match findH l p i with | none => (4, []) | some k => (0, l.take k ++ l.drop (k + 1))
theorem take_nextH {α : Type} {l : List α} {k : Nat} {a : α} (h : l[k]? = some a) : l.take (k + 1) = l.take k ++ [a] := by
  have hl := getElem?_some_lt h
  rw [List.take_succ_eq_append_getElem hl]
  rw [List.getElem?_eq_getElem hl] at h
  rw [Option.some.inj h]
/-- A queue: hints with their turns. -/
abbrev Qd := Int × Hnt
def putQ (t : Int) (h : Hnt) : List Qd → List Qd
  | [] => [(t, h)]
  | x :: L => if sameH h x.2 then (x.1, h) :: L else x :: putQ t h L
def firstQ (L : List Qd) (h : Hnt) : Option Qd := L.find? fun x => sameH h x.2
def eraseQ (h : Hnt) : List Qd → List Qd
  | [] => []
  | x :: L => if sameH h x.2 then L else x :: eraseQ h L
theorem putQ_new (t : Int) (h : Hnt) : ∀ {L : List Qd}, firstQ L h = none → putQ t h L = L ++ [(t, h)]
  | [], _ => rfl
  | x :: L, hn => by
    unfold firstQ at hn
    rw [List.find?_cons] at hn
    rcases hs : sameH h x.2
    · rw [hs] at hn
      have := putQ_new t h (L := L) hn
      unfold putQ
      rw [hs, this]
      rfl
    · rw [hs] at hn
      cases hn
theorem putQ_len (t : Int) (h : Hnt) : ∀ L : List Qd, (putQ t h L).length = if (firstQ L h).isSome then L.length else L.length + 1
  | [] => rfl
  | x :: L => by
    have ih := putQ_len t h L
    rcases hs : sameH h x.2
    · have e1 : putQ t h (x :: L) = x :: putQ t h L := by rw [putQ, hs]; rfl
      have e2 : firstQ (x :: L) h = firstQ L h := by unfold firstQ; rw [List.find?_cons, hs]
      rw [e1, e2, List.length_cons, ih, List.length_cons]
      split <;> rfl
    · have e1 : putQ t h (x :: L) = (x.1, h) :: L := by rw [putQ, hs]; rfl
      have e2 : firstQ (x :: L) h = some x := by unfold firstQ; rw [List.find?_cons, hs]
      rw [e1, e2]
      simp
theorem firstQ_none {L : List Qd} {h : Hnt} : firstQ L h = none ↔ ∀ x ∈ L.map Prod.snd, sameH h x = false := by
  unfold firstQ
  rw [List.find?_eq_none]
  constructor
  · intro k x hx
    obtain ⟨y, hy, rfl⟩ := List.mem_map.1 hx
    simpa using k y hy
  · intro k x hx
    have := k x.2 (List.mem_map.2 ⟨x, hx, rfl⟩)
    simp [this]
/-- One is laid at its key. -/
def setQ (x : Qd) : List Qd → List Qd
  | [] => [x]
  | a :: L => if sameH x.2 a.2 then x :: L else a :: setQ x L
def turnQ (t : Int) (h : Hnt) (L : List Qd) : Int := match firstQ L h with | some x => x.1 | none => t
theorem putQ_set (t : Int) (h : Hnt) : ∀ L : List Qd, putQ t h L = setQ (turnQ t h L, h) L
  | [] => rfl
  | x :: L => by
    have ih := putQ_set t h L
    rcases hs : sameH h x.2
    · have e2 : firstQ (x :: L) h = firstQ L h := by unfold firstQ; rw [List.find?_cons, hs]
      have e3 : turnQ t h (x :: L) = turnQ t h L := by unfold turnQ; rw [e2]
      rw [e3, putQ, setQ, hs, ih]
      rfl
    · have e2 : firstQ (x :: L) h = some x := by unfold firstQ; rw [List.find?_cons, hs]
      have e3 : turnQ t h (x :: L) = x.1 := by unfold turnQ; rw [e2]
      rw [e3, putQ, setQ, hs]
      rfl
/-- The queue of a list, turn by turn. -/
def queueN (L : List Qd) (t : Nat) : List Hnt → List Qd
  | [] => L
  | h :: l => queueN (putQ (t : Int) h L) (t + 1) l
def queueM (l : List Hnt) : List Qd := queueN [] 0 l
theorem queueN_append (h : Hnt) : ∀ (l : List Hnt) (L : List Qd) (t : Nat), queueN L t (l ++ [h]) = putQ ((t + l.length : Nat) : Int) h (queueN L t l)
  | [], L, t => rfl
  | x :: l, L, t => by
    have := queueN_append h l (putQ (t : Int) x L) (t + 1)
    simp only [List.cons_append, queueN, List.length_cons]
    rw [this]
    congr 2
    omega
theorem queue_next {l : List Hnt} {k : Nat} {a : Hnt} (h : l[k]? = some a) : queueM (l.take (k + 1)) = putQ (k : Int) a (queueM (l.take k)) := by
  have hl := getElem?_some_lt h
  unfold queueM
  rw [take_nextH h, queueN_append, Nat.zero_add, List.length_take, Nat.min_eq_left (by omega)]
/-- A list turn by turn. -/
def zipQ (l : List Hnt) : List Qd := (List.range l.length).map fun (i : Nat) => ((i : Int), (l[i]?).getD zeroH)
theorem zipQ_append (l : List Hnt) (h : Hnt) : zipQ (l ++ [h]) = zipQ l ++ [((l.length : Int), h)] := by
  unfold zipQ
  rw [List.length_append, List.length_singleton, List.range_succ, List.map_append]
  congr 1
  · apply List.map_congr_left
    intro i hi
    have := List.mem_range.1 hi
    rw [List.getElem?_append_left this]
  · simp
theorem zipQ_snd (l : List Hnt) : (zipQ l).map Prod.snd = l := by
  apply List.ext_getElem?
  intro i
  unfold zipQ
  rw [List.map_map, List.getElem?_map]
  rcases Nat.lt_or_ge i l.length with h | h
  · rw [List.getElem?_range h, Option.map_some]
    simp [List.getElem?_eq_getElem h]
  · rw [List.getElem?_eq_none (by simpa using h), List.getElem?_eq_none h]
    rfl
theorem dis_append {l : List Hnt} {h : Hnt} : Dis (l ++ [h]) ↔ Dis l ∧ ∀ x ∈ l, sameH x h = false := by
  unfold Dis
  rw [List.pairwise_append]
  simp
theorem queue_all (l : List Hnt) : (Dis l → queueM l = zipQ l) ∧ (¬ Dis l → (queueM l).length < l.length) ∧ (queueM l).length ≤ l.length := by
  have step : ∀ k, k ≤ l.length → (Dis (l.take k) → queueM (l.take k) = zipQ (l.take k)) ∧ (¬ Dis (l.take k) → (queueM (l.take k)).length < k) ∧ (queueM (l.take k)).length ≤ k := by
    intro k
    induction k with
    | zero => intro _; exact ⟨fun _ => rfl, fun h => absurd List.Pairwise.nil h, Nat.le_refl _⟩
    | succ k ih =>
      intro hk
      obtain ⟨h1, h2, h3⟩ := ih (by omega)
      have ha : l[k]? = some l[k] := List.getElem?_eq_getElem (by omega)
      have hlen : (l.take k).length = k := by rw [List.length_take]; omega
      rw [queue_next ha, putQ_len]
      refine ⟨fun hd => ?_, fun hd => ?_, by split <;> omega⟩
      · rw [take_nextH ha, dis_append] at hd
        have hz := h1 hd.1
        have hf : firstQ (queueM (l.take k)) l[k] = none := by
          rw [firstQ_none, hz, zipQ_snd]
          exact fun x hx => by rw [sameH_comm]; exact hd.2 x hx
        rw [putQ_new _ _ hf, hz, take_nextH ha, zipQ_append, hlen]
      · by_cases hd' : Dis (l.take k)
        · have hz := h1 hd'
          have hf : (firstQ (queueM (l.take k)) l[k]).isSome = true := by
            rw [Option.isSome_iff_ne_none]
            intro hn
            refine hd ?_
            rw [take_nextH ha, dis_append]
            refine ⟨hd', fun x hx => ?_⟩
            rw [firstQ_none, hz, zipQ_snd] at hn
            rw [sameH_comm]
            exact hn x hx
          rw [if_pos hf]
          rw [hz] 
          unfold zipQ
          rw [List.length_map, List.length_range, hlen]
          omega
        · have := h2 hd'
          split <;> omega
  have := step l.length (Nat.le_refl _)
  rwa [List.take_length] at this
/-- Turns rise. -/
def Rises (L : List Qd) : Prop := L.Pairwise fun x y => x.1 < y.1
theorem rises_zip (l : List Hnt) : Rises (zipQ l) := by
  unfold Rises zipQ
  rw [List.pairwise_map]
  exact (List.pairwise_lt_range).imp fun {a b} h => by simpa using h
theorem zipQ_len (l : List Hnt) : (zipQ l).length = l.length := by simp [zipQ]
end Go.Proofs.YtmaillakhhdkfaaGreatDoor
/-
  Rows of hints marked and held, as the law does it; answers that hold hints.
-/
namespace Go.Proofs.YtmaillakhhdkfaaGreatDoor
set_option maxRecDepth 20000
open Go.RowKit
set_option linter.unusedSimpArgs false

/-- A code and hints of the call's own. -/
def RetHs (r : Int × List Hnt) (w : World) (e : Ending) (w' : World) : Prop :=
  ∃ A n c, e = .returned (.agg #[.int .i64 r.1, .slice A n c]) ∧ Ow eH w' w.heap.size A n c r.2 ∧ Below w.heap.size w w'

end Go.Proofs.YtmaillakhhdkfaaGreatDoor
/-
  The model's functions on hints.
-/
namespace Go.Proofs.YtmaillakhhdkfaaGreatDoor
set_option maxRecDepth 20000
open Go.RowKit
set_option linter.unusedSimpArgs false
set_option linter.unusedVariables false

theorem l4Node (p : Int) (w : World) : Calls Tryz.prog 117 #[.int .i64 p] w fun e w' => e = .returned (.bool (inB (p, 0, 3))) ∧ w = w' := by
  go_enter Tryz.func117, Tryz.ntmps117
  go_wp2_with (go_at_call 67; refine (l1In_any p 0 3 _).mono ?_; rintro e w' ⟨rfl, rfl⟩)
  go_ret
  exact ⟨by simp, rfl⟩

def FindRelH (w : World) (l : List Hnt) (p i : Int) (n : Nat) (v : Value) (wr : World) : Prop :=
  ∃ k : Nat, k ≤ n ∧ v = .int .i64 k ∧ (∀ j, j < k → hitH l p i j = false) ∧ wr = w

set_option maxHeartbeats 2000000 in
theorem l4Find (A : Option Addr) (n c : Nat) (l : List Hnt) (p i : Int) (w : World) (ha : Rd eH w w.heap.size A l) (hn : l.length = n) (hm : n ≤ maxLen) :
    Calls Tryz.prog 99 #[.slice A n c, .int .i64 p, .int .i64 i] w fun e w' => e = .returned (.int .i64 (findHI l p i)) ∧ w = w' := by
  have Hn := Lib.hid hn
  clear hn
  unfold maxLen at hm
  go_enter Tryz.func99, Tryz.ntmps99
  go_wp2
  go_loopw [7] (fun v wr => FindRelH w l p i n v wr) (fun v _ => n - (intOf v).toNat)
  case atStart => exact ⟨0, Nat.zero_le _, rfl, fun _ h => absurd h (by omega), rfl⟩
  case round =>
    obtain ⟨k, hk, rfl, hal, rfl⟩ := hrel
    have Hal := Lib.hid hal
    clear hal
    by_cases hlt : k < n
    · obtain ⟨g, o, a0, a1, a2, a3, a4, a5, a6, rfl, hg, hx, ca⟩ := ha.hnt (k := k) (by rw [Hn.out]; exact hlt)
      have Hh := Lib.hid (hitH_at (p := p) (i := i) hx)
      clear hx
      obtain ⟨c0, c1, c2, c3, c4, c5, c6⟩ := ca
      by_cases h0 : a0 = p
      · by_cases h3 : a3 = i
        · have hb0 : (a0 == p) = true := by simpa using h0
          have hb3 : (a3 == i) = true := by simpa using h3
          have Hf := Lib.hid (findHI_some (p := p) (i := i) (by rw [Hn.out]; exact hlt) (by rw [Hh.out]; simp [h0, h3]) Hal.out)
          clear h0 h3
          go_wp2
          go_ret
          exact ⟨by rw [Hf.out]; rfl, by first | rfl | trivial⟩
        · have hb0 : (a0 == p) = true := by simpa using h0
          have hb3 : (a3 == i) = false := by simpa using h3
          have Hs := Lib.hid (show hitH l p i k = false by rw [Hh.out]; simp [h3])
          clear h0 h3
          go_wp2
          refine ⟨⟨k + 1, by omega, by go_num, fun j hj => ?_, by first | rfl | trivial⟩, by simp [intOf]; omega⟩
          rcases Nat.lt_or_ge j k with h | h
          · exact Hal.out j h
          · obtain rfl : j = k := by omega
            exact Hs.out
      · have hb0 : (a0 == p) = false := by simpa using h0
        have Hs := Lib.hid (show hitH l p i k = false by rw [Hh.out]; simp [h0])
        clear h0
        go_wp2
        refine ⟨⟨k + 1, by omega, by go_num, fun j hj => ?_, by first | rfl | trivial⟩, by simp [intOf]; omega⟩
        rcases Nat.lt_or_ge j k with h | h
        · exact Hal.out j h
        · obtain rfl : j = k := by omega
          exact Hs.out
    · obtain rfl : n = k := by omega
      have Hf := Lib.hid (findHI_none Hn.out Hal.out)
      go_wp2
      go_ret
      exact ⟨by rw [Hf.out]; rfl, by first | rfl | trivial⟩

def RightRelH (w : World) (l : List Hnt) (n : Nat) (i : Value) (wr : World) : Prop :=
  ∃ k : Nat, k ≤ n ∧ i = .int .i64 k ∧ (∀ j x, j < k → l[j]? = some x → hfaultM x = 0) ∧ Below w.heap.size w wr
def DisRel (w : World) (l : List Hnt) (n : Nat) (i : Value) (wr : World) : Prop :=
  ∃ k : Nat, k ≤ n ∧ i = .int .i64 k ∧ (∀ j x, j < k → l[j]? = some x → findHI l x.1 (idH x) = (j : Int)) ∧ Below w.heap.size w wr

set_option maxHeartbeats 4000000 in
theorem specHintsFault (A : Option Addr) (n c : Nat) (l : List Hnt) (w : World) (ha : Rd eH w w.heap.size A l) (hn : l.length = n) :
    Calls Tryz.prog 66 #[.slice A n c] w fun e w' => e = .returned (.int .i64 (hintsFaultM l)) ∧ Below w.heap.size w w' := by
  by_cases hbig : 8 < n
  · have hb : (8 : Int) < (n : Int) := by omega
    rw [hintsFault_many (by omega)]
    go_enter Tryz.func66, Tryz.ntmps66
    go_wp2
    go_ret
    exact ⟨rfl, Below.refl _ _⟩
  have hb : (n : Int) ≤ 8 := by omega
  have Hbig := Lib.hid (show ¬ 8 < l.length by omega)
  have Hn := Lib.hid hn
  clear hn hbig
  go_enter Tryz.func66, Tryz.ntmps66
  go_wp2
  go_loopw [3] (fun i wr => RightRelH w l n i wr) (fun i _ => n - (intOf i).toNat)
  case atStart => exact ⟨0, Nat.zero_le _, rfl, fun _ _ h => absurd h (by omega), Below.refl _ _⟩
  case round =>
    obtain ⟨k, hk, rfl, hal, hbel⟩ := hrel
    have Hal := Lib.hid hal
    clear hal
    by_cases hlt : k < n
    · obtain ⟨g, o, a0, a1, a2, a3, a4, a5, a6, rfl, hg, hx, ca⟩ := (ha.below hbel (Nat.le_refl _)).hnt (k := k) (by rw [Hn.out]; exact hlt)
      have Ca := Lib.hid ca
      obtain ⟨c0, c1, c2, c3, c4, c5, c6⟩ := ca
      rcases faultM_or (a1, a2, a3, a4) with hf | hf
      · have hq := specSampleFault a1 a2 a3 a4 wr
        rw [hf] at hq
        have Hx := Lib.hid hx
        have Hf := Lib.hid hf
        clear hx hf
        go_wp2_with fail
        refine hq.mono ?_
        rintro e w2 ⟨rfl, hb2⟩
        have hB2 := hbel.trans (hb2.mono hbel.size)
        clear c0 c1 c2 c3 c4 c5 c6
        obtain ⟨c0, c1, c2, c3, c4, c5, c6⟩ := Ca.out.below hb2 (Nat.lt_of_lt_of_le hg hbel.size)
        rcases h0 : inB (a0, 0, 3)
        · have Hr := Lib.hid (hintsFault_wrong Hbig.out Hx.out (hfault_no Hf.out (by unfold rangeH; simp [h0])))
          go_wp2_with (first | (go_at_call 117; refine (l4Node _ _).mono ?_; rintro e w8 ⟨rfl, rfl⟩) | (go_at_call 67; refine (l1In_any _ _ _ _).mono ?_; rintro e w9 ⟨rfl, rfl⟩))
          go_ret
          exact ⟨by rw [Hr.out]; rfl, hB2⟩
        rcases h5 : inB (a5, 0, 4)
        · have Hr := Lib.hid (hintsFault_wrong Hbig.out Hx.out (hfault_no Hf.out (by unfold rangeH; simp [h5])))
          go_wp2_with (first | (go_at_call 117; refine (l4Node _ _).mono ?_; rintro e w8 ⟨rfl, rfl⟩) | (go_at_call 67; refine (l1In_any _ _ _ _).mono ?_; rintro e w9 ⟨rfl, rfl⟩))
          go_ret
          exact ⟨by rw [Hr.out]; rfl, hB2⟩
        rcases h6 : inB (a6, 0, 200000)
        · have Hr := Lib.hid (hintsFault_wrong Hbig.out Hx.out (hfault_no Hf.out (by unfold rangeH; simp [h6])))
          go_wp2_with (first | (go_at_call 117; refine (l4Node _ _).mono ?_; rintro e w8 ⟨rfl, rfl⟩) | (go_at_call 67; refine (l1In_any _ _ _ _).mono ?_; rintro e w9 ⟨rfl, rfl⟩))
          go_ret
          exact ⟨by rw [Hr.out]; rfl, hB2⟩
        have Hr := Lib.hid (hfault_yes (h := (a0, (a1, a2, a3, a4), a5, a6)) Hf.out (by unfold rangeH; simp [h0, h5, h6]))
        go_wp2_with (first | (go_at_call 117; refine (l4Node _ _).mono ?_; rintro e w8 ⟨rfl, rfl⟩) | (go_at_call 67; refine (l1In_any _ _ _ _).mono ?_; rintro e w9 ⟨rfl, rfl⟩))
        refine ⟨⟨k + 1, by omega, by go_num, fun j x hj hx => ?_, hB2⟩, by simp [intOf]; omega⟩
        rcases Nat.lt_or_ge j k with h | h
        · exact Hal.out j x h hx
        · obtain rfl : j = k := by omega
          obtain rfl := Option.some.inj (Hx.out.symm.trans hx)
          exact Hr.out
      · have hq := specSampleFault a1 a2 a3 a4 wr
        rw [hf] at hq
        have Hr := Lib.hid (hintsFault_wrong Hbig.out hx (hfault_smp (h := (a0, (a1, a2, a3, a4), a5, a6)) hf))
        clear hx hf
        go_wp2_with fail
        refine hq.mono ?_
        rintro e w2 ⟨rfl, hb2⟩
        have hB2 := hbel.trans (hb2.mono hbel.size)
        go_wp2
        go_ret
        exact ⟨by rw [Hr.out]; rfl, hB2⟩
    · obtain rfl : n = k := by omega
      have Hright := Lib.hid (rightHM_of Hn.out Hal.out)
      clear Hal
      go_wp2
      go_loopw [6] (fun i wr => DisRel w l n i wr) (fun i _ => n - (intOf i).toNat)
      case atStart => exact ⟨0, Nat.zero_le _, rfl, fun _ _ h => absurd h (by omega), hbel⟩
      case round =>
        obtain ⟨k, hk, rfl, hal, hbel⟩ := hrel
        have Hal := Lib.hid hal
        clear hal
        by_cases hlt : k < n
        · obtain ⟨g, o, a0, a1, a2, a3, a4, a5, a6, rfl, hg, hx, ca⟩ := (ha.below hbel (Nat.le_refl _)).hnt (k := k) (by rw [Hn.out]; exact hlt)
          have Hx := Lib.hid hx
          clear hx
          have hbd := hbel.drew
          have had := ha.lift hbd
          have hF := l4Find (some ⟨g, o, none⟩) n c l a0 a3 _ had Hn.out (by unfold maxLen; omega)
          obtain ⟨f, hf⟩ : ∃ f, findHI l a0 a3 = f := ⟨_, rfl⟩
          rw [hf] at hF
          have Hf := Lib.hid hf
          clear hf had
          go_wp2
          refine wp_region_mix [(0, false), (1, false), (2, false), (3, false), (4, false), (5, false), (6, false), (7, false), (8, false), (9, false), (10, false), (11, false), (13, false), (12, true), (14, false)] (fun u => S7 u g (o + k * 7) a0 a1 a2 a3 a4 a5 a6) (by kernel_rfl) (by kernel_rfl) (fun _ _ _ _ _ h => h) ca.drew ?_
          simp only [mixOps, List.map_cons, List.map_nil, List.getElem?_cons_succ, List.getElem?_cons_zero, Option.getD_some]
          iterate 13 (
            refine mix_pure (v := ?_) (by rfl) (fun u hu => ?_) ?_
            rotate_left
            · obtain ⟨_, _, _, _, _, _, _⟩ := hu
              go_simp
              (with_reducible rfl)
            (try simp only [Act.put, List.setIfInBounds_toArray, List.set_cons_zero, List.set_cons_succ]))
          refine mix_call (by rfl) (fun K hK => ?_)
          go_simp
          refine hF.mono ?_
          rintro e w1 ⟨rfl, rfl⟩
          refine hK _ _ _ (fun _ h => h) ca.drew ?_
          (try simp only [Act.put, List.setIfInBounds_toArray, List.set_cons_zero, List.set_cons_succ])
          by_cases hfk : f = (k : Int)
          · have hne : (f != (k : Int)) = false := by simpa using hfk
            have Hfk := Lib.hid hfk
            clear hfk
            iterate 1 (
              refine mix_pure (v := ?_) (by rfl) (fun u hu => ?_) ?_
              rotate_left
              · skip
                go_simp
                (with_reducible rfl)
              (try simp only [Act.put, List.setIfInBounds_toArray, List.set_cons_zero, List.set_cons_succ]))
            refine mix_nil ?_
            go_wp2
            refine ⟨⟨k + 1, by omega, by go_num, fun j x hj hx => ?_, hbd⟩, by simp [intOf]; omega⟩
            rcases Nat.lt_or_ge j k with h | h
            · exact Hal.out j x h hx
            · obtain rfl : j = k := by omega
              obtain rfl := Option.some.inj (Hx.out.symm.trans hx)
              exact Hf.out.trans Hfk.out
          · have hne : (f != (k : Int)) = true := by rw [bne_iff_ne]; exact hfk
            have Hr := Lib.hid (hintsFault_taken Hbig.out Hright.out (fun hd => hfk (Hf.out.symm.trans (findHI_self hd Hx.out))))
            clear hfk
            iterate 1 (
              refine mix_pure (v := ?_) (by rfl) (fun u hu => ?_) ?_
              rotate_left
              · skip
                go_simp
                (with_reducible rfl)
              (try simp only [Act.put, List.setIfInBounds_toArray, List.set_cons_zero, List.set_cons_succ]))
            refine mix_nil ?_
            go_wp2
            go_ret
            exact ⟨by rw [Hr.out]; rfl, hbd⟩
        · obtain rfl : n = k := by omega
          have Hr := Lib.hid (hintsFault_ok Hbig.out Hright.out (dis_of fun j x hx => Hal.out j x (by have := getElem?_some_lt hx; have := Hn.out; omega) hx))
          go_wp2
          go_ret
          exact ⟨by rw [Hr.out]; rfl, hbel⟩

set_option maxHeartbeats 1000000 in
theorem l4Copy (A : Option Addr) (n c : Nat) (l : List Hnt) (w : World) (ha : Rd eH w w.heap.size A l) (hn : l.length = n) (hm : n ≤ 1048576) :
    Calls Tryz.prog 98 #[.slice A n c] w fun e w' => ∃ A' c', e = .returned (.slice A' n c') ∧ Ow eH w' w.heap.size A' n c' l ∧ Below w.heap.size w w' := by
  have Hn := Lib.hid hn
  clear hn
  have B1 := (Below.refl w.heap.size w).alloc (Nat.le_refl _) (.cells #[] 75)
  have a1 := ha.lift B1
  have o1 : Ow eH (w.alloc (.cells #[] 75)) w.heap.size (some ⟨w.heap.size, 0, none⟩) 0 0 [] := Ow.lit w [] #[] 0 (Nat.le_refl _) (by unfold maxLen; omega) rfl rfl
  go_enter Tryz.func98, Tryz.ntmps98
  go_wp2_with (at_builtin; refine wpList_append_ow okH _ rfl (.tmp 3) (.tmp 4) _ rfl w.heap.size info_hnt Tryz.underlying37 rfl (some ⟨w.heap.size, 0, none⟩) 0 0 [] rfl o1 A n c _ l rfl a1 Hn.out (by unfold maxLen; omega) (by omega) (by simp) ?_; intro A2 c2 w2 ow2 hg2 _)
  have B2 : Below w.heap.size w w2 := B1.grown hg2 (by simp) (fun g hg => by simp at hg; omega)
  rw [Nat.zero_add, List.nil_append] at ow2
  go_ret
  refine ⟨A2, c2, ?_, ow2, B2⟩
  simp
end Go.Proofs.YtmaillakhhdkfaaGreatDoor
