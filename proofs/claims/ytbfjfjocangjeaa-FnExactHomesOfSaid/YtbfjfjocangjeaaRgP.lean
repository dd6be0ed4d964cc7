/-
  The ring: the pure answers, and what the law of chapter 6 says of them.
-/
import Derived.Test.YtbfjfjocangjeaaBound
namespace Go.Proofs.Ytbfjfjocangjeaa
set_option maxRecDepth 20000
open Go.RowKit
set_option linter.unusedSimpArgs false
set_option linter.unusedVariables false

/-- A place: how far, which node. -/
abbrev Plc := Int × Int
def spotN (n : Int) : Int := (37 * n + 11) % 64
def spotS (s : Int) : Int := (29 * s + 5) % 64
def nodeSpotM (n : Int) : Int × Int := if inB (n, 0, 3) = true then (0, spotN n) else (3, 0)
def seriesSpotM (s : Int) : Int × Int := if inB (s, 0, 9) = true then (0, spotS s) else (3, 0)
def farF (s n : Int) : Int := (spotN n - spotS s + 64) % 64
/-- A place is put into a row that rises: behind all that are not farther. -/
def insP (p : Plc) : List Plc → List Plc
  | [] => [p]
  | q :: r => if p.1 < q.1 then p :: q :: r else q :: insP p r
def placesF (s : Int) : Nat → List Plc
  | 0 => []
  | k + 1 => insP (farF s k, (k : Int)) (placesF s k)
def placesM (n s : Int) : Int × List Plc := if (inB (n, 1, 4) && inB (s, 0, 9)) = true then (0, placesF s n.toNat) else (3, [])
def homesF (n c s : Int) : List Int := ((placesF s n.toNat).take c.toNat).map (·.2)
def homesM (n c s : Int) : Int × List Int := if (placesM n s).1 = 0 ∧ inB (c, 1, n) = true then (0, homesF n c s) else (3, [])
def isHomeM (n c s p : Int) : Bool := decide (p ∈ (homesM n c s).2)

/-- The order of places: by how far, then by node. -/
def leP (a b : Plc) : Prop := a.1 < b.1 ∨ (a.1 = b.1 ∧ a.2 ≤ b.2)
theorem leP_anti {a b : Plc} (h1 : leP a b) (h2 : leP b a) : a = b := by
  unfold leP at h1 h2
  exact Prod.ext (by omega) (by omega)
theorem insP_len (p : Plc) : ∀ l, (insP p l).length = l.length + 1
  | [] => rfl
  | q :: r => by rw [insP]; split <;> simp [insP_len p r]
theorem insP_perm (p : Plc) : ∀ l, (insP p l).Perm (p :: l)
  | [] => List.Perm.refl _
  | q :: r => by
    rw [insP]
    split
    · exact List.Perm.refl _
    · exact (List.Perm.cons q (insP_perm p r)).trans (List.Perm.swap p q r)
theorem insP_rises (p : Plc) : ∀ l : List Plc, l.Pairwise leP → (∀ q ∈ l, q.2 < p.2) → (insP p l).Pairwise leP
  | [], _, _ => by simp [insP]
  | q :: r, h, hn => by
    rw [insP]
    obtain ⟨h1, h2⟩ := List.pairwise_cons.1 h
    split
    · rename_i hlt
      refine List.pairwise_cons.2 ⟨fun x hx => ?_, h⟩
      rcases List.mem_cons.1 hx with rfl | hx
      · exact .inl hlt
      · have := h1 x hx; unfold leP at this ⊢; omega
    · rename_i hlt
      refine List.pairwise_cons.2 ⟨fun x hx => ?_, insP_rises p r h2 fun x hx => hn x (by simp [hx])⟩
      have hx' := (insP_perm p r).mem_iff.1 hx
      rcases List.mem_cons.1 hx' with rfl | hx'
      · have := hn q (by simp); unfold leP; omega
      · exact h1 x hx'
def placeL (s : Int) (k : Nat) : List Plc := (List.range k).map fun i : Nat => (farF s (i : Int), (i : Int))
theorem places_perm (s : Int) : ∀ k, (placesF s k).Perm (placeL s k)
  | 0 => List.Perm.refl _
  | k + 1 => by
    rw [placesF]
    refine (insP_perm _ _).trans ?_
    unfold placeL
    rw [List.range_succ, List.map_append]
    exact ((places_perm s k).cons _).trans (List.perm_append_comm (l₁ := [_]))
theorem places_node (s : Int) (k : Nat) : ∀ q ∈ placesF s k, 0 ≤ q.2 ∧ q.2 < k ∧ q.1 = farF s q.2 := by
  intro q hq
  have h := (places_perm s k).mem_iff.1 hq
  unfold placeL at h
  obtain ⟨i, hi, rfl⟩ := List.mem_map.1 h
  have := List.mem_range.1 hi
  exact ⟨by dsimp only; omega, by dsimp only; omega, rfl⟩
theorem places_rise (s : Int) : ∀ k, (placesF s k).Pairwise leP
  | 0 => List.Pairwise.nil
  | k + 1 => insP_rises _ _ (places_rise s k) fun q hq => by have := (places_node s k q hq).2.1; exact this
theorem places_len (s : Int) (k : Nat) : (placesF s k).length = k := by
  rw [(places_perm s k).length_eq]; simp [placeL]
/-- Two rows that rise and hold the same are one. -/
theorem rise_one : ∀ {l m : List Plc}, l.Pairwise leP → m.Pairwise leP → l.Perm m → l = m
  | [], m, _, _, h => by rw [List.nil_perm.1 h]
  | a :: l, m, h1, h2, h => by
    match m, h with
    | [], h => exact absurd h.length_eq (by simp)
    | b :: m, h =>
      obtain ⟨p1, p2⟩ := List.pairwise_cons.1 h1
      obtain ⟨q1, q2⟩ := List.pairwise_cons.1 h2
      have hab : a = b := by
        have ha := h.mem_iff.1 (List.mem_cons_self (a := a) (l := l))
        have hb := h.mem_iff.2 (List.mem_cons_self (a := b) (l := m))
        rcases List.mem_cons.1 ha with ha | ha
        · exact ha
        rcases List.mem_cons.1 hb with hb | hb
        · exact hb.symm
        exact leP_anti (p1 b hb) (q1 a ha)
      subst hab
      rw [rise_one p2 q2 (List.Perm.cons_inv h)]
/-- What is sorted of the places told node by node is the row. -/
theorem places_sorted {s : Int} {k : Nat} {l : List Plc} (h1 : l.Pairwise leP) (h2 : l.Perm (placeL s k)) : l = placesF s k :=
  rise_one h1 (places_rise s k) (h2.trans (places_perm s k).symm)
theorem places_nodes (s : Int) (k : Nat) : ((placesF s k).map (·.2)).Nodup := by
  have h := (places_perm s k).map (·.2)
  refine h.nodup_iff.2 ?_
  unfold placeL
  rw [List.map_map]
  have e : ((fun x : Plc => x.2) ∘ fun i : Nat => (farF s (i : Int), (i : Int))) = fun i : Nat => (i : Int) := rfl
  rw [e]
  unfold List.Nodup
  rw [List.pairwise_map]
  exact List.Pairwise.imp (fun {a b} hab e => hab (Int.ofNat_inj.1 e)) (List.nodup_range (n := k))
/-- What the law of the ring says. -/
theorem homes_said {n c s : Int} {l : List Int} (h : homesM n c s = (0, l)) : (l.length : Int) = c ∧ l.Nodup ∧ (∀ p ∈ l, 0 ≤ p ∧ p < n ∧ isHomeM n c s p = true) ∧ (c ≠ n → ∃ m, homesM n (c + 1) s = (0, m) ∧ m.take c.toNat = l) := by
  have h0 := h
  unfold homesM at h
  by_cases hc : (placesM n s).1 = 0 ∧ inB (c, 1, n) = true
  · rw [if_pos hc] at h
    obtain rfl := (Prod.mk.inj h).2
    obtain ⟨h1, h2⟩ := hc
    have hcb : 1 ≤ c ∧ c ≤ n := by unfold inB at h2; simpa using h2
    have hl : (homesF n c s).length = c.toNat := by
      unfold homesF
      rw [List.length_map, List.length_take, places_len]
      omega
    refine ⟨by rw [hl]; omega, ?_, fun p hp => ?_, fun hne => ⟨homesF n (c + 1) s, ?_, ?_⟩⟩
    · unfold homesF
      rw [List.map_take]
      exact (places_nodes s n.toNat).sublist (List.take_sublist _ _)
    · have hp' := hp
      unfold homesF at hp'
      obtain ⟨q, hq, rfl⟩ := List.mem_map.1 hp'
      have := places_node s n.toNat q (List.mem_of_mem_take hq)
      refine ⟨this.1, by omega, ?_⟩
      unfold isHomeM
      rw [h0]
      exact decide_eq_true hp
    · unfold homesM
      rw [if_pos ⟨h1, by unfold inB; simp; omega⟩]
    · unfold homesF
      rw [← List.map_take, List.take_take]
      congr 2
      omega
  · rw [if_neg hc] at h; cases h
end Go.Proofs.Ytbfjfjocangjeaa
