/-
  Two rows of marks that are drawn.
-/
import Derived.Test.YtbfjfjocangjeaaDrawMk
import Derived.Test.YtbfjfjocangjeaaMgS
namespace Go.Proofs.Ytbfjfjocangjeaa
set_option maxRecDepth 20000
open Go.RowKit
set_option linter.unusedSimpArgs false
set_option linter.unusedVariables false

def DmRel (A : Option Addr) (m c : Nat) (l : List UInt8) (n : Nat) (w : World) (o1 o2 vn : Value) (wr : World) : Prop :=
  ∃ (j : Nat) (A1 : Option Addr) (c1 : Nat) (xs : List Mrk) (B1 : Option Addr) (c2 : Nat) (ys : List Mrk) (k : Nat), j ≤ n ∧ vn = .int .i64 ((n : Int) - (j : Int)) ∧ o1 = .slice A1 j c1 ∧ o2 = .slice B1 j c2 ∧ Ow eMk wr (w.heap.size + 1) A1 j c1 xs ∧ Ow eMk wr (w.heap.size + 1) B1 j c2 ys ∧ (∀ g, A1.map (·.block) = some g → B1.map (·.block) ≠ some g) ∧ k ≤ 1 + 16 * j ∧ Src wr w.heap.size w.heap.size A m c k l ∧ Below w.heap.size w wr

theorem below_of_within {w a b : World} {g : Nat} (h : Below g w a) (hw : Within g (g + 1) a b) (hg : g ≤ a.heap.size) : Below g w b := hw.below h hg (Nat.le_refl _)

set_option maxHeartbeats 4000000 in
theorem drawMergeMarks (A : Option Addr) (m c : Nat) (l : List UInt8) (w : World) (ha : Rd eB w w.heap.size A l) (hn : l.length = m) (hm : m ≤ 1048576) :
    Calls Try.prog 35 #[.slice A m c] w fun e w' => ∃ (A1 : Option Addr) (n1 c1 : Nat) (xs : List Mrk) (B1 : Option Addr) (n2 c2 : Nat) (ys : List Mrk), e = .returned (.tuple #[.slice A1 n1 c1, .slice B1 n2 c2]) ∧ n1 ≤ 6 ∧ n2 ≤ 7 ∧ Ow eMk w' w.heap.size A1 n1 c1 xs ∧ Ow eMk w' w.heap.size B1 n2 c2 ys ∧ Below w.heap.size w w' := by
  go_enter Try.func35, Try.ntmps35
  go_wp2_with fail
  refine (l1Source A m c l _ ha hn hm).mono ?_
  rintro e w1 ⟨rfl, s1, hb1, hz1⟩
  have g1 := s1.at_.lt
  have a1 : Ow eMk (w1.alloc (.cells #[] 25)) (w.heap.size + 1) (some ⟨w1.heap.size, 0, none⟩) 0 0 [] := Ow.lit (E := eMk) w1 [] #[] 0 (by omega) (by unfold maxLen; omega) rfl rfl
  have a2 := a1.alloc (.cells #[] 25)
  have b2 : Ow eMk ((w1.alloc (.cells #[] 25)).alloc (.cells #[] 25)) (w.heap.size + 1) (some ⟨w1.heap.size + 1, 0, none⟩) 0 0 [] := by
    have := Ow.lit (E := eMk) (base := w.heap.size + 1) (w1.alloc (.cells #[] 25)) [] #[] 0 (by simp; omega) (by unfold maxLen; omega) rfl rfl
    rw [show (w1.alloc (.cells #[] 25)).heap.size = w1.heap.size + 1 by simp] at this
    exact this
  have s2 := (s1.alloc (.cells #[] 25)).alloc (.cells #[] 25)
  have hB2 := (hb1.alloc hb1.size (.cells #[] 25)).alloc (hb1.alloc hb1.size (.cells #[] 25)).size (.cells #[] 25)
  clear a1 s1 hb1
  go_wp2_with fail
  refine (l1Next _ w.heap.size w.heap.size A m c 0 l 6 s2 (by omega) (by omega)).mono ?_
  rintro e w3 ⟨r, rfl, hr, -, s3, hw3, -⟩
  obtain ⟨hr0, hr1⟩ := hr (by omega)
  obtain ⟨n, rfl⟩ := Int.eq_ofNat_of_zero_le hr0
  have hn6 : n < 6 := by omega
  have a3 := a2.within hw3 a2.lt (.inr (Nat.le_refl _))
  have b3 := b2.within hw3 b2.lt (.inr (Nat.le_refl _))
  have hB3 := below_of_within hB2 hw3 hB2.size
  clear a2 b2 s2 hB2 hw3 hr hr0 hr1
  go_wp2_with fail
  rw [hz1] at a3 b3
  go_loopw [5, 6, 7] (fun o1 o2 vn wr => DmRel A m c l n w o1 o2 vn wr) (fun _ _ vn _ => (intOf vn).toNat)
  case atStart => exact ⟨0, _, 0, [], _, 0, [], 1, Nat.zero_le _, by simp, rfl, rfl, a3, b3, fun g hg => by simp at hg ⊢; omega, by omega, s3, hB3⟩
  case round =>
    clear a3 b3 s3 hB3
    obtain ⟨j, A1, c1, xs, B1, c2, ys, k, hj, rfl, rfl, rfl, oa, ob, hd, hk, hs, hB⟩ := hrel
    have Hd := Lib.hid hd
    clear hd
    have hl1 := oa.len okMk
    have hl2 := ob.len okMk
    by_cases hlt : j < n
    · have hgt : decide ((0 : Int) < (n : Int) - (j : Int)) = true := decide_eq_true (by omega)
      go_wp2_with fail
      refine (l7Mark _ w.heap.size w.heap.size A m c k l hs (by omega)).mono ?_
      rintro e w4 ⟨x0, x1, rfl, ⟨k4, hk4, s4⟩, hw4⟩
      have oa4 := oa.within hw4 oa.lt (.inr (Nat.le_refl _))
      have ob4 := ob.within hw4 ob.lt (.inr (Nat.le_refl _))
      have hB4 := below_of_within hB hw4 hB.size
      have z4 := s4.at_.lt
      clear oa ob hw4 hB hs
      go_wp2_with (at_builtin; refine wpList_append_ow okMk _ rfl (.tmp 18) (.tmp 21) _ rfl (w.heap.size + 1) info_mrk Try.underlying46 rfl A1 j c1 _ rfl (oa4.alloc _) _ 1 1 _ [(x0, x1)] rfl ((ow_mrk _ x0 x1).rd okMk) rfl (by unfold maxLen; omega) (by omega) (by simp; omega) ?_; intro A5 c5 w5 oa5 hg5 hA5; have hB5 := (hB4.alloc hB4.size _).grown hg5 (hB4.alloc hB4.size _).size (fun g hg => by have := (oa4.lt g hg).1; omega); have s5 := (s4.alloc _).grown hg5 (fun g hg => by have := (oa4.lt g hg).1; omega); have ob5 := (ob4.alloc _).grown hg5 (fun g hg e => Hd.out g e hg))
      have hd5 : ∀ g, A5.map (·.block) = some g → B1.map (·.block) ≠ some g := fun g hg e => by
        rcases hA5 with h | h
        · exact Hd.out g (h ▸ hg) e
        · rw [h] at hg
          have h1 := (ob4.lt g e).2
          have h2 : (w4.alloc (.cells #[.int .i64 x0, .int .i64 x1] 25)).heap.size = g := Option.some.inj hg
          simp at h2
          omega
      have Hd5 := Lib.hid hd5
      clear hd5 hA5 hg5 oa4 ob4 hB4 s4
      have z5 := s5.at_.lt
      refine (l7Mark _ w.heap.size w.heap.size A m c k4 l s5 (by omega)).mono ?_
      rintro e w6 ⟨y0, y1, rfl, ⟨k6, hk6, s6⟩, hw6⟩
      have oa6 := oa5.within hw6 oa5.lt (.inr (Nat.le_refl _))
      have ob6 := ob5.within hw6 ob5.lt (.inr (Nat.le_refl _))
      have hB6 := below_of_within hB5 hw6 hB5.size
      have z6 := s6.at_.lt
      clear oa5 ob5 hw6 hB5 s5
      go_wp2_with (at_builtin; refine wpList_append_ow okMk _ rfl (.tmp 23) (.tmp 26) _ rfl (w.heap.size + 1) info_mrk Try.underlying46 rfl B1 j c2 _ rfl (ob6.alloc _) _ 1 1 _ [(y0, y1)] rfl ((ow_mrk _ y0 y1).rd okMk) rfl (by unfold maxLen; omega) (by omega) (by simp; omega) ?_; intro B7 c7 w7 ob7 hg7 hA7; have hB7 := (hB6.alloc hB6.size _).grown hg7 (hB6.alloc hB6.size _).size (fun g hg => by have := (ob6.lt g hg).1; omega); have s7 := (s6.alloc _).grown hg7 (fun g hg => by have := (ob6.lt g hg).1; omega); have oa7 := (oa6.alloc _).grown hg7 (fun g hg e => Hd5.out g hg e))
      have hd7 : ∀ g, A5.map (·.block) = some g → B7.map (·.block) ≠ some g := fun g hg e => by
        rcases hA7 with h | h
        · exact Hd5.out g hg (h ▸ e)
        · rw [h] at e
          have h1 := (oa6.lt g hg).2
          have h2 : (w6.alloc (.cells #[.int .i64 y0, .int .i64 y1] 25)).heap.size = g := Option.some.inj e
          simp at h2
          omega
      exact ⟨⟨j + 1, A5, c5, _, B7, c7, _, k6, by omega, by go_num, rfl, rfl, oa7, ob7, hd7, by omega, s7, hB7⟩, by simp [intOf]; omega⟩
    · obtain rfl : j = n := by omega
      have hgt : decide ((0 : Int) < (j : Int) - (j : Int)) = false := decide_eq_false (by omega)
      go_wp2_with fail
      refine (l1Chance _ w.heap.size w.heap.size A m c k l 12 hs (by omega) (by omega)).mono ?_
      rintro e w4 ⟨b, rfl, s4, hw4, -⟩
      have oa4 := oa.within hw4 oa.lt (.inr (Nat.le_refl _))
      have ob4 := ob.within hw4 ob.lt (.inr (Nat.le_refl _))
      have hB4 := below_of_within hB hw4 hB.size
      clear oa ob hw4 hB hs
      cases b
      · go_wp2_with fail
        refine bodyPost_ret (v := .tuple #[.slice A1 j c1, .slice B1 j c2]) (by simp [results, Try.results35, go_sem]) rfl ?_
        exact ⟨A1, j, c1, _, B1, j, c2, _, rfl, by omega, by omega, oa4.from_ (by omega), ob4.from_ (by omega), hB4⟩
      · go_wp2_with fail
        refine (l7Mark _ w.heap.size w.heap.size A m c _ l s4 (by omega)).mono ?_
        rintro e w6 ⟨y0, y1, rfl, ⟨k6, hk6, s6⟩, hw6⟩
        have oa6 := oa4.within hw6 oa4.lt (.inr (Nat.le_refl _))
        have ob6 := ob4.within hw6 ob4.lt (.inr (Nat.le_refl _))
        have hB6 := below_of_within hB4 hw6 hB4.size
        have z6 := s6.at_.lt
        clear oa4 ob4 hw6 hB4 s4
        go_wp2_with (at_builtin; refine wpList_append_ow okMk _ rfl (.tmp 30) (.tmp 33) _ rfl (w.heap.size + 1) info_mrk Try.underlying46 rfl B1 j c2 _ rfl (ob6.alloc _) _ 1 1 _ [(y0, y1)] rfl ((ow_mrk _ y0 y1).rd okMk) rfl (by unfold maxLen; omega) (by omega) (by simp; omega) ?_; intro B7 c7 w7 ob7 hg7 hA7; have hB7 := (hB6.alloc hB6.size _).grown hg7 (hB6.alloc hB6.size _).size (fun g hg => by have := (ob6.lt g hg).1; omega); have oa7 := (oa6.alloc _).grown hg7 (fun g hg e => Hd.out g hg e))
        refine bodyPost_ret (v := .tuple #[.slice A1 j c1, .slice B7 (j + 1) c7]) (by simp [results, Try.results35, go_sem]) rfl ?_
        exact ⟨A1, j, c1, _, B7, j + 1, c7, rfl, by omega, by omega, oa7.from_ (by omega), ⟨_, ob7.from_ (by omega)⟩, hB7⟩
end Go.Proofs.Ytbfjfjocangjeaa
