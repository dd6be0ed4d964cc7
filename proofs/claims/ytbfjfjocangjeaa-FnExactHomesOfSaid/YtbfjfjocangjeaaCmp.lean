/-
  Samples and their keys: what is ahead of what; the program's compare by the first difference, and the model's.
-/
import Derived.Test.YtbfjfjocangjeaaMix
namespace Go.Proofs.Ytbfjfjocangjeaa
set_option maxRecDepth 20000
open Go.RowKit
set_option linter.unusedSimpArgs false

/-- A sample's four numbers. -/
abbrev Smp := Int × Int × Int × Int

def cmpM (x y : Int) : Int := if x < y then -1 else if y < x then 1 else 0
def orM (l : List Int) : Int := (l.find? fun x => decide (x ≠ 0)).getD 0
def keysM (a b : Smp) : Int := orM [cmpM a.1 b.1, cmpM a.2.1 b.2.1, cmpM a.2.2.1 b.2.2.1]
def aheadM (a b : Smp) : Bool := if a.1 = b.1 then decide (a.2.1 < b.2.1) || (decide (a.2.1 = b.2.1) && decide (a.2.2.1 < b.2.2.1)) else decide (a.1 < b.1)
def sameKeyM (a b : Smp) : Bool := decide (a.1 = b.1) && (decide (a.2.1 = b.2.1) && decide (a.2.2.1 = b.2.2.1))

theorem cmpM_range (x y : Int) : cmpM x y = -1 ∧ x < y ∨ cmpM x y = 0 ∧ x = y ∨ cmpM x y = 1 ∧ y < x := by
  unfold cmpM
  split
  · exact .inl ⟨rfl, by assumption⟩
  · split
    · exact .inr (.inr ⟨rfl, by assumption⟩)
    · exact .inr (.inl ⟨rfl, by omega⟩)
theorem orM_cons (x : Int) (l : List Int) : orM (x :: l) = if x = 0 then orM l else x := by
  unfold orM
  rw [List.find?_cons]
  split
  · rename_i h
    simp only [decide_eq_true_eq] at h
    simp [h]
  · rename_i h
    simp only [decide_eq_false_iff_not, ne_eq, Decidable.not_not] at h
    simp [h]

theorem orM_nil : orM [] = 0 := rfl
theorem keysM_ahead (a b : Smp) : decide (keysM a b < 0) = aheadM a b := by
  obtain ⟨a0, a1, a2, a3⟩ := a
  obtain ⟨b0, b1, b2, b3⟩ := b
  unfold keysM aheadM
  simp only [orM_cons, orM_nil]
  rcases cmpM_range a0 b0 with ⟨h0, k0⟩ | ⟨h0, k0⟩ | ⟨h0, k0⟩
  · have n0 : ¬ a0 = b0 := by omega
    simp [h0, n0, k0]
  · subst k0
    rcases cmpM_range a1 b1 with ⟨h1, k1⟩ | ⟨h1, k1⟩ | ⟨h1, k1⟩
    · have n1 : ¬ a1 = b1 := by omega
      simp [h0, h1, n1, k1]
    · subst k1
      rcases cmpM_range a2 b2 with ⟨h2, k2⟩ | ⟨h2, k2⟩ | ⟨h2, k2⟩
      · have n2 : ¬ a2 = b2 := by omega
        simp [h0, h1, h2, n2, k2]
      · subst k2
        simp [h0, h1, h2]
      · have n2 : ¬ a2 = b2 := by omega
        have m2 : ¬ a2 < b2 := by omega
        have m2' : b2 ≤ a2 := by omega
        simp [h0, h1, h2, n2, m2, m2']
    · have n1 : ¬ a1 = b1 := by omega
      have m1 : ¬ a1 < b1 := by omega
      have m1' : b1 ≤ a1 := by omega
      simp [h0, h1, n1, m1, m1']
  · have n0 : ¬ a0 = b0 := by omega
    have m0 : ¬ a0 < b0 := by omega
    have m0' : b0 ≤ a0 := by omega
    simp [h0, n0, m0, m0']
theorem keysM_same (a b : Smp) : (keysM a b == 0) = sameKeyM a b := by
  obtain ⟨a0, a1, a2, a3⟩ := a
  obtain ⟨b0, b1, b2, b3⟩ := b
  unfold keysM sameKeyM
  simp only [orM_cons, orM_nil]
  rcases cmpM_range a0 b0 with ⟨h0, k0⟩ | ⟨h0, k0⟩ | ⟨h0, k0⟩
  · have n0 : ¬ a0 = b0 := by omega
    simp [h0, n0, k0]
  · subst k0
    rcases cmpM_range a1 b1 with ⟨h1, k1⟩ | ⟨h1, k1⟩ | ⟨h1, k1⟩
    · have n1 : ¬ a1 = b1 := by omega
      simp [h0, h1, n1, k1]
    · subst k1
      rcases cmpM_range a2 b2 with ⟨h2, k2⟩ | ⟨h2, k2⟩ | ⟨h2, k2⟩
      · have n2 : ¬ a2 = b2 := by omega
        simp [h0, h1, h2, n2, k2]
      · subst k2
        simp [h0, h1, h2]
      · have n2 : ¬ a2 = b2 := by omega
        have m2 : ¬ a2 < b2 := by omega
        have m2' : b2 ≤ a2 := by omega
        simp [h0, h1, h2, n2, m2, m2']
    · have n1 : ¬ a1 = b1 := by omega
      have m1 : ¬ a1 < b1 := by omega
      have m1' : b1 ≤ a1 := by omega
      simp [h0, h1, n1, m1, m1']
  · have n0 : ¬ a0 = b0 := by omega
    have m0 : ¬ a0 < b0 := by omega
    have m0' : b0 ≤ a0 := by omega
    simp [h0, n0, m0, m0']

theorem isNaN64 (a : Int) (w : World) : Calls Try.prog 112 #[.int .i64 a] w fun e w' => e = .returned (.bool false) ∧ w' = w := by
  have hf : (a != a) = false := by simp
  go_enter Try.func112, Try.ntmps112
  go_wp2
  go_ret
  exact ⟨rfl, rfl⟩

set_option maxHeartbeats 400000 in
theorem cmpCompare (a b : Int) (w : World) : Calls Try.prog 79 #[.int .i64 a, .int .i64 b] w fun e w' => e = .returned (.int .i64 (cmpM a b)) ∧ w' = w := by
  rcases cmpM_range a b with ⟨h, k⟩ | ⟨h, k⟩ | ⟨h, k⟩
  all_goals
    have H := Lib.hid h
    clear h
    first
      | (have k2 : ¬ b < a := by omega)
      | skip
    go_enter Try.func79, Try.ntmps79
    go_wp2_with (go_at_call 112; refine (isNaN64 _ _).mono ?_; rintro e w1 ⟨rfl, rfl⟩)
    go_ret
    exact ⟨by rw [H.out]; rfl, rfl⟩

/-- A row of numbers. -/
def Ints (w : World) (g : Nat) (l : List Int) : Prop := ∀ (k : Nat) (x : Int), l[k]? = some x → w.cell? ⟨g, k, none⟩ = some (.int .i64 x)
def OrRel (w : World) (l : List Int) (n : Nat) (i : Value) (wr : World) : Prop :=
  ∃ k : Nat, k ≤ n ∧ i = .int .i64 k ∧ orM (l.drop k) = orM l ∧ wr = w

set_option maxHeartbeats 400000 in
theorem cmpOr (g n c : Nat) (l : List Int) (w : World) (hl : Ints w g l) (hn : l.length = n) (hm : n ≤ 1000) :
    Calls Try.prog 78 #[.slice (some ⟨g, 0, none⟩) n c] w fun e w' => e = .returned (.int .i64 (orM l)) ∧ w' = w := by
  have Hn := Lib.hid hn
  clear hn
  go_enter Try.func78, Try.ntmps78
  go_wp2
  go_loopw [8] (fun i wr => OrRel w l n i wr) (fun i _ => n - (intOf i).toNat)
  case atStart => exact ⟨0, Nat.zero_le _, rfl, rfl, rfl⟩
  case round =>
    obtain ⟨k, hk, rfl, hd, rfl⟩ := hrel
    have Hd := Lib.hid hd
    clear hd
    by_cases hlt : k < n
    · have hkl : k < l.length := by rw [Hn.out]; exact hlt
      obtain ⟨x, hx⟩ : ∃ x, l[k]? = some x := ⟨l[k], List.getElem?_eq_getElem hkl⟩
      have hc := hl k x hx
      have Ho := Lib.hid (show orM (l.drop k) = if x = 0 then orM (l.drop (k + 1)) else x by
        rw [List.drop_eq_getElem_cons hkl, orM_cons]
        rw [List.getElem?_eq_getElem hkl] at hx
        rw [Option.some.inj hx])
      clear hx
      by_cases h0 : x = 0
      · subst h0
        go_wp2
        refine ⟨⟨k + 1, by omega, by go_num, ?_, rfl⟩, by simp [intOf]; omega⟩
        have := Ho.out
        rw [if_pos rfl] at this
        rw [← this]
        exact Hd.out
      · have hne : (x != 0) = true := by simpa using h0
        have Hx := Lib.hid (show orM l = x by rw [← Hd.out, Ho.out, if_neg h0])
        clear h0
        go_wp2
        go_ret
        exact ⟨by rw [Hx.out]; rfl, rfl⟩
    · obtain rfl : k = n := by omega
      have Hf := Lib.hid (show orM l = 0 by rw [← Hd.out, List.drop_eq_nil_of_le (Nat.le_of_eq Hn.out)]; rfl)
      go_wp2
      go_ret
      exact ⟨by rw [Hf.out]; rfl, rfl⟩
end Go.Proofs.Ytbfjfjocangjeaa
