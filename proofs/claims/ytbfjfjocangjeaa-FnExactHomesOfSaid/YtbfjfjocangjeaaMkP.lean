/-
  Marks and members: the pure answers, and what the laws of chapter 7 say of them.
-/
import Derived.Test.YtbfjfjocangjeaaBound
namespace Go.Proofs.Ytbfjfjocangjeaa
set_option maxRecDepth 20000
open Go.RowKit
set_option linter.unusedSimpArgs false
set_option linter.unusedVariables false

/-- A mark: its state, its life. -/
abbrev Mrk := Int × Int
/-- A member: its mark, since when. -/
abbrev Mbr := Mrk × Int
abbrev zeroMb : Mbr := ((0, 0), 0)
def markFaultM (m : Mrk) : Int := if inB (m.1, 1, 3) = true then (if inB (m.2, 0, 60000) = true then 0 else 3) else 1
def strongM (a b : Mrk) : Bool := decide (b.2 < a.2) || (decide (a.2 = b.2) && decide (b.1 < a.1))
def nowM (t : Int) : Bool := inB (t, 0, 100000)
def memFaultM (m : Mbr) : Int := if markFaultM m.1 ≠ 0 then markFaultM m.1 else if nowM m.2 = true then 0 else 3
def hearF (m : Mbr) (h : Mrk) (t : Int) : Mbr := if strongM h m.1 = true then (h, t) else m
def hearM (m : Mbr) (h : Mrk) (t : Int) : Int × Mbr := if memFaultM m ≠ 0 then (memFaultM m, zeroMb) else if markFaultM h ≠ 0 then (markFaultM h, zeroMb) else if nowM t = true then (0, hearF m h t) else (3, zeroMb)
def suspF (m : Mbr) (t : Int) : Mbr := if m.1.1 = 1 then ((2, m.1.2), t) else m
def suspM (m : Mbr) (t : Int) : Int × Mbr := if memFaultM m ≠ 0 then (memFaultM m, zeroMb) else if nowM t = true then (0, suspF m t) else (3, zeroMb)
def ageF (m : Mbr) (t : Int) : Mbr := if m.1.1 = 2 ∧ m.2 + 4 ≤ t then ((3, m.1.2), t) else m
def ageM (m : Mbr) (t : Int) : Int × Mbr := if memFaultM m ≠ 0 then (memFaultM m, zeroMb) else if nowM t = true then (0, ageF m t) else (3, zeroMb)
def refuteM (life : Int) (h : Mrk) : Int × Int :=
  if inB (life, 0, 60000) = true then (if markFaultM h ≠ 0 then (markFaultM h, 0) else if h.1 = 1 ∨ h.2 < life then (0, life) else if h.2 = 60000 then (7, 0) else (0, h.2 + 1)) else (3, 0)
/-- The first fault of a row of marks. -/
def marksFaultM : List Mrk → Int
  | [] => 0
  | m :: r => if markFaultM m ≠ 0 then markFaultM m else marksFaultM r
def maxM (a b : Mrk) : Mrk := if strongM b a = true then b else a
def mergeF : List Mrk → List Mrk → List Mrk
  | a :: r, b :: s => maxM a b :: mergeF r s
  | _, _ => []
def mergeMkM (a b : List Mrk) : Int × List Mrk :=
  if 4 < a.length ∨ 4 < b.length ∨ a.length ≠ b.length then (2, []) else if marksFaultM a ≠ 0 then (marksFaultM a, []) else if marksFaultM b ≠ 0 then (marksFaultM b, []) else (0, mergeF a b)

theorem strong_iff (a b : Mrk) : strongM a b = true ↔ b.2 < a.2 ∨ (a.2 = b.2 ∧ b.1 < a.1) := by
  unfold strongM; simp
/-- Of two marks not both are stronger; where none is they are the same. -/
theorem strong_not (a b : Mrk) : ¬ (strongM a b = true ∧ strongM b a = true) := by
  rw [strong_iff, strong_iff]; omega
theorem strong_same {a b : Mrk} (h1 : strongM a b ≠ true) (h2 : strongM b a ≠ true) : a = b := by
  rw [Ne, strong_iff] at h1 h2
  exact Prod.ext (by omega) (by omega)
theorem strong_self (a : Mrk) : strongM a a = false := by
  rcases h : strongM a a
  · rfl
  · exact absurd ⟨h, h⟩ (strong_not a a)
theorem markFault_iff (m : Mrk) : markFaultM m = 0 ↔ (1 ≤ m.1 ∧ m.1 ≤ 3) ∧ 0 ≤ m.2 ∧ m.2 ≤ 60000 := by
  unfold markFaultM inB
  by_cases h1 : 1 ≤ m.1 ∧ m.1 ≤ 3
  · by_cases h2 : 0 ≤ m.2 ∧ m.2 ≤ 60000 <;> simp [h1, h2]
  · have : ¬ ((decide (1 ≤ m.1) && decide (m.1 ≤ 3)) = true) := by simpa using h1
    simp only [this, if_false]
    simp [h1]
theorem memFault_iff (m : Mbr) : memFaultM m = 0 ↔ markFaultM m.1 = 0 ∧ nowM m.2 = true := by
  unfold memFaultM
  by_cases h1 : markFaultM m.1 = 0
  · by_cases h2 : nowM m.2 = true <;> simp [h1, h2]
  · simp [h1]
/-- What is heard: behind it neither is stronger than what is held; heard again nothing turns. -/
theorem hear_said {m m' : Mbr} {h : Mrk} {t : Int} (k : hearM m h t = (0, m')) : strongM h m'.1 = false ∧ strongM m.1 m'.1 = false ∧ hearM m' h t = (0, m') := by
  unfold hearM at k
  by_cases a1 : memFaultM m = 0
  rotate_left
  · rw [if_pos a1] at k; exact absurd (Prod.mk.inj k).1 a1
  rw [if_neg (by simp [a1])] at k
  by_cases a2 : markFaultM h = 0
  rotate_left
  · rw [if_pos a2] at k; exact absurd (Prod.mk.inj k).1 a2
  rw [if_neg (by simp [a2])] at k
  by_cases a3 : nowM t = true
  rotate_left
  · rw [if_neg a3] at k; cases k
  rw [if_pos a3] at k
  have e := (Prod.mk.inj k).2
  unfold hearF at e
  by_cases a4 : strongM h m.1 = true
  · rw [if_pos a4] at e
    subst e
    refine ⟨strong_self h, ?_, ?_⟩
    · rcases q : strongM m.1 h
      · rfl
      · exact absurd ⟨a4, q⟩ (strong_not _ _)
    · have hm : memFaultM (h, t) = 0 := (memFault_iff _).2 ⟨a2, a3⟩
      unfold hearM hearF
      rw [if_neg (by simp [hm]), if_neg (by simp [a2]), if_pos a3, if_neg (by simp [strong_self])]
  · rw [if_neg a4] at e
    subst e
    refine ⟨by simpa using a4, strong_self _, ?_⟩
    unfold hearM hearF
    rw [if_neg (by simp [a1]), if_neg (by simp [a2]), if_pos a3, if_neg a4]
theorem age_said {m m' : Mbr} {t : Int} (k : ageM m t = (0, m')) : m'.1.2 = m.1.2 ∧ m.1.1 ≤ m'.1.1 := by
  unfold ageM at k
  by_cases a1 : memFaultM m = 0
  rotate_left
  · rw [if_pos a1] at k; exact absurd (Prod.mk.inj k).1 a1
  rw [if_neg (by simp [a1])] at k
  by_cases a3 : nowM t = true
  rotate_left
  · rw [if_neg a3] at k; cases k
  rw [if_pos a3] at k
  have e := (Prod.mk.inj k).2
  unfold ageF at e
  by_cases a4 : m.1.1 = 2 ∧ m.2 + 4 ≤ t
  · rw [if_pos a4] at e; subst e; exact ⟨rfl, by show m.1.1 ≤ 3; omega⟩
  · rw [if_neg a4] at e; subst e; exact ⟨rfl, Int.le_refl _⟩
theorem susp_said {m m' : Mbr} {t : Int} (k : suspM m t = (0, m')) : m'.1.1 ≠ 1 := by
  unfold suspM at k
  by_cases a1 : memFaultM m = 0
  rotate_left
  · rw [if_pos a1] at k; exact absurd (Prod.mk.inj k).1 a1
  rw [if_neg (by simp [a1])] at k
  by_cases a3 : nowM t = true
  rotate_left
  · rw [if_neg a3] at k; cases k
  rw [if_pos a3] at k
  have e := (Prod.mk.inj k).2
  unfold suspF at e
  by_cases a4 : m.1.1 = 1
  · rw [if_pos a4] at e; subst e; show (2 : Int) ≠ 1; omega
  · rw [if_neg a4] at e; subst e; exact a4
theorem refute_said {life v : Int} {h : Mrk} (k : refuteM life h = (0, v)) : (life ≤ v ∧ strongM h (1, v) = false) ∨ h.1 = 1 := by
  unfold refuteM at k
  by_cases a0 : inB (life, 0, 60000) = true
  rotate_left
  · rw [if_neg a0] at k; cases k
  rw [if_pos a0] at k
  by_cases a1 : markFaultM h = 0
  rotate_left
  · rw [if_pos a1] at k; exact absurd (Prod.mk.inj k).1 a1
  rw [if_neg (by simp [a1])] at k
  by_cases a2 : h.1 = 1
  · exact .inr a2
  have fin : ∀ v : Int, h.2 < v → strongM h (1, v) = false := fun v hv => by
    rcases q : strongM h (1, v)
    · rfl
    · have := (strong_iff h (1, v)).1 q
      dsimp only at this
      omega
  by_cases a3 : h.2 < life
  · rw [if_pos (.inr a3)] at k
    obtain rfl := (Prod.mk.inj k).2
    exact .inl ⟨Int.le_refl _, fin _ a3⟩
  rw [if_neg (by rintro (q | q); exact a2 q; exact a3 q)] at k
  by_cases a4 : h.2 = 60000
  · rw [if_pos a4] at k; cases k
  rw [if_neg a4] at k
  obtain rfl := (Prod.mk.inj k).2
  exact .inl ⟨by omega, fin _ (by omega)⟩
/-! ### Marks merged -/
theorem max_comm (a b : Mrk) : maxM a b = maxM b a := by
  unfold maxM
  by_cases h1 : strongM b a = true
  · have h2 : strongM a b ≠ true := fun h => strong_not a b ⟨h, h1⟩
    rw [if_pos h1, if_neg h2]
  · by_cases h2 : strongM a b = true
    · rw [if_neg h1, if_pos h2]
    · rw [if_neg h1, if_neg h2]; exact strong_same h2 h1
theorem max_again (a b : Mrk) : maxM (maxM a b) a = maxM a b := by
  unfold maxM
  by_cases h1 : strongM b a = true
  · have h2 : strongM a b ≠ true := fun h => strong_not a b ⟨h, h1⟩
    rw [if_pos h1, if_neg h2]
  · rw [if_neg h1, if_neg (by simp [strong_self])]
theorem max_right {a b : Mrk} (h1 : markFaultM a = 0) (h2 : markFaultM b = 0) : markFaultM (maxM a b) = 0 := by
  unfold maxM; split <;> assumption
theorem merge_comm : ∀ a b : List Mrk, mergeF a b = mergeF b a
  | [], [] => rfl
  | [], _ :: _ => rfl
  | _ :: _, [] => rfl
  | a :: r, b :: s => by rw [mergeF, mergeF, max_comm, merge_comm r s]
theorem merge_len : ∀ a b : List Mrk, a.length = b.length → (mergeF a b).length = a.length
  | [], [], _ => rfl
  | [], _ :: _, _ => rfl
  | _ :: _, [], h => by cases h
  | a :: r, b :: s, h => by
    rw [mergeF, List.length_cons, List.length_cons, merge_len r s (by simpa using h)]
theorem merge_again : ∀ a b : List Mrk, a.length = b.length → mergeF (mergeF a b) a = mergeF a b
  | [], [], _ => rfl
  | [], _ :: _, h => by cases h
  | _ :: _, [], h => by cases h
  | a :: r, b :: s, h => by rw [mergeF, mergeF, max_again, merge_again r s (by simpa using h)]
theorem marks_cons {m : Mrk} {r : List Mrk} : marksFaultM (m :: r) = 0 ↔ markFaultM m = 0 ∧ marksFaultM r = 0 := by
  rw [marksFaultM]
  by_cases h : markFaultM m = 0 <;> simp [h]
theorem merge_right : ∀ a b : List Mrk, marksFaultM a = 0 → marksFaultM b = 0 → marksFaultM (mergeF a b) = 0
  | [], [], _, _ => rfl
  | [], _ :: _, _, _ => rfl
  | _ :: _, [], _, _ => rfl
  | a :: r, b :: s, h1, h2 => by
    obtain ⟨p1, p2⟩ := marks_cons.1 h1
    obtain ⟨q1, q2⟩ := marks_cons.1 h2
    exact marks_cons.2 ⟨max_right p1 q1, merge_right r s p2 q2⟩
/-- What the law of marks says. -/
theorem marks_said {a b m : List Mrk} (h : mergeMkM a b = (0, m)) : mergeMkM b a = (0, m) ∧ mergeMkM m a = (0, m) ∧ m.length = a.length := by
  unfold mergeMkM at h
  by_cases h1 : 4 < a.length ∨ 4 < b.length ∨ a.length ≠ b.length
  · rw [if_pos h1] at h; cases h
  rw [if_neg h1] at h
  by_cases h2 : marksFaultM a = 0
  rotate_left
  · rw [if_pos h2] at h; exact absurd (Prod.mk.inj h).1 h2
  rw [if_neg (by simp [h2])] at h
  by_cases h3 : marksFaultM b = 0
  rotate_left
  · rw [if_pos h3] at h; exact absurd (Prod.mk.inj h).1 h3
  rw [if_neg (by simp [h3])] at h
  obtain rfl := (Prod.mk.inj h).2
  have hl : a.length = b.length := by omega
  have ml := merge_len a b hl
  refine ⟨?_, ?_, ml⟩
  · unfold mergeMkM
    rw [if_neg (by omega), if_neg (by simp [h3]), if_neg (by simp [h2]), merge_comm]
  · unfold mergeMkM
    rw [if_neg (by rw [ml]; omega), if_neg (by simp [merge_right a b h2 h3]), if_neg (by simp [h2]), merge_again a b hl]
end Go.Proofs.Ytbfjfjocangjeaa
