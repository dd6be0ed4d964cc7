/-
  Texts of one proof, joined: each has its own namespace.
-/
import Derived.Test.YtjlkmfijkhjjkaaDoorBFnHints0
import Derived.OpenShut
import Derived.ChangeOld
import Derived.Test.YtjlkmfijkhjjkaaDoorTie
import Derived.LaidMore
import Derived.ChangeVars
import Derived.SevenTiedAt
import Derived.IntWalk
import Derived.OwnWalk
/-
  A sample's bounds: SampleFault on both sides, and the table of fields that the program reads.
-/
namespace Go.Proofs.YtjlkmfijkhjjkaaDoor
set_option maxRecDepth 20000
open Go.RowKit

/-- The table's cells. -/
def fldCells : List Value := [.int .i64 0, .int .i64 1, .int .i64 0, .int .i64 9, .int .i64 1, .int .i64 2, .int .i64 0, .int .i64 999, .int .i64 3, .int .i64 2, .int .i64 0, .int .i64 9999, .int .i64 5, .int .i64 2, .int .i64 (-1000), .int .i64 1000]
/-- The program's table of fields, as start-up laid it. -/
def Flds (w : World) : Prop := ∀ (i : Nat) (u : Value), fldCells[i]? = some u → w.cell? ⟨0, i, none⟩ = some u
theorem Flds.pos {w : World} (h : Flds w) : 0 < w.heap.size := World.block_lt_of_cell? w ⟨0, 0, none⟩ (h 0 _ rfl)
theorem Flds.below {w w' : World} (h : Flds w) (hb : Below w.heap.size w w') : Flds w' := fun i u hu => by
  rw [hb.cell (p := ⟨0, i, none⟩) h.pos]
  exact h i u hu
theorem Flds.all {w : World} (h : Flds w) : w.cell? ⟨0, 0, none⟩ = some (.int .i64 0) ∧ w.cell? ⟨0, 1, none⟩ = some (.int .i64 1) ∧ w.cell? ⟨0, 2, none⟩ = some (.int .i64 0) ∧ w.cell? ⟨0, 3, none⟩ = some (.int .i64 9) ∧ w.cell? ⟨0, 4, none⟩ = some (.int .i64 1) ∧ w.cell? ⟨0, 5, none⟩ = some (.int .i64 2) ∧ w.cell? ⟨0, 6, none⟩ = some (.int .i64 0) ∧ w.cell? ⟨0, 7, none⟩ = some (.int .i64 999) ∧ w.cell? ⟨0, 8, none⟩ = some (.int .i64 3) ∧ w.cell? ⟨0, 9, none⟩ = some (.int .i64 2) ∧ w.cell? ⟨0, 10, none⟩ = some (.int .i64 0) ∧ w.cell? ⟨0, 11, none⟩ = some (.int .i64 9999) ∧ w.cell? ⟨0, 12, none⟩ = some (.int .i64 5) ∧ w.cell? ⟨0, 13, none⟩ = some (.int .i64 2) ∧ w.cell? ⟨0, 14, none⟩ = some (.int .i64 (-1000)) ∧ w.cell? ⟨0, 15, none⟩ = some (.int .i64 1000) :=
  ⟨h 0 _ rfl, h 1 _ rfl, h 2 _ rfl, h 3 _ rfl, h 4 _ rfl, h 5 _ rfl, h 6 _ rfl, h 7 _ rfl, h 8 _ rfl, h 9 _ rfl, h 10 _ rfl, h 11 _ rfl, h 12 _ rfl, h 13 _ rfl, h 14 _ rfl, h 15 _ rfl⟩

/-- An answer of a code and a sample. -/
def RetSR (r : Int × Smp) (w : World) (e : Ending) (w' : World) : Prop :=
  e = .returned (.agg #[.int .i64 r.1, .int .i64 r.2.1, .int .i64 r.2.2.1, .int .i64 r.2.2.2.1, .int .i64 r.2.2.2.2]) ∧ Below w.heap.size w w'
def RetS (r : Smp) (w : World) (e : Ending) (w' : World) : Prop :=
  e = .returned (.agg #[.int .i64 r.1, .int .i64 r.2.1, .int .i64 r.2.2.1, .int .i64 r.2.2.2]) ∧ Below w.heap.size w w'

theorem At.five {w : World} {g : Nat} {t : TypeId} {a b c d e : Value} (h : At w g t #[a, b, c, d, e]) : w.cell? ⟨g, 0, none⟩ = some a ∧ w.cell? ⟨g, 1, none⟩ = some b ∧ w.cell? ⟨g, 2, none⟩ = some c ∧ w.cell? ⟨g, 3, none⟩ = some d ∧ w.cell? ⟨g, 4, none⟩ = some e ∧ w.frozen? ⟨g, 0, none⟩ = false ∧ w.frozen? ⟨g, 1, none⟩ = false ∧ w.frozen? ⟨g, 2, none⟩ = false ∧ w.frozen? ⟨g, 3, none⟩ = false ∧ w.frozen? ⟨g, 4, none⟩ = false :=
  ⟨h.cell 0, h.cell 1, h.cell 2, h.cell 3, h.cell 4, h.frozen 0, h.frozen 1, h.frozen 2, h.frozen 3, h.frozen 4⟩

def bndsM (x : Smp) : List (Int × Int × Int) := [(x.1, 0, 9), (x.2.1, 0, 999), (x.2.2.1, 0, 9999), (x.2.2.2, -1000, 1000)]
def faultM (x : Smp) : Int := if (bndsM x).all inB then 0 else 3

theorem numbersOf (a0 a1 a2 a3 : Int) (w : World) :
    Calls Tryd.prog 74 #[.agg #[.int .i64 a0, .int .i64 a1, .int .i64 a2, .int .i64 a3]] w fun e w' => e = .returned (.agg #[.int .i64 a0, .int .i64 a1, .int .i64 a2, .int .i64 a3]) ∧ Below w.heap.size w w' := by
  go_enter Tryd.func74, Tryd.ntmps74
  go_wp2
  refine bodyPost_ret (v := .agg #[.int .i64 a0, .int .i64 a1, .int .i64 a2, .int .i64 a3]) (by simp [results, Tryd.results74, go_sem]) rfl ?_
  exact ⟨rfl, ((Below.refl _ _).alloc (Nat.le_refl _) _).alloc (by simp) _⟩

def FaultRel (w : World) (x : Smp) (i : Value) (wr : World) : Prop :=
  ∃ k : Nat, k ≤ 4 ∧ i = .int .i64 k ∧ (∀ j b, j < k → (bndsM x)[j]? = some b → inB b = true) ∧ Below w.heap.size w wr
theorem fault_no {x : Smp} {k : Nat} {b : Int × Int × Int} (h : (bndsM x)[k]? = some b) (hb : inB b = false) : faultM x = 3 := by
  unfold faultM
  rw [all_no h hb]
  rfl
theorem fault_yes {x : Smp} (h : ∀ j b, j < 4 → (bndsM x)[j]? = some b → inB b = true) : faultM x = 0 := by
  unfold faultM
  rw [all_yes (n := 4) rfl h]
  rfl
theorem faultM_or (x : Smp) : faultM x = 0 ∨ faultM x = 3 := by
  unfold faultM
  split
  · exact .inl rfl
  · exact .inr rfl
theorem bnds_one_drew {w : World} {t : TypeId} {x lo hi : Int} {g : Nat} (hg : w.heap.size = g) : Bnds ((w.alloc (.cells #[.int .i64 x, .int .i64 lo, .int .i64 hi] t)).drew) g [(x, lo, hi)] := bnds_one (w := w) (t := t) hg
theorem fldAt0 (u : World) : (Instr.index 122 (.agg #[.int .i64 0, .int .i64 1, .int .i64 0, .int .i64 9, .int .i64 1, .int .i64 2, .int .i64 0, .int .i64 999, .int .i64 3, .int .i64 2, .int .i64 0, .int .i64 9999, .int .i64 5, .int .i64 2, .int .i64 (-1000), .int .i64 1000]) (.int .i64 0)).run Tryd.prog u = .ok (.agg #[.int .i64 0, .int .i64 1, .int .i64 0, .int .i64 9]) u := by kernel_rfl
theorem fldAt1 (u : World) : (Instr.index 122 (.agg #[.int .i64 0, .int .i64 1, .int .i64 0, .int .i64 9, .int .i64 1, .int .i64 2, .int .i64 0, .int .i64 999, .int .i64 3, .int .i64 2, .int .i64 0, .int .i64 9999, .int .i64 5, .int .i64 2, .int .i64 (-1000), .int .i64 1000]) (.int .i64 1)).run Tryd.prog u = .ok (.agg #[.int .i64 1, .int .i64 2, .int .i64 0, .int .i64 999]) u := by kernel_rfl
theorem fldAt2 (u : World) : (Instr.index 122 (.agg #[.int .i64 0, .int .i64 1, .int .i64 0, .int .i64 9, .int .i64 1, .int .i64 2, .int .i64 0, .int .i64 999, .int .i64 3, .int .i64 2, .int .i64 0, .int .i64 9999, .int .i64 5, .int .i64 2, .int .i64 (-1000), .int .i64 1000]) (.int .i64 2)).run Tryd.prog u = .ok (.agg #[.int .i64 3, .int .i64 2, .int .i64 0, .int .i64 9999]) u := by kernel_rfl
theorem fldAt3 (u : World) : (Instr.index 122 (.agg #[.int .i64 0, .int .i64 1, .int .i64 0, .int .i64 9, .int .i64 1, .int .i64 2, .int .i64 0, .int .i64 999, .int .i64 3, .int .i64 2, .int .i64 0, .int .i64 9999, .int .i64 5, .int .i64 2, .int .i64 (-1000), .int .i64 1000]) (.int .i64 3)).run Tryd.prog u = .ok (.agg #[.int .i64 5, .int .i64 2, .int .i64 (-1000), .int .i64 1000]) u := by kernel_rfl

set_option maxRecDepth 100000 in
set_option maxHeartbeats 2000000 in
theorem implSampleFault (a0 a1 a2 a3 : Int) (w : World) (hF : Flds w) :
    Calls Tryd.prog 67 #[.agg #[.int .i64 a0, .int .i64 a1, .int .i64 a2, .int .i64 a3]] w fun e w' => e = .returned (.int .i64 (faultM (a0, a1, a2, a3))) ∧ Below w.heap.size w w' := by
  have hA0 : Below w.heap.size w (w.alloc (.cells #[.int .i64 a0, .int .i64 a1, .int .i64 a2, .int .i64 a3] 26)) := (Below.refl _ _).alloc (Nat.le_refl _) _
  go_enter Tryd.func67, Tryd.ntmps67
  go_wp2_with fail
  refine (numbersOf a0 a1 a2 a3 _).mono ?_
  rintro e w1 ⟨rfl, hb1⟩
  have hB1 : Below w.heap.size w w1 := hA0.trans (hb1.mono hA0.size)
  have hp1 := (hF.below hB1).pos
  obtain ⟨c0, c1, c2, c3, c4, c5, c6, c7, c8, c9, c10, c11, c12, c13, c14, c15⟩ := (hF.below hB1).all
  have hN := At.new w1 118 #[.int .i64 a0, .int .i64 a1, .int .i64 a2, .int .i64 a3]
  have hS2 : (w1.alloc (.cells #[.int .i64 a0, .int .i64 a1, .int .i64 a2, .int .i64 a3] 118)).heap.size = w1.heap.size + 1 := by simp
  have hB2 : Below w.heap.size w (w1.alloc (.cells #[.int .i64 a0, .int .i64 a1, .int .i64 a2, .int .i64 a3] 118)) := hB1.alloc hB1.size _
  go_wp2_with fail
  clear c0 c1 c2 c3 c4 c5 c6 c7 c8 c9 c10 c11 c12 c13 c14 c15
  go_loopw [9] (fun i wr => FaultRel (w1.alloc (.cells #[.int .i64 a0, .int .i64 a1, .int .i64 a2, .int .i64 a3] 118)) (a0, a1, a2, a3) i wr) (fun i _ => 4 - (intOf i).toNat)
  case atStart => exact ⟨0, by omega, rfl, fun _ _ h => absurd h (by omega), Below.refl _ _⟩
  case round =>
    obtain ⟨k, hk, rfl, hal, hbel⟩ := hrel
    have Hal := Lib.hid hal
    clear hal
    have hsz := hbel.size
    have hN' := hN.below hbel (by simp)
    obtain ⟨n0, n1, n2, n3, _, _, _, _⟩ := hN'.four
    have hlt := hN'.lt
    rw [hS2] at hsz
    rcases (show k = 0 ∨ k = 1 ∨ k = 2 ∨ k = 3 ∨ k = 4 by omega) with rfl | rfl | rfl | rfl | rfl
    · have Hb := Lib.hid (show (bndsM (a0, a1, a2, a3))[0]? = some (a0, 0, 9) from rfl)
      have hidx := fldAt0 wr
      go_wp2
      refine wp_region_mix [(0, false), (1, false), (2, false), (3, false), (4, false), (5, false), (6, false), (7, false), (8, true), (9, true), (10, false)] (fun u => u.cell? ⟨w1.heap.size, 0, none⟩ = some (.int .i64 a0) ∧ u.cell? ⟨wr.heap.size, 2, none⟩ = some (.int .i64 0) ∧ u.cell? ⟨wr.heap.size, 3, none⟩ = some (.int .i64 9)) (by kernel_rfl) (by kernel_rfl) (fun _ _ _ _ _ h => h) (by go_simp) ?_
      simp only [mixOps, List.map_cons, List.map_nil, List.getElem?_cons_succ, List.getElem?_cons_zero, Option.getD_some]
      repeat (first
        | (refine mix_skip (by rfl) ?_
           (try simp only [Act.put, List.setIfInBounds_toArray, List.set_cons_zero, List.set_cons_succ]))
        | (refine mix_pure (v := ?_) (by rfl) (fun u hu => ?_) ?_
           rotate_left
           · obtain ⟨_, _, _⟩ := hu
             go_simp
             (with_reducible rfl)
           (try simp only [Act.put, List.setIfInBounds_toArray, List.set_cons_zero, List.set_cons_succ])))
      refine mix_call (by rfl) (fun K hK => ?_)
      go_simp
      refine hK _ _ _ (fun _ h => h) (by go_simp) ?_
      (try simp only [Act.put, List.setIfInBounds_toArray, List.set_cons_zero, List.set_cons_succ])
      refine mix_call (by rfl) (fun K hK => ?_)
      go_simp
      refine (areWithin_any _ _ _ [(a0, 0, 9)] _ (bnds_one_drew (by simp)) (by simp) rfl (by simp)).mono ?_
      rintro e w2 ⟨rfl, hb2⟩
      have HA := hbel.alloc hbel.size (.cells #[.int .i64 0, .int .i64 1, .int .i64 0, .int .i64 9] 121)
      have HC := (HA.alloc HA.size (.cells #[.int .i64 a0, .int .i64 0, .int .i64 9] 86)).drew
      have HD := HC.trans (hb2.mono HC.size)
      refine hK _ _ _ (fun _ h => h) ⟨(hb2.cell (p := ⟨w1.heap.size, 0, none⟩) (by simp; omega)).trans (by go_simp), (hb2.cell (p := ⟨wr.heap.size, 2, none⟩) (by simp; omega)).trans (by go_simp), (hb2.cell (p := ⟨wr.heap.size, 3, none⟩) (by simp; omega)).trans (by go_simp)⟩ ?_
      (try simp only [Act.put, List.setIfInBounds_toArray, List.set_cons_zero, List.set_cons_succ])
      by_cases hin : inB (a0, 0, 9) = true
      · have hq : [(a0, 0, 9)].all inB = true := by simp [hin]
        rw [hq]
        have Hin := Lib.hid hin
        clear hin hq
        refine mix_pure (v := ?_) (by rfl) (fun u hu => ?_) ?_
        rotate_left
        · go_simp
          (with_reducible rfl)
        (try simp only [Act.put, List.setIfInBounds_toArray, List.set_cons_zero, List.set_cons_succ])
        refine mix_nil ?_
        go_wp2
        refine ⟨⟨0 + 1, by omega, by go_num, fun j b hj hb => ?_, HD⟩, by simp [intOf]⟩
        rcases Nat.lt_or_ge j 0 with h | h
        · exact Hal.out j b h hb
        · obtain rfl : j = 0 := by omega
          obtain rfl := Option.some.inj (Hb.out.symm.trans hb)
          exact Hin.out
      · have hq : [(a0, 0, 9)].all inB = false := by simpa using hin
        rw [hq]
        have Hf := Lib.hid (fault_no Hb.out (by simpa using hin))
        clear hin hq
        refine mix_pure (v := ?_) (by rfl) (fun u hu => ?_) ?_
        rotate_left
        · go_simp
          (with_reducible rfl)
        (try simp only [Act.put, List.setIfInBounds_toArray, List.set_cons_zero, List.set_cons_succ])
        refine mix_nil ?_
        go_wp2
        go_ret
        exact ⟨by rw [Hf.out]; rfl, hB2.trans (HD.mono hB2.size)⟩
    · have Hb := Lib.hid (show (bndsM (a0, a1, a2, a3))[1]? = some (a1, 0, 999) from rfl)
      have hidx := fldAt1 wr
      go_wp2
      refine wp_region_mix [(0, false), (1, false), (2, false), (3, false), (4, false), (5, false), (6, false), (7, false), (8, true), (9, true), (10, false)] (fun u => u.cell? ⟨w1.heap.size, 1, none⟩ = some (.int .i64 a1) ∧ u.cell? ⟨wr.heap.size, 2, none⟩ = some (.int .i64 0) ∧ u.cell? ⟨wr.heap.size, 3, none⟩ = some (.int .i64 999)) (by kernel_rfl) (by kernel_rfl) (fun _ _ _ _ _ h => h) (by go_simp) ?_
      simp only [mixOps, List.map_cons, List.map_nil, List.getElem?_cons_succ, List.getElem?_cons_zero, Option.getD_some]
      repeat (first
        | (refine mix_skip (by rfl) ?_
           (try simp only [Act.put, List.setIfInBounds_toArray, List.set_cons_zero, List.set_cons_succ]))
        | (refine mix_pure (v := ?_) (by rfl) (fun u hu => ?_) ?_
           rotate_left
           · obtain ⟨_, _, _⟩ := hu
             go_simp
             (with_reducible rfl)
           (try simp only [Act.put, List.setIfInBounds_toArray, List.set_cons_zero, List.set_cons_succ])))
      refine mix_call (by rfl) (fun K hK => ?_)
      go_simp
      refine hK _ _ _ (fun _ h => h) (by go_simp) ?_
      (try simp only [Act.put, List.setIfInBounds_toArray, List.set_cons_zero, List.set_cons_succ])
      refine mix_call (by rfl) (fun K hK => ?_)
      go_simp
      refine (areWithin_any _ _ _ [(a1, 0, 999)] _ (bnds_one_drew (by simp)) (by simp) rfl (by simp)).mono ?_
      rintro e w2 ⟨rfl, hb2⟩
      have HA := hbel.alloc hbel.size (.cells #[.int .i64 1, .int .i64 2, .int .i64 0, .int .i64 999] 121)
      have HC := (HA.alloc HA.size (.cells #[.int .i64 a1, .int .i64 0, .int .i64 999] 86)).drew
      have HD := HC.trans (hb2.mono HC.size)
      refine hK _ _ _ (fun _ h => h) ⟨(hb2.cell (p := ⟨w1.heap.size, 1, none⟩) (by simp; omega)).trans (by go_simp), (hb2.cell (p := ⟨wr.heap.size, 2, none⟩) (by simp; omega)).trans (by go_simp), (hb2.cell (p := ⟨wr.heap.size, 3, none⟩) (by simp; omega)).trans (by go_simp)⟩ ?_
      (try simp only [Act.put, List.setIfInBounds_toArray, List.set_cons_zero, List.set_cons_succ])
      by_cases hin : inB (a1, 0, 999) = true
      · have hq : [(a1, 0, 999)].all inB = true := by simp [hin]
        rw [hq]
        have Hin := Lib.hid hin
        clear hin hq
        refine mix_pure (v := ?_) (by rfl) (fun u hu => ?_) ?_
        rotate_left
        · go_simp
          (with_reducible rfl)
        (try simp only [Act.put, List.setIfInBounds_toArray, List.set_cons_zero, List.set_cons_succ])
        refine mix_nil ?_
        go_wp2
        refine ⟨⟨1 + 1, by omega, by go_num, fun j b hj hb => ?_, HD⟩, by simp [intOf]⟩
        rcases Nat.lt_or_ge j 1 with h | h
        · exact Hal.out j b h hb
        · obtain rfl : j = 1 := by omega
          obtain rfl := Option.some.inj (Hb.out.symm.trans hb)
          exact Hin.out
      · have hq : [(a1, 0, 999)].all inB = false := by simpa using hin
        rw [hq]
        have Hf := Lib.hid (fault_no Hb.out (by simpa using hin))
        clear hin hq
        refine mix_pure (v := ?_) (by rfl) (fun u hu => ?_) ?_
        rotate_left
        · go_simp
          (with_reducible rfl)
        (try simp only [Act.put, List.setIfInBounds_toArray, List.set_cons_zero, List.set_cons_succ])
        refine mix_nil ?_
        go_wp2
        go_ret
        exact ⟨by rw [Hf.out]; rfl, hB2.trans (HD.mono hB2.size)⟩
    · have Hb := Lib.hid (show (bndsM (a0, a1, a2, a3))[2]? = some (a2, 0, 9999) from rfl)
      have hidx := fldAt2 wr
      go_wp2
      refine wp_region_mix [(0, false), (1, false), (2, false), (3, false), (4, false), (5, false), (6, false), (7, false), (8, true), (9, true), (10, false)] (fun u => u.cell? ⟨w1.heap.size, 2, none⟩ = some (.int .i64 a2) ∧ u.cell? ⟨wr.heap.size, 2, none⟩ = some (.int .i64 0) ∧ u.cell? ⟨wr.heap.size, 3, none⟩ = some (.int .i64 9999)) (by kernel_rfl) (by kernel_rfl) (fun _ _ _ _ _ h => h) (by go_simp) ?_
      simp only [mixOps, List.map_cons, List.map_nil, List.getElem?_cons_succ, List.getElem?_cons_zero, Option.getD_some]
      repeat (first
        | (refine mix_skip (by rfl) ?_
           (try simp only [Act.put, List.setIfInBounds_toArray, List.set_cons_zero, List.set_cons_succ]))
        | (refine mix_pure (v := ?_) (by rfl) (fun u hu => ?_) ?_
           rotate_left
           · obtain ⟨_, _, _⟩ := hu
             go_simp
             (with_reducible rfl)
           (try simp only [Act.put, List.setIfInBounds_toArray, List.set_cons_zero, List.set_cons_succ])))
      refine mix_call (by rfl) (fun K hK => ?_)
      go_simp
      refine hK _ _ _ (fun _ h => h) (by go_simp) ?_
      (try simp only [Act.put, List.setIfInBounds_toArray, List.set_cons_zero, List.set_cons_succ])
      refine mix_call (by rfl) (fun K hK => ?_)
      go_simp
      refine (areWithin_any _ _ _ [(a2, 0, 9999)] _ (bnds_one_drew (by simp)) (by simp) rfl (by simp)).mono ?_
      rintro e w2 ⟨rfl, hb2⟩
      have HA := hbel.alloc hbel.size (.cells #[.int .i64 3, .int .i64 2, .int .i64 0, .int .i64 9999] 121)
      have HC := (HA.alloc HA.size (.cells #[.int .i64 a2, .int .i64 0, .int .i64 9999] 86)).drew
      have HD := HC.trans (hb2.mono HC.size)
      refine hK _ _ _ (fun _ h => h) ⟨(hb2.cell (p := ⟨w1.heap.size, 2, none⟩) (by simp; omega)).trans (by go_simp), (hb2.cell (p := ⟨wr.heap.size, 2, none⟩) (by simp; omega)).trans (by go_simp), (hb2.cell (p := ⟨wr.heap.size, 3, none⟩) (by simp; omega)).trans (by go_simp)⟩ ?_
      (try simp only [Act.put, List.setIfInBounds_toArray, List.set_cons_zero, List.set_cons_succ])
      by_cases hin : inB (a2, 0, 9999) = true
      · have hq : [(a2, 0, 9999)].all inB = true := by simp [hin]
        rw [hq]
        have Hin := Lib.hid hin
        clear hin hq
        refine mix_pure (v := ?_) (by rfl) (fun u hu => ?_) ?_
        rotate_left
        · go_simp
          (with_reducible rfl)
        (try simp only [Act.put, List.setIfInBounds_toArray, List.set_cons_zero, List.set_cons_succ])
        refine mix_nil ?_
        go_wp2
        refine ⟨⟨2 + 1, by omega, by go_num, fun j b hj hb => ?_, HD⟩, by simp [intOf]⟩
        rcases Nat.lt_or_ge j 2 with h | h
        · exact Hal.out j b h hb
        · obtain rfl : j = 2 := by omega
          obtain rfl := Option.some.inj (Hb.out.symm.trans hb)
          exact Hin.out
      · have hq : [(a2, 0, 9999)].all inB = false := by simpa using hin
        rw [hq]
        have Hf := Lib.hid (fault_no Hb.out (by simpa using hin))
        clear hin hq
        refine mix_pure (v := ?_) (by rfl) (fun u hu => ?_) ?_
        rotate_left
        · go_simp
          (with_reducible rfl)
        (try simp only [Act.put, List.setIfInBounds_toArray, List.set_cons_zero, List.set_cons_succ])
        refine mix_nil ?_
        go_wp2
        go_ret
        exact ⟨by rw [Hf.out]; rfl, hB2.trans (HD.mono hB2.size)⟩
    · have Hb := Lib.hid (show (bndsM (a0, a1, a2, a3))[3]? = some (a3, (-1000), 1000) from rfl)
      have hidx := fldAt3 wr
      go_wp2
      refine wp_region_mix [(0, false), (1, false), (2, false), (3, false), (4, false), (5, false), (6, false), (7, false), (8, true), (9, true), (10, false)] (fun u => u.cell? ⟨w1.heap.size, 3, none⟩ = some (.int .i64 a3) ∧ u.cell? ⟨wr.heap.size, 2, none⟩ = some (.int .i64 (-1000)) ∧ u.cell? ⟨wr.heap.size, 3, none⟩ = some (.int .i64 1000)) (by kernel_rfl) (by kernel_rfl) (fun _ _ _ _ _ h => h) (by go_simp) ?_
      simp only [mixOps, List.map_cons, List.map_nil, List.getElem?_cons_succ, List.getElem?_cons_zero, Option.getD_some]
      repeat (first
        | (refine mix_skip (by rfl) ?_
           (try simp only [Act.put, List.setIfInBounds_toArray, List.set_cons_zero, List.set_cons_succ]))
        | (refine mix_pure (v := ?_) (by rfl) (fun u hu => ?_) ?_
           rotate_left
           · obtain ⟨_, _, _⟩ := hu
             go_simp
             (with_reducible rfl)
           (try simp only [Act.put, List.setIfInBounds_toArray, List.set_cons_zero, List.set_cons_succ])))
      refine mix_call (by rfl) (fun K hK => ?_)
      go_simp
      refine hK _ _ _ (fun _ h => h) (by go_simp) ?_
      (try simp only [Act.put, List.setIfInBounds_toArray, List.set_cons_zero, List.set_cons_succ])
      refine mix_call (by rfl) (fun K hK => ?_)
      go_simp
      refine (areWithin_any _ _ _ [(a3, (-1000), 1000)] _ (bnds_one_drew (by simp)) (by simp) rfl (by simp)).mono ?_
      rintro e w2 ⟨rfl, hb2⟩
      have HA := hbel.alloc hbel.size (.cells #[.int .i64 5, .int .i64 2, .int .i64 (-1000), .int .i64 1000] 121)
      have HC := (HA.alloc HA.size (.cells #[.int .i64 a3, .int .i64 (-1000), .int .i64 1000] 86)).drew
      have HD := HC.trans (hb2.mono HC.size)
      refine hK _ _ _ (fun _ h => h) ⟨(hb2.cell (p := ⟨w1.heap.size, 3, none⟩) (by simp; omega)).trans (by go_simp), (hb2.cell (p := ⟨wr.heap.size, 2, none⟩) (by simp; omega)).trans (by go_simp), (hb2.cell (p := ⟨wr.heap.size, 3, none⟩) (by simp; omega)).trans (by go_simp)⟩ ?_
      (try simp only [Act.put, List.setIfInBounds_toArray, List.set_cons_zero, List.set_cons_succ])
      by_cases hin : inB (a3, (-1000), 1000) = true
      · have hq : [(a3, (-1000), 1000)].all inB = true := by simp [hin]
        rw [hq]
        have Hin := Lib.hid hin
        clear hin hq
        refine mix_pure (v := ?_) (by rfl) (fun u hu => ?_) ?_
        rotate_left
        · go_simp
          (with_reducible rfl)
        (try simp only [Act.put, List.setIfInBounds_toArray, List.set_cons_zero, List.set_cons_succ])
        refine mix_nil ?_
        go_wp2
        refine ⟨⟨3 + 1, by omega, by go_num, fun j b hj hb => ?_, HD⟩, by simp [intOf]⟩
        rcases Nat.lt_or_ge j 3 with h | h
        · exact Hal.out j b h hb
        · obtain rfl : j = 3 := by omega
          obtain rfl := Option.some.inj (Hb.out.symm.trans hb)
          exact Hin.out
      · have hq : [(a3, (-1000), 1000)].all inB = false := by simpa using hin
        rw [hq]
        have Hf := Lib.hid (fault_no Hb.out (by simpa using hin))
        clear hin hq
        refine mix_pure (v := ?_) (by rfl) (fun u hu => ?_) ?_
        rotate_left
        · go_simp
          (with_reducible rfl)
        (try simp only [Act.put, List.setIfInBounds_toArray, List.set_cons_zero, List.set_cons_succ])
        refine mix_nil ?_
        go_wp2
        go_ret
        exact ⟨by rw [Hf.out]; rfl, hB2.trans (HD.mono hB2.size)⟩
    · have Hf := Lib.hid (fault_yes Hal.out)
      go_wp2
      go_ret
      exact ⟨by rw [Hf.out]; rfl, hB2.trans (hbel.mono hB2.size)⟩

theorem specSampleFault (a0 a1 a2 a3 : Int) (w : World) :
    Calls Tryd.prog 56 #[.agg #[.int .i64 a0, .int .i64 a1, .int .i64 a2, .int .i64 a3]] w fun e w' => e = .returned (.int .i64 (faultM (a0, a1, a2, a3))) ∧ Below w.heap.size w w' := by
  by_cases h0 : inB (a0, 0, 9) = true
  rotate_left
  · have Hf := Lib.hid (fault_no (show (bndsM (a0, a1, a2, a3))[0]? = some (a0, 0, 9) from rfl) (by simpa using h0))
    have g0 : inB (a0, 0, 9) = false := by simpa using h0
    clear h0
    go_enter Tryd.func56, Tryd.ntmps56
    go_wp2_with (go_at_call 60; refine (l1In_any _ _ _ _).mono ?_; rintro e w1 ⟨rfl, rfl⟩)
    go_ret
    exact ⟨by rw [Hf.out]; rfl, (Below.refl _ _).alloc (Nat.le_refl _) _⟩
  by_cases h1 : inB (a1, 0, 999) = true
  rotate_left
  · have Hf := Lib.hid (fault_no (show (bndsM (a0, a1, a2, a3))[1]? = some (a1, 0, 999) from rfl) (by simpa using h1))
    have g1 : inB (a1, 0, 999) = false := by simpa using h1
    clear h1
    go_enter Tryd.func56, Tryd.ntmps56
    go_wp2_with (go_at_call 60; refine (l1In_any _ _ _ _).mono ?_; rintro e w1 ⟨rfl, rfl⟩)
    go_ret
    exact ⟨by rw [Hf.out]; rfl, (Below.refl _ _).alloc (Nat.le_refl _) _⟩
  by_cases h2 : inB (a2, 0, 9999) = true
  rotate_left
  · have Hf := Lib.hid (fault_no (show (bndsM (a0, a1, a2, a3))[2]? = some (a2, 0, 9999) from rfl) (by simpa using h2))
    have g2 : inB (a2, 0, 9999) = false := by simpa using h2
    clear h2
    go_enter Tryd.func56, Tryd.ntmps56
    go_wp2_with (go_at_call 60; refine (l1In_any _ _ _ _).mono ?_; rintro e w1 ⟨rfl, rfl⟩)
    go_ret
    exact ⟨by rw [Hf.out]; rfl, (Below.refl _ _).alloc (Nat.le_refl _) _⟩
  by_cases h3 : inB (a3, (-1000), 1000) = true
  rotate_left
  · have Hf := Lib.hid (fault_no (show (bndsM (a0, a1, a2, a3))[3]? = some (a3, (-1000), 1000) from rfl) (by simpa using h3))
    have g3 : inB (a3, (-1000), 1000) = false := by simpa using h3
    clear h3
    go_enter Tryd.func56, Tryd.ntmps56
    go_wp2_with (go_at_call 60; refine (l1In_any _ _ _ _).mono ?_; rintro e w1 ⟨rfl, rfl⟩)
    go_ret
    exact ⟨by rw [Hf.out]; rfl, (Below.refl _ _).alloc (Nat.le_refl _) _⟩
  have Hf := Lib.hid (show faultM (a0, a1, a2, a3) = 0 by simp [faultM, bndsM, h0, h1, h2, h3])
  go_enter Tryd.func56, Tryd.ntmps56
  go_wp2_with (go_at_call 60; refine (l1In_any _ _ _ _).mono ?_; rintro e w1 ⟨rfl, rfl⟩)
  go_ret
  exact ⟨by rw [Hf.out]; rfl, (Below.refl _ _).alloc (Nat.le_refl _) _⟩

end Go.Proofs.YtjlkmfijkhjjkaaDoor
namespace Go.Proofs.YtjlkmfijkhjjkaaDoor
set_option maxRecDepth 20000
open Go.ChangeShapes Go.WideShapes Go.ChangeAt Go.RowKit

theorem own : ownKnob Tryd.prog.godebug = none := by kernel_rfl
theorem laidOut : laidOutB Tryd.prog = true := by kernel_rfl

theorem int64_le {a : Int} (h : (Lit.int .i64 a).wf = true) : -9223372036854775808 ≤ a ∧ a ≤ 9223372036854775807 := by
  simpa [Lit.wf, IntKind.min, IntKind.max, IntKind.signed, IntKind.bits] using h

/-- A slice of bytes that came in reads as a list. -/
theorem rd_of_ints {W : World} {x : Addr} {len cap : Nat} {zs : List Int} (hl : len ≤ cap) (hz : zs.length = cap) (hcell : ∀ i, i < zs.length → W.cell? (x.add i) = some (.int .u8 (zs.getD i 0))) (hwz : ∀ n ∈ zs, (Lit.int .u8 n).wf = true) :
    ∃ l : List UInt8, l.length = len ∧ Rd eB W W.heap.size (some x) l := by
  refine ⟨(zs.take len).map fun z => UInt8.ofNat z.toNat, by simp; omega, fun hne => ?_⟩
  have hlen : 0 < len := by
    rcases Nat.eq_zero_or_pos len with h0 | h0
    · subst h0; simp at hne
    · exact h0
  obtain ⟨b, off, spot⟩ := x
  have h0 := hcell 0 (by omega)
  have hspot : spot = none := by simpa [Addr.add] using World.cell?_spot h0
  subst hspot
  have hb : b < W.heap.size := by
    have := World.block_lt_of_cell? W _ h0
    rw [addr_add] at this
    exact this
  refine ⟨b, off, rfl, hb, fun k j a u hk hu => ?_⟩
  rw [List.getElem?_map] at hk
  have hkl : k < len := by
    rcases Nat.lt_or_ge k len with h1 | h1
    · exact h1
    · rw [List.getElem?_eq_none (by simp; omega)] at hk; simp at hk
  have hkz : k < zs.length := by omega
  rw [List.getElem?_take, if_pos hkl, List.getElem?_eq_getElem hkz] at hk
  simp only [Option.map_some, Option.some.injEq] at hk
  subst hk
  match j, hu with
  | 0, hu =>
    simp only [eB, List.getElem?_cons_zero, Option.some.injEq] at hu
    subst hu
    have h1 := hcell k hkz
    rw [addr_add] at h1
    simp only [eB, Nat.mul_one, Nat.add_zero]
    rw [h1]
    have hw := hwz zs[k] (List.getElem_mem hkz)
    simp [Lit.wf, IntKind.min, IntKind.max, IntKind.signed, IntKind.bits] at hw
    simp only [List.getD_eq_getElem?_getD, List.getElem?_eq_getElem hkz, Option.getD_some, Option.some.injEq, Value.int.injEq, true_and, UInt8.toNat_ofNat']
    omega
  | j + 1, hu => simp [eB] at hu

/-- The bytes of an argument. -/
theorem open_bytes {H : Type} {enc : TypeId × Value → H} {W : World} {base : Nat} {held : Bool} {A : Option Addr} {n c : Nat} {d : DataW H} {p : List MemPlace} (h : DataW.Trod enc Tryd.prog W base (fun _ => true) held 22 (.slice A n c) d p) :
    ∃ l : List UInt8, l.length = n ∧ Rd eB W W.heap.size A l := by
  obtain ⟨fuel, hf⟩ := h
  rcases open_ints Tryd.underlying22 Tryd.underlying5 (by kernel_rfl) hf with ⟨hcs, _⟩ | ⟨x, l, c, zs, hcs, _, hl, hm, hz, _, hcell, hwz⟩
  · simp [Value.cells] at hcs
    obtain ⟨rfl, rfl, rfl⟩ := hcs
    exact ⟨[], rfl, Rd.nil⟩
  · simp [Value.cells] at hcs
    obtain ⟨rfl, rfl, rfl⟩ := hcs
    exact rd_of_ints hl (by simpa using hz) hcell hwz
end Go.Proofs.YtjlkmfijkhjjkaaDoor
/-
  A sample that came in: four numbers.
-/
namespace Go.Proofs.YtjlkmfijkhjjkaaDoor
set_option maxRecDepth 20000
open Go.ChangeShapes Go.WideShapes Go.ChangeAt Go.RowKit

theorem four_of {cs : Array Value} (h : cs.size = 4) : ∃ a b c d, cs = #[a, b, c, d] := by
  obtain ⟨l⟩ := cs
  match l, h with
  | [a, b, c, d], _ => exact ⟨a, b, c, d, rfl⟩

theorem open_smp {H : Type} {enc : TypeId × Value → H} {W W0 : World} {r : Reach} {b0 base : Nat} {sp : Nat → Bool} {held : Bool} {v : Value} {d : DataW H} {ps : List MemPlace}
    (hval : Value.okWide Tryd.prog W0 r b0 55 v) (hd : DataW.Trod enc Tryd.prog W base sp held 55 v d ps) :
    ∃ a0 a1 a2 a3 : Int, v = .agg #[.int .i64 a0, .int .i64 a1, .int .i64 a2, .int .i64 a3] := by
  obtain ⟨cs, rfl, hn⟩ := okWide_struct Tryd.underlying55 hval
  obtain ⟨fuel, hf⟩ := hd
  obtain ⟨xs, n, _, _, hl, hlen, hel⟩ := DataW.trod_struct Tryd.underlying55 hf
  have c4 : Tryd.prog.cellsOf 55 = 4 := by kernel_rfl
  have c1 : Tryd.prog.cellsOf 2 = 1 := by kernel_rfl
  rw [c4] at hn
  obtain ⟨a, b, c, e, rfl⟩ := four_of hn
  have hx : xs.length = 4 := by rw [hlen]; rfl
  have one : ∀ (i : Nat) (f : Field) (u : Value), i < 4 → DataW.trod enc Tryd.prog W base sp held n 2 [u] = xs[i]? → ∃ k, u = .int .i64 k := fun i f u hi he => by
    rw [List.getElem?_eq_getElem (by omega)] at he
    obtain ⟨k, hk, _⟩ := DataW.trod_int Tryd.underlying2 he
    exact ⟨k, by simpa using hk⟩
  obtain ⟨k0, rfl⟩ := one 0 default a (by omega) (by simpa [Value.cells, c1] using hel 0 _ rfl)
  obtain ⟨k1, rfl⟩ := one 1 default b (by omega) (by simpa [Value.cells, c1] using hel 1 _ rfl)
  obtain ⟨k2, rfl⟩ := one 2 default c (by omega) (by simpa [Value.cells, c1] using hel 2 _ rfl)
  obtain ⟨k3, rfl⟩ := one 3 default e (by omega) (by simpa [Value.cells, c1] using hel 3 _ rfl)
  exact ⟨k0, k1, k2, k3, rfl⟩
end Go.Proofs.YtjlkmfijkhjjkaaDoor
/-
  The program's table of fields: what start-up laid gives the walks' word; how a named variable is opened and shut.
-/
namespace Go.Proofs.YtjlkmfijkhjjkaaDoor
set_option maxRecDepth 20000
open Go.ChangeShapes Go.WideShapes Go.ChangeAt Go.RowKit

def fldName : String := "loop.example/g00791/impl.sampleFields"
theorem gF : Tryd.prog.globalNamed fldName = some 0 := by kernel_rfl
theorem tF : (Tryd.prog.globals[0]?).map (·.type) = some 122 := by kernel_rfl
def laidF : List (String × DataW Unit) := [(fldName, Rows.laid_loop_example_g00791_impl_sampleFields)]

theorem var_below {P : Program} {w w' : World} {n : String} {g B : Nat} {cs : Array Value} (h : w.var? P n = some cs) (hg : P.globalNamed n = some g) (hb : Below B w w') (hlt : g < B) : w'.var? P n = some cs := by
  simp only [World.var?, hg, Option.bind_some] at h ⊢
  rw [hb.block g hlt]
  exact h

theorem int_cell {H : Type} {enc : TypeId × Value → H} {w : World} {base fuel : Nat} {sp : Nat → Bool} {held : Bool} {u : Value} {x : DataW H × List MemPlace} {n : Int} (h : DataW.trod enc Tryd.prog w base sp held fuel 2 [u] = some x) (hx : x.1 = .lit (.int .i64 n)) : u = .int .i64 n := by
  obtain ⟨k, hk, hx', _⟩ := DataW.trod_int Tryd.underlying2 h
  subst hx'
  simp only [DataW.lit.injEq, Lit.int.injEq, true_and] at hx
  subst hx
  simpa using hk

theorem four_list {l : List Value} (h : l.length = 4) : ∃ a b c d, l = [a, b, c, d] := by
  match l, h with
  | [a, b, c, d], _ => exact ⟨a, b, c, d, rfl⟩

theorem field_cells {H : Type} {enc : TypeId × Value → H} {w : World} {base fuel : Nat} {sp : Nat → Bool} {held : Bool} {cs : List Value} {x : DataW H × List MemPlace} {a b c d : Int} (h : DataW.trod enc Tryd.prog w base sp held fuel 121 cs = some x)
    (hx : x.1 = .agg [.lit (.int .i64 a), .lit (.int .i64 b), .lit (.int .i64 c), .lit (.int .i64 d)]) : cs = [.int .i64 a, .int .i64 b, .int .i64 c, .int .i64 d] := by
  obtain ⟨xs, n, _, rfl, hl, hlen, hel⟩ := DataW.trod_struct Tryd.underlying121 h
  have c4 : Tryd.prog.cellsOf 121 = 4 := by kernel_rfl
  have c1 : Tryd.prog.cellsOf 2 = 1 := by kernel_rfl
  rw [c4] at hl
  obtain ⟨u0, u1, u2, u3, rfl⟩ := four_list hl
  match xs, hlen, hx with
  | [x0, x1, x2, x3], _, hx =>
    simp only [List.map_cons, List.map_nil, DataW.agg.injEq, List.cons.injEq, and_true] at hx
    obtain ⟨h0, h1, h2, h3⟩ := hx
    obtain rfl := int_cell (u := u0) (by simpa [c1] using hel 0 _ rfl) h0
    obtain rfl := int_cell (u := u1) (by simpa [c1] using hel 1 _ rfl) h1
    obtain rfl := int_cell (u := u2) (by simpa [c1] using hel 2 _ rfl) h2
    obtain rfl := int_cell (u := u3) (by simpa [c1] using hel 3 _ rfl) h3
    rfl

theorem of_laid {W : World} (h : laidMetH Tryd.prog laidF W) : ∃ cs : Array Value, W.var? Tryd.prog fldName = some cs ∧ cs.toList = fldCells := by
  rw [MakeChecks.laidMetH_plain _ _ _ (by kernel_rfl)] at h
  obtain ⟨ps, ⟨g0, t0, cs0, f0, p0, q0, hg0, ht0, hv0, hd0, _⟩, _⟩ := h
  obtain rfl := Option.some.inj (gF.symm.trans hg0)
  obtain rfl := Option.some.inj (tF.symm.trans ht0)
  refine ⟨cs0, hv0, ?_⟩
  obtain ⟨xs, m, _, hx, hl, hn, hel⟩ := DataW.trod_array Tryd.underlying122 hd0
  have c16 : Tryd.prog.cellsOf 122 = 16 := by kernel_rfl
  have c4 : Tryd.prog.cellsOf 121 = 4 := by kernel_rfl
  rw [c16] at hl
  rw [c4] at hel
  generalize cs0.toList = l at *
  match xs, hn, hx with
  | [x0, x1, x2, x3], _, hx =>
    simp only [Prod.mk.injEq, Rows.laid_loop_example_g00791_impl_sampleFields, List.map_cons, List.map_nil, DataW.agg.injEq, List.cons.injEq, and_true] at hx
    obtain ⟨⟨h0, h1, h2, h3⟩, _⟩ := hx
    have e0 := field_cells (hel 0 (by decide)) h0.symm
    have e1 := field_cells (hel 1 (by decide)) h1.symm
    have e2 := field_cells (hel 2 (by decide)) h2.symm
    have e3 := field_cells (hel 3 (by decide)) h3.symm
    have b1 : l.drop (1 * 4) = (l.drop (1 * 4)).take 4 ++ l.drop (2 * 4) := by
      have := (List.take_append_drop 4 (l.drop (1 * 4))).symm
      rwa [List.drop_drop] at this
    have b2 : l.drop (2 * 4) = (l.drop (2 * 4)).take 4 ++ l.drop (3 * 4) := by
      have := (List.take_append_drop 4 (l.drop (2 * 4))).symm
      rwa [List.drop_drop] at this
    have b3 : (l.drop (3 * 4)).take 4 = l.drop (3 * 4) := List.take_of_length_le (by simp [hl])
    have hs : l = (l.drop (0 * 4)).take 4 ++ ((l.drop (1 * 4)).take 4 ++ ((l.drop (2 * 4)).take 4 ++ (l.drop (3 * 4)).take 4)) := by
      rw [b3, ← b2, ← b1]
      exact (List.take_append_drop 4 l).symm
    rw [hs, e0, e1, e2, e3]
    rfl

theorem flds_of_var {W : World} {cs : Array Value} (h : W.var? Tryd.prog fldName = some cs) (hc : cs.toList = fldCells) : Flds W := fun i u hu => by
  rw [World.var?_cell gF h i, ← Array.getElem?_toList, hc]
  exact hu

/-- The door's own heap meets the condition. -/
theorem door_met (os : Os) (args : Array Value) : laidMetH Tryd.prog laidF ((World.doorLaid Tryd.prog 18 os).forCall (fun _ _ => 0) ⟨#[], args, []⟩).memory :=
  laidMetH_of_parts3 (fuel := 8) (laidMet_of_run' 8 (by kernel_rfl) (by kernel_rfl)) (by kernel_rfl) (by kernel_rfl)

/-- The variable, opened and shut: it reads behind the call as it read ahead of it. -/
theorem vars_stay {H : Type} {enc : TypeId × Value → H} {W : World} {gs : List (DataW H)} {q : List MemPlace} (hV : DataW.TrodVars enc Tryd.prog W (fun _ => true) [fldName] gs q) :
    ∃ d, gs = [d] ∧ ∀ W', Below W.heap.size W W' → DataW.TrodVars enc Tryd.prog W' (fun b => decide (b < W.heap.size)) [fldName] [d] q := by
  obtain ⟨g, t, cs, fuel, d, p', rfl, hg, ht, hvar, hd, rfl⟩ := trodVars_one hV
  obtain rfl := Option.some.inj (gF.symm.trans hg)
  obtain rfl := Option.some.inj (tF.symm.trans ht)
  have hlt : 0 < W.heap.size := by
    simp only [World.var?, hg, Option.bind_some] at hvar
    rcases Nat.eq_zero_or_pos W.heap.size with h0 | h0
    · rw [Array.getElem?_eq_none (by omega)] at hvar
      cases hvar
    · exact h0
  refine ⟨d, rfl, fun W' bel => ?_⟩
  have hT : DataW.Trod enc Tryd.prog W 0 (fun _ => true) true 122 (.agg cs) d p' := ⟨fuel, by simpa [Value.cells] using hd⟩
  obtain ⟨f2, h2⟩ := Below.trod laidOut (by kernel_rfl) (of_decide_eq_true (by kernel_rfl)) hT bel (DataW.trod_lt fuel _ _ _ hd)
  exact trodVars_mk1 gF tF (var_below hvar gF bel hlt) (by simpa [Value.cells] using h2)
end Go.Proofs.YtjlkmfijkhjjkaaDoor
namespace Go.Proofs.YtjlkmfijkhjjkaaDoor
set_option maxRecDepth 20000
open Go.RowKit

/-- An answer of a code and a number. -/
def RetIR (r : Int × Int) (w : World) (e : Ending) (w' : World) : Prop :=
  e = .returned (.agg #[.int .i64 r.1, .int .i64 r.2]) ∧ Below w.heap.size w w'

end Go.Proofs.YtjlkmfijkhjjkaaDoor
namespace Go.Proofs.YtjlkmfijkhjjkaaDoor
set_option maxRecDepth 20000
open Go.RowKit

/-- One shift of a sum. -/
def crcS (n : Nat) : Nat := if 65536 ≤ n * 2 then (n * 2 % 65536) ^^^ 4129 else n * 2
def crcK : Nat → Nat → Nat
  | 0, n => n
  | k + 1, n => crcS (crcK k n)
def crcB (n : Nat) (b : UInt8) : Nat := crcK 8 (n ^^^ (b.toNat * 256))
def sumN (l : List UInt8) : Nat := l.foldl crcB 65535

theorem xor16 {a b : Nat} (ha : a < 65536) (hb : b < 65536) : a ^^^ b < 65536 := by
  have := Nat.xor_lt_two_pow (n := 16) (x := a) (y := b) (by omega) (by omega)
  omega
theorem crcS_lt {n : Nat} (h : n < 65536) : crcS n < 65536 := by
  unfold crcS
  split
  · exact xor16 (by omega) (by omega)
  · omega
theorem crcK_lt {n : Nat} (h : n < 65536) : ∀ k, crcK k n < 65536
  | 0 => h
  | k + 1 => crcS_lt (crcK_lt h k)
theorem crcB_lt {n : Nat} (h : n < 65536) (b : UInt8) : crcB n b < 65536 := by
  have := b.toNat_lt
  unfold crcB
  exact crcK_lt (xor16 h (by omega)) 8
theorem fold_lt {n : Nat} (h : n < 65536) (l : List UInt8) : l.foldl crcB n < 65536 := by
  induction l generalizing n with
  | nil => exact h
  | cons b l ih =>
    rw [List.foldl_cons]
    exact ih (crcB_lt h b)
theorem sumN_lt (l : List UInt8) : sumN l < 65536 := by
  exact fold_lt (n := 65535) (by omega) l
theorem sumN_snoc (l : List UInt8) (k : Nat) (x : UInt8) (h : l[k]? = some x) : sumN (l.take (k + 1)) = crcB (sumN (l.take k)) x := by
  have hl := getElem?_some_lt h
  rw [List.take_succ_eq_append_getElem hl]
  rw [List.getElem?_eq_getElem hl] at h
  rw [Option.some.inj h]
  simp [sumN]

theorem ofInt_i64 (a : Nat) (ha : a < 9223372036854775808) : (BitVec.ofInt 64 (a : Int)).toNat = a := by
  rw [BitVec.ofInt_natCast, BitVec.toNat_ofNat]; exact Nat.mod_eq_of_lt (by omega)
theorem i64_xor (a b : Nat) (ha : a < 65536) (hb : b < 65536) : bits .xor .i64 (a : Int) (b : Int) = ((a ^^^ b : Nat) : Int) := by
  have hx := xor16 ha hb
  show IntKind.i64.wrap ((BitVec.ofInt 64 (a : Int) ^^^ BitVec.ofInt 64 (b : Int)).toNat : Int) = _
  rw [BitVec.toNat_xor, ofInt_i64 a (by omega), ofInt_i64 b (by omega), IntKind.wrap_i64]
  omega

/-- The xor of a sum and a byte that is moved up, in the walk's spelling. -/
theorem xor_up (q : Nat) (x : UInt8) (hq : q < 65536) : ∃ y : Nat, y < 65536 ∧ y = q ^^^ (x.toNat * 256) ∧ bits .xor .i64 (q : Int) ((x.toNat : Int) * 256) = (y : Int) := by
  have hx8 := x.toNat_lt
  refine ⟨_, xor16 hq (by omega), rfl, ?_⟩
  have h := i64_xor q (x.toNat * 256) hq (by omega)
  rw [Int.natCast_mul] at h
  exact h
/-- One shift that goes over, in the walk's spelling. -/
theorem xor_over (r : Nat) (hr : r < 65536) (ho : 65536 ≤ r * 2) : ∃ z : Nat, z < 65536 ∧ z = crcS r ∧ bits .xor .i64 ((r : Int) * 2 % 65536) 4129 = (z : Int) := by
  refine ⟨crcS r, crcS_lt hr, rfl, ?_⟩
  have h := i64_xor (r * 2 % 65536) 4129 (by omega) (by omega)
  rw [Int.natCast_emod, Int.natCast_mul] at h
  rw [crcS, if_pos ho]
  exact h
theorem crcS_under (r : Nat) (ho : ¬ 65536 ≤ r * 2) : crcS r = r * 2 := if_neg ho

/-! ### impl -/
theorem and_mask (r : Nat) (hr : r < 65536) : bits .and .i64 ((r : Int) * 2) 65535 = (r : Int) * 2 % 65536 := by
  show IntKind.i64.wrap ((BitVec.ofInt 64 ((r : Int) * 2) &&& BitVec.ofInt 64 65535).toNat : Int) = _
  have o1 : (BitVec.ofInt 64 ((r : Int) * 2)).toNat = r * 2 := by
    have := ofInt_i64 (r * 2) (by omega)
    rw [Int.natCast_mul] at this
    exact this
  have o2 : (BitVec.ofInt 64 65535).toNat = 65535 := by decide
  have o3 : r * 2 &&& 65535 = r * 2 % 65536 := Nat.and_two_pow_sub_one_eq_mod (r * 2) 16
  rw [BitVec.toNat_and, o1, o2, o3, IntKind.wrap_i64]
  omega

/-- What SumOf answers. -/
def sumM (l : List UInt8) : Int × Int := if l.length ≤ 20000 then (0, (sumN l : Nat)) else (2, 0)
theorem sumM_big {l : List UInt8} (h : 20000 < l.length) : sumM l = (2, 0) := if_neg (by omega)
theorem sumM_ok {l : List UInt8} (h : l.length ≤ 20000) : sumM l = (0, ((sumN l : Nat) : Int)) := if_pos h

end Go.Proofs.YtjlkmfijkhjjkaaDoor
/-
  The bytes of a code, read one by one: what a draw answers is within its bounds, and only the reader's own block turns.
-/
namespace Go.Proofs.YtjlkmfijkhjjkaaDoor
set_option maxRecDepth 20000
open Go.RowKit

/-- A reader of the bytes 'l' at the place 'k'; its bytes lie below 'base', its block from there on. -/
structure Src (w : World) (base g : Nat) (A : Option Addr) (n c k : Nat) (l : List UInt8) : Prop where
  at_ : At w g 100 #[.slice A n c, .int .i64 (k : Nat)]
  rd : Rd eB w base A l
  len : l.length = n
  big : n ≤ 1048576
  low : base ≤ g

/-- A number of a draw. -/
def RetDraw (base g : Nat) (A : Option Addr) (m c k : Nat) (l : List UInt8) (n : Int) (w : World) (e : Ending) (w' : World) : Prop :=
  ∃ r : Int, e = .returned (.int .i64 r) ∧ (1 ≤ n → 0 ≤ r ∧ r < n) ∧ (n < 1 → r = 0) ∧ Src w' base g A m c (k + 1) l ∧ Within g (g + 1) w w' ∧ w'.heap.size = w.heap.size

theorem src_next {w : World} {base g n c k : Nat} {A : Option Addr} {l : List UInt8} (h : Src w base g A n c k l) (v : Int) (hv : v = ((k + 1 : Nat) : Int)) (d : Nat) :
    Src ((w.setCell ⟨g, 1, none⟩ (.int .i64 v)).drewN d) base g A n c (k + 1) l ∧ Within g (g + 1) w ((w.setCell ⟨g, 1, none⟩ (.int .i64 v)).drewN d) ∧ ((w.setCell ⟨g, 1, none⟩ (.int .i64 v)).drewN d).heap.size = w.heap.size := by
  subst hv
  refine ⟨⟨by simpa using (h.at_.set 1 _).drewN d, ?_, h.len, h.big, h.low⟩, ?_, by simp [World.setCell, World.drewN]⟩
  · exact (h.rd.keep fun p hp => World.cell?_setCell_other w _ _ _ (by intro e; subst e; have := h.low; simp at hp; omega)).drewN d
  · have := grown_setCell w ⟨g, 1, none⟩ (.int .i64 ((k + 1 : Nat) : Int))
    have h2 := within_of (lo := g) (hi := g + 1) this (fun x e => by simp at e; omega)
    exact ⟨h2.os, h2.tape, h2.output, h2.size, h2.block⟩

theorem l1Next_none (w : World) (base g : Nat) (A : Option Addr) (m c k : Nat) (l : List UInt8) (n : Int) (h : Src w base g A m c k l) (hk : k < 1073741824) (hn : n < 1) :
    Calls Tryd.prog 50 #[.pointer (some ⟨g, 0, none⟩), .int .i64 n] w (RetDraw base g A m c k l n w) := by
  obtain ⟨r0, r1, f0, f1⟩ := h.at_.two
  go_enter Tryd.func50, Tryd.ntmps50
  go_wp2
  go_ret
  exact ⟨0, rfl, fun h => absurd h (by omega), fun _ => rfl, src_next h _ (by omega) 0⟩

set_option maxHeartbeats 800000 in
theorem l1Next_zero (w : World) (base g : Nat) (A : Option Addr) (m c k : Nat) (l : List UInt8) (n : Int) (h : Src w base g A m c k l) (hk : k < 1073741824) (hn : 1 ≤ n) (h0 : m = 0) :
    Calls Tryd.prog 50 #[.pointer (some ⟨g, 0, none⟩), .int .i64 n] w (RetDraw base g A m c k l n w) := by
  obtain ⟨r0, r1, f0, f1⟩ := h.at_.two
  have h1 := (src_next h ((k : Int) + 1) (by omega) 0).1
  obtain ⟨s0, s1, _, _⟩ := h1.at_.two
  subst h0
  simp only [show ∀ x : World, x.drewN 0 = x from fun x => rfl] at s0 s1
  push_cast at s1
  have m0 : 0 ≤ ((k : Int) * 7) % n := Int.emod_nonneg _ (by omega)
  have m1 : ((k : Int) * 7) % n < n := Int.emod_lt_of_pos _ (by omega)
  go_enter Tryd.func50, Tryd.ntmps50
  go_wp2
  go_ret
  exact ⟨_, rfl, fun _ => ⟨m0, m1⟩, fun h => absurd h (by omega), src_next h _ (by omega) 0⟩

set_option maxHeartbeats 800000 in
theorem l1Next_small (w : World) (base g : Nat) (A : Option Addr) (m c k : Nat) (l : List UInt8) (n : Int) (h : Src w base g A m c k l) (hk : k < 1073741824) (hn : 1 ≤ n) (h2 : n ≤ 200) (h0 : m ≠ 0) :
    Calls Tryd.prog 50 #[.pointer (some ⟨g, 0, none⟩), .int .i64 n] w (RetDraw base g A m c k l n w) := by
  obtain ⟨r0, r1, f0, f1⟩ := h.at_.two
  have h1 := (src_next h ((k : Int) + 1) (by omega) 0).1
  obtain ⟨s0, s1, _, _⟩ := h1.at_.two
  have hlt : k % m < m := Nat.mod_lt _ (by omega)
  obtain ⟨g', o', x, rfl, hg', _, ca⟩ := h1.rd.byte (k := k % m) (by rw [h.len]; exact hlt)
  simp only [show ∀ x : World, x.drewN 0 = x from fun x => rfl] at s0 s1 ca
  push_cast at s1
  have hbig := h.big
  have hx := x.toNat_lt
  have hm1 : (1 : Int) ≤ (m : Int) := by omega
  have i0 : 0 ≤ (k : Int) % (m : Int) := Int.emod_nonneg _ (by omega)
  have i1 : (k : Int) % (m : Int) < (m : Int) := Int.emod_lt_of_pos _ (by omega)
  have q0 : 0 ≤ (k : Int) / (m : Int) := Int.ediv_nonneg (by omega) (by omega)
  have q1 : (k : Int) / (m : Int) ≤ (k : Int) := Int.ediv_le_self _ (by omega)
  have m0 : 0 ≤ ((x.toNat : Int) + (k : Int) / (m : Int) * 37) % n := Int.emod_nonneg _ (by omega)
  have m1 : ((x.toNat : Int) + (k : Int) / (m : Int) * 37) % n < n := Int.emod_lt_of_pos _ (by omega)
  go_enter Tryd.func50, Tryd.ntmps50
  go_wp2
  go_quiet (fail)
  go_wp2
  go_ret
  exact ⟨_, rfl, fun _ => ⟨m0, m1⟩, fun h => absurd h (by omega), src_next h _ (by omega) _⟩

set_option maxHeartbeats 1600000 in
theorem l1Next_mid (w : World) (base g : Nat) (A : Option Addr) (m c k : Nat) (l : List UInt8) (n : Int) (h : Src w base g A m c k l) (hk : k < 1073741824) (h2 : 200 < n) (h3 : n ≤ 60000) (h0 : m ≠ 0) :
    Calls Tryd.prog 50 #[.pointer (some ⟨g, 0, none⟩), .int .i64 n] w (RetDraw base g A m c k l n w) := by
  obtain ⟨r0, r1, f0, f1⟩ := h.at_.two
  have h1 := (src_next h ((k : Int) + 1) (by omega) 0).1
  obtain ⟨s0, s1, _, _⟩ := h1.at_.two
  have hlt : k % m < m := Nat.mod_lt _ (by omega)
  have hlt2 : (k + 1) % m < m := Nat.mod_lt _ (by omega)
  obtain ⟨g', o', x, rfl, hg', _, ca⟩ := h1.rd.byte (k := k % m) (by rw [h.len]; exact hlt)
  obtain ⟨g'', o'', y, e, _, _, cb⟩ := h1.rd.byte (k := (k + 1) % m) (by rw [h.len]; exact hlt2)
  simp only [Option.some.injEq, Addr.mk.injEq, and_true] at e
  obtain ⟨rfl, rfl⟩ := e
  simp only [show ∀ x : World, x.drewN 0 = x from fun x => rfl] at s0 s1 ca cb
  push_cast at s1
  have hbig := h.big
  have hx := x.toNat_lt
  have hy := y.toNat_lt
  have hm1 : (1 : Int) ≤ (m : Int) := by omega
  have i0 : 0 ≤ (k : Int) % (m : Int) := Int.emod_nonneg _ (by omega)
  have i1 : (k : Int) % (m : Int) < (m : Int) := Int.emod_lt_of_pos _ (by omega)
  have j0 : 0 ≤ ((k : Int) + 1) % (m : Int) := Int.emod_nonneg _ (by omega)
  have j1 : ((k : Int) + 1) % (m : Int) < (m : Int) := Int.emod_lt_of_pos _ (by omega)
  have q0 : 0 ≤ (k : Int) / (m : Int) := Int.ediv_nonneg (by omega) (by omega)
  have q1 : (k : Int) / (m : Int) ≤ (k : Int) := Int.ediv_le_self _ (by omega)
  have m0 : 0 ≤ (((x.toNat : Int) + (k : Int) / (m : Int) * 37) * 251 + (y.toNat : Int) * 13 + (k : Int)) % n := Int.emod_nonneg _ (by omega)
  have m1 : (((x.toNat : Int) + (k : Int) / (m : Int) * 37) * 251 + (y.toNat : Int) * 13 + (k : Int)) % n < n := Int.emod_lt_of_pos _ (by omega)
  go_enter Tryd.func50, Tryd.ntmps50
  go_wp2
  go_quiet (fail)
  go_wp2
  go_quiet (fail)
  go_wp2
  go_ret
  exact ⟨_, rfl, fun _ => ⟨m0, m1⟩, fun h => absurd h (by omega), src_next h _ (by omega) _⟩

theorem l1Next (w : World) (base g : Nat) (A : Option Addr) (m c k : Nat) (l : List UInt8) (n : Int) (h : Src w base g A m c k l) (hk : k < 1073741824) (h3 : n ≤ 60000) :
    Calls Tryd.prog 50 #[.pointer (some ⟨g, 0, none⟩), .int .i64 n] w (RetDraw base g A m c k l n w) := by
  by_cases h1 : n < 1
  · exact l1Next_none w base g A m c k l n h hk h1
  · by_cases h0 : m = 0
    · exact l1Next_zero w base g A m c k l n h hk (by omega) h0
    · by_cases h2 : n ≤ 200
      · exact l1Next_small w base g A m c k l n h hk (by omega) h2 h0
      · exact l1Next_mid w base g A m c k l n h hk (by omega) h3 h0

/-- A new reader of a code. -/
theorem l1Source (A : Option Addr) (m c : Nat) (l : List UInt8) (w : World) (ha : Rd eB w w.heap.size A l) (hn : l.length = m) (hm : m ≤ 1048576) :
    Calls Tryd.prog 38 #[.slice A m c] w fun e w' => e = .returned (.pointer (some ⟨w.heap.size, 0, none⟩)) ∧ Src w' w.heap.size w.heap.size A m c 0 l ∧ Below w.heap.size w w' ∧ w'.heap.size = w.heap.size + 1 := by
  go_enter Tryd.func38, Tryd.ntmps38
  go_wp2
  go_ret
  exact ⟨rfl, ⟨At.new _ _ _, ha.alloc (Nat.le_refl _) _, hn, hm, Nat.le_refl _⟩, (Below.refl _ _).alloc (Nat.le_refl _) _, by simp⟩

/-- One chance out of so many. -/
theorem l1Chance (w : World) (base g : Nat) (A : Option Addr) (m c k : Nat) (l : List UInt8) (n : Int) (h : Src w base g A m c k l) (hk : k < 1073741824) (h3 : n ≤ 60000) :
    Calls Tryd.prog 49 #[.pointer (some ⟨g, 0, none⟩), .int .i64 n] w fun e w' => ∃ b : Bool, e = .returned (.bool b) ∧ Src w' base g A m c (k + 1) l ∧ Within g (g + 1) w w' ∧ w'.heap.size = w.heap.size := by
  go_enter Tryd.func49, Tryd.ntmps49
  go_wp2_with (go_at_call 50; refine (l1Next w base g A m c k l n h hk h3).mono ?_; rintro e w1 ⟨r, rfl, _, _, h1⟩)
  go_ret
  exact ⟨_, rfl, h1⟩
end Go.Proofs.YtjlkmfijkhjjkaaDoor
namespace Go.Proofs.YtjlkmfijkhjjkaaDoor
set_option maxRecDepth 20000
open Go.RowKit

/-- The length and the body. -/
def frontL (b : List UInt8) : List UInt8 := UInt8.ofNat b.length :: b
/-- The sum, the higher byte first. -/
def sumL (f : List UInt8) : List UInt8 := [UInt8.ofNat (sumN f / 256), UInt8.ofNat (sumN f)]
def frameL (b : List UInt8) : List UInt8 := frontL b ++ sumL (frontL b)
theorem frameL_len (b : List UInt8) : (frameL b).length = b.length + 3 := by simp [frameL, frontL, sumL]

theorem byte_num' (n : Nat) : ((UInt8.ofNat n).toNat : Int) = (n : Int) % 256 := by
  rw [UInt8.toNat_ofNat']
  omega
theorem byte_small {n : Nat} (h : n < 256) : ((UInt8.ofNat n).toNat : Int) = (n : Int) := by rw [byte_num']; omega

/-- One byte laid in a block. -/
theorem ow_one (w : World) (b : UInt8) (v : Int) (hv : v = (b.toNat : Int)) : Ow eB (w.alloc (.cells #[.int .u8 v] 5)) w.heap.size (some ⟨w.heap.size, 0, none⟩) 1 1 [b] :=
  Ow.lit w [b] _ 1 (Nat.le_refl _) (by unfold maxLen; omega) (by simp [Enc.row, eB, hv]) rfl
theorem ow_two (w : World) (a b : UInt8) (u v : Int) (hu : u = (a.toNat : Int)) (hv : v = (b.toNat : Int)) : Ow eB (w.alloc (.cells #[.int .u8 u, .int .u8 v] 5)) w.heap.size (some ⟨w.heap.size, 0, none⟩) 2 2 [a, b] :=
  Ow.lit w [a, b] _ 2 (Nat.le_refl _) (by unfold maxLen; omega) (by simp [Enc.row, eB, hu, hv]) rfl

end Go.Proofs.YtjlkmfijkhjjkaaDoor
/-
  Draws that pick out of a list, and that draw bytes.
-/
namespace Go.Proofs.YtjlkmfijkhjjkaaDoor
set_option maxRecDepth 20000
open Go.RowKit

def intCells (xs : List Int) : Array Value := (xs.map (Value.int .i64)).toArray
theorem intCells_at {xs : List Int} {j : Nat} {v : Int} (h : xs[j]? = some v) : (intCells xs)[j]? = some (.int .i64 v) := by
  simp [intCells, h]

theorem pick_cell {w w1 : World} {b g : Nat} {xs : List Int} (hb : At w b 2 (intCells xs)) (hw : Within g (g + 1) w w1) (hne : b ≠ g) {j : Nat} (hj : j < xs.length) :
    ∃ v, w1.cell? ⟨b, j, none⟩ = some (.int .i64 v) ∧ v ∈ xs := by
  have hb1 := hb.within hw (by omega)
  exact ⟨xs[j], (hb1.cell j).trans (intCells_at (List.getElem?_eq_getElem hj)), List.getElem_mem hj⟩
theorem cell_heap {w w' : World} {p : Addr} (h : w'.heap[p.block]? = w.heap[p.block]?) : w'.cell? p = w.cell? p := by
  unfold World.cell?
  rw [h]
theorem Src.within {w w' : World} {base g n c k lo hi : Nat} {A : Option Addr} {l : List UInt8} (h : Src w base g A n c k l) (hw : Within lo hi w w') (hlo : g < lo) : Src w' base g A n c k l :=
  ⟨h.at_.within hw (.inl hlo), h.rd.keep fun p hp => cell_heap (hw.block _ (by have := h.low; have := h.at_.lt; omega) (by have := h.low; omega)), h.len, h.big, h.low⟩
theorem Src.below {w w' : World} {B base g n c k : Nat} {A : Option Addr} {l : List UInt8} (h : Src w base g A n c k l) (hw : Below B w w') (hB : g < B) : Src w' base g A n c k l :=
  ⟨h.at_.below hw hB, h.rd.below hw (by have := h.low; omega), h.len, h.big, h.low⟩
theorem Src.grown {w w' : World} {row : Option Nat} {base g n c k : Nat} {A : Option Addr} {l : List UInt8} (h : Src w base g A n c k l) (hb : w.grownBy w' row) (hr : ∀ x, row = some x → g < x) : Src w' base g A n c k l :=
  ⟨h.at_.grown hb (fun e => by have := hr _ e; omega), h.rd.keep fun p hp => cell_heap (hb.block _ (by have := h.low; have := h.at_.lt; omega) (fun e => by have := hr _ e.symm; have := h.low; omega)), h.len, h.big, h.low⟩
theorem Within.push {a b w : World} {lo hi : Nat} {row : Option Nat} (h : Within lo hi w a) (hb : a.grownBy b row) (hr : ∀ g, row = some g → w.heap.size ≤ g) : Within lo hi w b :=
  ⟨hb.os.trans h.os, hb.tape.trans h.tape, hb.output.trans h.output, Nat.le_trans h.size hb.size, fun k hk hne => (hb.block k (Nat.lt_of_lt_of_le hk h.size) (fun e => by have := hr k e.symm; omega)).trans (h.block k hk hne)⟩
theorem Within.alloc {a w : World} {lo hi : Nat} (h : Within lo hi w a) (o : Obj) : Within lo hi w (a.alloc o) := h.trans (Within.of_below ((Below.refl _ _).alloc (Nat.le_refl _) o))

/-- One out of a list of numbers that was just laid. -/
theorem l1Pick (w : World) (base g : Nat) (A : Option Addr) (m c k : Nat) (l : List UInt8) (b : Nat) (cs : Array Value) (xs : List Int) (n c' : Nat) (h : Src w base g A m c k l) (hk : k < 1073741824)
    (hb : At w b 2 cs) (hcs : cs = intCells xs) (hne : b ≠ g) (hn : xs.length = n) (h1 : 1 ≤ n) (h3 : n ≤ 60000) :
    Calls Tryd.prog 40 #[.pointer (some ⟨g, 0, none⟩), .slice (some ⟨b, 0, none⟩) n c'] w fun e w' => ∃ v : Int, v ∈ xs ∧ e = .returned (.int .i64 v) ∧ Src w' base g A m c (k + 1) l ∧ Within g (g + 1) w w' ∧ w'.heap.size = w.heap.size := by
  subst hcs
  have Hn := Lib.hid hn
  clear hn
  go_enter Tryd.func40, Tryd.ntmps40
  go_wp2_with (go_at_call 50; refine (l1Next w base g A m c k l n h hk (by omega)).mono ?_; rintro e w1 ⟨r, rfl, hr, _, h1⟩; obtain ⟨hr0, hr1⟩ := hr (by omega); obtain ⟨j, rfl⟩ := Int.eq_ofNat_of_zero_le hr0; obtain ⟨v, hv, hx⟩ := pick_cell hb h1.2.1 hne (show j < xs.length by rw [Hn.out]; omega))
  go_ret
  exact ⟨_, hx, rfl, h1⟩

/-- What the rounds of l1Some have drawn. -/
def SomeRel (base g : Nat) (A : Option Addr) (m c k : Nat) (l : List UInt8) (n : Nat) (w : World) (vn out : Value) (wr : World) : Prop :=
  ∃ (j : Nat) (A' : Option Addr) (c' : Nat) (xs : List UInt8), j ≤ n ∧ vn = .int .i64 ((n : Int) - (j : Int)) ∧ out = .slice A' j c' ∧ Ow eB wr w.heap.size A' j c' xs ∧ Src wr base g A m c (k + j) l ∧ Within g (g + 1) w wr

end Go.Proofs.YtjlkmfijkhjjkaaDoor
/-
  The law's draws of arguments.
-/
namespace Go.Proofs.YtjlkmfijkhjjkaaDoor
set_option maxRecDepth 20000
open Go.RowKit

/-- Bytes of the draw's own. -/
def RetOwn (N : Nat) (w : World) (e : Ending) (w' : World) : Prop :=
  ∃ (A : Option Addr) (n c : Nat) (xs : List UInt8), e = .returned (.slice A n c) ∧ n ≤ N ∧ Ow eB w' w.heap.size A n c xs ∧ Below w.heap.size w w'

/-- Two numbers of a draw. -/
def RetInts (w : World) (e : Ending) (w' : World) : Prop :=
  ∃ a b : Int, e = .returned (.tuple #[.int .i64 a, .int .i64 b]) ∧ a ≤ 9223372036854775807 ∧ Below w.heap.size w w'
/-- Bytes of the draw's own, and two numbers. -/
def RetOwnInts (N : Nat) (w : World) (e : Ending) (w' : World) : Prop :=
  ∃ (A : Option Addr) (n c : Nat) (xs : List UInt8) (a b : Int), e = .returned (.tuple #[.slice A n c, .int .i64 a, .int .i64 b]) ∧ n ≤ N ∧ Ow eB w' w.heap.size A n c xs ∧ Below w.heap.size w w'

theorem pick_le {xs : List Int} {v : Int} (h : v ∈ xs) (ha : (xs.all fun x => decide (x ≤ 9223372036854775807)) = true) : v ≤ 9223372036854775807 := by
  have := List.all_eq_true.1 ha v h
  simpa using this
theorem Ow.past {α : Type} {E : Enc α} {w w' : World} {base n c lo hi : Nat} {A : Option Addr} {l : List α} (h : Ow E w base A n c l) (k : Within lo hi w w') (hd : hi ≤ base) : Ow E w' base A n c l := h.within k h.lt (.inr hd)
theorem pick_nat {xs : List Int} {v : Int} (N : Nat) (h : v ∈ xs) (ha : (xs.all fun x => decide (0 ≤ x ∧ x ≤ (N : Int))) = true) : ∃ q : Nat, v = (q : Int) ∧ q ≤ N := by
  have := List.all_eq_true.1 ha v h
  simp only [decide_eq_true_eq] at this
  exact ⟨v.toNat, by omega, by omega⟩
theorem Src.alloc {w : World} {base g n c k : Nat} {A : Option Addr} {l : List UInt8} (h : Src w base g A n c k l) (o : Obj) : Src (w.alloc o) base g A n c k l := h.below ((Below.refl _ _).alloc (Nat.le_refl _) o) h.at_.lt

end Go.Proofs.YtjlkmfijkhjjkaaDoor
