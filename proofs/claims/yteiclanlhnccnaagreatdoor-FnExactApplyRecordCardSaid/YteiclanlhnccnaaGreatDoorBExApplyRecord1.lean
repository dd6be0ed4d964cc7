/-
  Texts of one proof, joined: each has its own namespace.
-/
import Derived.Test.YteiclanlhnccnaaGreatDoorBExApplyRecord0
import Derived.OpenShut
import Derived.ChangeOld
import Derived.Test.YteiclanlhnccnaaGreatDoorTie
import Derived.LaidMore
import Derived.ChangeVars
import Derived.SevenTiedAt
/-
  A sample's bounds: SampleFault on both sides, and the table of fields that the program reads.
-/
namespace Go.Proofs.YteiclanlhnccnaaGreatDoor
set_option maxRecDepth 20000
open Go.RowKit

/-- The table's cells. -/
def fldCells : List Value := [.int .i64 0, .int .i64 1, .int .i64 0, .int .i64 9, .int .i64 1, .int .i64 2, .int .i64 0, .int .i64 999, .int .i64 3, .int .i64 2, .int .i64 0, .int .i64 9999, .int .i64 5, .int .i64 2, .int .i64 (-1000), .int .i64 1000]
/-- The program's table of fields, as start-up laid it. -/
def Flds (w : World) : Prop := ∀ (i : Nat) (u : Value), fldCells[i]? = some u → w.cell? ⟨1, i, none⟩ = some u
theorem Flds.pos {w : World} (h : Flds w) : 1 < w.heap.size := World.block_lt_of_cell? w ⟨1, 0, none⟩ (h 0 _ rfl)
theorem Flds.below {w w' : World} (h : Flds w) (hb : Below w.heap.size w w') : Flds w' := fun i u hu => by
  rw [hb.cell (p := ⟨1, i, none⟩) h.pos]
  exact h i u hu
theorem Flds.all {w : World} (h : Flds w) : w.cell? ⟨1, 0, none⟩ = some (.int .i64 0) ∧ w.cell? ⟨1, 1, none⟩ = some (.int .i64 1) ∧ w.cell? ⟨1, 2, none⟩ = some (.int .i64 0) ∧ w.cell? ⟨1, 3, none⟩ = some (.int .i64 9) ∧ w.cell? ⟨1, 4, none⟩ = some (.int .i64 1) ∧ w.cell? ⟨1, 5, none⟩ = some (.int .i64 2) ∧ w.cell? ⟨1, 6, none⟩ = some (.int .i64 0) ∧ w.cell? ⟨1, 7, none⟩ = some (.int .i64 999) ∧ w.cell? ⟨1, 8, none⟩ = some (.int .i64 3) ∧ w.cell? ⟨1, 9, none⟩ = some (.int .i64 2) ∧ w.cell? ⟨1, 10, none⟩ = some (.int .i64 0) ∧ w.cell? ⟨1, 11, none⟩ = some (.int .i64 9999) ∧ w.cell? ⟨1, 12, none⟩ = some (.int .i64 5) ∧ w.cell? ⟨1, 13, none⟩ = some (.int .i64 2) ∧ w.cell? ⟨1, 14, none⟩ = some (.int .i64 (-1000)) ∧ w.cell? ⟨1, 15, none⟩ = some (.int .i64 1000) :=
  ⟨h 0 _ rfl, h 1 _ rfl, h 2 _ rfl, h 3 _ rfl, h 4 _ rfl, h 5 _ rfl, h 6 _ rfl, h 7 _ rfl, h 8 _ rfl, h 9 _ rfl, h 10 _ rfl, h 11 _ rfl, h 12 _ rfl, h 13 _ rfl, h 14 _ rfl, h 15 _ rfl⟩

/-- An answer of a code and a sample. -/
def RetSR (r : Int × Smp) (w : World) (e : Ending) (w' : World) : Prop :=
  e = .returned (.agg #[.int .i64 r.1, .int .i64 r.2.1, .int .i64 r.2.2.1, .int .i64 r.2.2.2.1, .int .i64 r.2.2.2.2]) ∧ Below w.heap.size w w'
def RetS (r : Smp) (w : World) (e : Ending) (w' : World) : Prop :=
  e = .returned (.agg #[.int .i64 r.1, .int .i64 r.2.1, .int .i64 r.2.2.1, .int .i64 r.2.2.2]) ∧ Below w.heap.size w w'

theorem At.five {w : World} {g : Nat} {t : TypeId} {a b c d e : Value} (h : At w g t #[a, b, c, d, e]) : w.cell? ⟨g, 0, none⟩ = some a ∧ w.cell? ⟨g, 1, none⟩ = some b ∧ w.cell? ⟨g, 2, none⟩ = some c ∧ w.cell? ⟨g, 3, none⟩ = some d ∧ w.cell? ⟨g, 4, none⟩ = some e ∧ w.frozen? ⟨g, 0, none⟩ = false ∧ w.frozen? ⟨g, 1, none⟩ = false ∧ w.frozen? ⟨g, 2, none⟩ = false ∧ w.frozen? ⟨g, 3, none⟩ = false ∧ w.frozen? ⟨g, 4, none⟩ = false :=
  ⟨h.cell 0, h.cell 1, h.cell 2, h.cell 3, h.cell 4, h.frozen 0, h.frozen 1, h.frozen 2, h.frozen 3, h.frozen 4⟩

def bndsM (x : Smp) : List (Int × Int × Int) := [(x.1, 0, 9), (x.2.1, 0, 999), (x.2.2.1, 0, 9999), (x.2.2.2, -1000, 1000)]
def faultM (x : Smp) : Int := if (bndsM x).all inB then 0 else 3

theorem numbersOf (a0 a1 a2 a3 : Int) (w : World) :
    Calls Tryz.prog 127 #[.agg #[.int .i64 a0, .int .i64 a1, .int .i64 a2, .int .i64 a3]] w fun e w' => e = .returned (.agg #[.int .i64 a0, .int .i64 a1, .int .i64 a2, .int .i64 a3]) ∧ Below w.heap.size w w' := by
  go_enter Tryz.func127, Tryz.ntmps127
  go_wp2
  refine bodyPost_ret (v := .agg #[.int .i64 a0, .int .i64 a1, .int .i64 a2, .int .i64 a3]) (by simp [results, Tryz.results127, go_sem]) rfl ?_
  exact ⟨rfl, ((Below.refl _ _).alloc (Nat.le_refl _) _).alloc (by simp) _⟩

def FaultRel (w : World) (x : Smp) (i : Value) (wr : World) : Prop :=
  ∃ k : Nat, k ≤ 4 ∧ i = .int .i64 k ∧ (∀ j b, j < k → (bndsM x)[j]? = some b → inB b = true) ∧ Below w.heap.size w wr
theorem fault_no {x : Smp} {k : Nat} {b : Int × Int × Int} (h : (bndsM x)[k]? = some b) (hb : inB b = false) : faultM x = 3 := by
  unfold faultM
  rw [all_no h hb]
  rfl
theorem fault_yes {x : Smp} (h : ∀ j b, j < 4 → (bndsM x)[j]? = some b → inB b = true) : faultM x = 0 := by
  unfold faultM
  rw [all_yes (n := 4) rfl h]
  rfl
theorem faultM_or (x : Smp) : faultM x = 0 ∨ faultM x = 3 := by
  unfold faultM
  split
  · exact .inl rfl
  · exact .inr rfl
theorem bnds_one_drew {w : World} {t : TypeId} {x lo hi : Int} {g : Nat} (hg : w.heap.size = g) : Bnds ((w.alloc (.cells #[.int .i64 x, .int .i64 lo, .int .i64 hi] t)).drew) g [(x, lo, hi)] := bnds_one (w := w) (t := t) hg
theorem fldAt0 (u : World) : (Instr.index 175 (.agg #[.int .i64 0, .int .i64 1, .int .i64 0, .int .i64 9, .int .i64 1, .int .i64 2, .int .i64 0, .int .i64 999, .int .i64 3, .int .i64 2, .int .i64 0, .int .i64 9999, .int .i64 5, .int .i64 2, .int .i64 (-1000), .int .i64 1000]) (.int .i64 0)).run Tryz.prog u = .ok (.agg #[.int .i64 0, .int .i64 1, .int .i64 0, .int .i64 9]) u := by kernel_rfl
theorem fldAt1 (u : World) : (Instr.index 175 (.agg #[.int .i64 0, .int .i64 1, .int .i64 0, .int .i64 9, .int .i64 1, .int .i64 2, .int .i64 0, .int .i64 999, .int .i64 3, .int .i64 2, .int .i64 0, .int .i64 9999, .int .i64 5, .int .i64 2, .int .i64 (-1000), .int .i64 1000]) (.int .i64 1)).run Tryz.prog u = .ok (.agg #[.int .i64 1, .int .i64 2, .int .i64 0, .int .i64 999]) u := by kernel_rfl
theorem fldAt2 (u : World) : (Instr.index 175 (.agg #[.int .i64 0, .int .i64 1, .int .i64 0, .int .i64 9, .int .i64 1, .int .i64 2, .int .i64 0, .int .i64 999, .int .i64 3, .int .i64 2, .int .i64 0, .int .i64 9999, .int .i64 5, .int .i64 2, .int .i64 (-1000), .int .i64 1000]) (.int .i64 2)).run Tryz.prog u = .ok (.agg #[.int .i64 3, .int .i64 2, .int .i64 0, .int .i64 9999]) u := by kernel_rfl
theorem fldAt3 (u : World) : (Instr.index 175 (.agg #[.int .i64 0, .int .i64 1, .int .i64 0, .int .i64 9, .int .i64 1, .int .i64 2, .int .i64 0, .int .i64 999, .int .i64 3, .int .i64 2, .int .i64 0, .int .i64 9999, .int .i64 5, .int .i64 2, .int .i64 (-1000), .int .i64 1000]) (.int .i64 3)).run Tryz.prog u = .ok (.agg #[.int .i64 5, .int .i64 2, .int .i64 (-1000), .int .i64 1000]) u := by kernel_rfl

set_option maxRecDepth 100000 in
set_option maxHeartbeats 2000000 in
theorem implSampleFault (a0 a1 a2 a3 : Int) (w : World) (hF : Flds w) :
    Calls Tryz.prog 69 #[.agg #[.int .i64 a0, .int .i64 a1, .int .i64 a2, .int .i64 a3]] w fun e w' => e = .returned (.int .i64 (faultM (a0, a1, a2, a3))) ∧ Below w.heap.size w w' := by
  have hA0 : Below w.heap.size w (w.alloc (.cells #[.int .i64 a0, .int .i64 a1, .int .i64 a2, .int .i64 a3] 25)) := (Below.refl _ _).alloc (Nat.le_refl _) _
  go_enter Tryz.func69, Tryz.ntmps69
  go_wp2_with fail
  refine (numbersOf a0 a1 a2 a3 _).mono ?_
  rintro e w1 ⟨rfl, hb1⟩
  have hB1 : Below w.heap.size w w1 := hA0.trans (hb1.mono hA0.size)
  have hp1 := (hF.below hB1).pos
  obtain ⟨c0, c1, c2, c3, c4, c5, c6, c7, c8, c9, c10, c11, c12, c13, c14, c15⟩ := (hF.below hB1).all
  have hN := At.new w1 171 #[.int .i64 a0, .int .i64 a1, .int .i64 a2, .int .i64 a3]
  have hS2 : (w1.alloc (.cells #[.int .i64 a0, .int .i64 a1, .int .i64 a2, .int .i64 a3] 171)).heap.size = w1.heap.size + 1 := by simp
  have hB2 : Below w.heap.size w (w1.alloc (.cells #[.int .i64 a0, .int .i64 a1, .int .i64 a2, .int .i64 a3] 171)) := hB1.alloc hB1.size _
  go_wp2_with fail
  clear c0 c1 c2 c3 c4 c5 c6 c7 c8 c9 c10 c11 c12 c13 c14 c15
  go_loopw [9] (fun i wr => FaultRel (w1.alloc (.cells #[.int .i64 a0, .int .i64 a1, .int .i64 a2, .int .i64 a3] 171)) (a0, a1, a2, a3) i wr) (fun i _ => 4 - (intOf i).toNat)
  case atStart => exact ⟨0, by omega, rfl, fun _ _ h => absurd h (by omega), Below.refl _ _⟩
  case round =>
    obtain ⟨k, hk, rfl, hal, hbel⟩ := hrel
    have Hal := Lib.hid hal
    clear hal
    have hsz := hbel.size
    have hN' := hN.below hbel (by simp)
    obtain ⟨n0, n1, n2, n3, _, _, _, _⟩ := hN'.four
    have hlt := hN'.lt
    rw [hS2] at hsz
    rcases (show k = 0 ∨ k = 1 ∨ k = 2 ∨ k = 3 ∨ k = 4 by omega) with rfl | rfl | rfl | rfl | rfl
    · have Hb := Lib.hid (show (bndsM (a0, a1, a2, a3))[0]? = some (a0, 0, 9) from rfl)
      have hidx := fldAt0 wr
      go_wp2
      refine wp_region_mix [(0, false), (1, false), (2, false), (3, false), (4, false), (5, false), (6, false), (7, false), (8, true), (9, true), (10, false)] (fun u => u.cell? ⟨w1.heap.size, 0, none⟩ = some (.int .i64 a0) ∧ u.cell? ⟨wr.heap.size, 2, none⟩ = some (.int .i64 0) ∧ u.cell? ⟨wr.heap.size, 3, none⟩ = some (.int .i64 9)) (by kernel_rfl) (by kernel_rfl) (fun _ _ _ _ _ h => h) (by go_simp) ?_
      simp only [mixOps, List.map_cons, List.map_nil, List.getElem?_cons_succ, List.getElem?_cons_zero, Option.getD_some]
      repeat (first
        | (refine mix_skip (by rfl) ?_
           (try simp only [Act.put, List.setIfInBounds_toArray, List.set_cons_zero, List.set_cons_succ]))
        | (refine mix_pure (v := ?_) (by rfl) (fun u hu => ?_) ?_
           rotate_left
           · obtain ⟨_, _, _⟩ := hu
             go_simp
             (with_reducible rfl)
           (try simp only [Act.put, List.setIfInBounds_toArray, List.set_cons_zero, List.set_cons_succ])))
      refine mix_call (by rfl) (fun K hK => ?_)
      go_simp
      refine hK _ _ _ (fun _ h => h) (by go_simp) ?_
      (try simp only [Act.put, List.setIfInBounds_toArray, List.set_cons_zero, List.set_cons_succ])
      refine mix_call (by rfl) (fun K hK => ?_)
      go_simp
      refine (areWithin_any _ _ _ [(a0, 0, 9)] _ (bnds_one_drew (by simp)) (by simp) rfl (by simp)).mono ?_
      rintro e w2 ⟨rfl, hb2⟩
      have HA := hbel.alloc hbel.size (.cells #[.int .i64 0, .int .i64 1, .int .i64 0, .int .i64 9] 174)
      have HC := (HA.alloc HA.size (.cells #[.int .i64 a0, .int .i64 0, .int .i64 9] 113)).drew
      have HD := HC.trans (hb2.mono HC.size)
      refine hK _ _ _ (fun _ h => h) ⟨(hb2.cell (p := ⟨w1.heap.size, 0, none⟩) (by simp; omega)).trans (by go_simp), (hb2.cell (p := ⟨wr.heap.size, 2, none⟩) (by simp; omega)).trans (by go_simp), (hb2.cell (p := ⟨wr.heap.size, 3, none⟩) (by simp; omega)).trans (by go_simp)⟩ ?_
      (try simp only [Act.put, List.setIfInBounds_toArray, List.set_cons_zero, List.set_cons_succ])
      by_cases hin : inB (a0, 0, 9) = true
      · have hq : [(a0, 0, 9)].all inB = true := by simp [hin]
        rw [hq]
        have Hin := Lib.hid hin
        clear hin hq
        refine mix_pure (v := ?_) (by rfl) (fun u hu => ?_) ?_
        rotate_left
        · go_simp
          (with_reducible rfl)
        (try simp only [Act.put, List.setIfInBounds_toArray, List.set_cons_zero, List.set_cons_succ])
        refine mix_nil ?_
        go_wp2
        refine ⟨⟨0 + 1, by omega, by go_num, fun j b hj hb => ?_, HD⟩, by simp [intOf]⟩
        rcases Nat.lt_or_ge j 0 with h | h
        · exact Hal.out j b h hb
        · obtain rfl : j = 0 := by omega
          obtain rfl := Option.some.inj (Hb.out.symm.trans hb)
          exact Hin.out
      · have hq : [(a0, 0, 9)].all inB = false := by simpa using hin
        rw [hq]
        have Hf := Lib.hid (fault_no Hb.out (by simpa using hin))
        clear hin hq
        refine mix_pure (v := ?_) (by rfl) (fun u hu => ?_) ?_
        rotate_left
        · go_simp
          (with_reducible rfl)
        (try simp only [Act.put, List.setIfInBounds_toArray, List.set_cons_zero, List.set_cons_succ])
        refine mix_nil ?_
        go_wp2
        go_ret
        exact ⟨by rw [Hf.out]; rfl, hB2.trans (HD.mono hB2.size)⟩
    · have Hb := Lib.hid (show (bndsM (a0, a1, a2, a3))[1]? = some (a1, 0, 999) from rfl)
      have hidx := fldAt1 wr
      go_wp2
      refine wp_region_mix [(0, false), (1, false), (2, false), (3, false), (4, false), (5, false), (6, false), (7, false), (8, true), (9, true), (10, false)] (fun u => u.cell? ⟨w1.heap.size, 1, none⟩ = some (.int .i64 a1) ∧ u.cell? ⟨wr.heap.size, 2, none⟩ = some (.int .i64 0) ∧ u.cell? ⟨wr.heap.size, 3, none⟩ = some (.int .i64 999)) (by kernel_rfl) (by kernel_rfl) (fun _ _ _ _ _ h => h) (by go_simp) ?_
      simp only [mixOps, List.map_cons, List.map_nil, List.getElem?_cons_succ, List.getElem?_cons_zero, Option.getD_some]
      repeat (first
        | (refine mix_skip (by rfl) ?_
           (try simp only [Act.put, List.setIfInBounds_toArray, List.set_cons_zero, List.set_cons_succ]))
        | (refine mix_pure (v := ?_) (by rfl) (fun u hu => ?_) ?_
           rotate_left
           · obtain ⟨_, _, _⟩ := hu
             go_simp
             (with_reducible rfl)
           (try simp only [Act.put, List.setIfInBounds_toArray, List.set_cons_zero, List.set_cons_succ])))
      refine mix_call (by rfl) (fun K hK => ?_)
      go_simp
      refine hK _ _ _ (fun _ h => h) (by go_simp) ?_
      (try simp only [Act.put, List.setIfInBounds_toArray, List.set_cons_zero, List.set_cons_succ])
      refine mix_call (by rfl) (fun K hK => ?_)
      go_simp
      refine (areWithin_any _ _ _ [(a1, 0, 999)] _ (bnds_one_drew (by simp)) (by simp) rfl (by simp)).mono ?_
      rintro e w2 ⟨rfl, hb2⟩
      have HA := hbel.alloc hbel.size (.cells #[.int .i64 1, .int .i64 2, .int .i64 0, .int .i64 999] 174)
      have HC := (HA.alloc HA.size (.cells #[.int .i64 a1, .int .i64 0, .int .i64 999] 113)).drew
      have HD := HC.trans (hb2.mono HC.size)
      refine hK _ _ _ (fun _ h => h) ⟨(hb2.cell (p := ⟨w1.heap.size, 1, none⟩) (by simp; omega)).trans (by go_simp), (hb2.cell (p := ⟨wr.heap.size, 2, none⟩) (by simp; omega)).trans (by go_simp), (hb2.cell (p := ⟨wr.heap.size, 3, none⟩) (by simp; omega)).trans (by go_simp)⟩ ?_
      (try simp only [Act.put, List.setIfInBounds_toArray, List.set_cons_zero, List.set_cons_succ])
      by_cases hin : inB (a1, 0, 999) = true
      · have hq : [(a1, 0, 999)].all inB = true := by simp [hin]
        rw [hq]
        have Hin := Lib.hid hin
        clear hin hq
        refine mix_pure (v := ?_) (by rfl) (fun u hu => ?_) ?_
        rotate_left
        · go_simp
          (with_reducible rfl)
        (try simp only [Act.put, List.setIfInBounds_toArray, List.set_cons_zero, List.set_cons_succ])
        refine mix_nil ?_
        go_wp2
        refine ⟨⟨1 + 1, by omega, by go_num, fun j b hj hb => ?_, HD⟩, by simp [intOf]⟩
        rcases Nat.lt_or_ge j 1 with h | h
        · exact Hal.out j b h hb
        · obtain rfl : j = 1 := by omega
          obtain rfl := Option.some.inj (Hb.out.symm.trans hb)
          exact Hin.out
      · have hq : [(a1, 0, 999)].all inB = false := by simpa using hin
        rw [hq]
        have Hf := Lib.hid (fault_no Hb.out (by simpa using hin))
        clear hin hq
        refine mix_pure (v := ?_) (by rfl) (fun u hu => ?_) ?_
        rotate_left
        · go_simp
          (with_reducible rfl)
        (try simp only [Act.put, List.setIfInBounds_toArray, List.set_cons_zero, List.set_cons_succ])
        refine mix_nil ?_
        go_wp2
        go_ret
        exact ⟨by rw [Hf.out]; rfl, hB2.trans (HD.mono hB2.size)⟩
    · have Hb := Lib.hid (show (bndsM (a0, a1, a2, a3))[2]? = some (a2, 0, 9999) from rfl)
      have hidx := fldAt2 wr
      go_wp2
      refine wp_region_mix [(0, false), (1, false), (2, false), (3, false), (4, false), (5, false), (6, false), (7, false), (8, true), (9, true), (10, false)] (fun u => u.cell? ⟨w1.heap.size, 2, none⟩ = some (.int .i64 a2) ∧ u.cell? ⟨wr.heap.size, 2, none⟩ = some (.int .i64 0) ∧ u.cell? ⟨wr.heap.size, 3, none⟩ = some (.int .i64 9999)) (by kernel_rfl) (by kernel_rfl) (fun _ _ _ _ _ h => h) (by go_simp) ?_
      simp only [mixOps, List.map_cons, List.map_nil, List.getElem?_cons_succ, List.getElem?_cons_zero, Option.getD_some]
      repeat (first
        | (refine mix_skip (by rfl) ?_
           (try simp only [Act.put, List.setIfInBounds_toArray, List.set_cons_zero, List.set_cons_succ]))
        | (refine mix_pure (v := ?_) (by rfl) (fun u hu => ?_) ?_
           rotate_left
           · obtain ⟨_, _, _⟩ := hu
             go_simp
             (with_reducible rfl)
           (try simp only [Act.put, List.setIfInBounds_toArray, List.set_cons_zero, List.set_cons_succ])))
      refine mix_call (by rfl) (fun K hK => ?_)
      go_simp
      refine hK _ _ _ (fun _ h => h) (by go_simp) ?_
      (try simp only [Act.put, List.setIfInBounds_toArray, List.set_cons_zero, List.set_cons_succ])
      refine mix_call (by rfl) (fun K hK => ?_)
      go_simp
      refine (areWithin_any _ _ _ [(a2, 0, 9999)] _ (bnds_one_drew (by simp)) (by simp) rfl (by simp)).mono ?_
      rintro e w2 ⟨rfl, hb2⟩
      have HA := hbel.alloc hbel.size (.cells #[.int .i64 3, .int .i64 2, .int .i64 0, .int .i64 9999] 174)
      have HC := (HA.alloc HA.size (.cells #[.int .i64 a2, .int .i64 0, .int .i64 9999] 113)).drew
      have HD := HC.trans (hb2.mono HC.size)
      refine hK _ _ _ (fun _ h => h) ⟨(hb2.cell (p := ⟨w1.heap.size, 2, none⟩) (by simp; omega)).trans (by go_simp), (hb2.cell (p := ⟨wr.heap.size, 2, none⟩) (by simp; omega)).trans (by go_simp), (hb2.cell (p := ⟨wr.heap.size, 3, none⟩) (by simp; omega)).trans (by go_simp)⟩ ?_
      (try simp only [Act.put, List.setIfInBounds_toArray, List.set_cons_zero, List.set_cons_succ])
      by_cases hin : inB (a2, 0, 9999) = true
      · have hq : [(a2, 0, 9999)].all inB = true := by simp [hin]
        rw [hq]
        have Hin := Lib.hid hin
        clear hin hq
        refine mix_pure (v := ?_) (by rfl) (fun u hu => ?_) ?_
        rotate_left
        · go_simp
          (with_reducible rfl)
        (try simp only [Act.put, List.setIfInBounds_toArray, List.set_cons_zero, List.set_cons_succ])
        refine mix_nil ?_
        go_wp2
        refine ⟨⟨2 + 1, by omega, by go_num, fun j b hj hb => ?_, HD⟩, by simp [intOf]⟩
        rcases Nat.lt_or_ge j 2 with h | h
        · exact Hal.out j b h hb
        · obtain rfl : j = 2 := by omega
          obtain rfl := Option.some.inj (Hb.out.symm.trans hb)
          exact Hin.out
      · have hq : [(a2, 0, 9999)].all inB = false := by simpa using hin
        rw [hq]
        have Hf := Lib.hid (fault_no Hb.out (by simpa using hin))
        clear hin hq
        refine mix_pure (v := ?_) (by rfl) (fun u hu => ?_) ?_
        rotate_left
        · go_simp
          (with_reducible rfl)
        (try simp only [Act.put, List.setIfInBounds_toArray, List.set_cons_zero, List.set_cons_succ])
        refine mix_nil ?_
        go_wp2
        go_ret
        exact ⟨by rw [Hf.out]; rfl, hB2.trans (HD.mono hB2.size)⟩
    · have Hb := Lib.hid (show (bndsM (a0, a1, a2, a3))[3]? = some (a3, (-1000), 1000) from rfl)
      have hidx := fldAt3 wr
      go_wp2
      refine wp_region_mix [(0, false), (1, false), (2, false), (3, false), (4, false), (5, false), (6, false), (7, false), (8, true), (9, true), (10, false)] (fun u => u.cell? ⟨w1.heap.size, 3, none⟩ = some (.int .i64 a3) ∧ u.cell? ⟨wr.heap.size, 2, none⟩ = some (.int .i64 (-1000)) ∧ u.cell? ⟨wr.heap.size, 3, none⟩ = some (.int .i64 1000)) (by kernel_rfl) (by kernel_rfl) (fun _ _ _ _ _ h => h) (by go_simp) ?_
      simp only [mixOps, List.map_cons, List.map_nil, List.getElem?_cons_succ, List.getElem?_cons_zero, Option.getD_some]
      repeat (first
        | (refine mix_skip (by rfl) ?_
           (try simp only [Act.put, List.setIfInBounds_toArray, List.set_cons_zero, List.set_cons_succ]))
        | (refine mix_pure (v := ?_) (by rfl) (fun u hu => ?_) ?_
           rotate_left
           · obtain ⟨_, _, _⟩ := hu
             go_simp
             (with_reducible rfl)
           (try simp only [Act.put, List.setIfInBounds_toArray, List.set_cons_zero, List.set_cons_succ])))
      refine mix_call (by rfl) (fun K hK => ?_)
      go_simp
      refine hK _ _ _ (fun _ h => h) (by go_simp) ?_
      (try simp only [Act.put, List.setIfInBounds_toArray, List.set_cons_zero, List.set_cons_succ])
      refine mix_call (by rfl) (fun K hK => ?_)
      go_simp
      refine (areWithin_any _ _ _ [(a3, (-1000), 1000)] _ (bnds_one_drew (by simp)) (by simp) rfl (by simp)).mono ?_
      rintro e w2 ⟨rfl, hb2⟩
      have HA := hbel.alloc hbel.size (.cells #[.int .i64 5, .int .i64 2, .int .i64 (-1000), .int .i64 1000] 174)
      have HC := (HA.alloc HA.size (.cells #[.int .i64 a3, .int .i64 (-1000), .int .i64 1000] 113)).drew
      have HD := HC.trans (hb2.mono HC.size)
      refine hK _ _ _ (fun _ h => h) ⟨(hb2.cell (p := ⟨w1.heap.size, 3, none⟩) (by simp; omega)).trans (by go_simp), (hb2.cell (p := ⟨wr.heap.size, 2, none⟩) (by simp; omega)).trans (by go_simp), (hb2.cell (p := ⟨wr.heap.size, 3, none⟩) (by simp; omega)).trans (by go_simp)⟩ ?_
      (try simp only [Act.put, List.setIfInBounds_toArray, List.set_cons_zero, List.set_cons_succ])
      by_cases hin : inB (a3, (-1000), 1000) = true
      · have hq : [(a3, (-1000), 1000)].all inB = true := by simp [hin]
        rw [hq]
        have Hin := Lib.hid hin
        clear hin hq
        refine mix_pure (v := ?_) (by rfl) (fun u hu => ?_) ?_
        rotate_left
        · go_simp
          (with_reducible rfl)
        (try simp only [Act.put, List.setIfInBounds_toArray, List.set_cons_zero, List.set_cons_succ])
        refine mix_nil ?_
        go_wp2
        refine ⟨⟨3 + 1, by omega, by go_num, fun j b hj hb => ?_, HD⟩, by simp [intOf]⟩
        rcases Nat.lt_or_ge j 3 with h | h
        · exact Hal.out j b h hb
        · obtain rfl : j = 3 := by omega
          obtain rfl := Option.some.inj (Hb.out.symm.trans hb)
          exact Hin.out
      · have hq : [(a3, (-1000), 1000)].all inB = false := by simpa using hin
        rw [hq]
        have Hf := Lib.hid (fault_no Hb.out (by simpa using hin))
        clear hin hq
        refine mix_pure (v := ?_) (by rfl) (fun u hu => ?_) ?_
        rotate_left
        · go_simp
          (with_reducible rfl)
        (try simp only [Act.put, List.setIfInBounds_toArray, List.set_cons_zero, List.set_cons_succ])
        refine mix_nil ?_
        go_wp2
        go_ret
        exact ⟨by rw [Hf.out]; rfl, hB2.trans (HD.mono hB2.size)⟩
    · have Hf := Lib.hid (fault_yes Hal.out)
      go_wp2
      go_ret
      exact ⟨by rw [Hf.out]; rfl, hB2.trans (hbel.mono hB2.size)⟩

theorem specSampleFault (a0 a1 a2 a3 : Int) (w : World) :
    Calls Tryz.prog 131 #[.agg #[.int .i64 a0, .int .i64 a1, .int .i64 a2, .int .i64 a3]] w fun e w' => e = .returned (.int .i64 (faultM (a0, a1, a2, a3))) ∧ Below w.heap.size w w' := by
  by_cases h0 : inB (a0, 0, 9) = true
  rotate_left
  · have Hf := Lib.hid (fault_no (show (bndsM (a0, a1, a2, a3))[0]? = some (a0, 0, 9) from rfl) (by simpa using h0))
    have g0 : inB (a0, 0, 9) = false := by simpa using h0
    clear h0
    go_enter Tryz.func131, Tryz.ntmps131
    go_wp2_with (go_at_call 76; refine (l1In_any _ _ _ _).mono ?_; rintro e w1 ⟨rfl, rfl⟩)
    go_ret
    exact ⟨by rw [Hf.out]; rfl, (Below.refl _ _).alloc (Nat.le_refl _) _⟩
  by_cases h1 : inB (a1, 0, 999) = true
  rotate_left
  · have Hf := Lib.hid (fault_no (show (bndsM (a0, a1, a2, a3))[1]? = some (a1, 0, 999) from rfl) (by simpa using h1))
    have g1 : inB (a1, 0, 999) = false := by simpa using h1
    clear h1
    go_enter Tryz.func131, Tryz.ntmps131
    go_wp2_with (go_at_call 76; refine (l1In_any _ _ _ _).mono ?_; rintro e w1 ⟨rfl, rfl⟩)
    go_ret
    exact ⟨by rw [Hf.out]; rfl, (Below.refl _ _).alloc (Nat.le_refl _) _⟩
  by_cases h2 : inB (a2, 0, 9999) = true
  rotate_left
  · have Hf := Lib.hid (fault_no (show (bndsM (a0, a1, a2, a3))[2]? = some (a2, 0, 9999) from rfl) (by simpa using h2))
    have g2 : inB (a2, 0, 9999) = false := by simpa using h2
    clear h2
    go_enter Tryz.func131, Tryz.ntmps131
    go_wp2_with (go_at_call 76; refine (l1In_any _ _ _ _).mono ?_; rintro e w1 ⟨rfl, rfl⟩)
    go_ret
    exact ⟨by rw [Hf.out]; rfl, (Below.refl _ _).alloc (Nat.le_refl _) _⟩
  by_cases h3 : inB (a3, (-1000), 1000) = true
  rotate_left
  · have Hf := Lib.hid (fault_no (show (bndsM (a0, a1, a2, a3))[3]? = some (a3, (-1000), 1000) from rfl) (by simpa using h3))
    have g3 : inB (a3, (-1000), 1000) = false := by simpa using h3
    clear h3
    go_enter Tryz.func131, Tryz.ntmps131
    go_wp2_with (go_at_call 76; refine (l1In_any _ _ _ _).mono ?_; rintro e w1 ⟨rfl, rfl⟩)
    go_ret
    exact ⟨by rw [Hf.out]; rfl, (Below.refl _ _).alloc (Nat.le_refl _) _⟩
  have Hf := Lib.hid (show faultM (a0, a1, a2, a3) = 0 by simp [faultM, bndsM, h0, h1, h2, h3])
  go_enter Tryz.func131, Tryz.ntmps131
  go_wp2_with (go_at_call 76; refine (l1In_any _ _ _ _).mono ?_; rintro e w1 ⟨rfl, rfl⟩)
  go_ret
  exact ⟨by rw [Hf.out]; rfl, (Below.refl _ _).alloc (Nat.le_refl _) _⟩

end Go.Proofs.YteiclanlhnccnaaGreatDoor
namespace Go.Proofs.YteiclanlhnccnaaGreatDoor
set_option maxRecDepth 20000
open Go.ChangeShapes Go.WideShapes Go.ChangeAt Go.RowKit

theorem own : ownKnob Tryz.prog.godebug = none := by kernel_rfl
theorem laidOut : laidOutB Tryz.prog = true := by kernel_rfl

theorem int64_le {a : Int} (h : (Lit.int .i64 a).wf = true) : -9223372036854775808 ≤ a ∧ a ≤ 9223372036854775807 := by
  simpa [Lit.wf, IntKind.min, IntKind.max, IntKind.signed, IntKind.bits] using h

/-- A slice of bytes that came in reads as a list. -/
theorem rd_of_ints {W : World} {x : Addr} {len cap : Nat} {zs : List Int} (hl : len ≤ cap) (hz : zs.length = cap) (hcell : ∀ i, i < zs.length → W.cell? (x.add i) = some (.int .u8 (zs.getD i 0))) (hwz : ∀ n ∈ zs, (Lit.int .u8 n).wf = true) :
    ∃ l : List UInt8, l.length = len ∧ Rd eB W W.heap.size (some x) l := by
  refine ⟨(zs.take len).map fun z => UInt8.ofNat z.toNat, by simp; omega, fun hne => ?_⟩
  have hlen : 0 < len := by
    rcases Nat.eq_zero_or_pos len with h0 | h0
    · subst h0; simp at hne
    · exact h0
  obtain ⟨b, off, spot⟩ := x
  have h0 := hcell 0 (by omega)
  have hspot : spot = none := by simpa [Addr.add] using World.cell?_spot h0
  subst hspot
  have hb : b < W.heap.size := by
    have := World.block_lt_of_cell? W _ h0
    rw [addr_add] at this
    exact this
  refine ⟨b, off, rfl, hb, fun k j a u hk hu => ?_⟩
  rw [List.getElem?_map] at hk
  have hkl : k < len := by
    rcases Nat.lt_or_ge k len with h1 | h1
    · exact h1
    · rw [List.getElem?_eq_none (by simp; omega)] at hk; simp at hk
  have hkz : k < zs.length := by omega
  rw [List.getElem?_take, if_pos hkl, List.getElem?_eq_getElem hkz] at hk
  simp only [Option.map_some, Option.some.injEq] at hk
  subst hk
  match j, hu with
  | 0, hu =>
    simp only [eB, List.getElem?_cons_zero, Option.some.injEq] at hu
    subst hu
    have h1 := hcell k hkz
    rw [addr_add] at h1
    simp only [eB, Nat.mul_one, Nat.add_zero]
    rw [h1]
    have hw := hwz zs[k] (List.getElem_mem hkz)
    simp [Lit.wf, IntKind.min, IntKind.max, IntKind.signed, IntKind.bits] at hw
    simp only [List.getD_eq_getElem?_getD, List.getElem?_eq_getElem hkz, Option.getD_some, Option.some.injEq, Value.int.injEq, true_and, UInt8.toNat_ofNat']
    omega
  | j + 1, hu => simp [eB] at hu

/-- The bytes of an argument. -/
theorem open_bytes {H : Type} {enc : TypeId × Value → H} {W : World} {base : Nat} {held : Bool} {A : Option Addr} {n c : Nat} {d : DataW H} {p : List MemPlace} (h : DataW.Trod enc Tryz.prog W base (fun _ => true) held 22 (.slice A n c) d p) :
    ∃ l : List UInt8, l.length = n ∧ Rd eB W W.heap.size A l := by
  obtain ⟨fuel, hf⟩ := h
  rcases open_ints Tryz.underlying22 Tryz.underlying5 (by kernel_rfl) hf with ⟨hcs, _⟩ | ⟨x, l, c, zs, hcs, _, hl, hm, hz, _, hcell, hwz⟩
  · simp [Value.cells] at hcs
    obtain ⟨rfl, rfl, rfl⟩ := hcs
    exact ⟨[], rfl, Rd.nil⟩
  · simp [Value.cells] at hcs
    obtain ⟨rfl, rfl, rfl⟩ := hcs
    exact rd_of_ints hl (by simpa using hz) hcell hwz
end Go.Proofs.YteiclanlhnccnaaGreatDoor
/-
  A sample that came in: four numbers.
-/
namespace Go.Proofs.YteiclanlhnccnaaGreatDoor
set_option maxRecDepth 20000
open Go.ChangeShapes Go.WideShapes Go.ChangeAt Go.RowKit

theorem four_of {cs : Array Value} (h : cs.size = 4) : ∃ a b c d, cs = #[a, b, c, d] := by
  obtain ⟨l⟩ := cs
  match l, h with
  | [a, b, c, d], _ => exact ⟨a, b, c, d, rfl⟩

theorem open_smp {H : Type} {enc : TypeId × Value → H} {W W0 : World} {r : Reach} {b0 base : Nat} {sp : Nat → Bool} {held : Bool} {v : Value} {d : DataW H} {ps : List MemPlace}
    (hval : Value.okWide Tryz.prog W0 r b0 61 v) (hd : DataW.Trod enc Tryz.prog W base sp held 61 v d ps) :
    ∃ a0 a1 a2 a3 : Int, v = .agg #[.int .i64 a0, .int .i64 a1, .int .i64 a2, .int .i64 a3] := by
  obtain ⟨cs, rfl, hn⟩ := okWide_struct Tryz.underlying61 hval
  obtain ⟨fuel, hf⟩ := hd
  obtain ⟨xs, n, _, _, hl, hlen, hel⟩ := DataW.trod_struct Tryz.underlying61 hf
  have c4 : Tryz.prog.cellsOf 61 = 4 := by kernel_rfl
  have c1 : Tryz.prog.cellsOf 2 = 1 := by kernel_rfl
  rw [c4] at hn
  obtain ⟨a, b, c, e, rfl⟩ := four_of hn
  have hx : xs.length = 4 := by rw [hlen]; rfl
  have one : ∀ (i : Nat) (f : Field) (u : Value), i < 4 → DataW.trod enc Tryz.prog W base sp held n 2 [u] = xs[i]? → ∃ k, u = .int .i64 k := fun i f u hi he => by
    rw [List.getElem?_eq_getElem (by omega)] at he
    obtain ⟨k, hk, _⟩ := DataW.trod_int Tryz.underlying2 he
    exact ⟨k, by simpa using hk⟩
  obtain ⟨k0, rfl⟩ := one 0 default a (by omega) (by simpa [Value.cells, c1] using hel 0 _ rfl)
  obtain ⟨k1, rfl⟩ := one 1 default b (by omega) (by simpa [Value.cells, c1] using hel 1 _ rfl)
  obtain ⟨k2, rfl⟩ := one 2 default c (by omega) (by simpa [Value.cells, c1] using hel 2 _ rfl)
  obtain ⟨k3, rfl⟩ := one 3 default e (by omega) (by simpa [Value.cells, c1] using hel 3 _ rfl)
  exact ⟨k0, k1, k2, k3, rfl⟩
end Go.Proofs.YteiclanlhnccnaaGreatDoor
/-
  The program's table of fields: what start-up laid gives the walks' word; how a named variable is opened and shut.
-/
namespace Go.Proofs.YteiclanlhnccnaaGreatDoor
set_option maxRecDepth 20000
open Go.ChangeShapes Go.WideShapes Go.ChangeAt Go.RowKit

def fldName : String := "loop.example/g00791/impl.sampleFields"
theorem gF : Tryz.prog.globalNamed fldName = some 1 := by kernel_rfl
theorem tF : (Tryz.prog.globals[1]?).map (·.type) = some 175 := by kernel_rfl
def laidF : List (String × DataW Unit) := [(fldName, Rows.laid_loop_example_g00791_impl_sampleFields)]

theorem var_below {P : Program} {w w' : World} {n : String} {g B : Nat} {cs : Array Value} (h : w.var? P n = some cs) (hg : P.globalNamed n = some g) (hb : Below B w w') (hlt : g < B) : w'.var? P n = some cs := by
  simp only [World.var?, hg, Option.bind_some] at h ⊢
  rw [hb.block g hlt]
  exact h

theorem int_cell {H : Type} {enc : TypeId × Value → H} {w : World} {base fuel : Nat} {sp : Nat → Bool} {held : Bool} {u : Value} {x : DataW H × List MemPlace} {n : Int} (h : DataW.trod enc Tryz.prog w base sp held fuel 2 [u] = some x) (hx : x.1 = .lit (.int .i64 n)) : u = .int .i64 n := by
  obtain ⟨k, hk, hx', _⟩ := DataW.trod_int Tryz.underlying2 h
  subst hx'
  simp only [DataW.lit.injEq, Lit.int.injEq, true_and] at hx
  subst hx
  simpa using hk

theorem four_list {l : List Value} (h : l.length = 4) : ∃ a b c d, l = [a, b, c, d] := by
  match l, h with
  | [a, b, c, d], _ => exact ⟨a, b, c, d, rfl⟩

theorem field_cells {H : Type} {enc : TypeId × Value → H} {w : World} {base fuel : Nat} {sp : Nat → Bool} {held : Bool} {cs : List Value} {x : DataW H × List MemPlace} {a b c d : Int} (h : DataW.trod enc Tryz.prog w base sp held fuel 174 cs = some x)
    (hx : x.1 = .agg [.lit (.int .i64 a), .lit (.int .i64 b), .lit (.int .i64 c), .lit (.int .i64 d)]) : cs = [.int .i64 a, .int .i64 b, .int .i64 c, .int .i64 d] := by
  obtain ⟨xs, n, _, rfl, hl, hlen, hel⟩ := DataW.trod_struct Tryz.underlying174 h
  have c4 : Tryz.prog.cellsOf 174 = 4 := by kernel_rfl
  have c1 : Tryz.prog.cellsOf 2 = 1 := by kernel_rfl
  rw [c4] at hl
  obtain ⟨u0, u1, u2, u3, rfl⟩ := four_list hl
  match xs, hlen, hx with
  | [x0, x1, x2, x3], _, hx =>
    simp only [List.map_cons, List.map_nil, DataW.agg.injEq, List.cons.injEq, and_true] at hx
    obtain ⟨h0, h1, h2, h3⟩ := hx
    obtain rfl := int_cell (u := u0) (by simpa [c1] using hel 0 _ rfl) h0
    obtain rfl := int_cell (u := u1) (by simpa [c1] using hel 1 _ rfl) h1
    obtain rfl := int_cell (u := u2) (by simpa [c1] using hel 2 _ rfl) h2
    obtain rfl := int_cell (u := u3) (by simpa [c1] using hel 3 _ rfl) h3
    rfl

theorem of_laid {W : World} (h : laidMetH Tryz.prog laidF W) : ∃ cs : Array Value, W.var? Tryz.prog fldName = some cs ∧ cs.toList = fldCells := by
  rw [MakeChecks.laidMetH_plain _ _ _ (by kernel_rfl)] at h
  obtain ⟨ps, ⟨g0, t0, cs0, f0, p0, q0, hg0, ht0, hv0, hd0, _⟩, _⟩ := h
  obtain rfl := Option.some.inj (gF.symm.trans hg0)
  obtain rfl := Option.some.inj (tF.symm.trans ht0)
  refine ⟨cs0, hv0, ?_⟩
  obtain ⟨xs, m, _, hx, hl, hn, hel⟩ := DataW.trod_array Tryz.underlying175 hd0
  have c16 : Tryz.prog.cellsOf 175 = 16 := by kernel_rfl
  have c4 : Tryz.prog.cellsOf 174 = 4 := by kernel_rfl
  rw [c16] at hl
  rw [c4] at hel
  generalize cs0.toList = l at *
  match xs, hn, hx with
  | [x0, x1, x2, x3], _, hx =>
    simp only [Prod.mk.injEq, Rows.laid_loop_example_g00791_impl_sampleFields, List.map_cons, List.map_nil, DataW.agg.injEq, List.cons.injEq, and_true] at hx
    obtain ⟨⟨h0, h1, h2, h3⟩, _⟩ := hx
    have e0 := field_cells (hel 0 (by decide)) h0.symm
    have e1 := field_cells (hel 1 (by decide)) h1.symm
    have e2 := field_cells (hel 2 (by decide)) h2.symm
    have e3 := field_cells (hel 3 (by decide)) h3.symm
    have b1 : l.drop (1 * 4) = (l.drop (1 * 4)).take 4 ++ l.drop (2 * 4) := by
      have := (List.take_append_drop 4 (l.drop (1 * 4))).symm
      rwa [List.drop_drop] at this
    have b2 : l.drop (2 * 4) = (l.drop (2 * 4)).take 4 ++ l.drop (3 * 4) := by
      have := (List.take_append_drop 4 (l.drop (2 * 4))).symm
      rwa [List.drop_drop] at this
    have b3 : (l.drop (3 * 4)).take 4 = l.drop (3 * 4) := List.take_of_length_le (by simp [hl])
    have hs : l = (l.drop (0 * 4)).take 4 ++ ((l.drop (1 * 4)).take 4 ++ ((l.drop (2 * 4)).take 4 ++ (l.drop (3 * 4)).take 4)) := by
      rw [b3, ← b2, ← b1]
      exact (List.take_append_drop 4 l).symm
    rw [hs, e0, e1, e2, e3]
    rfl

theorem flds_of_var {W : World} {cs : Array Value} (h : W.var? Tryz.prog fldName = some cs) (hc : cs.toList = fldCells) : Flds W := fun i u hu => by
  rw [World.var?_cell gF h i, ← Array.getElem?_toList, hc]
  exact hu

/-- The door's own heap meets the condition. -/
theorem door_met (os : Os) (args : Array Value) : laidMetH Tryz.prog laidF ((World.doorLaid Tryz.prog 37 os).forCall (fun _ _ => 0) ⟨#[], args, []⟩).memory :=
  laidMetH_of_parts3 (fuel := 8) (laidMet_of_run' 8 (by kernel_rfl) (by kernel_rfl)) (by kernel_rfl) (by kernel_rfl)

/-- The variable, opened and shut: it reads behind the call as it read ahead of it. -/
theorem vars_stay {H : Type} {enc : TypeId × Value → H} {W : World} {gs : List (DataW H)} {q : List MemPlace} (hV : DataW.TrodVars enc Tryz.prog W (fun _ => true) [fldName] gs q) :
    ∃ d, gs = [d] ∧ ∀ W', Below W.heap.size W W' → DataW.TrodVars enc Tryz.prog W' (fun b => decide (b < W.heap.size)) [fldName] [d] q := by
  obtain ⟨g, t, cs, fuel, d, p', rfl, hg, ht, hvar, hd, rfl⟩ := trodVars_one hV
  obtain rfl := Option.some.inj (gF.symm.trans hg)
  obtain rfl := Option.some.inj (tF.symm.trans ht)
  have hlt : 1 < W.heap.size := by
    simp only [World.var?, hg, Option.bind_some] at hvar
    rcases Nat.lt_or_ge 1 W.heap.size with h0 | h0
    · exact h0
    · rw [Array.getElem?_eq_none (by omega)] at hvar
      cases hvar
  refine ⟨d, rfl, fun W' bel => ?_⟩
  have hT : DataW.Trod enc Tryz.prog W 0 (fun _ => true) true 175 (.agg cs) d p' := ⟨fuel, by simpa [Value.cells] using hd⟩
  obtain ⟨f2, h2⟩ := Below.trod laidOut (by kernel_rfl) (of_decide_eq_true (by kernel_rfl)) hT bel (DataW.trod_lt fuel _ _ _ hd)
  exact trodVars_mk1 gF tF (var_below hvar gF bel hlt) (by simpa [Value.cells] using h2)
end Go.Proofs.YteiclanlhnccnaaGreatDoor
namespace Go.Proofs.YteiclanlhnccnaaGreatDoor
set_option maxRecDepth 20000
open Go.RowKit

theorem set_next {α : Type} (z : α) (xs : List α) (n k : Nat) (x : α) (hk : k < n) (hn : xs.length = n) (hx : xs[k]? = some x) :
    (xs.take k ++ List.replicate (n - k) z).set k x = xs.take (k + 1) ++ List.replicate (n - (k + 1)) z := by
  apply List.ext_getElem?
  intro i
  have hl : (xs.take k).length = k := by rw [List.length_take]; omega
  have hl' : (xs.take (k + 1)).length = k + 1 := by rw [List.length_take]; omega
  rw [List.getElem?_set]
  by_cases h1 : k = i
  · subst h1
    rw [if_pos rfl, if_pos (by simp; omega), List.getElem?_append_left (by omega), List.getElem?_take, if_pos (by omega), hx]
  · rw [if_neg h1]
    rcases Nat.lt_or_ge i k with h2 | h2
    · rw [List.getElem?_append_left (by omega), List.getElem?_append_left (by omega), List.getElem?_take, List.getElem?_take, if_pos (by omega), if_pos (by omega)]
    · rw [List.getElem?_append_right (by omega), List.getElem?_append_right (by omega), hl, hl', List.getElem?_replicate, List.getElem?_replicate]
      by_cases h3 : i < n
      · rw [if_pos (by omega), if_pos (by omega)]
      · rw [if_neg (by omega), if_neg (by omega)]
theorem part_at {α : Type} (z : α) (xs : List α) (n k : Nat) (hk : k < n) (hn : xs.length = n) : (xs.take k ++ List.replicate (n - k) z)[k]? = some z := by
  rw [List.getElem?_append_right (by simp; omega), List.length_take, hn, Nat.min_eq_left (by omega), Nat.sub_self, List.getElem?_replicate, if_pos (by omega)]

/-- Elements laid one by one into a row that was made: the first k are there. -/
def ToRel {α : Type} (E : Enc α) (z : α) (w : World) (g : Nat) (xs : List α) (n : Nat) (i : Value) (wr : World) : Prop :=
  ∃ k : Nat, k ≤ n ∧ i = .int .i64 k ∧ Ow E wr w.heap.size (some ⟨g, 0, none⟩) n n (xs.take k ++ List.replicate (n - k) z) ∧ Below w.heap.size w wr
theorem toRel_start {α : Type} {E : Enc α} (z : α) {w w1 : World} (xs : List α) {n : Nat} (h : Ow E w1 w.heap.size (some ⟨w.heap.size, 0, none⟩) n n (List.replicate n z)) (hg : w.grownBy w1 none) :
    ToRel E z w w.heap.size xs n (.int .i64 0) w1 :=
  ⟨0, Nat.zero_le _, rfl, by rw [List.take_zero, List.nil_append, Nat.sub_zero]; exact h, (Below.refl _ _).grown hg (Nat.le_refl _) (by simp)⟩
theorem toRel_end {α : Type} {E : Enc α} {z : α} {wr : World} {g base : Nat} {xs : List α} {n k : Nat} (h : Ow E wr base (some ⟨g, 0, none⟩) n n (xs.take k ++ List.replicate (n - k) z)) (hk : k = n) (hx : xs.length = n) :
    Ow E wr base (some ⟨g, 0, none⟩) n n xs := by
  subst hk
  rw [Nat.sub_self, List.replicate_zero, List.append_nil, List.take_of_length_le (by omega)] at h
  exact h

set_option maxHeartbeats 400000 in
theorem toByteS (A : Option Addr) (n c : Nat) (xs : List UInt8) (w : World) (ha : Rd eB w w.heap.size A xs) (hx : xs.length = n) (hm : n ≤ 1048576) :
    Calls Tryz.prog 37 #[.slice A n c] w fun e w' => ∃ A' c', e = .returned (.slice A' n c') ∧ Ow eB w' w.heap.size A' n c' xs ∧ Below w.heap.size w w' := by
  have Hx := Lib.hid hx
  clear hx
  go_enter Tryz.func37, Tryz.ntmps37
  go_wp2_with (refine wpList_make_ow okB _ rfl _ _ _ rfl w.heap.size info_u8 Tryz.underlying22 0 rfl .i64 .i64 n n n rfl rfl rfl rfl (by omega) (by unfold maxLen; omega) (Nat.le_refl _) ?_; intro w1 hown hg1)
  have hs1 : w.heap.size < w1.heap.size := (hown.lt w.heap.size rfl).2
  go_loopw [4] (fun i wr => ToRel eB 0 w w.heap.size xs n i wr) (fun i _ => n - (intOf i).toNat)
  case atStart => exact toRel_start 0 xs hown hg1
  case round =>
    obtain ⟨k, hk, rfl, hown, hbel⟩ := hrel
    by_cases hlt : k < n
    · obtain ⟨g, o, x, rfl, hg, hx, ca⟩ := (ha.below hbel (Nat.le_refl _)).byte (k := k) (by rw [Hx.out]; exact hlt)
      have cb := hown.byteAt (part_at 0 xs n k hlt Hx.out)
      have fb := hown.frozenAt k
      have Hst := Lib.hid (hown.byteSet hlt x).1
      have Hset := Lib.hid (set_next 0 xs n k x hlt Hx.out hx)
      have hbel2 : Below w.heap.size w (wr.setCell ⟨w.heap.size, k, none⟩ (.int .u8 (x.toNat : Int))) := hbel.setCell (Nat.le_refl _) _
      clear hx
      go_wp2
      exact ⟨⟨k + 1, by omega, by go_num, by rw [← Hset.out]; exact Hst.out, hbel2⟩, by simp [intOf]; omega⟩
    · have hall := toRel_end hown (by omega) Hx.out
      clear hown
      go_wp2
      go_ret
      exact ⟨_, _, rfl, hall, hbel⟩
end Go.Proofs.YteiclanlhnccnaaGreatDoor
namespace Go.Proofs.YteiclanlhnccnaaGreatDoor
set_option maxRecDepth 20000
open Go.RowKit

/-- What a mark lays: k, k + 1, .. as bytes. -/
def marks (k n : Nat) : List UInt8 := (List.range n).map fun i => UInt8.ofNat (k + i)
theorem marks_len (k n : Nat) : (marks k n).length = n := by simp [marks]
theorem marks_at {k n i : Nat} (h : i < n) : (marks k n)[i]? = some (UInt8.ofNat (k + i)) := by simp [marks, h]
theorem byte_num (n : Nat) : ((UInt8.ofNat n).toNat : Int) = (n : Int) % 256 := by
  rw [UInt8.toNat_ofNat']
  omega

theorem laid_set {α : Type} (f : Nat → α) (l : List α) (n i : Nat) (hi : i < n) (hn : l.length = n) : ((List.range i).map f ++ l.drop i).set i (f i) = (List.range (i + 1)).map f ++ l.drop (i + 1) := by
  apply List.ext_getElem?
  intro j
  have h1 : ((List.range i).map f).length = i := by simp
  have h2 : ((List.range (i + 1)).map f).length = i + 1 := by simp
  rw [List.getElem?_set]
  by_cases hj : i = j
  · subst hj
    rw [if_pos rfl, if_pos (by simp; omega), List.getElem?_append_left (by omega)]
    simp
  · rw [if_neg hj]
    rcases Nat.lt_or_ge j i with h3 | h3
    · rw [List.getElem?_append_left (by omega), List.getElem?_append_left (by omega)]
      simp [h3, show j < i + 1 by omega]
    · rw [List.getElem?_append_right (by omega), List.getElem?_append_right (by omega), h1, h2, List.getElem?_drop, List.getElem?_drop]
      congr 1
      omega

/-- Elements of a row laid over, one by one: 'f i' at place i; each bears 'per' numbers. -/
def MarkRel {α : Type} (E : Enc α) (f : Nat → α) (per : Nat) (w : World) (base : Nat) (A : Option Addr) (n c : Nat) (l : List α) (k : Nat) (vk i : Value) (wr : World) : Prop :=
  ∃ j : Nat, j ≤ n ∧ i = .int .i64 j ∧ vk = .int .i64 ((k : Int) + per * j) ∧ Ow E wr base A n c ((List.range j).map f ++ l.drop j) ∧ w.grownBy wr (A.map (·.block))
theorem markRel_start {α : Type} {E : Enc α} (f : Nat → α) (per : Nat) {w : World} {base : Nat} {A : Option Addr} {n c : Nat} {l : List α} (k : Nat) (h : Ow E w base A n c l) : MarkRel E f per w base A n c l k (.int .i64 k) (.int .i64 0) w :=
  ⟨0, Nat.zero_le _, rfl, by simp, by simpa using h, World.grownBy.refl _ _⟩
theorem markRel_at {α : Type} (f : Nat → α) (l : List α) (n j : Nat) (hj : j < n) (hn : l.length = n) : ∃ a, ((List.range j).map f ++ l.drop j)[j]? = some a := by
  refine ⟨l[j], ?_⟩
  rw [List.getElem?_append_right (by simp)]
  simp [show j < l.length by omega]
theorem markRel_end {α : Type} {E : Enc α} {f : Nat → α} {wr : World} {base : Nat} {A : Option Addr} {n c j : Nat} {l : List α} (h : Ow E wr base A n c ((List.range j).map f ++ l.drop j)) (hj : j = n) (hn : l.length = n) :
    Ow E wr base A n c ((List.range n).map f) := by
  subst hj
  rw [List.drop_of_length_le (by omega), List.append_nil] at h
  exact h

set_option maxHeartbeats 400000 in
theorem markByteS (A : Option Addr) (n c base : Nat) (l : List UInt8) (k : Nat) (w : World) (ha : Ow eB w base A n c l) (hm : n ≤ 4294967296) (hk : k ≤ 4294967296) :
    Calls Tryz.prog 40 #[.slice A n c, .int .i64 k] w fun e w' => e = .returned (.int .i64 ((k : Int) + n)) ∧ Ow eB w' base A n c (marks k n) ∧ w.grownBy w' (A.map (·.block)) := by
  have Hn := Lib.hid (ha.len okB)
  go_enter Tryz.func40, Tryz.ntmps40
  go_wp2
  go_loopw [1, 5] (fun vk i wr => MarkRel eB (fun i => UInt8.ofNat (k + i)) 1 w base A n c l k vk i wr) (fun _ i _ => n - (intOf i).toNat)
  case atStart => exact markRel_start _ _ _ ha
  case round =>
    obtain ⟨j, hj, rfl, rfl, hown, hgr⟩ := hrel
    rw [show (k : Int) + ((1 : Nat) : Int) * (j : Int) = (k : Int) + (j : Int) by omega]
    by_cases hlt : j < n
    · obtain ⟨g, rfl, hg, _⟩ := hown.form (by omega)
      obtain ⟨a, hz⟩ := markRel_at (fun i => UInt8.ofNat (k + i)) l n j hlt Hn.out
      have cb := hown.byteAt hz
      have fb := hown.frozenAt j
      clear hz
      obtain ⟨hst, hgr2⟩ := hown.byteSet hlt (UInt8.ofNat (k + j))
      have Hset := Lib.hid (laid_set (fun i => UInt8.ofNat (k + i)) l n j hlt Hn.out)
      have Hgr := Lib.hid (grown_trans hgr hgr2)
      have Hst := Lib.hid hst
      clear hgr hgr2 hst
      go_wp2
      have hcv : ((k : Int) + (j : Int)) % 256 = ((UInt8.ofNat (k + j)).toNat : Int) := by rw [byte_num]; omega
      rw [hcv]
      exact ⟨⟨j + 1, by omega, by go_num, congrArg _ (by omega), by rw [← Hset.out]; exact Hst.out, Hgr.out⟩, by simp [intOf]; omega⟩
    · have hall := markRel_end hown (by omega) Hn.out
      obtain rfl : n = j := by omega
      clear hown
      go_wp2
      go_ret
      exact ⟨rfl, hall, hgr⟩

theorem markByteS1 (A : Option Addr) (n c base : Nat) (l : List UInt8) (w : World) (ha : Ow eB w base A n c l) (hm : n ≤ 4294967296) :
    Calls Tryz.prog 40 #[.slice A n c, .int .i64 1] w fun e w' => e = .returned (.int .i64 (1 + (n : Int))) ∧ Ow eB w' base A n c (marks 1 n) ∧ w.grownBy w' (A.map (·.block)) :=
  markByteS A n c base l 1 w ha hm (by omega)

def HeldRel (w : World) (n : Nat) (per k : Nat) (vk i : Value) (wr : World) : Prop :=
  ∃ j : Nat, j ≤ n ∧ i = .int .i64 j ∧ vk = .int .i64 ((k : Int) + per * j) ∧ Below w.heap.size w wr
theorem heldRel_start (w : World) (n per k : Nat) : HeldRel w n per k (.int .i64 k) (.int .i64 0) w := ⟨0, Nat.zero_le _, rfl, by simp, Below.refl _ _⟩

end Go.Proofs.YteiclanlhnccnaaGreatDoor
