/-
  Texts of one proof, joined: each has its own namespace.
-/
import Derived.Test.YtmaillakhhdkfaaGreatDoorBFnRecords2
import Derived.Test.YtmaillakhhdkfaaGreatDoorBFnRecords0
import Derived.Test.YtmaillakhhdkfaaGreatDoorBFnRecords1
/-
  A sample out of its bytes: the program's.
-/
namespace Go.Proofs.YtmaillakhhdkfaaGreatDoor
set_option maxRecDepth 20000
open Go.RowKit
set_option linter.unusedSimpArgs false

theorem sampleOf (a0 a1 a2 a3 : Int) (w : World) :
    Calls Tryz.prog 157 #[.agg #[.int .i64 a0, .int .i64 a1, .int .i64 a2, .int .i64 a3]] w fun e w' => e = .returned (.agg #[.int .i64 a0, .int .i64 a1, .int .i64 a2, .int .i64 a3]) ∧ Below w.heap.size w w' := by
  go_enter Tryz.func157, Tryz.ntmps157
  go_wp2
  refine bodyPost_ret (v := .agg #[.int .i64 a0, .int .i64 a1, .int .i64 a2, .int .i64 a3]) (by simp [results, Tryz.results157, go_sem]) rfl ?_
  exact ⟨rfl, ((Below.refl _ _).alloc (Nat.le_refl _) _).alloc (by simp) _⟩

theorem fldI1 (a b : Int) (u : World) : (Instr.field 131 (.agg #[.int .i64 a, .int .i64 b]) 1).run Tryz.prog u = .ok (.int .i64 b) u := by kernel_rfl

/-- The bytes of an array's block read as a list. -/
theorem rd_array {w : World} {g : Nat} {t : TypeId} {cs : Array Value} {l : List UInt8} (h : At w g t cs) (hc : cs.toList = eB.row l) : Rd eB w w.heap.size (some ⟨g, 0, none⟩) l := fun _ => by
  refine ⟨g, 0, rfl, h.lt, fun k j a u hk hu => ?_⟩
  have hj : j < eB.size := by rw [← okB.len a]; exact getElem?_some_lt hu
  rw [h.cell, Nat.zero_add, ← Array.getElem?_toList, hc, okB.row_at l k j a hk hj, hu]

theorem reads {w : World} {A : Option Addr} {l : List UInt8} (p s : Nat) (ha : Rd eB w w.heap.size A l) (hn : l.length = 7) (hs : 1 ≤ s) (hs2 : s ≤ 4) (hp : p + s ≤ 7) :
    Calls Tryz.prog 87 #[.slice A 7 7, .int .i64 p, .int .i64 s] w fun e w' => e = .returned (.agg #[.int .i64 0, .int .i64 ((readAt l p s 0 : Nat) : Int)]) ∧ Below w.heap.size w w' := by
  have h := implReadWord A 7 7 l p s w ha hn (by unfold maxLen; omega)
  rw [readM_nat ⟨hs, hs2, by omega⟩] at h
  exact h

def numRow (v0 v1 v2 v3 : Nat) : Nat → Array Value
  | 0 => #[.int .i64 0, .int .i64 0, .int .i64 0, .int .i64 0]
  | 1 => #[.int .i64 (v0 : Int), .int .i64 0, .int .i64 0, .int .i64 0]
  | 2 => #[.int .i64 (v0 : Int), .int .i64 (v1 : Int), .int .i64 0, .int .i64 0]
  | 3 => #[.int .i64 (v0 : Int), .int .i64 (v1 : Int), .int .i64 (v2 : Int), .int .i64 0]
  | _ => #[.int .i64 (v0 : Int), .int .i64 (v1 : Int), .int .i64 (v2 : Int), .int .i64 ((v3 : Int) - 1000)]

def UnpRel (w : World) (gb gR gN : Nat) (box : Array Value) (v0 v1 v2 v3 : Nat) (i : Value) (wr : World) : Prop :=
  ∃ k : Nat, k ≤ 4 ∧ i = .int .i64 k ∧ At wr gb 177 box ∧ At wr gR 25 #[.int .i64 0, .int .i64 0, .int .i64 0, .int .i64 0] ∧ At wr gN 151 (numRow v0 v1 v2 v3 k) ∧ Below w.heap.size w wr

set_option maxHeartbeats 4000000 in
theorem unpackSample (x0 x1 x2 x3 x4 x5 x6 : UInt8) (w : World) (hF : Flds w) :
    Calls Tryz.prog 148 #[.agg #[.int .u8 (x0.toNat : Int), .int .u8 (x1.toNat : Int), .int .u8 (x2.toNat : Int), .int .u8 (x3.toNat : Int), .int .u8 (x4.toNat : Int), .int .u8 (x5.toNat : Int), .int .u8 (x6.toNat : Int)]] w fun e w' => RetS (unpM [x0, x1, x2, x3, x4, x5, x6]) w e w' := by
  obtain ⟨L, hL⟩ : ∃ L : List UInt8, L = [x0, x1, x2, x3, x4, x5, x6] := ⟨_, rfl⟩
  have hLn : L.length = 7 := by rw [hL]; rfl
  have hLr := Lib.hid (show (#[.int .u8 (x0.toNat : Int), .int .u8 (x1.toNat : Int), .int .u8 (x2.toNat : Int), .int .u8 (x3.toNat : Int), .int .u8 (x4.toNat : Int), .int .u8 (x5.toNat : Int), .int .u8 (x6.toNat : Int)] : Array Value).toList = eB.row L by rw [hL]; rfl)
  rw [← hL]
  have hb0 : readAt L 0 1 0 < 4294967296 := readAt_lt L 0 1 0 (by omega)
  have hb1 : readAt L 1 2 0 < 4294967296 := readAt_lt L 1 2 0 (by omega)
  have hb2 : readAt L 3 2 0 < 4294967296 := readAt_lt L 3 2 0 (by omega)
  have hb3 : readAt L 5 2 0 < 4294967296 := readAt_lt L 5 2 0 (by omega)
  have R0 := fun W A (h : Rd eB W W.heap.size A L) => reads 0 1 h hLn (by omega) (by omega) (by omega)
  have R1 := fun W A (h : Rd eB W W.heap.size A L) => reads 1 2 h hLn (by omega) (by omega) (by omega)
  have R2 := fun W A (h : Rd eB W W.heap.size A L) => reads 3 2 h hLn (by omega) (by omega) (by omega)
  have R3 := fun W A (h : Rd eB W W.heap.size A L) => reads 5 2 h hLn (by omega) (by omega) (by omega)
  unfold unpM
  generalize readAt L 0 1 0 = v0 at *
  generalize readAt L 1 2 0 = v1 at *
  generalize readAt L 3 2 0 = v2 at *
  generalize readAt L 5 2 0 = v3 at *
  clear hL
  obtain ⟨box, hbox⟩ : ∃ box : Array Value, box = #[.int .u8 (x0.toNat : Int), .int .u8 (x1.toNat : Int), .int .u8 (x2.toNat : Int), .int .u8 (x3.toNat : Int), .int .u8 (x4.toNat : Int), .int .u8 (x5.toNat : Int), .int .u8 (x6.toNat : Int)] := ⟨_, rfl⟩
  have HR := Lib.hid (show ∀ W g, At W g 177 box → Rd eB W W.heap.size (some ⟨g, 0, none⟩) L from fun W g h => rd_array h (by rw [hbox]; exact hLr.out))
  have Hp0 := At.new w 177 #[.int .u8 (x0.toNat : Int), .int .u8 (x1.toNat : Int), .int .u8 (x2.toNat : Int), .int .u8 (x3.toNat : Int), .int .u8 (x4.toNat : Int), .int .u8 (x5.toNat : Int), .int .u8 (x6.toNat : Int)]
  have hS0 : (w.alloc (.cells #[.int .u8 (x0.toNat : Int), .int .u8 (x1.toNat : Int), .int .u8 (x2.toNat : Int), .int .u8 (x3.toNat : Int), .int .u8 (x4.toNat : Int), .int .u8 (x5.toNat : Int), .int .u8 (x6.toNat : Int)] 177)).heap.size = w.heap.size + 1 := by simp
  have hB0 : Below w.heap.size w (w.alloc (.cells #[.int .u8 (x0.toNat : Int), .int .u8 (x1.toNat : Int), .int .u8 (x2.toNat : Int), .int .u8 (x3.toNat : Int), .int .u8 (x4.toNat : Int), .int .u8 (x5.toNat : Int), .int .u8 (x6.toNat : Int)] 177)) := (Below.refl _ _).alloc (Nat.le_refl _) _
  have Hr0 := At.new (w.alloc (.cells #[.int .u8 (x0.toNat : Int), .int .u8 (x1.toNat : Int), .int .u8 (x2.toNat : Int), .int .u8 (x3.toNat : Int), .int .u8 (x4.toNat : Int), .int .u8 (x5.toNat : Int), .int .u8 (x6.toNat : Int)] 177)) 25 #[.int .i64 0, .int .i64 0, .int .i64 0, .int .i64 0]
  rw [hS0] at Hr0
  have hB1 := hB0.alloc hB0.size (.cells #[.int .i64 0, .int .i64 0, .int .i64 0, .int .i64 0] 25)
  have Hp1 := Hp0.alloc (.cells #[.int .i64 0, .int .i64 0, .int .i64 0, .int .i64 0] 25)
  have Hn2 := At.new ((w.alloc (.cells #[.int .u8 (x0.toNat : Int), .int .u8 (x1.toNat : Int), .int .u8 (x2.toNat : Int), .int .u8 (x3.toNat : Int), .int .u8 (x4.toNat : Int), .int .u8 (x5.toNat : Int), .int .u8 (x6.toNat : Int)] 177)).alloc (.cells #[.int .i64 0, .int .i64 0, .int .i64 0, .int .i64 0] 25)) 151 #[.int .i64 0, .int .i64 0, .int .i64 0, .int .i64 0]
  rw [show ((w.alloc (.cells #[.int .u8 (x0.toNat : Int), .int .u8 (x1.toNat : Int), .int .u8 (x2.toNat : Int), .int .u8 (x3.toNat : Int), .int .u8 (x4.toNat : Int), .int .u8 (x5.toNat : Int), .int .u8 (x6.toNat : Int)] 177)).alloc (.cells #[.int .i64 0, .int .i64 0, .int .i64 0, .int .i64 0] 25)).heap.size = w.heap.size + 1 + 1 by simp] at Hn2
  have hB2 := hB1.alloc hB1.size (.cells #[.int .i64 0, .int .i64 0, .int .i64 0, .int .i64 0] 151)
  have Hp2 := Hp1.alloc (.cells #[.int .i64 0, .int .i64 0, .int .i64 0, .int .i64 0] 151)
  have Hr2 := Hr0.alloc (.cells #[.int .i64 0, .int .i64 0, .int .i64 0, .int .i64 0] 151)
  clear Hp0 Hp1 hS0 hLr
  have hz := hF.pos
  obtain ⟨c0, c1, c2, c3, c4, c5, c6, c7, c8, c9, c10, c11, c12, c13, c14, c15⟩ := (hF.below hB2).all
  go_enter Tryz.func148, Tryz.ntmps148
  go_wp2_with fail
  clear c0 c1 c2 c3 c4 c5 c6 c7 c8 c9 c10 c11 c12 c13 c14 c15
  go_loopw [7] (fun i wr => UnpRel w w.heap.size (w.heap.size + 1) (w.heap.size + 1 + 1) box v0 v1 v2 v3 i wr) (fun i _ => 4 - (intOf i).toNat)
  case atStart => exact ⟨0, by omega, rfl, by rw [hbox]; exact Hp2, Hr2, Hn2, hB2⟩
  case round =>
    obtain ⟨k, hk, rfl, hP, hR, hN, hbel⟩ := hrel
    have lP := hP.lt
    have lN := hN.lt
    have lR := hR.lt
    rcases (show k = 0 ∨ k = 1 ∨ k = 2 ∨ k = 3 ∨ k = 4 by omega) with rfl | rfl | rfl | rfl | rfl
    · have hidx := fldAt0 wr
      have hsl := slAll w.heap.size
      have hw1 : IntKind.i64.wrap (v0 : Int) = (v0 : Int) := by exact IntWalk.i64_in _ (by omega)
      obtain ⟨m0, m1, m2, m3, f0, f1, f2, f3⟩ := (show At wr (w.heap.size + 1 + 1) 151 #[.int .i64 0, .int .i64 0, .int .i64 0, .int .i64 0] from hN).four
      go_wp2
      refine wp_region_mix [(0, false), (1, false), (2, false), (3, false), (4, false), (5, false), (6, false), (7, false), (8, true), (9, false), (10, false), (11, false), (12, true)] (fun u => u.cell? ⟨wr.heap.size, 0, none⟩ = some (.int .i64 0) ∧ u.cell? ⟨wr.heap.size, 1, none⟩ = some (.int .i64 1) ∧ u.cell? ⟨wr.heap.size, 2, none⟩ = some (.int .i64 0)) (by kernel_rfl) (by kernel_rfl) (fun _ _ _ _ _ h => h) (by go_simp) ?_
      simp only [mixOps, List.map_cons, List.map_nil, List.getElem?_cons_succ, List.getElem?_cons_zero, Option.getD_some]
      repeat (first
        | (refine mix_skip (by rfl) ?_
           (try simp only [Act.put, List.setIfInBounds_toArray, List.set_cons_zero, List.set_cons_succ]))
        | (refine mix_pure (v := ?_) (by rfl) (fun u hu => ?_) ?_
           rotate_left
           · obtain ⟨_, _, _⟩ := hu
             go_simp
             (with_reducible rfl)
           (try simp only [Act.put, List.setIfInBounds_toArray, List.set_cons_zero, List.set_cons_succ])))
      have F5 := (hbel.alloc hbel.size (.cells #[.int .i64 0, .int .i64 1, .int .i64 0, .int .i64 9] 154)).drew
      have P4 := (hP.alloc (.cells #[.int .i64 0, .int .i64 1, .int .i64 0, .int .i64 9] 154)).drew
      refine mix_call (by rfl) (fun K hK => ?_)
      go_simp
      refine (R0 _ _ (HR.out _ _ P4)).mono ?_
      rintro e w5 ⟨rfl, hb5⟩
      have fI := fldI1 0 (v0 : Int)
      have P5 := P4.below hb5 P4.lt
      have N5 := ((hN.alloc (.cells #[.int .i64 0, .int .i64 1, .int .i64 0, .int .i64 9] 154)).drew).below hb5 (by simp; omega)
      have R5 := ((hR.alloc (.cells #[.int .i64 0, .int .i64 1, .int .i64 0, .int .i64 9] 154)).drew).below hb5 (by simp; omega)
      have hB5 := F5.trans (hb5.mono F5.size)
      refine hK _ _ _ (fun _ h => h) ⟨(hb5.cell (p := ⟨wr.heap.size, 0, none⟩) (by simp)).trans (by go_simp), (hb5.cell (p := ⟨wr.heap.size, 1, none⟩) (by simp)).trans (by go_simp), (hb5.cell (p := ⟨wr.heap.size, 2, none⟩) (by simp)).trans (by go_simp)⟩ ?_
      (try simp only [Act.put, List.setIfInBounds_toArray, List.set_cons_zero, List.set_cons_succ])
      iterate 3
        refine mix_pure (v := ?_) (by rfl) (fun u hu => ?_) ?_
        rotate_left
        · go_simp
          (with_reducible rfl)
        (try simp only [Act.put, List.setIfInBounds_toArray, List.set_cons_zero, List.set_cons_succ])
      clear m0 m1 m2 m3 f0 f1 f2 f3
      obtain ⟨m0, m1, m2, m3, f0, f1, f2, f3⟩ := (show At w5 (w.heap.size + 1 + 1) 151 #[.int .i64 0, .int .i64 0, .int .i64 0, .int .i64 0] from N5).four
      have S0 : w5.cell? ⟨wr.heap.size, 0, none⟩ = some (.int .i64 0) := (hb5.cell (p := ⟨wr.heap.size, 0, none⟩) (by simp)).trans (by go_simp)
      have S1 : w5.cell? ⟨wr.heap.size, 1, none⟩ = some (.int .i64 1) := (hb5.cell (p := ⟨wr.heap.size, 1, none⟩) (by simp)).trans (by go_simp)
      have S2 : w5.cell? ⟨wr.heap.size, 2, none⟩ = some (.int .i64 0) := (hb5.cell (p := ⟨wr.heap.size, 2, none⟩) (by simp)).trans (by go_simp)
      have N6 := N5.set 0 (.int .i64 (v0 : Int))
      have P6 := P5.far (p := ⟨w.heap.size + 1 + 1, 0, none⟩) (by show w.heap.size ≠ w.heap.size + 1 + 1; omega) (.int .i64 (v0 : Int))
      have R6 := R5.far (p := ⟨w.heap.size + 1 + 1, 0, none⟩) (by show w.heap.size + 1 ≠ w.heap.size + 1 + 1; omega) (.int .i64 (v0 : Int))
      have hB6 := hB5.setCell (p := ⟨w.heap.size + 1 + 1, 0, none⟩) (by show w.heap.size ≤ w.heap.size + 1 + 1; omega) (.int .i64 (v0 : Int))
      have hne : wr.heap.size ≠ w.heap.size + 1 + 1 := by omega
      refine mix_call (by rfl) (fun K hK => ?_)
      go_simp
      refine hK _ _ _ (fun _ h => h) ⟨(cell_same (Below.heap_setCell _ _ _ _ hne)).trans S0, (cell_same (Below.heap_setCell _ _ _ _ hne)).trans S1, (cell_same (Below.heap_setCell _ _ _ _ hne)).trans S2⟩ ?_
      (try simp only [Act.put, List.setIfInBounds_toArray, List.set_cons_zero, List.set_cons_succ])
      refine mix_nil ?_
      go_wp2
      exact ⟨⟨0 + 1, by omega, by go_num, P6, R6, N6, hB6⟩, by simp [intOf]⟩
    · have hidx := fldAt1 wr
      have hsl := slAll w.heap.size
      have hw1 : IntKind.i64.wrap (v1 : Int) = (v1 : Int) := by exact IntWalk.i64_in _ (by omega)
      obtain ⟨m0, m1, m2, m3, f0, f1, f2, f3⟩ := (show At wr (w.heap.size + 1 + 1) 151 #[.int .i64 (v0 : Int), .int .i64 0, .int .i64 0, .int .i64 0] from hN).four
      go_wp2
      refine wp_region_mix [(0, false), (1, false), (2, false), (3, false), (4, false), (5, false), (6, false), (7, false), (8, true), (9, false), (10, false), (11, false), (12, true)] (fun u => u.cell? ⟨wr.heap.size, 0, none⟩ = some (.int .i64 1) ∧ u.cell? ⟨wr.heap.size, 1, none⟩ = some (.int .i64 2) ∧ u.cell? ⟨wr.heap.size, 2, none⟩ = some (.int .i64 0)) (by kernel_rfl) (by kernel_rfl) (fun _ _ _ _ _ h => h) (by go_simp) ?_
      simp only [mixOps, List.map_cons, List.map_nil, List.getElem?_cons_succ, List.getElem?_cons_zero, Option.getD_some]
      repeat (first
        | (refine mix_skip (by rfl) ?_
           (try simp only [Act.put, List.setIfInBounds_toArray, List.set_cons_zero, List.set_cons_succ]))
        | (refine mix_pure (v := ?_) (by rfl) (fun u hu => ?_) ?_
           rotate_left
           · obtain ⟨_, _, _⟩ := hu
             go_simp
             (with_reducible rfl)
           (try simp only [Act.put, List.setIfInBounds_toArray, List.set_cons_zero, List.set_cons_succ])))
      have F5 := (hbel.alloc hbel.size (.cells #[.int .i64 1, .int .i64 2, .int .i64 0, .int .i64 999] 154)).drew
      have P4 := (hP.alloc (.cells #[.int .i64 1, .int .i64 2, .int .i64 0, .int .i64 999] 154)).drew
      refine mix_call (by rfl) (fun K hK => ?_)
      go_simp
      refine (R1 _ _ (HR.out _ _ P4)).mono ?_
      rintro e w5 ⟨rfl, hb5⟩
      have fI := fldI1 0 (v1 : Int)
      have P5 := P4.below hb5 P4.lt
      have N5 := ((hN.alloc (.cells #[.int .i64 1, .int .i64 2, .int .i64 0, .int .i64 999] 154)).drew).below hb5 (by simp; omega)
      have R5 := ((hR.alloc (.cells #[.int .i64 1, .int .i64 2, .int .i64 0, .int .i64 999] 154)).drew).below hb5 (by simp; omega)
      have hB5 := F5.trans (hb5.mono F5.size)
      refine hK _ _ _ (fun _ h => h) ⟨(hb5.cell (p := ⟨wr.heap.size, 0, none⟩) (by simp)).trans (by go_simp), (hb5.cell (p := ⟨wr.heap.size, 1, none⟩) (by simp)).trans (by go_simp), (hb5.cell (p := ⟨wr.heap.size, 2, none⟩) (by simp)).trans (by go_simp)⟩ ?_
      (try simp only [Act.put, List.setIfInBounds_toArray, List.set_cons_zero, List.set_cons_succ])
      iterate 3
        refine mix_pure (v := ?_) (by rfl) (fun u hu => ?_) ?_
        rotate_left
        · go_simp
          (with_reducible rfl)
        (try simp only [Act.put, List.setIfInBounds_toArray, List.set_cons_zero, List.set_cons_succ])
      clear m0 m1 m2 m3 f0 f1 f2 f3
      obtain ⟨m0, m1, m2, m3, f0, f1, f2, f3⟩ := (show At w5 (w.heap.size + 1 + 1) 151 #[.int .i64 (v0 : Int), .int .i64 0, .int .i64 0, .int .i64 0] from N5).four
      have S0 : w5.cell? ⟨wr.heap.size, 0, none⟩ = some (.int .i64 1) := (hb5.cell (p := ⟨wr.heap.size, 0, none⟩) (by simp)).trans (by go_simp)
      have S1 : w5.cell? ⟨wr.heap.size, 1, none⟩ = some (.int .i64 2) := (hb5.cell (p := ⟨wr.heap.size, 1, none⟩) (by simp)).trans (by go_simp)
      have S2 : w5.cell? ⟨wr.heap.size, 2, none⟩ = some (.int .i64 0) := (hb5.cell (p := ⟨wr.heap.size, 2, none⟩) (by simp)).trans (by go_simp)
      have N6 := N5.set 1 (.int .i64 (v1 : Int))
      have P6 := P5.far (p := ⟨w.heap.size + 1 + 1, 1, none⟩) (by show w.heap.size ≠ w.heap.size + 1 + 1; omega) (.int .i64 (v1 : Int))
      have R6 := R5.far (p := ⟨w.heap.size + 1 + 1, 1, none⟩) (by show w.heap.size + 1 ≠ w.heap.size + 1 + 1; omega) (.int .i64 (v1 : Int))
      have hB6 := hB5.setCell (p := ⟨w.heap.size + 1 + 1, 1, none⟩) (by show w.heap.size ≤ w.heap.size + 1 + 1; omega) (.int .i64 (v1 : Int))
      have hne : wr.heap.size ≠ w.heap.size + 1 + 1 := by omega
      refine mix_call (by rfl) (fun K hK => ?_)
      go_simp
      refine hK _ _ _ (fun _ h => h) ⟨(cell_same (Below.heap_setCell _ _ _ _ hne)).trans S0, (cell_same (Below.heap_setCell _ _ _ _ hne)).trans S1, (cell_same (Below.heap_setCell _ _ _ _ hne)).trans S2⟩ ?_
      (try simp only [Act.put, List.setIfInBounds_toArray, List.set_cons_zero, List.set_cons_succ])
      refine mix_nil ?_
      go_wp2
      exact ⟨⟨1 + 1, by omega, by go_num, P6, R6, N6, hB6⟩, by simp [intOf]⟩
    · have hidx := fldAt2 wr
      have hsl := slAll w.heap.size
      have hw1 : IntKind.i64.wrap (v2 : Int) = (v2 : Int) := by exact IntWalk.i64_in _ (by omega)
      obtain ⟨m0, m1, m2, m3, f0, f1, f2, f3⟩ := (show At wr (w.heap.size + 1 + 1) 151 #[.int .i64 (v0 : Int), .int .i64 (v1 : Int), .int .i64 0, .int .i64 0] from hN).four
      go_wp2
      refine wp_region_mix [(0, false), (1, false), (2, false), (3, false), (4, false), (5, false), (6, false), (7, false), (8, true), (9, false), (10, false), (11, false), (12, true)] (fun u => u.cell? ⟨wr.heap.size, 0, none⟩ = some (.int .i64 3) ∧ u.cell? ⟨wr.heap.size, 1, none⟩ = some (.int .i64 2) ∧ u.cell? ⟨wr.heap.size, 2, none⟩ = some (.int .i64 0)) (by kernel_rfl) (by kernel_rfl) (fun _ _ _ _ _ h => h) (by go_simp) ?_
      simp only [mixOps, List.map_cons, List.map_nil, List.getElem?_cons_succ, List.getElem?_cons_zero, Option.getD_some]
      repeat (first
        | (refine mix_skip (by rfl) ?_
           (try simp only [Act.put, List.setIfInBounds_toArray, List.set_cons_zero, List.set_cons_succ]))
        | (refine mix_pure (v := ?_) (by rfl) (fun u hu => ?_) ?_
           rotate_left
           · obtain ⟨_, _, _⟩ := hu
             go_simp
             (with_reducible rfl)
           (try simp only [Act.put, List.setIfInBounds_toArray, List.set_cons_zero, List.set_cons_succ])))
      have F5 := (hbel.alloc hbel.size (.cells #[.int .i64 3, .int .i64 2, .int .i64 0, .int .i64 9999] 154)).drew
      have P4 := (hP.alloc (.cells #[.int .i64 3, .int .i64 2, .int .i64 0, .int .i64 9999] 154)).drew
      refine mix_call (by rfl) (fun K hK => ?_)
      go_simp
      refine (R2 _ _ (HR.out _ _ P4)).mono ?_
      rintro e w5 ⟨rfl, hb5⟩
      have fI := fldI1 0 (v2 : Int)
      have P5 := P4.below hb5 P4.lt
      have N5 := ((hN.alloc (.cells #[.int .i64 3, .int .i64 2, .int .i64 0, .int .i64 9999] 154)).drew).below hb5 (by simp; omega)
      have R5 := ((hR.alloc (.cells #[.int .i64 3, .int .i64 2, .int .i64 0, .int .i64 9999] 154)).drew).below hb5 (by simp; omega)
      have hB5 := F5.trans (hb5.mono F5.size)
      refine hK _ _ _ (fun _ h => h) ⟨(hb5.cell (p := ⟨wr.heap.size, 0, none⟩) (by simp)).trans (by go_simp), (hb5.cell (p := ⟨wr.heap.size, 1, none⟩) (by simp)).trans (by go_simp), (hb5.cell (p := ⟨wr.heap.size, 2, none⟩) (by simp)).trans (by go_simp)⟩ ?_
      (try simp only [Act.put, List.setIfInBounds_toArray, List.set_cons_zero, List.set_cons_succ])
      iterate 3
        refine mix_pure (v := ?_) (by rfl) (fun u hu => ?_) ?_
        rotate_left
        · go_simp
          (with_reducible rfl)
        (try simp only [Act.put, List.setIfInBounds_toArray, List.set_cons_zero, List.set_cons_succ])
      clear m0 m1 m2 m3 f0 f1 f2 f3
      obtain ⟨m0, m1, m2, m3, f0, f1, f2, f3⟩ := (show At w5 (w.heap.size + 1 + 1) 151 #[.int .i64 (v0 : Int), .int .i64 (v1 : Int), .int .i64 0, .int .i64 0] from N5).four
      have S0 : w5.cell? ⟨wr.heap.size, 0, none⟩ = some (.int .i64 3) := (hb5.cell (p := ⟨wr.heap.size, 0, none⟩) (by simp)).trans (by go_simp)
      have S1 : w5.cell? ⟨wr.heap.size, 1, none⟩ = some (.int .i64 2) := (hb5.cell (p := ⟨wr.heap.size, 1, none⟩) (by simp)).trans (by go_simp)
      have S2 : w5.cell? ⟨wr.heap.size, 2, none⟩ = some (.int .i64 0) := (hb5.cell (p := ⟨wr.heap.size, 2, none⟩) (by simp)).trans (by go_simp)
      have N6 := N5.set 2 (.int .i64 (v2 : Int))
      have P6 := P5.far (p := ⟨w.heap.size + 1 + 1, 2, none⟩) (by show w.heap.size ≠ w.heap.size + 1 + 1; omega) (.int .i64 (v2 : Int))
      have R6 := R5.far (p := ⟨w.heap.size + 1 + 1, 2, none⟩) (by show w.heap.size + 1 ≠ w.heap.size + 1 + 1; omega) (.int .i64 (v2 : Int))
      have hB6 := hB5.setCell (p := ⟨w.heap.size + 1 + 1, 2, none⟩) (by show w.heap.size ≤ w.heap.size + 1 + 1; omega) (.int .i64 (v2 : Int))
      have hne : wr.heap.size ≠ w.heap.size + 1 + 1 := by omega
      refine mix_call (by rfl) (fun K hK => ?_)
      go_simp
      refine hK _ _ _ (fun _ h => h) ⟨(cell_same (Below.heap_setCell _ _ _ _ hne)).trans S0, (cell_same (Below.heap_setCell _ _ _ _ hne)).trans S1, (cell_same (Below.heap_setCell _ _ _ _ hne)).trans S2⟩ ?_
      (try simp only [Act.put, List.setIfInBounds_toArray, List.set_cons_zero, List.set_cons_succ])
      refine mix_nil ?_
      go_wp2
      exact ⟨⟨2 + 1, by omega, by go_num, P6, R6, N6, hB6⟩, by simp [intOf]⟩
    · have hidx := fldAt3 wr
      have hsl := slAll w.heap.size
      have hw1 : IntKind.i64.wrap ((v3 : Int) - 1000) = ((v3 : Int) - 1000) := by exact IntWalk.i64_in _ (by omega)
      obtain ⟨m0, m1, m2, m3, f0, f1, f2, f3⟩ := (show At wr (w.heap.size + 1 + 1) 151 #[.int .i64 (v0 : Int), .int .i64 (v1 : Int), .int .i64 (v2 : Int), .int .i64 0] from hN).four
      go_wp2
      refine wp_region_mix [(0, false), (1, false), (2, false), (3, false), (4, false), (5, false), (6, false), (7, false), (8, true), (9, false), (10, false), (11, false), (12, true)] (fun u => u.cell? ⟨wr.heap.size, 0, none⟩ = some (.int .i64 5) ∧ u.cell? ⟨wr.heap.size, 1, none⟩ = some (.int .i64 2) ∧ u.cell? ⟨wr.heap.size, 2, none⟩ = some (.int .i64 (-1000))) (by kernel_rfl) (by kernel_rfl) (fun _ _ _ _ _ h => h) (by go_simp) ?_
      simp only [mixOps, List.map_cons, List.map_nil, List.getElem?_cons_succ, List.getElem?_cons_zero, Option.getD_some]
      repeat (first
        | (refine mix_skip (by rfl) ?_
           (try simp only [Act.put, List.setIfInBounds_toArray, List.set_cons_zero, List.set_cons_succ]))
        | (refine mix_pure (v := ?_) (by rfl) (fun u hu => ?_) ?_
           rotate_left
           · obtain ⟨_, _, _⟩ := hu
             go_simp
             (with_reducible rfl)
           (try simp only [Act.put, List.setIfInBounds_toArray, List.set_cons_zero, List.set_cons_succ])))
      have F5 := (hbel.alloc hbel.size (.cells #[.int .i64 5, .int .i64 2, .int .i64 (-1000), .int .i64 1000] 154)).drew
      have P4 := (hP.alloc (.cells #[.int .i64 5, .int .i64 2, .int .i64 (-1000), .int .i64 1000] 154)).drew
      refine mix_call (by rfl) (fun K hK => ?_)
      go_simp
      refine (R3 _ _ (HR.out _ _ P4)).mono ?_
      rintro e w5 ⟨rfl, hb5⟩
      have fI := fldI1 0 (v3 : Int)
      have P5 := P4.below hb5 P4.lt
      have N5 := ((hN.alloc (.cells #[.int .i64 5, .int .i64 2, .int .i64 (-1000), .int .i64 1000] 154)).drew).below hb5 (by simp; omega)
      have R5 := ((hR.alloc (.cells #[.int .i64 5, .int .i64 2, .int .i64 (-1000), .int .i64 1000] 154)).drew).below hb5 (by simp; omega)
      have hB5 := F5.trans (hb5.mono F5.size)
      refine hK _ _ _ (fun _ h => h) ⟨(hb5.cell (p := ⟨wr.heap.size, 0, none⟩) (by simp)).trans (by go_simp), (hb5.cell (p := ⟨wr.heap.size, 1, none⟩) (by simp)).trans (by go_simp), (hb5.cell (p := ⟨wr.heap.size, 2, none⟩) (by simp)).trans (by go_simp)⟩ ?_
      (try simp only [Act.put, List.setIfInBounds_toArray, List.set_cons_zero, List.set_cons_succ])
      iterate 3
        refine mix_pure (v := ?_) (by rfl) (fun u hu => ?_) ?_
        rotate_left
        · go_simp
          (with_reducible rfl)
        (try simp only [Act.put, List.setIfInBounds_toArray, List.set_cons_zero, List.set_cons_succ])
      clear m0 m1 m2 m3 f0 f1 f2 f3
      obtain ⟨m0, m1, m2, m3, f0, f1, f2, f3⟩ := (show At w5 (w.heap.size + 1 + 1) 151 #[.int .i64 (v0 : Int), .int .i64 (v1 : Int), .int .i64 (v2 : Int), .int .i64 0] from N5).four
      have S0 : w5.cell? ⟨wr.heap.size, 0, none⟩ = some (.int .i64 5) := (hb5.cell (p := ⟨wr.heap.size, 0, none⟩) (by simp)).trans (by go_simp)
      have S1 : w5.cell? ⟨wr.heap.size, 1, none⟩ = some (.int .i64 2) := (hb5.cell (p := ⟨wr.heap.size, 1, none⟩) (by simp)).trans (by go_simp)
      have S2 : w5.cell? ⟨wr.heap.size, 2, none⟩ = some (.int .i64 (-1000)) := (hb5.cell (p := ⟨wr.heap.size, 2, none⟩) (by simp)).trans (by go_simp)
      have N6 := N5.set 3 (.int .i64 ((v3 : Int) - 1000))
      have P6 := P5.far (p := ⟨w.heap.size + 1 + 1, 3, none⟩) (by show w.heap.size ≠ w.heap.size + 1 + 1; omega) (.int .i64 ((v3 : Int) - 1000))
      have R6 := R5.far (p := ⟨w.heap.size + 1 + 1, 3, none⟩) (by show w.heap.size + 1 ≠ w.heap.size + 1 + 1; omega) (.int .i64 ((v3 : Int) - 1000))
      have hB6 := hB5.setCell (p := ⟨w.heap.size + 1 + 1, 3, none⟩) (by show w.heap.size ≤ w.heap.size + 1 + 1; omega) (.int .i64 ((v3 : Int) - 1000))
      have hne : wr.heap.size ≠ w.heap.size + 1 + 1 := by omega
      refine mix_call (by rfl) (fun K hK => ?_)
      go_simp
      refine hK _ _ _ (fun _ h => h) ⟨(cell_same (Below.heap_setCell _ _ _ _ hne)).trans S0, (cell_same (Below.heap_setCell _ _ _ _ hne)).trans S1, (cell_same (Below.heap_setCell _ _ _ _ hne)).trans S2⟩ ?_
      (try simp only [Act.put, List.setIfInBounds_toArray, List.set_cons_zero, List.set_cons_succ])
      refine mix_nil ?_
      go_wp2
      exact ⟨⟨3 + 1, by omega, by go_num, P6, R6, N6, hB6⟩, by simp [intOf]⟩
    · obtain ⟨m0, m1, m2, m3, _, _, _, _⟩ := (show At wr (w.heap.size + 1 + 1) 151 #[.int .i64 (v0 : Int), .int .i64 (v1 : Int), .int .i64 (v2 : Int), .int .i64 ((v3 : Int) - 1000)] from hN).four
      go_wp2_with fail
      refine (sampleOf _ _ _ _ _).mono ?_
      rintro e w5 ⟨rfl, hb5⟩
      have R5 := hR.below hb5 lR
      have hB5 := hbel.trans (hb5.mono hbel.size)
      obtain ⟨r0, r1, r2, r3, f0, f1, f2, f3⟩ := R5.four
      go_wp2_with fail
      refine bodyPost_ret (v := .agg #[.int .i64 v0, .int .i64 v1, .int .i64 v2, .int .i64 ((v3 : Int) - 1000)]) (by simp [results, Tryz.results148, go_sem, r0, r1, r2, r3]) rfl ?_
      exact ⟨rfl, (((hB5.setCell (by simp) _).setCell (by simp) _).setCell (by simp) _).setCell (by simp) _⟩

theorem seven_of {l : List UInt8} (h : l.length = 7) : ∃ x0 x1 x2 x3 x4 x5 x6, l = [x0, x1, x2, x3, x4, x5, x6] := by
  match l, h with
  | [x0, x1, x2, x3, x4, x5, x6], _ => exact ⟨x0, x1, x2, x3, x4, x5, x6, rfl⟩

set_option maxHeartbeats 2000000 in
theorem implDecodeSample (A : Option Addr) (n c : Nat) (l : List UInt8) (w : World) (ha : Rd eB w w.heap.size A l) (hn : l.length = n) (hm : n ≤ maxLen) (hF : Flds w) :
    Calls Tryz.prog 131 #[.slice A n c] w fun e w' => RetSR (decodeM l) w e w' := by
  have hB0 : Below w.heap.size w (w.alloc (.cells #[.int .i64 0, .int .i64 0, .int .i64 0, .int .i64 0, .int .i64 0] 179)) := (Below.refl _ _).alloc (Nat.le_refl _) _
  by_cases h7 : n = 7
  · subst h7
    obtain ⟨x0, x1, x2, x3, x4, x5, x6, hl⟩ := seven_of hn
    have hS0 : (w.alloc (.cells #[.int .i64 0, .int .i64 0, .int .i64 0, .int .i64 0, .int .i64 0] 179)).heap.size = w.heap.size + 1 := by simp
    have z0 := (At.new w 179 #[.int .i64 0, .int .i64 0, .int .i64 0, .int .i64 0, .int .i64 0]).alloc (.cells #[.int .u8 0, .int .u8 0, .int .u8 0, .int .u8 0, .int .u8 0, .int .u8 0, .int .u8 0] 177)
    have p0 := At.new (w.alloc (.cells #[.int .i64 0, .int .i64 0, .int .i64 0, .int .i64 0, .int .i64 0] 179)) 177 #[.int .u8 0, .int .u8 0, .int .u8 0, .int .u8 0, .int .u8 0, .int .u8 0, .int .u8 0]
    rw [hS0] at p0
    have hB1 := hB0.alloc hB0.size (.cells #[.int .u8 0, .int .u8 0, .int .u8 0, .int .u8 0, .int .u8 0, .int .u8 0, .int .u8 0] 177)
    obtain ⟨g, o, rfl, hg, _⟩ := ha (by rw [hl]; simp)
    have hsrc := Rd.src (ha.lift hB1)
    obtain ⟨u0, u1, u2, u3, hu⟩ : ∃ u0 u1 u2 u3, unpM l = (u0, u1, u2, u3) := ⟨_, _, _, _, rfl⟩
    have e7 : (((7 : Nat) : Int) != 7) = false := by decide
    have hsl := slAll (w.heap.size + 1)
    have hun := fun W (h : Flds W) => unpackSample x0 x1 x2 x3 x4 x5 x6 W h
    rw [← hl, hu] at hun
    have hcs : (eB.row l).length = 7 := by rw [okB.row_len, hn]; rfl
    have Hsp := Lib.hid (show (splice [.int .u8 0, .int .u8 0, .int .u8 0, .int .u8 0, .int .u8 0, .int .u8 0, .int .u8 0] 0 (eB.row l)).toArray = #[.int .u8 (x0.toNat : Int), .int .u8 (x1.toNat : Int), .int .u8 (x2.toNat : Int), .int .u8 (x3.toNat : Int), .int .u8 (x4.toNat : Int), .int .u8 (x5.toNat : Int), .int .u8 (x6.toNat : Int)] by rw [hl]; rfl)
    rcases faultM_or (u0, u1, u2, u3) with hf | hf
    all_goals
      have hq := implSampleFault u0 u1 u2 u3
      rw [hf] at hq
      first | rw [decodeM_yes hn hu hf] | rw [decodeM_no hn hu hf]
      clear hf hu hn hl ha
      go_enter Tryz.func131, Tryz.ntmps131
      go_wp2_with (refine wpList_copy_splice rfl (.tmp 9) (.tmp 10) 22 22 rfl 5 Tryz.underlying22 u8_size _ _ _ _ _ _ rfl rfl (w.heap.size + 1) 0 [.int .u8 0, .int .u8 0, .int .u8 0, .int .u8 0, .int .u8 0, .int .u8 0, .int .u8 0] 177 p0 (eB.row l) (by rw [hcs]; rfl) (fun _ => ⟨rfl, _, rfl, hsrc⟩) (by rw [hcs]; decide) (okB.row_one _) (w.heap.size + 1) _ (Below.refl _ _) (Nat.le_refl _) ?_
                   intro w5 hP5 hB5
                   have P5 : At w5 (w.heap.size + 1) 177 #[.int .u8 (x0.toNat : Int), .int .u8 (x1.toNat : Int), .int .u8 (x2.toNat : Int), .int .u8 (x3.toNat : Int), .int .u8 (x4.toNat : Int), .int .u8 (x5.toNat : Int), .int .u8 (x6.toNat : Int)] := by rw [← Hsp.out]; exact hP5.out
                   have R5 := z0.below hB5 (Nat.lt_succ_self _)
                   have hBw := hB1.trans (hB5.mono (Nat.le_succ _))
                   have q0 := P5.cell 0
                   have q1 := P5.cell 1
                   have q2 := P5.cell 2
                   have q3 := P5.cell 3
                   have q4 := P5.cell 4
                   have q5 := P5.cell 5
                   have q6 := P5.cell 6)
      refine (hun _ (hF.below hBw)).mono ?_
      rintro e w6 ⟨rfl, hb6⟩
      clear q0 q1 q2 q3 q4 q5 q6
      have hB6 := hBw.trans (hb6.mono hBw.size)
      have R6 := (R5.below hb6 R5.lt).alloc (.cells #[.int .i64 u0, .int .i64 u1, .int .i64 u2, .int .i64 u3] 25)
      have x6' := At.new w6 25 #[.int .i64 u0, .int .i64 u1, .int .i64 u2, .int .i64 u3]
      have hB7 := hB6.alloc hB6.size (.cells #[.int .i64 u0, .int .i64 u1, .int .i64 u2, .int .i64 u3] 25)
      go_wp2_with fail
      refine (hq _ (hF.below hB7)).mono ?_
      rintro e w8 ⟨rfl, hb8⟩
      have hB8 := hB7.trans (hb8.mono hB7.size)
      have R8 := R6.below hb8 R6.lt
      have x8 := x6'.below hb8 x6'.lt
      obtain ⟨r0, r1, r2, r3, r4, f0, f1, f2, f3, f4⟩ := R8.five
      obtain ⟨d0, d1, d2, d3, _, _, _, _⟩ := x8.four
      have hne : ¬ w.heap.size = w6.heap.size := by have := R5.lt; have := hb6.size; omega
      go_wp2_with fail
    · refine bodyPost_ret (v := .agg #[.int .i64 0, .int .i64 u0, .int .i64 u1, .int .i64 u2, .int .i64 u3]) (by simp [results, Tryz.results131, go_sem, r0, r1, r2, r3, r4]) rfl ?_
      exact ⟨rfl, ((((hB8.setCell (by simp) _).setCell (by simp) _).setCell (by simp) _).setCell (by simp) _).setCell (by simp) _⟩
    · refine bodyPost_ret (v := .agg #[.int .i64 5, .int .i64 0, .int .i64 0, .int .i64 0, .int .i64 0]) (by simp [results, Tryz.results131, go_sem, r0, r1, r2, r3, r4]) rfl ?_
      exact ⟨rfl, ((((hB8.setCell (by simp) _).setCell (by simp) _).setCell (by simp) _).setCell (by simp) _).setCell (by simp) _⟩
  · have hne : ((n : Int) != 7) = true := by rw [bne_iff_ne]; omega
    rw [decodeM_len (by omega)]
    clear hn ha
    go_enter Tryz.func131, Tryz.ntmps131
    go_wp2
    refine bodyPost_ret (v := .agg #[.int .i64 2, .int .i64 0, .int .i64 0, .int .i64 0, .int .i64 0]) (by simp [results, Tryz.results131, go_sem]) rfl ?_
    exact ⟨rfl, by repeat (first | exact Below.refl _ _ | refine Below.setCell ?_ (Nat.le_refl _) _ | refine Below.alloc ?_ (Nat.le_refl _) _)⟩
end Go.Proofs.YtmaillakhhdkfaaGreatDoor
/-
  What the law of samples says, of the pure answers.
-/
namespace Go.Proofs.YtmaillakhhdkfaaGreatDoor
set_option maxRecDepth 20000
open Go.RowKit

theorem readAt_two {l : List UInt8} {p : Nat} {a b : UInt8} (ha : l[p]? = some a) (hb : l[p + 1]? = some b) : readAt l p 2 0 = a.toNat + 256 * b.toNat := by
  rw [readAt_step (l := l) (p := p) (s := 2) (j := 0) (by omega) (by simpa using ha), readAt_step (l := l) (p := p) (s := 2) (j := 1) (by omega) hb, readAt_end]
  omega

theorem byte_lo (a b : UInt8) : UInt8.ofNat (a.toNat + 256 * b.toNat) = a := by
  apply UInt8.toNat.inj
  rw [UInt8.toNat_ofNat']
  have := a.toNat_lt
  omega
theorem byte_hi (a b : UInt8) : UInt8.ofNat ((a.toNat + 256 * b.toNat) / 256) = b := by
  apply UInt8.toNat.inj
  rw [UInt8.toNat_ofNat']
  have := a.toNat_lt
  have := b.toNat_lt
  omega
theorem byte_self (a : UInt8) : UInt8.ofNat a.toNat = a := by
  apply UInt8.toNat.inj
  rw [UInt8.toNat_ofNat']
  have := a.toNat_lt
  omega

/-- What is read is what was written. -/
theorem decode_encode {l : List UInt8} (h : (decodeM l).1 = 0) : encodeM (decodeM l).2 = (0, l) := by
  by_cases h7 : l.length = 7
  · rcases faultM_or (unpM l) with hf | hf
    · rw [decodeM_yes h7 rfl hf]
      show encodeM (unpM l) = (0, l)
      unfold encodeM
      rw [if_pos hf]
      obtain ⟨x0, x1, x2, x3, x4, x5, x6, rfl⟩ := seven_of h7
      unfold unpM
      rw [read_one (x := x0) rfl, readAt_two (p := 1) (a := x1) (b := x2) rfl rfl, readAt_two (p := 3) (a := x3) (b := x4) rfl rfl, readAt_two (p := 5) (a := x5) (b := x6) rfl rfl]
      simp only [Int.toNat_natCast, Int.sub_add_cancel]
      rw [encL_eq, byte_self, byte_lo, byte_hi, byte_lo, byte_hi, byte_lo, byte_hi]
    · rw [decodeM_no h7 rfl hf] at h
      cases h
  · rw [decodeM_len h7] at h
    cases h

theorem small_two {n : Nat} (h : n ≤ 9999) : (UInt8.ofNat n).toNat + 256 * (UInt8.ofNat (n / 256)).toNat = n := by
  rw [UInt8.toNat_ofNat', UInt8.toNat_ofNat']
  omega
/-- What is written is read. -/
theorem encode_decode {x : Smp} (h : faultM x = 0) : (encodeM x).2.length = 7 ∧ decodeM (encodeM x).2 = (0, x) := by
  obtain ⟨a0, a1, a2, a3⟩ := x
  obtain ⟨n0, n1, n2, n3, rfl, rfl, rfl, rfl, k0, k1, k2, k3⟩ := faultM_nat h
  rw [encodeM_nat h]
  have hl : (encL n0 n1 n2 n3).length = 7 := by rw [encL_eq]; rfl
  refine ⟨hl, ?_⟩
  have hu : unpM (encL n0 n1 n2 n3) = ((n0 : Int), (n1 : Int), (n2 : Int), (n3 : Int) - 1000) := by
    rw [encL_eq]
    unfold unpM
    rw [read_one (x := UInt8.ofNat n0) rfl, readAt_two (p := 1) (a := UInt8.ofNat n1) (b := UInt8.ofNat (n1 / 256)) rfl rfl, readAt_two (p := 3) (a := UInt8.ofNat n2) (b := UInt8.ofNat (n2 / 256)) rfl rfl, readAt_two (p := 5) (a := UInt8.ofNat n3) (b := UInt8.ofNat (n3 / 256)) rfl rfl,
      small_two (by omega), small_two (by omega), small_two (by omega)]
    rw [show (UInt8.ofNat n0).toNat = n0 by rw [UInt8.toNat_ofNat']; omega]
  exact decodeM_yes hl hu h
end Go.Proofs.YtmaillakhhdkfaaGreatDoor
/-
  The bytes of a record and a record out of its bytes, of the pure answers.
-/
namespace Go.Proofs.YtmaillakhhdkfaaGreatDoor
set_option maxRecDepth 20000
open Go.RowKit
set_option linter.unusedSimpArgs false
set_option linter.unusedVariables false

/-- A right sample's bytes. -/
def encSb (x : Smp) : List UInt8 := encL x.1.toNat x.2.1.toNat x.2.2.1.toNat (x.2.2.2 + 1000).toNat
theorem encSb_len (x : Smp) : (encSb x).length = 7 := by unfold encSb; rw [encL_eq]; rfl
theorem encodeM_encSb {x : Smp} (h : faultM x = 0) : encodeM x = (0, encSb x) := by unfold encodeM; rw [if_pos h]; rfl
/-- A right record's bytes. -/
def encT (r : Rcd) : List UInt8 := if r.1 = 1 then encSb r.2.2.1 else if r.1 = 2 then UInt8.ofNat r.2.1.toNat :: encSb r.2.2.1 else if r.1 = 3 then UInt8.ofNat r.2.1.toNat :: packL r.2.2.2.toNat 2 else packL r.2.2.2.toNat 2
def encR (r : Rcd) : List UInt8 := UInt8.ofNat r.1.toNat :: encT r
/-- What EncodeRecord answers. -/
def encRecM (r : Rcd) : Int × List UInt8 := if recFaultM r = 0 then (0, encR r) else (recFaultM r, [])

/-- The record of some bytes, right or not; false: there are not as many. -/
def decR (l : List UInt8) : Rcd × Bool :=
  if (readM l 0 1).2 = 1 ∧ l.length = 8 then ((1, 0, unpM (l.drop 1), 0), decide (recFaultM (1, 0, unpM (l.drop 1), 0) = 0))
  else if (readM l 0 1).2 = 2 ∧ l.length = 9 then ((2, (readM l 1 1).2, unpM (l.drop 2), 0), decide (recFaultM (2, (readM l 1 1).2, unpM (l.drop 2), 0) = 0))
  else if (readM l 0 1).2 = 3 ∧ l.length = 4 then ((3, (readM l 1 1).2, (0, 0, 0, 0), (readM l 2 2).2), decide (recFaultM (3, (readM l 1 1).2, (0, 0, 0, 0), (readM l 2 2).2) = 0))
  else if (readM l 0 1).2 = 4 ∧ l.length = 3 then ((4, 0, (0, 0, 0, 0), (readM l 1 2).2), decide (recFaultM (4, 0, (0, 0, 0, 0), (readM l 1 2).2) = 0))
  else (zeroR, false)
/-- What DecodeRecord answers. -/
def decodeRecM (l : List UInt8) : Int × Rcd := if (decR l).2 = true then (0, (decR l).1) else (5, zeroR)
/-- The record that is read from whatever there is. -/
def unpR (l : List UInt8) : Rcd :=
  if (readM l 0 1).2 = 1 then (1, 0, (decodeM (l.drop 1)).2, 0)
  else if (readM l 0 1).2 = 2 then (2, (readM l 1 1).2, (decodeM (l.drop 2)).2, 0)
  else if (readM l 0 1).2 = 3 then (3, (readM l 1 1).2, (0, 0, 0, 0), (readM l 2 2).2)
  else if (readM l 0 1).2 = 4 then (4, 0, (0, 0, 0, 0), (readM l 1 2).2)
  else ((readM l 0 1).2, 0, (0, 0, 0, 0), 0)

theorem rec1 (x : Smp) : recFaultM (1, 0, x, 0) = faultM x := by
  have : recFormM (1, 0, x, 0) = true := by unfold recFormM formM; simp
  rw [recFault_range this]; unfold rrangeM; rw [if_pos (by unfold mostM inB; simp)]
theorem rec2 (p : Int) (x : Smp) : recFaultM (2, p, x, 0) = if inB (p, 0, 3) = true then faultM x else 3 := by
  have : recFormM (2, p, x, 0) = true := by unfold recFormM formM; simp
  rw [recFault_range this]; unfold rrangeM mostM
  have h0 : inB ((0 : Int), 0, 9999) = true := by decide
  simp only [show ¬ ((2 : Int) = 4) by decide, if_false, h0, Bool.and_true]
theorem zero_right : faultM (0, 0, 0, 0) = 0 := by decide
theorem rec3 (p k : Int) : recFaultM (3, p, (0, 0, 0, 0), k) = if (inB (p, 0, 3) && inB (k, 0, 9999)) = true then 0 else 3 := by
  have : recFormM (3, p, (0, 0, 0, 0), k) = true := by unfold recFormM formM; simp
  rw [recFault_range this]; unfold rrangeM mostM
  simp only [show ¬ ((3 : Int) = 4) by decide, if_false, zero_right]
theorem rec4 (k : Int) : recFaultM (4, 0, (0, 0, 0, 0), k) = if inB (k, 0, 60000) = true then 0 else 3 := by
  have : recFormM (4, 0, (0, 0, 0, 0), k) = true := by unfold recFormM formM; simp
  rw [recFault_range this]; unfold rrangeM mostM
  have h0 : inB ((0 : Int), 0, 3) = true := by decide
  simp only [if_true, zero_right, h0, Bool.true_and]
theorem rec_other {k : Int} (h1 : k ≠ 1) (h2 : k ≠ 2) (h3 : k ≠ 3) (h4 : k ≠ 4) (r : Int × Smp × Int) : recFaultM (k, r) = 1 := recFault_form (by unfold recFormM; rw [if_neg h1, if_neg h2, if_neg h3, if_neg h4])

theorem decode_bad {l : List UInt8} (h : (decodeM l).1 ≠ 0) : (decodeM l).2 = (0, 0, 0, 0) ∧ encSb (decodeM l).2 ≠ l := by
  by_cases h7 : l.length = 7
  · rcases faultM_or (unpM l) with hf | hf
    · rw [decodeM_yes h7 rfl hf] at h; exact absurd rfl h
    · rw [decodeM_no h7 rfl hf]
      refine ⟨rfl, fun e => ?_⟩
      have := encode_decode (x := (0, 0, 0, 0)) zero_right
      rw [encodeM_encSb zero_right] at this
      have h2 := this.2
      rw [show encSb (0, 0, 0, 0) = l from e, decodeM_no h7 rfl hf] at h2
      cases h2
  · rw [decodeM_len h7]
    exact ⟨rfl, fun e => h7 (by rw [← e]; exact encSb_len _)⟩
theorem decode_good {l : List UInt8} (h : (decodeM l).1 = 0) : l.length = 7 ∧ (decodeM l).2 = unpM l ∧ faultM (unpM l) = 0 ∧ encSb (unpM l) = l := by
  have h1 := decode_encode h
  by_cases h7 : l.length = 7
  · rcases faultM_or (unpM l) with hf | hf
    · rw [decodeM_yes h7 rfl hf] at h1
      refine ⟨h7, by rw [decodeM_yes h7 rfl hf], hf, ?_⟩
      rw [encodeM_encSb hf] at h1
      exact (Prod.mk.inj h1).2
    · rw [decodeM_no h7 rfl hf] at h; cases h
  · rw [decodeM_len h7] at h; cases h
theorem unp_bad {l : List UInt8} (h : (decodeM l).1 ≠ 0) (h7 : l.length = 7) : faultM (unpM l) = 3 := by
  rcases faultM_or (unpM l) with hf | hf
  · rw [decodeM_yes h7 rfl hf] at h; exact absurd rfl h
  · exact hf
theorem byte_of (b : UInt8) : UInt8.ofNat ((b.toNat : Int)).toNat = b := by rw [Int.toNat_natCast]; exact byte_self b
theorem read1 {l : List UInt8} {p : Nat} {b : UInt8} (h : l[p]? = some b) : (readM l p 1).2 = (b.toNat : Int) := by
  have hl := getElem?_some_lt h
  rw [show (1 : Int) = ((1 : Nat) : Int) from rfl, readM_nat ⟨by omega, by omega, by omega⟩]
  rw [readAt_step (l := l) (p := p) (s := 1) (j := 0) (by omega) (by simpa using h), readAt_end]
  simp
theorem read2 {l : List UInt8} {p : Nat} {a b : UInt8} (ha : l[p]? = some a) (hb : l[p + 1]? = some b) : (readM l p 2).2 = ((a.toNat + 256 * b.toNat : Nat) : Int) := by
  have hl := getElem?_some_lt hb
  rw [show (2 : Int) = ((2 : Nat) : Int) from rfl, readM_nat ⟨by omega, by omega, by omega⟩]
  rw [readAt_two ha hb]
theorem pack_two (a b : UInt8) : packL (((a.toNat + 256 * b.toNat : Nat) : Int)).toNat 2 = [a, b] := by
  rw [Int.toNat_natCast, pack2, byte_lo, byte_hi]
theorem read0_nil : (readM [] 0 1).2 = 0 := by decide

theorem dec_of {l : List UInt8} {r : Rcd} {b : Bool} (h : decR l = (r, b)) : decodeRecM l = if b = true then (0, r) else (5, zeroR) := by unfold decodeRecM; rw [h]
theorem dec_no {l : List UInt8} {r : Rcd} (h : decR l = (r, false)) : decodeRecM l = (5, zeroR) := dec_of h
theorem dec_yes {l : List UInt8} {r : Rcd} (h : decR l = (r, true)) : decodeRecM l = (0, r) := dec_of h
theorem ne12 : ¬ (1 : Int) = 2 := by decide
theorem ne13 : ¬ (1 : Int) = 3 := by decide
theorem ne14 : ¬ (1 : Int) = 4 := by decide
theorem ne21 : ¬ (2 : Int) = 1 := by decide
theorem ne23 : ¬ (2 : Int) = 3 := by decide
theorem ne24 : ¬ (2 : Int) = 4 := by decide
theorem ne31 : ¬ (3 : Int) = 1 := by decide
theorem ne32 : ¬ (3 : Int) = 2 := by decide
theorem ne34 : ¬ (3 : Int) = 4 := by decide
theorem ne41 : ¬ (4 : Int) = 1 := by decide
theorem ne42 : ¬ (4 : Int) = 2 := by decide
theorem ne43 : ¬ (4 : Int) = 3 := by decide
section
variable {l : List UInt8}
theorem decR_1 (k : (readM l 0 1).2 = 1) (h : l.length = 8) : decR l = ((1, 0, unpM (l.drop 1), 0), decide (recFaultM (1, 0, unpM (l.drop 1), 0) = 0)) := by unfold decR; rw [if_pos ⟨k, h⟩]
theorem decR_1n (k : (readM l 0 1).2 = 1) (h : ¬ l.length = 8) : decR l = (zeroR, false) := by unfold decR; rw [k, if_neg (fun q => h q.2), if_neg (fun q => ne12 q.1), if_neg (fun q => ne13 q.1), if_neg (fun q => ne14 q.1)]
theorem decR_2 (k : (readM l 0 1).2 = 2) (h : l.length = 9) : decR l = ((2, (readM l 1 1).2, unpM (l.drop 2), 0), decide (recFaultM (2, (readM l 1 1).2, unpM (l.drop 2), 0) = 0)) := by unfold decR; rw [k, if_neg (fun q => ne21 q.1), if_pos ⟨rfl, h⟩]
theorem decR_2n (k : (readM l 0 1).2 = 2) (h : ¬ l.length = 9) : decR l = (zeroR, false) := by unfold decR; rw [k, if_neg (fun q => ne21 q.1), if_neg (fun q => h q.2), if_neg (fun q => ne23 q.1), if_neg (fun q => ne24 q.1)]
theorem decR_3 (k : (readM l 0 1).2 = 3) (h : l.length = 4) : decR l = ((3, (readM l 1 1).2, (0, 0, 0, 0), (readM l 2 2).2), decide (recFaultM (3, (readM l 1 1).2, (0, 0, 0, 0), (readM l 2 2).2) = 0)) := by unfold decR; rw [k, if_neg (fun q => ne31 q.1), if_neg (fun q => ne32 q.1), if_pos ⟨rfl, h⟩]
theorem decR_3n (k : (readM l 0 1).2 = 3) (h : ¬ l.length = 4) : decR l = (zeroR, false) := by unfold decR; rw [k, if_neg (fun q => ne31 q.1), if_neg (fun q => ne32 q.1), if_neg (fun q => h q.2), if_neg (fun q => ne34 q.1)]
theorem decR_4 (k : (readM l 0 1).2 = 4) (h : l.length = 3) : decR l = ((4, 0, (0, 0, 0, 0), (readM l 1 2).2), decide (recFaultM (4, 0, (0, 0, 0, 0), (readM l 1 2).2) = 0)) := by unfold decR; rw [k, if_neg (fun q => ne41 q.1), if_neg (fun q => ne42 q.1), if_neg (fun q => ne43 q.1), if_pos ⟨rfl, h⟩]
theorem decR_4n (k : (readM l 0 1).2 = 4) (h : ¬ l.length = 3) : decR l = (zeroR, false) := by unfold decR; rw [k, if_neg (fun q => ne41 q.1), if_neg (fun q => ne42 q.1), if_neg (fun q => ne43 q.1), if_neg (fun q => h q.2)]
theorem decR_o (k1 : ¬ (readM l 0 1).2 = 1) (k2 : ¬ (readM l 0 1).2 = 2) (k3 : ¬ (readM l 0 1).2 = 3) (k4 : ¬ (readM l 0 1).2 = 4) : decR l = (zeroR, false) := by unfold decR; rw [if_neg (fun q => k1 q.1), if_neg (fun q => k2 q.1), if_neg (fun q => k3 q.1), if_neg (fun q => k4 q.1)]
theorem unpR_1 (k : (readM l 0 1).2 = 1) : unpR l = (1, 0, (decodeM (l.drop 1)).2, 0) := by unfold unpR; rw [if_pos k]
theorem unpR_2 (k : (readM l 0 1).2 = 2) : unpR l = (2, (readM l 1 1).2, (decodeM (l.drop 2)).2, 0) := by unfold unpR; rw [k, if_neg ne21, if_pos rfl]
theorem unpR_3 (k : (readM l 0 1).2 = 3) : unpR l = (3, (readM l 1 1).2, (0, 0, 0, 0), (readM l 2 2).2) := by unfold unpR; rw [k, if_neg ne31, if_neg ne32, if_pos rfl]
theorem unpR_4 (k : (readM l 0 1).2 = 4) : unpR l = (4, 0, (0, 0, 0, 0), (readM l 1 2).2) := by unfold unpR; rw [k, if_neg ne41, if_neg ne42, if_neg ne43, if_pos rfl]
theorem unpR_o (k1 : ¬ (readM l 0 1).2 = 1) (k2 : ¬ (readM l 0 1).2 = 2) (k3 : ¬ (readM l 0 1).2 = 3) (k4 : ¬ (readM l 0 1).2 = 4) : unpR l = ((readM l 0 1).2, 0, (0, 0, 0, 0), 0) := by unfold unpR; rw [if_neg k1, if_neg k2, if_neg k3, if_neg k4]
end
theorem encR_1 (p : Int) (y : Smp) (k : Int) : encR (1, p, y, k) = 1 :: encSb y := by unfold encR encT; rw [if_pos rfl]; rfl
theorem encR_2 (p : Int) (y : Smp) (k : Int) : encR (2, p, y, k) = 2 :: UInt8.ofNat p.toNat :: encSb y := by unfold encR encT; rw [if_neg ne21, if_pos rfl]; rfl
theorem encR_3 (p : Int) (y : Smp) (k : Int) : encR (3, p, y, k) = 3 :: UInt8.ofNat p.toNat :: packL k.toNat 2 := by unfold encR encT; rw [if_neg ne31, if_neg ne32, if_pos rfl]; rfl
theorem encR_4 (p : Int) (y : Smp) (k : Int) : encR (4, p, y, k) = 4 :: packL k.toNat 2 := by unfold encR encT; rw [if_neg ne41, if_neg ne42, if_neg ne43]; rfl
theorem byte_is {x : UInt8} {k : Nat} (h : (x.toNat : Int) = (k : Int)) (hk : k < 256) : x = UInt8.ofNat k := by
  apply UInt8.toNat.inj
  rw [UInt8.toNat_ofNat']
  omega

/-- The program's way: what is read from whatever there is, held against its own bytes. -/
theorem dec_or (l : List UInt8) : (decodeRecM l = (0, unpR l) ∧ recFaultM (unpR l) = 0 ∧ encR (unpR l) = l) ∨ (decodeRecM l = (5, zeroR) ∧ ¬ (recFaultM (unpR l) = 0 ∧ encR (unpR l) = l)) := by
  rcases l with _ | ⟨x, m⟩
  · have a1 : ¬ (readM [] 0 1).2 = 1 := by rw [read0_nil]; decide
    have a2 : ¬ (readM [] 0 1).2 = 2 := by rw [read0_nil]; decide
    have a3 : ¬ (readM [] 0 1).2 = 3 := by rw [read0_nil]; decide
    have a4 : ¬ (readM [] 0 1).2 = 4 := by rw [read0_nil]; decide
    refine .inr ⟨dec_no (decR_o a1 a2 a3 a4), ?_⟩
    rw [unpR_o a1 a2 a3 a4]
    exact fun h => absurd h.1 (by rw [rec_other a1 a2 a3 a4]; decide)
  have hk : (readM (x :: m) 0 1).2 = (x.toNat : Int) := read1 (p := 0) rfl
  by_cases k1 : (readM (x :: m) 0 1).2 = 1
  · have hx : x = 1 := byte_is (k := 1) (by rw [← hk, k1]; rfl) (by omega)
    rw [unpR_1 k1, encR_1, rec1, show (x :: m).drop 1 = m from rfl, hx]
    by_cases h0 : (decodeM m).1 = 0
    · obtain ⟨h7, hd, hf, he⟩ := decode_good h0
      refine .inl ⟨?_, by rw [hd]; exact hf, by rw [hd, he]⟩
      rw [← hx, dec_yes (r := (1, 0, unpM m, 0)) (by rw [decR_1 k1 (by simp [h7]), show (x :: m).drop 1 = m from rfl, rec1, hf]; rfl), hd]
    · obtain ⟨hd, he⟩ := decode_bad h0
      refine .inr ⟨?_, fun h => he (List.cons.inj h.2).2⟩
      rw [← hx]
      by_cases h7 : (x :: m).length = 8
      · have hu := unp_bad h0 (by simpa using h7)
        exact dec_no (r := (1, 0, unpM m, 0)) (by rw [decR_1 k1 h7, show (x :: m).drop 1 = m from rfl, rec1, hu]; rfl)
      · exact dec_no (decR_1n k1 h7)
  by_cases k2 : (readM (x :: m) 0 1).2 = 2
  · have hx : x = 2 := byte_is (k := 2) (by rw [← hk, k2]; rfl) (by omega)
    rw [unpR_2 k2, encR_2, rec2]
    rcases m with _ | ⟨y, m⟩
    · refine .inr ⟨dec_no (decR_2n k2 (by simp)), ?_⟩
      rintro ⟨-, h⟩
      have := congrArg List.length h
      simp at this
    have hp : (readM (x :: y :: m) 1 1).2 = (y.toNat : Int) := read1 (p := 1) rfl
    rw [hp, byte_of, show (x :: y :: m).drop 2 = m from rfl]
    by_cases h0 : (decodeM m).1 = 0
    · obtain ⟨h7, hd, hf, he⟩ := decode_good h0
      rcases hb : inB ((y.toNat : Int), 0, 3)
      · refine .inr ⟨dec_no (r := (2, (y.toNat : Int), unpM m, 0)) ?_, fun h => absurd h.1 (by rw [if_neg (by simp)]; decide)⟩
        rw [decR_2 k2 (by simp [h7]), show (x :: y :: m).drop 2 = m from rfl, hp, rec2, hb]; rfl
      · refine .inl ⟨?_, by rw [if_pos rfl, hd]; exact hf, by rw [hd, he, hx]⟩
        rw [dec_yes (r := (2, (y.toNat : Int), unpM m, 0)) (by rw [decR_2 k2 (by simp [h7]), show (x :: y :: m).drop 2 = m from rfl, hp, rec2, hb, if_pos rfl, hf]; rfl), hd]
    · obtain ⟨hd, he⟩ := decode_bad h0
      refine .inr ⟨?_, fun h => he (List.cons.inj (List.cons.inj h.2).2).2⟩
      by_cases h7 : (x :: y :: m).length = 9
      · have hu := unp_bad h0 (by simpa using h7)
        refine dec_no (r := (2, (y.toNat : Int), unpM m, 0)) ?_
        rw [decR_2 k2 h7, show (x :: y :: m).drop 2 = m from rfl, hp, rec2, hu]
        rcases hb : inB ((y.toNat : Int), 0, 3) <;> rfl
      · exact dec_no (decR_2n k2 h7)
  by_cases k3 : (readM (x :: m) 0 1).2 = 3
  · have hx : x = 3 := byte_is (k := 3) (by rw [← hk, k3]; rfl) (by omega)
    rw [unpR_3 k3, encR_3]
    by_cases h4 : (x :: m).length = 4
    · obtain ⟨y, a, b, rfl⟩ : ∃ y a b, m = [y, a, b] := by
        rcases m with _ | ⟨y, _ | ⟨a, _ | ⟨b, _ | ⟨c, m⟩⟩⟩⟩ <;> simp at h4
        exact ⟨y, a, b, rfl⟩
      have hp : (readM [x, y, a, b] 1 1).2 = (y.toNat : Int) := read1 (p := 1) rfl
      have hq : (readM [x, y, a, b] 2 2).2 = ((a.toNat + 256 * b.toNat : Nat) : Int) := read2 (p := 2) rfl rfl
      have hD := decR_3 k3 h4
      rw [hp, hq] at hD
      rw [hp, hq, pack_two, byte_of]
      by_cases hb : recFaultM (3, (y.toNat : Int), (0, 0, 0, 0), ((a.toNat + 256 * b.toNat : Nat) : Int)) = 0
      · rw [decide_eq_true hb] at hD
        exact .inl ⟨dec_yes hD, hb, by rw [hx]⟩
      · rw [decide_eq_false hb] at hD
        exact .inr ⟨dec_no hD, fun h => hb h.1⟩
    · exact .inr ⟨dec_no (decR_3n k3 h4), fun h => h4 (by rw [← h.2]; simp [packL_len])⟩
  by_cases k4 : (readM (x :: m) 0 1).2 = 4
  · have hx : x = 4 := byte_is (k := 4) (by rw [← hk, k4]; rfl) (by omega)
    rw [unpR_4 k4, encR_4]
    by_cases h4 : (x :: m).length = 3
    · obtain ⟨a, b, rfl⟩ : ∃ a b, m = [a, b] := by
        rcases m with _ | ⟨a, _ | ⟨b, _ | ⟨c, m⟩⟩⟩ <;> simp at h4
        exact ⟨a, b, rfl⟩
      have hq : (readM [x, a, b] 1 2).2 = ((a.toNat + 256 * b.toNat : Nat) : Int) := read2 (p := 1) rfl rfl
      have hD := decR_4 k4 h4
      rw [hq] at hD
      rw [hq, pack_two]
      by_cases hb : recFaultM (4, 0, (0, 0, 0, 0), ((a.toNat + 256 * b.toNat : Nat) : Int)) = 0
      · rw [decide_eq_true hb] at hD
        exact .inl ⟨dec_yes hD, hb, by rw [hx]⟩
      · rw [decide_eq_false hb] at hD
        exact .inr ⟨dec_no hD, fun h => hb h.1⟩
    · exact .inr ⟨dec_no (decR_4n k4 h4), fun h => h4 (by rw [← h.2]; simp [packL_len])⟩
  · rw [unpR_o k1 k2 k3 k4]
    exact .inr ⟨dec_no (decR_o k1 k2 k3 k4), fun h => absurd h.1 (by rw [rec_other k1 k2 k3 k4]; decide)⟩
end Go.Proofs.YtmaillakhhdkfaaGreatDoor
/-
  A record's bytes: the model's.
-/
namespace Go.Proofs.YtmaillakhhdkfaaGreatDoor
set_option maxRecDepth 20000
open Go.RowKit
set_option linter.unusedSimpArgs false
set_option linter.unusedVariables false
attribute [local irreducible] mixW

theorem ow_oneR (w : World) (b : UInt8) (v : Int) (hv : v = (b.toNat : Int)) : Ow eB (w.alloc (.cells #[.int .u8 v] 5)) w.heap.size (some ⟨w.heap.size, 0, none⟩) 1 1 [b] :=
  Ow.lit w [b] _ 1 (Nat.le_refl _) (by unfold maxLen; omega) (by simp [Enc.row, eB, hv]) rfl
/-- A record with no fault: its numbers. -/
theorem rec_nat {a0 a1 a2 a3 a4 a5 a6 : Int} (h : recFaultM (a0, a1, (a2, a3, a4, a5), a6) = 0) : (∃ n0 n1 n2 n3 : Nat, a2 = n0 ∧ a3 = n1 ∧ a4 = n2 ∧ a5 = (n3 : Int) - 1000 ∧ n0 ≤ 9 ∧ n1 ≤ 999 ∧ n2 ≤ 9999 ∧ n3 ≤ 2000) ∧ (∃ p : Nat, a1 = p ∧ p ≤ 3) ∧ (∃ k : Nat, a6 = k ∧ k ≤ 60000 ∧ (a0 ≠ 4 → k ≤ 9999)) ∧ (a0 = 1 ∨ a0 = 2 ∨ a0 = 3 ∨ a0 = 4) ∧ recFormM (a0, a1, (a2, a3, a4, a5), a6) = true ∧ faultM (a2, a3, a4, a5) = 0 := by
  have hf : recFormM (a0, a1, (a2, a3, a4, a5), a6) = true := by
    rcases hf : recFormM (a0, a1, (a2, a3, a4, a5), a6)
    · rw [recFault_form hf] at h; cases h
    · rfl
  have h1 := h
  rw [recFault_range hf] at h1
  unfold rrangeM at h1
  rcases hb : (inB (a1, 0, 3) && inB (a6, 0, mostM (a0, a1, (a2, a3, a4, a5), a6)))
  · simp only [hb] at h1; cases h1
  · simp only [hb, if_true] at h1
    have hb2 : (0 ≤ a1 ∧ a1 ≤ 3) ∧ (0 ≤ a6 ∧ a6 ≤ mostM (a0, a1, (a2, a3, a4, a5), a6)) := by simpa [inB] using hb
    have hm : mostM (a0, a1, (a2, a3, a4, a5), a6) ≤ 60000 ∧ (a0 ≠ 4 → mostM (a0, a1, (a2, a3, a4, a5), a6) ≤ 9999) := by
      unfold mostM
      by_cases h4 : a0 = 4
      · rw [if_pos h4]; exact ⟨by omega, fun q => absurd h4 q⟩
      · rw [if_neg h4]; exact ⟨by omega, fun _ => by omega⟩
    have hk : a0 = 1 ∨ a0 = 2 ∨ a0 = 3 ∨ a0 = 4 := by
      by_cases k1 : a0 = 1
      · exact .inl k1
      by_cases k2 : a0 = 2
      · exact .inr (.inl k2)
      by_cases k3 : a0 = 3
      · exact .inr (.inr (.inl k3))
      by_cases k4 : a0 = 4
      · exact .inr (.inr (.inr k4))
      · unfold recFormM at hf; rw [if_neg k1, if_neg k2, if_neg k3, if_neg k4] at hf; cases hf
    refine ⟨faultM_nat h1, ⟨a1.toNat, by omega, by omega⟩, ⟨a6.toNat, by omega, by omega, fun q => by have := hm.2 q; omega⟩, hk, hf, h1⟩
theorem encSb_nat (n0 n1 n2 n3 : Nat) : encSb ((n0 : Int), (n1 : Int), (n2 : Int), (n3 : Int) - 1000) = encL n0 n1 n2 n3 := by
  unfold encSb
  simp only [Int.toNat_natCast, Int.sub_add_cancel]
theorem packL_is (k s : Nat) : packL ((k : Int)).toNat s = packL k s := by rw [Int.toNat_natCast]

set_option maxHeartbeats 4000000 in
theorem l5Encode (g : Nat) (a0 a1 a2 a3 a4 a5 a6 : Int) (w : World) (hx : At w g 27 #[.int .i64 a0, .int .i64 a1, .int .i64 a2, .int .i64 a3, .int .i64 a4, .int .i64 a5, .int .i64 a6]) (h : recFaultM (a0, a1, (a2, a3, a4, a5), a6) = 0) :
    Calls Tryz.prog 40 #[.pointer (some ⟨g, 0, none⟩)] w fun e w' => ∃ A n c, e = .returned (.slice A n c) ∧ Ow eB w' w.heap.size A n c (encR (a0, a1, (a2, a3, a4, a5), a6)) ∧ Below w.heap.size w w' := by
  obtain ⟨⟨n0, n1, n2, n3, rfl, rfl, rfl, rfl, k0, k1, k2, k3⟩, ⟨p, rfl, kp⟩, ⟨k, rfl, kk, kk2⟩, hk, -, -⟩ := rec_nat h
  clear h
  have hg := hx.lt
  rcases hk with rfl | rfl | rfl | rfl
  · rw [encR_1, encSb_nat]
    have hx0 := hx.alloc (.cells #[.int .u8 1] 5)
    have hB0 : Below w.heap.size w (w.alloc (.cells #[.int .u8 1] 5)) := (Below.refl _ _).alloc (Nat.le_refl _) _
    have ob := ow_oneR w 1 1 rfl
    obtain ⟨c0, c1, c2, c3, c4, c5, c6⟩ := hx.seven
    obtain ⟨y0, y1, y2, y3, y4, y5, y6⟩ := hx0.seven
    go_enter Tryz.func40, Tryz.ntmps40
    go_wp2_with fail
    refine (l2EncodeR g n0 n1 n2 n3 1 p k _ hx0 k0 k1 k2 k3).mono ?_
    rintro e w2 ⟨A2, c2', rfl, o2, hb2⟩
    have hB2 := hB0.trans (hb2.mono hB0.size)
    have ob2 := ob.below hb2 (Nat.le_refl _)
    go_wp2_with (at_builtin; refine wpList_append_ow okB _ rfl (.tmp 16) (.tmp 20) _ rfl w.heap.size info_u8 Tryz.underlying22 rfl _ 1 1 [1] rfl ob2 A2 7 c2' _ (encL n0 n1 n2 n3) rfl (o2.rd okB) (o2.len okB) (by unfold maxLen; omega) (by omega) hB2.size ?_; intro A9 c9 w9 ow9 hg9 _)
    go_ret
    exact ⟨A9, _, c9, rfl, ow9, hB2.grown hg9 hB2.size (fun g hg => (ob2.lt g hg).1)⟩
  · rw [encR_2, encSb_nat]
    have hx0 := hx.alloc (.cells #[.int .u8 2] 5)
    have hB0 : Below w.heap.size w (w.alloc (.cells #[.int .u8 2] 5)) := (Below.refl _ _).alloc (Nat.le_refl _) _
    have ob := ow_oneR w 2 2 rfl
    obtain ⟨c0, c1, c2, c3, c4, c5, c6⟩ := hx.seven
    obtain ⟨y0, y1, y2, y3, y4, y5, y6⟩ := hx0.seven
    go_enter Tryz.func40, Tryz.ntmps40
    go_wp2
    refine wp_region_mix [(0, false), (1, false), (2, false), (3, false), (4, false), (5, false), (8, false), (9, false), (10, false), (6, true), (7, true), (11, true), (12, true), (13, false)] (fun u => At u g 27 #[.int .i64 2, .int .i64 p, .int .i64 n0, .int .i64 n1, .int .i64 n2, .int .i64 ((n3 : Int) - 1000), .int .i64 k]) (by kernel_rfl) (by kernel_rfl) (fun _ _ _ _ _ h => h) hx0.drew ?_
    simp only [mixOps, List.map_cons, List.map_nil, List.getElem?_cons_succ, List.getElem?_cons_zero, Option.getD_some]
    repeat (first
        | (refine mix_skip (by rfl) ?_
           (try simp only [Act.put, List.setIfInBounds_toArray, List.set_cons_zero, List.set_cons_succ]))
        | (refine mix_pure (v := ?_) (by rfl) (fun u hu => ?_) ?_
           rotate_left
           · obtain ⟨_, _, _, _, _, _, _⟩ := hu.seven
             go_simp
             (with_reducible rfl)
           (try simp only [Act.put, List.setIfInBounds_toArray, List.set_cons_zero, List.set_cons_succ])))
    have hB0 := hB0.drew
    have X0 : At (w.alloc (.cells #[.int .u8 2] 5)).drew g 27 #[.int .i64 2, .int .i64 p, .int .i64 n0, .int .i64 n1, .int .i64 n2, .int .i64 ((n3 : Int) - 1000), .int .i64 k] := hx0.drew
    have ob : Ow eB (w.alloc (.cells #[.int .u8 2] 5)).drew w.heap.size (some ⟨w.heap.size, 0, none⟩) 1 1 [2] := ob
    generalize (w.alloc (.cells #[.int .u8 2] 5)).drew = v0 at *
    refine mix_call (by rfl) (fun K hK => ?_)
    go_simp
    have X1 := X0.alloc (.cells #[.int .u8 (IntKind.u8.wrap (p : Int))] 5)
    have hB1 := hB0.alloc hB0.size (.cells #[.int .u8 (IntKind.u8.wrap (p : Int))] 5)
    have ob1 := ob.alloc (.cells #[.int .u8 (IntKind.u8.wrap (p : Int))] 5)
    have oc1 := (ow_oneR v0 (UInt8.ofNat p) (IntKind.u8.wrap (p : Int)) (by rw [byte_small1 (by omega)]; exact IntWalk.u8_in _ (by omega)))
    refine hK _ _ (fun u => At u g 27 #[.int .i64 2, .int .i64 p, .int .i64 n0, .int .i64 n1, .int .i64 n2, .int .i64 ((n3 : Int) - 1000), .int .i64 k]) (fun _ h => h) X1 ?_
    clear hK K
    (try simp only [Act.put, List.setIfInBounds_toArray, List.set_cons_zero, List.set_cons_succ])
    refine mix_call (by rfl) (fun K hK => ?_)
    refine wp_append_ow okB _ (.tmp 24) (.tmp 30) _ rfl w.heap.size info_u8 Tryz.underlying22 rfl _ 1 1 [2] rfl ob1 _ 1 1 _ [UInt8.ofNat p] rfl (oc1.rd okB) rfl (by unfold maxLen; omega) (by omega) hB1.size ?_
    intro A3 c3' w3 ow3 hg3 _
    have hB3 : Below w.heap.size w w3 := hB1.grown hg3 hB1.size (fun g hg => (ob1.lt g hg).1)
    have X3 := X1.grown hg3 (fun e => by have := (ob1.lt _ e).1; omega)
    refine hK _ _ (fun u => At u g 27 #[.int .i64 2, .int .i64 p, .int .i64 n0, .int .i64 n1, .int .i64 n2, .int .i64 ((n3 : Int) - 1000), .int .i64 k]) (fun _ h => h) X3 ?_
    clear hK K
    (try simp only [Act.put, List.setIfInBounds_toArray, List.set_cons_zero, List.set_cons_succ])
    refine mix_call (by rfl) (fun K hK => ?_)
    go_simp
    refine (l2EncodeR g n0 n1 n2 n3 2 p k _ X3 k0 k1 k2 k3).mono ?_
    rintro e w4 ⟨A4, c4', rfl, o4, hb4⟩
    have hB4 := hB3.trans (hb4.mono hB3.size)
    have X4 := X3.below hb4 X3.lt
    have ow4 := ow3.below hb4 (Nat.le_refl _)
    refine hK _ _ (fun u => At u g 27 #[.int .i64 2, .int .i64 p, .int .i64 n0, .int .i64 n1, .int .i64 n2, .int .i64 ((n3 : Int) - 1000), .int .i64 k]) (fun _ h => h) X4 ?_
    clear hK K
    (try simp only [Act.put, List.setIfInBounds_toArray, List.set_cons_zero, List.set_cons_succ])
    refine mix_call (by rfl) (fun K hK => ?_)
    refine wp_append_ow okB _ (.tmp 31) (.tmp 35) _ rfl w.heap.size info_u8 Tryz.underlying22 rfl A3 (1 + 1) c3' ([2] ++ [UInt8.ofNat p]) rfl ow4 A4 7 c4' _ (encL n0 n1 n2 n3) rfl (o4.rd okB) (o4.len okB) (by unfold maxLen; omega) (by omega) hB4.size ?_
    intro A9 c9 w9 ow9 hg9 _
    have hB9 : Below w.heap.size w w9 := hB4.grown hg9 hB4.size (fun g hg => (ow4.lt g hg).1)
    have X9 := X4.grown hg9 (fun e => by have := (ow4.lt _ e).1; omega)
    refine hK _ _ (fun u => At u g 27 #[.int .i64 2, .int .i64 p, .int .i64 n0, .int .i64 n1, .int .i64 n2, .int .i64 ((n3 : Int) - 1000), .int .i64 k]) (fun _ h => h) X9 ?_
    clear hK K
    (try simp only [Act.put, List.setIfInBounds_toArray, List.set_cons_zero, List.set_cons_succ])
    refine mix_pure (v := ?_) (by rfl) (fun u hu => ?_) ?_
    rotate_left
    · go_simp
      (with_reducible rfl)
    (try simp only [Act.put, List.setIfInBounds_toArray, List.set_cons_zero, List.set_cons_succ])
    refine mix_nil ?_
    go_wp2
    go_ret
    exact ⟨A9, _, c9, rfl, ow9, hB9⟩
  · rw [encR_3, packL_is]
    have hx0 := hx.alloc (.cells #[.int .u8 3] 5)
    have hB0 : Below w.heap.size w (w.alloc (.cells #[.int .u8 3] 5)) := (Below.refl _ _).alloc (Nat.le_refl _) _
    have ob := ow_oneR w 3 3 rfl
    obtain ⟨c0, c1, c2, c3, c4, c5, c6⟩ := hx.seven
    obtain ⟨y0, y1, y2, y3, y4, y5, y6⟩ := hx0.seven
    go_enter Tryz.func40, Tryz.ntmps40
    go_wp2
    refine wp_region_mix [(0, false), (1, false), (2, false), (3, false), (4, false), (5, false), (8, false), (9, false), (10, false), (11, false), (6, true), (7, true), (12, true), (13, true), (14, false)] (fun u => At u g 27 #[.int .i64 3, .int .i64 p, .int .i64 n0, .int .i64 n1, .int .i64 n2, .int .i64 ((n3 : Int) - 1000), .int .i64 k]) (by kernel_rfl) (by kernel_rfl) (fun _ _ _ _ _ h => h) hx0.drew ?_
    simp only [mixOps, List.map_cons, List.map_nil, List.getElem?_cons_succ, List.getElem?_cons_zero, Option.getD_some]
    repeat (first
        | (refine mix_skip (by rfl) ?_
           (try simp only [Act.put, List.setIfInBounds_toArray, List.set_cons_zero, List.set_cons_succ]))
        | (refine mix_pure (v := ?_) (by rfl) (fun u hu => ?_) ?_
           rotate_left
           · obtain ⟨_, _, _, _, _, _, _⟩ := hu.seven
             go_simp
             (with_reducible rfl)
           (try simp only [Act.put, List.setIfInBounds_toArray, List.set_cons_zero, List.set_cons_succ])))
    have hB0 := hB0.drew
    have X0 : At (w.alloc (.cells #[.int .u8 3] 5)).drew g 27 #[.int .i64 3, .int .i64 p, .int .i64 n0, .int .i64 n1, .int .i64 n2, .int .i64 ((n3 : Int) - 1000), .int .i64 k] := hx0.drew
    have ob : Ow eB (w.alloc (.cells #[.int .u8 3] 5)).drew w.heap.size (some ⟨w.heap.size, 0, none⟩) 1 1 [3] := ob
    generalize (w.alloc (.cells #[.int .u8 3] 5)).drew = v0 at *
    refine mix_call (by rfl) (fun K hK => ?_)
    go_simp
    have X1 := X0.alloc (.cells #[.int .u8 (IntKind.u8.wrap (p : Int))] 5)
    have hB1 := hB0.alloc hB0.size (.cells #[.int .u8 (IntKind.u8.wrap (p : Int))] 5)
    have ob1 := ob.alloc (.cells #[.int .u8 (IntKind.u8.wrap (p : Int))] 5)
    have oc1 := (ow_oneR v0 (UInt8.ofNat p) (IntKind.u8.wrap (p : Int)) (by rw [byte_small1 (by omega)]; exact IntWalk.u8_in _ (by omega)))
    refine hK _ _ (fun u => At u g 27 #[.int .i64 3, .int .i64 p, .int .i64 n0, .int .i64 n1, .int .i64 n2, .int .i64 ((n3 : Int) - 1000), .int .i64 k]) (fun _ h => h) X1 ?_
    clear hK K
    (try simp only [Act.put, List.setIfInBounds_toArray, List.set_cons_zero, List.set_cons_succ])
    refine mix_call (by rfl) (fun K hK => ?_)
    refine wp_append_ow okB _ (.tmp 39) (.tmp 45) _ rfl w.heap.size info_u8 Tryz.underlying22 rfl _ 1 1 [3] rfl ob1 _ 1 1 _ [UInt8.ofNat p] rfl (oc1.rd okB) rfl (by unfold maxLen; omega) (by omega) hB1.size ?_
    intro A3 c3' w3 ow3 hg3 _
    have hB3 : Below w.heap.size w w3 := hB1.grown hg3 hB1.size (fun g hg => (ob1.lt g hg).1)
    have X3 := X1.grown hg3 (fun e => by have := (ob1.lt _ e).1; omega)
    refine hK _ _ (fun u => At u g 27 #[.int .i64 3, .int .i64 p, .int .i64 n0, .int .i64 n1, .int .i64 n2, .int .i64 ((n3 : Int) - 1000), .int .i64 k]) (fun _ h => h) X3 ?_
    clear hK K
    (try simp only [Act.put, List.setIfInBounds_toArray, List.set_cons_zero, List.set_cons_succ])
    refine mix_call (by rfl) (fun K hK => ?_)
    go_simp
    refine (l1Pack k 2 _ (by omega) (by omega)).mono ?_
    rintro e w4 ⟨A4, c4', rfl, o4, hb4⟩
    have hB4 := hB3.trans (hb4.mono hB3.size)
    have X4 := X3.below hb4 X3.lt
    have ow4 := ow3.below hb4 (Nat.le_refl _)
    refine hK _ _ (fun u => At u g 27 #[.int .i64 3, .int .i64 p, .int .i64 n0, .int .i64 n1, .int .i64 n2, .int .i64 ((n3 : Int) - 1000), .int .i64 k]) (fun _ h => h) X4 ?_
    clear hK K
    (try simp only [Act.put, List.setIfInBounds_toArray, List.set_cons_zero, List.set_cons_succ])
    refine mix_call (by rfl) (fun K hK => ?_)
    refine wp_append_ow okB _ (.tmp 46) (.tmp 51) _ rfl w.heap.size info_u8 Tryz.underlying22 rfl A3 (1 + 1) c3' ([3] ++ [UInt8.ofNat p]) rfl ow4 A4 2 c4' _ (packL k 2) rfl (o4.rd okB) (packL_len _ _) (by unfold maxLen; omega) (by omega) hB4.size ?_
    intro A9 c9 w9 ow9 hg9 _
    have hB9 : Below w.heap.size w w9 := hB4.grown hg9 hB4.size (fun g hg => (ow4.lt g hg).1)
    have X9 := X4.grown hg9 (fun e => by have := (ow4.lt _ e).1; omega)
    refine hK _ _ (fun u => At u g 27 #[.int .i64 3, .int .i64 p, .int .i64 n0, .int .i64 n1, .int .i64 n2, .int .i64 ((n3 : Int) - 1000), .int .i64 k]) (fun _ h => h) X9 ?_
    clear hK K
    (try simp only [Act.put, List.setIfInBounds_toArray, List.set_cons_zero, List.set_cons_succ])
    refine mix_pure (v := ?_) (by rfl) (fun u hu => ?_) ?_
    rotate_left
    · go_simp
      (with_reducible rfl)
    (try simp only [Act.put, List.setIfInBounds_toArray, List.set_cons_zero, List.set_cons_succ])
    refine mix_nil ?_
    go_wp2
    go_ret
    exact ⟨A9, _, c9, rfl, ow9, hB9⟩
  · rw [encR_4, packL_is]
    have hx0 := hx.alloc (.cells #[.int .u8 4] 5)
    have hB0 : Below w.heap.size w (w.alloc (.cells #[.int .u8 4] 5)) := (Below.refl _ _).alloc (Nat.le_refl _) _
    have ob := ow_oneR w 4 4 rfl
    obtain ⟨c0, c1, c2, c3, c4, c5, c6⟩ := hx.seven
    obtain ⟨y0, y1, y2, y3, y4, y5, y6⟩ := hx0.seven
    go_enter Tryz.func40, Tryz.ntmps40
    go_wp2_with fail
    refine (l1Pack k 2 _ (by omega) (by omega)).mono ?_
    rintro e w2 ⟨A2, c2', rfl, o2, hb2⟩
    have hB2 := hB0.trans (hb2.mono hB0.size)
    have ob2 := ob.below hb2 (Nat.le_refl _)
    go_wp2_with (at_builtin; refine wpList_append_ow okB _ rfl (.tmp 53) (.tmp 58) _ rfl w.heap.size info_u8 Tryz.underlying22 rfl _ 1 1 [4] rfl ob2 A2 2 c2' _ (packL k 2) rfl (o2.rd okB) (packL_len _ _) (by unfold maxLen; omega) (by omega) hB2.size ?_; intro A9 c9 w9 ow9 hg9 _)
    go_ret
    exact ⟨A9, _, c9, rfl, ow9, hB2.grown hg9 hB2.size (fun g hg => (ob2.lt g hg).1)⟩

theorem encRecM_code (r : Rcd) : (encRecM r).1 = recFaultM r := by
  unfold encRecM
  by_cases h : recFaultM r = 0
  · rw [if_pos h, h]
  · rw [if_neg h]
set_option maxHeartbeats 1000000 in
theorem specEncodeRecord (a0 a1 a2 a3 a4 a5 a6 : Int) (w : World) :
    Calls Tryz.prog 14 #[.agg #[.int .i64 a0, .int .i64 a1, .int .i64 a2, .int .i64 a3, .int .i64 a4, .int .i64 a5, .int .i64 a6]] w fun e w' => RetBR (encRecM (a0, a1, (a2, a3, a4, a5), a6)) w e w' := by
  have hB0 : Below w.heap.size w ((w.alloc (.cells #[.int .i64 a0, .int .i64 a1, .int .i64 a2, .int .i64 a3, .int .i64 a4, .int .i64 a5, .int .i64 a6] 27)).alloc (.cells #[.int .i64 0, .slice none 0 0] 30)) := ((Below.refl _ _).alloc (Nat.le_refl _) _).alloc (by simp) _
  have x0 := (At.new w 27 #[.int .i64 a0, .int .i64 a1, .int .i64 a2, .int .i64 a3, .int .i64 a4, .int .i64 a5, .int .i64 a6]).alloc (.cells #[.int .i64 0, .slice none 0 0] 30)
  have r0 := At.new (w.alloc (.cells #[.int .i64 a0, .int .i64 a1, .int .i64 a2, .int .i64 a3, .int .i64 a4, .int .i64 a5, .int .i64 a6] 27)) 30 #[.int .i64 0, .slice none 0 0]
  rw [show (w.alloc (.cells #[.int .i64 a0, .int .i64 a1, .int .i64 a2, .int .i64 a3, .int .i64 a4, .int .i64 a5, .int .i64 a6] 27)).heap.size = w.heap.size + 1 by simp] at r0
  obtain ⟨c0, c1, c2, c3, c4, c5, c6⟩ := x0.seven
  have hq := specRecordFault a0 a1 a2 a3 a4 a5 a6 ((w.alloc (.cells #[.int .i64 a0, .int .i64 a1, .int .i64 a2, .int .i64 a3, .int .i64 a4, .int .i64 a5, .int .i64 a6] 27)).alloc (.cells #[.int .i64 0, .slice none 0 0] 30))
  by_cases h : recFaultM (a0, a1, (a2, a3, a4, a5), a6) = 0
  · rw [h] at hq
    have Hr := Lib.hid (show encRecM (a0, a1, (a2, a3, a4, a5), a6) = (0, encR (a0, a1, (a2, a3, a4, a5), a6)) from if_pos h)
    have LE := fun W hw => l5Encode w.heap.size a0 a1 a2 a3 a4 a5 a6 W hw h
    clear h
    go_enter Tryz.func14, Tryz.ntmps14
    go_wp2_with fail
    refine hq.mono ?_
    rintro e w1 ⟨rfl, hb1⟩
    have hB1 := hB0.trans (hb1.mono hB0.size)
    have x1 := x0.below hb1 x0.lt
    have r1 := r0.below hb1 r0.lt
    go_wp2_with fail
    refine (LE _ x1).mono ?_
    rintro e w2 ⟨A, n, c, rfl, ow, hb2⟩
    have hB2 := hB1.trans (hb2.mono hB1.size)
    have r2 := r1.below hb2 r1.lt
    obtain ⟨d0, d1, f0, f1⟩ := r2.two
    go_wp2_with fail
    refine bodyPost_ret (v := .agg #[.int .i64 0, .slice A n c]) (by simp [results, Tryz.results14, go_sem, d0, d1]) rfl ?_
    rw [Hr.out]
    exact ⟨A, n, c, rfl, ((ow.under (p := ⟨w.heap.size + 1, 0, none⟩) r1.lt _).under (p := ⟨w.heap.size + 1, 1, none⟩) r1.lt _).from_ hB1.size, (hB2.setCell (by simp) _).setCell (by simp) _⟩
  · have Hr := Lib.hid (show encRecM (a0, a1, (a2, a3, a4, a5), a6) = (recFaultM (a0, a1, (a2, a3, a4, a5), a6), []) from if_neg h)
    have hne : (recFaultM (a0, a1, (a2, a3, a4, a5), a6) != 0) = true := by rw [bne_iff_ne]; exact h
    rw [Hr.out]
    clear Hr h
    generalize recFaultM (a0, a1, (a2, a3, a4, a5), a6) = rf at *
    go_enter Tryz.func14, Tryz.ntmps14
    go_wp2_with fail
    refine hq.mono ?_
    rintro e w1 ⟨rfl, hb1⟩
    have hB1 := hB0.trans (hb1.mono hB0.size)
    have r1 := r0.below hb1 r0.lt
    obtain ⟨d0, d1, f0, f1⟩ := r1.two
    go_wp2_with fail
    refine bodyPost_ret (v := .agg #[.int .i64 rf, .slice none 0 0]) (by simp [results, Tryz.results14, go_sem, d0, d1]) rfl ?_
    exact ⟨none, 0, 0, rfl, Ow.nil, (hB1.setCell (by simp) _).setCell (by simp) _⟩
end Go.Proofs.YtmaillakhhdkfaaGreatDoor
/-
  A state: the law's own measuring and copying of it.
-/
namespace Go.Proofs.YtmaillakhhdkfaaGreatDoor
set_option maxRecDepth 20000
open Go.RowKit
set_option linter.unusedSimpArgs false
set_option linter.unusedVariables false

/-- Two states are the same. -/
def staSame (s t : Sta) : Bool := decide (s.1 = t.1) && (decide (s.2.1 = t.2.1) && decide (s.2.2 = t.2.2))
theorem sta_yes (s : Sta) : staSame s s = true := by simp [staSame]

end Go.Proofs.YtmaillakhhdkfaaGreatDoor
/-
  The model's faults of a state.
-/
namespace Go.Proofs.YtmaillakhhdkfaaGreatDoor
set_option maxRecDepth 20000
open Go.RowKit
set_option linter.unusedSimpArgs false
set_option linter.unusedVariables false

theorem stateFault_store {s : Sta} {z : Int} (h : storeFaultM s.1 = z) (k : z ≠ 0) : stateFaultM s = z := by unfold stateFaultM; rw [h, if_pos k]
theorem stateFault_hints {s : Sta} {z : Int} (h : storeFaultM s.1 = 0) (h2 : hintsFaultM s.2.1 = z) (k : z ≠ 0) : stateFaultM s = z := by unfold stateFaultM; rw [h, if_neg (by simp), h2, if_pos k]
theorem stateFault_life {s : Sta} {b : Bool} (h : storeFaultM s.1 = 0) (h2 : hintsFaultM s.2.1 = 0) (h3 : inB (s.2.2, 0, 60000) = b) : stateFaultM s = if b then 0 else 3 := by
  unfold stateFaultM
  rw [h, if_neg (by simp), h2, if_neg (by simp), h3]

set_option maxHeartbeats 4000000 in
theorem specStateFault (A B : Option Addr) (n c m d : Nat) (l : List Smp) (h : List Hnt) (life : Int) (w : World) (ha : Rd eS w w.heap.size A l) (hb : Rd eH w w.heap.size B h) (hn : l.length = n) (hm : h.length = m) :
    Calls Tryz.prog 21 #[.agg #[.slice A n c, .slice B m d, .int .i64 life]] w fun e w' => e = .returned (.int .i64 (stateFaultM (l, h, life))) ∧ Below w.heap.size w w' := by
  have hB0 : Below w.heap.size w (w.alloc (.cells #[.slice A n c, .slice B m d, .int .i64 life] 39)) := (Below.refl _ _).alloc (Nat.le_refl _) _
  have r0 := At.new w 39 #[.slice A n c, .slice B m d, .int .i64 life]
  obtain ⟨c0, c1, c2, _, _, _⟩ := r0.three
  have SF := specStoreFault A n c l _ (ha.lift hB0) hn
  have hb0 := hb.lift hB0
  obtain ⟨sf, hsf⟩ : ∃ z, storeFaultM l = z := ⟨_, rfl⟩
  obtain ⟨hf, hhf⟩ : ∃ z, hintsFaultM h = z := ⟨_, rfl⟩
  rw [hsf] at SF
  by_cases k1 : sf = 0
  rotate_left
  · have Hr := Lib.hid (stateFault_store (s := (l, h, life)) hsf k1)
    have b1 : (sf != 0) = true := by simpa using k1
    clear hsf hhf k1 ha hb hn hm
    go_enter Tryz.func21, Tryz.ntmps21
    go_wp2_with (go_at_call 65; refine SF.mono ?_; rintro e w1 ⟨rfl, hb1⟩)
    go_ret
    exact ⟨by rw [Hr.out]; try rfl, hB0.trans (hb1.mono hB0.size)⟩
  subst k1
  have HF := fun W (hW : Below (w.alloc (.cells #[.slice A n c, .slice B m d, .int .i64 life] 39)).heap.size _ W) => specHintsFault B m d h W (hb0.lift hW) hm
  rw [hhf] at HF
  by_cases k2 : hf = 0
  rotate_left
  · have Hr := Lib.hid (stateFault_hints (s := (l, h, life)) hsf hhf k2)
    have b1 : (hf != 0) = true := by simpa using k2
    clear hsf hhf k2 ha hb hn hm hb0
    go_enter Tryz.func21, Tryz.ntmps21
    go_wp2_with fail
    refine SF.mono ?_
    rintro e w1 ⟨rfl, hb1⟩
    have r1 := r0.below hb1 r0.lt
    obtain ⟨e0, e1, e2, _, _, _⟩ := r1.three
    go_wp2_with fail
    refine (HF w1 hb1).mono ?_
    rintro e w2 ⟨rfl, hb2⟩
    go_wp2
    go_ret
    exact ⟨by rw [Hr.out]; try rfl, (hB0.trans (hb1.mono hB0.size)).trans (hb2.mono (hB0.trans (hb1.mono hB0.size)).size)⟩
  subst k2
  rcases h3 : inB (life, 0, 60000)
  all_goals
    have Hr := Lib.hid (stateFault_life (s := (l, h, life)) hsf hhf h3)
    have H3 := Lib.hid h3
    clear hsf hhf h3 ha hb hn hm hb0
    go_enter Tryz.func21, Tryz.ntmps21
    go_wp2_with fail
    refine SF.mono ?_
    rintro e w1 ⟨rfl, hb1⟩
    have r1 := r0.below hb1 r0.lt
    obtain ⟨e0, e1, e2, _, _, _⟩ := r1.three
    go_wp2_with fail
    refine (HF w1 hb1).mono ?_
    rintro e w2 ⟨rfl, hb2⟩
    have r2 := r1.below hb2 r1.lt
    obtain ⟨g0, g1, g2, _, _, _⟩ := r2.three
    go_wp2_with fail
    refine (l1In_any life 0 60000 w2).mono ?_
    rintro e w3 ⟨rfl, rfl⟩
    rw [H3.out]
    go_wp2
    go_ret
    exact ⟨by rw [Hr.out]; rfl, (hB0.trans (hb1.mono hB0.size)).trans (hb2.mono (hB0.trans (hb1.mono hB0.size)).size)⟩
end Go.Proofs.YtmaillakhhdkfaaGreatDoor
/-
  What is asked for of a store, and two merged: the model's.
-/
namespace Go.Proofs.YtmaillakhhdkfaaGreatDoor
set_option maxRecDepth 20000
open Go.RowKit
set_option linter.unusedSimpArgs false

def mergeStep (a : List Smp) (out : List Smp) (x : Smp) : List Smp := if findI a x < 0 then insM out x else out
def mergeM (a b : List Smp) : List Smp := b.foldl (mergeStep a) a
/-- What MergeLists answers. -/
def mergeListsM (a b : List Smp) : Int × List Smp := if storeFaultM a ≠ 0 then (storeFaultM a, []) else if storeFaultM b ≠ 0 then (storeFaultM b, []) else if 160 < (mergeM a b).length then (7, []) else (0, mergeM a b)
theorem mergeLists_le (a b : List Smp) : (mergeListsM a b).2.length ≤ 160 := by
  unfold mergeListsM
  repeat (first | split | exact Nat.zero_le _ | (simp only; omega))
end Go.Proofs.YtmaillakhhdkfaaGreatDoor
/-
  What stores are, of the pure answers: in order, right, each key once; what is put in and merged.
-/
namespace Go.Proofs.YtmaillakhhdkfaaGreatDoor
set_option maxRecDepth 20000

theorem keyOrd (a b : Smp) : (aheadM a b = true ∧ aheadM b a = false ∧ sameKeyM a b = false) ∨ (aheadM a b = false ∧ aheadM b a = true ∧ sameKeyM a b = false) ∨ (aheadM a b = false ∧ aheadM b a = false ∧ sameKeyM a b = true) := by
  obtain ⟨a0, a1, a2, a3⟩ := a
  obtain ⟨b0, b1, b2, b3⟩ := b
  unfold aheadM sameKeyM
  simp only
  rcases Int.lt_trichotomy a0 b0 with h | h | h
  · have h1 : ¬ a0 = b0 := by omega
    have h2 : ¬ b0 = a0 := by omega
    have h3 : ¬ b0 < a0 := by omega
    exact .inl ⟨by simp [h1, h], by simp [h2, h3], by simp [h1]⟩
  · subst h
    rcases Int.lt_trichotomy a1 b1 with h | h | h
    · have h1 : ¬ a1 = b1 := by omega
      have h2 : ¬ b1 = a1 := by omega
      exact .inl ⟨by simp [h], by simp [h2]; omega, by simp [h1]⟩
    · subst h
      rcases Int.lt_trichotomy a2 b2 with h | h | h
      · exact .inl ⟨by simp [h], by simp; omega, by simp; omega⟩
      · subst h
        exact .inr (.inr ⟨by simp, by simp, by simp⟩)
      · exact .inr (.inl ⟨by simp; omega, by simp [h], by simp; omega⟩)
    · have h1 : ¬ a1 = b1 := by omega
      exact .inr (.inl ⟨by simp [h1]; omega, by simp [h], by simp [h1]⟩)
  · have h1 : ¬ a0 = b0 := by omega
    have h2 : ¬ b0 = a0 := by omega
    exact .inr (.inl ⟨by simp [h1]; omega, by simp [h2, h], by simp [h1]⟩)

theorem ahead_iff (a b : Smp) : aheadM a b = true ↔ a.1 < b.1 ∨ (a.1 = b.1 ∧ (a.2.1 < b.2.1 ∨ (a.2.1 = b.2.1 ∧ a.2.2.1 < b.2.2.1))) := by
  unfold aheadM
  by_cases h : a.1 = b.1
  · simp [h]
  · simp [h]

theorem same_iff (a b : Smp) : sameKeyM a b = true ↔ a.1 = b.1 ∧ a.2.1 = b.2.1 ∧ a.2.2.1 = b.2.2.1 := by
  unfold sameKeyM
  simp

theorem ahead_trans {a b c : Smp} (h : aheadM a b = true) (k : aheadM b c = true) : aheadM a c = true := by
  rw [ahead_iff] at *
  omega

theorem same_symm (a b : Smp) : sameKeyM a b = sameKeyM b a := by
  rw [Bool.eq_iff_iff, same_iff, same_iff]
  omega

theorem ahead_not_same {a b : Smp} (h : aheadM a b = true) : sameKeyM a b = false := by
  rcases keyOrd a b with ⟨_, _, k⟩ | ⟨k, _⟩ | ⟨k, _⟩
  · exact k
  · rw [h] at k; cases k
  · rw [h] at k; cases k

/-- A row in order: each ahead of each behind it. -/
def Asc (l : List Smp) : Prop := l.Pairwise fun a b => aheadM a b = true

theorem asc_of_steps : ∀ {l : List Smp}, (∀ j, j + 1 < l.length → stepM l j = true) → Asc l
  | [], _ => List.Pairwise.nil
  | a :: l, h => by
    have hl : Asc l := asc_of_steps fun j hj => by
      have := h (j + 1) (by simpa using hj)
      simpa [stepM] using this
    refine List.pairwise_cons.2 ⟨?_, hl⟩
    match l, h, hl with
    | [], _, _ => simp
    | b :: l, h, hl =>
      have h0 : aheadM a b = true := by simpa [stepM] using h 0 (by simp)
      intro y hy
      rcases List.mem_cons.1 hy with rfl | hy
      · exact h0
      · exact ahead_trans h0 ((List.pairwise_cons.1 hl).1 y hy)

theorem steps_of_asc {l : List Smp} (h : Asc l) (j : Nat) : stepM l j = true := by
  unfold stepM
  rcases ha : l[j]? with _ | a
  · simp
  rcases hb : l[j + 1]? with _ | b
  · simp
  simp only
  have h1 := getElem?_some_lt hb
  rw [List.getElem?_eq_getElem (by omega)] at ha hb
  cases ha
  cases hb
  exact List.pairwise_iff_getElem.1 h j (j + 1) (by omega) h1 (by omega)

def Right (l : List Smp) : Prop := ∀ x ∈ l, faultM x = 0

theorem storeFault_iff (l : List Smp) : storeFaultM l = 0 ↔ l.length ≤ 160 ∧ Right l ∧ Asc l := by
  unfold storeFaultM
  constructor
  · intro h
    split at h
    · cases h
    split at h
    · cases h
    split at h
    · cases h
    · rename_i h1 h2 h3
      refine ⟨by omega, fun x hx => ?_, asc_of_steps fun j hj => ?_⟩
      · have : rightM l = true := by simpa using h2
        unfold rightM at this
        rw [List.all_eq_true] at this
        simpa using this x hx
      · have : risesM l = true := by simpa using h3
        unfold risesM at this
        rw [List.all_eq_true] at this
        exact this j (by simp; omega)
  · rintro ⟨h1, h2, h3⟩
    have k2 : rightM l = true := by
      unfold rightM
      rw [List.all_eq_true]
      exact fun x hx => decide_eq_true (h2 x hx)
    have k3 : risesM l = true := by
      unfold risesM
      rw [List.all_eq_true]
      exact fun j _ => steps_of_asc h3 j
    rw [if_neg (by omega), k2, k3]
    simp

theorem findI_neg (l : List Smp) (x : Smp) : findI l x < 0 ↔ ∀ a ∈ l, sameKeyM a x = false := by
  unfold findI
  constructor
  · intro h a ha
    rcases hf : findM l x with _ | i
    · unfold findM at hf
      rw [List.find?_range_eq_none] at hf
      obtain ⟨k, hk⟩ := List.mem_iff_getElem?.1 ha
      have := hf k (getElem?_some_lt hk)
      rw [hitM_at hk] at this
      simpa using this
    · rw [hf] at h
      simp only at h
      omega
  · intro h
    have : findM l x = none := by
      unfold findM
      rw [List.find?_range_eq_none]
      intro j hj
      rw [hitM_at (List.getElem?_eq_getElem hj)]
      simp [h _ (List.getElem_mem hj)]
    rw [this]
    simp

theorem mem_insM (l : List Smp) (x y : Smp) : y ∈ insM l x ↔ y = x ∨ y ∈ l := by
  unfold insM
  split
  · rename_i p _
    rw [List.mem_append, List.mem_cons]
    constructor
    · rintro (h | h | h)
      · exact .inr (List.mem_of_mem_take h)
      · exact .inl h
      · exact .inr (List.mem_of_mem_drop h)
    · rintro (h | h)
      · exact .inr (.inl h)
      · rw [← List.take_append_drop p l, List.mem_append] at h
        rcases h with h | h
        · exact .inl h
        · exact .inr (.inr h)
  · simp [or_comm]

theorem asc_insM {l : List Smp} {x : Smp} (h : Asc l) (hx : ∀ a ∈ l, sameKeyM a x = false) : Asc (insM l x) := by
  have low : ∀ a ∈ l, aheadM x a = false → aheadM a x = true := fun a ha k => by
    rcases keyOrd x a with ⟨k1, _⟩ | ⟨_, k1, _⟩ | ⟨_, _, k1⟩
    · rw [k] at k1; cases k1
    · exact k1
    · rw [same_symm, hx a ha] at k1; cases k1
  unfold insM
  split
  · rename_i p hp
    unfold spotM at hp
    rw [List.find?_range_eq_some] at hp
    obtain ⟨hf, hlt, hal⟩ := hp
    have hlt : p < l.length := by simpa using hlt
    have hat : ∀ (j : Nat) (hj : j < l.length), frontOf l x j = aheadM x l[j] := fun j hj => frontOf_at (List.getElem?_eq_getElem hj)
    have hd : Asc (l.drop p) := List.Pairwise.sublist (List.drop_sublist p l) h
    have ht : Asc (l.take p) := List.Pairwise.sublist (List.take_sublist p l) h
    have hxp : aheadM x l[p] = true := by rw [← hat p hlt]; exact hf
    have hdc : l.drop p = l[p] :: l.drop (p + 1) := List.drop_eq_getElem_cons hlt
    have hxd : ∀ b ∈ l.drop p, aheadM x b = true := fun b hb => by
      rw [hdc] at hb hd
      rcases List.mem_cons.1 hb with rfl | hb
      · exact hxp
      · exact ahead_trans hxp ((List.pairwise_cons.1 hd).1 b hb)
    have htx : ∀ a ∈ l.take p, aheadM a x = true := fun a ha => by
      obtain ⟨j, hj, rfl⟩ := List.mem_take_iff_getElem.1 ha
      refine low _ (List.getElem_mem _) ?_
      have := hal j (by omega)
      rw [hat j (by omega)] at this
      simpa using this
    refine List.pairwise_append.2 ⟨ht, List.pairwise_cons.2 ⟨hxd, hd⟩, fun a ha b hb => ?_⟩
    rcases List.mem_cons.1 hb with rfl | hb
    · exact htx a ha
    · exact ahead_trans (htx a ha) (hxd b hb)
  · rename_i hp
    unfold spotM at hp
    rw [List.find?_range_eq_none] at hp
    refine List.pairwise_append.2 ⟨h, List.pairwise_singleton _ _, fun a ha b hb => ?_⟩
    rw [List.mem_singleton] at hb
    subst hb
    obtain ⟨j, hj, rfl⟩ := List.mem_iff_getElem.1 ha
    refine low _ ha ?_
    have := hp j hj
    rw [frontOf_at (List.getElem?_eq_getElem hj)] at this
    simpa using this

/-- What is merged: the first row, and what the second has besides, in order. -/
theorem merge_facts (a : List Smp) (ha : Asc a) (hr : Right a) : ∀ (b : List Smp), Asc b → Right b → ∀ out : List Smp, Asc out → Right out → (∀ y ∈ a, y ∈ out) → (∀ y ∈ out, (∃ z ∈ a, z = y) ∨ ∀ x ∈ b, aheadM y x = true) →
    Asc (b.foldl (mergeStep a) out) ∧ Right (b.foldl (mergeStep a) out) ∧ (∀ y ∈ out, y ∈ b.foldl (mergeStep a) out) ∧ (∀ x ∈ b, ∃ y ∈ b.foldl (mergeStep a) out, sameKeyM y x = true)
  | [], _, _, out, h1, h2, _, _ => ⟨h1, h2, fun _ h => h, fun _ h => by simp at h⟩
  | x :: b, hb, hbr, out, h1, h2, h3, h4 => by
    obtain ⟨hx, hb'⟩ := List.pairwise_cons.1 hb
    have hbr' : Right b := fun y hy => hbr y (List.mem_cons_of_mem _ hy)
    rw [List.foldl_cons]
    by_cases hf : findI a x < 0
    · have hs : mergeStep a out x = insM out x := if_pos hf
      rw [hs]
      have hno : ∀ y ∈ out, sameKeyM y x = false := fun y hy => by
        rcases h4 y hy with ⟨z, hz, rfl⟩ | h
        · exact (findI_neg a x).1 hf z hz
        · exact ahead_not_same (h x List.mem_cons_self)
      obtain ⟨k1, k2, k3, k4⟩ := merge_facts a ha hr b hb' hbr' (insM out x) (asc_insM h1 hno)
        (fun y hy => by
          rcases (mem_insM out x y).1 hy with rfl | hy
          · exact hbr y List.mem_cons_self
          · exact h2 y hy)
        (fun y hy => (mem_insM out x y).2 (.inr (h3 y hy)))
        (fun y hy => by
          rcases (mem_insM out x y).1 hy with rfl | hy
          · exact .inr hx
          · rcases h4 y hy with h | h
            · exact .inl h
            · exact .inr fun z hz => h z (List.mem_cons_of_mem _ hz))
      refine ⟨k1, k2, fun y hy => k3 y ((mem_insM out x y).2 (.inr hy)), fun z hz => ?_⟩
      rcases List.mem_cons.1 hz with rfl | hz
      · exact ⟨z, k3 z ((mem_insM out z z).2 (.inl rfl)), (same_iff z z).2 ⟨rfl, rfl, rfl⟩⟩
      · exact k4 z hz
    · have hs : mergeStep a out x = out := if_neg hf
      rw [hs]
      obtain ⟨k1, k2, k3, k4⟩ := merge_facts a ha hr b hb' hbr' out h1 h2 h3 (fun y hy => by
        rcases h4 y hy with h | h
        · exact .inl h
        · exact .inr fun z hz => h z (List.mem_cons_of_mem _ hz))
      refine ⟨k1, k2, k3, fun z hz => ?_⟩
      rcases List.mem_cons.1 hz with rfl | hz
      · obtain ⟨y, hy, he⟩ : ∃ y ∈ a, sameKeyM y z = true := by
          refine Classical.byContradiction fun hc => hf ((findI_neg a z).2 fun y hy => ?_)
          rcases he : sameKeyM y z with _ | _
          · rfl
          · exact absurd ⟨y, hy, he⟩ hc
        exact ⟨y, k3 y (h3 y hy), he⟩
      · exact k4 z hz

theorem findM_hit {l : List Smp} {x : Smp} (h : ¬ findI l x < 0) : ∃ (i : Nat) (a : Smp), findM l x = some i ∧ l[i]? = some a ∧ a ∈ l ∧ sameKeyM a x = true := by
  unfold findI at h
  rcases hf : findM l x with _ | i
  · rw [hf] at h
    simp at h
  · have h1 := hf
    unfold findM at h1
    rw [List.find?_range_eq_some] at h1
    obtain ⟨hh, hlt, _⟩ := h1
    have hlt : i < l.length := by simpa using hlt
    refine ⟨i, l[i], rfl, List.getElem?_eq_getElem hlt, List.getElem_mem hlt, ?_⟩
    rw [← hitM_at (List.getElem?_eq_getElem hlt)]
    exact hh

/-- In a row in order a key is there once. -/
theorem asc_one {l : List Smp} (h : Asc l) {a b : Smp} (ha : a ∈ l) (hb : b ∈ l) (hk : sameKeyM a b = true) : a = b := by
  obtain ⟨i, hi, rfl⟩ := List.mem_iff_getElem.1 ha
  obtain ⟨j, hj, rfl⟩ := List.mem_iff_getElem.1 hb
  rcases Nat.lt_trichotomy i j with h1 | h1 | h1
  · have := ahead_not_same (List.pairwise_iff_getElem.1 h i j hi hj h1)
    rw [hk] at this; cases this
  · subst h1; rfl
  · have := ahead_not_same (List.pairwise_iff_getElem.1 h j i hj hi h1)
    rw [same_symm, hk] at this; cases this

/-- What InsertSample answers with no fault: a right store that has the sample's key, put in again it stays, and a new one is found as it is. -/
theorem insert_said {l st : List Smp} {x : Smp} {new : Bool} (h : insertM l x = (0, new, st)) :
    storeFaultM st = 0 ∧ insertM st x = (0, false, st) ∧ (lookM st x).1 = 0 ∧ (new = true → (lookM st x).2 = x) := by
  have core : storeFaultM st = 0 → faultM x = 0 → ¬ findI st x < 0 → (new = true → x ∈ st) → storeFaultM st = 0 ∧ insertM st x = (0, false, st) ∧ (lookM st x).1 = 0 ∧ (new = true → (lookM st x).2 = x) := by
    intro fs fx hf hn
    obtain ⟨i, a, hi, ha, hal, hk⟩ := findM_hit hf
    refine ⟨fs, ?_, ?_, fun hnew => ?_⟩
    · unfold insertM
      rw [if_neg (by simpa using fs), if_neg (by simpa using fx), if_pos (by omega)]
    · unfold lookM
      rw [if_neg (by simpa using fs), hi]
    · unfold lookM
      rw [if_neg (by simpa using fs), hi]
      simp only [ha, Option.getD_some]
      exact asc_one ((storeFault_iff st).1 fs).2.2 hal (hn hnew) hk
  unfold insertM at h
  by_cases fl : storeFaultM l = 0
  · rw [if_neg (by simpa using fl)] at h
    by_cases fx : faultM x = 0
    · rw [if_neg (by simpa using fx)] at h
      by_cases hf : 0 ≤ findI l x
      · rw [if_pos hf] at h
        have e := Prod.mk.inj h
        have e2 := Prod.mk.inj e.2
        obtain rfl := e2.2
        exact core fl fx (by omega) (fun hn => by rw [← e2.1] at hn; cases hn)
      · rw [if_neg hf] at h
        by_cases hl : 160 ≤ l.length
        · rw [if_pos hl] at h
          simp at h
        · rw [if_neg hl] at h
          have e2 := Prod.mk.inj (Prod.mk.inj h).2
          obtain rfl := e2.2
          have hno := (findI_neg l x).1 (by omega)
          obtain ⟨_, rl, sl⟩ := (storeFault_iff l).1 fl
          have hx : x ∈ insM l x := (mem_insM l x x).2 (.inl rfl)
          refine core ((storeFault_iff _).2 ⟨by rw [insM_len]; omega, fun y hy => ?_, asc_insM sl hno⟩) fx (fun hc => ?_) (fun _ => hx)
          · rcases (mem_insM l x y).1 hy with rfl | hy
            · exact fx
            · exact rl y hy
          · have := (findI_neg _ x).1 hc x hx
            rw [(same_iff x x).2 ⟨rfl, rfl, rfl⟩] at this
            cases this
    · rw [if_pos fx] at h
      exact absurd (Prod.mk.inj h).1 fx
  · rw [if_pos fl] at h
    exact absurd (Prod.mk.inj h).1 fl

end Go.Proofs.YtmaillakhhdkfaaGreatDoor
/-
  What the law of hints says, of the pure answers.
-/
namespace Go.Proofs.YtmaillakhhdkfaaGreatDoor
set_option maxRecDepth 20000
open Go.RowKit
set_option linter.unusedSimpArgs false
set_option linter.unusedVariables false

theorem findH_none_iff {l : List Hnt} {p i : Int} : findH l p i = none ↔ ∀ a ∈ l, ¬ (a.1 = p ∧ idH a = i) := by
  constructor
  · intro h a ha hp
    unfold findH at h
    rw [List.find?_range_eq_none] at h
    obtain ⟨j, hj⟩ := List.mem_iff_getElem?.1 ha
    have := h j (getElem?_some_lt hj)
    rw [hitH_at hj] at this
    simp [hp.1, hp.2] at this
  · intro h
    refine findH_none fun j hj => ?_
    have hx : l[j]? = some l[j] := List.getElem?_eq_getElem hj
    rw [hitH_at hx]
    have := h _ (List.mem_of_getElem? hx)
    simp only [Bool.and_eq_false_iff, decide_eq_false_iff_not]
    by_cases h1 : l[j].1 = p
    · exact .inr fun h2 => this ⟨h1, h2⟩
    · exact .inl h1
theorem findHI_neg {l : List Hnt} {p i : Int} (h : ¬ 0 ≤ findHI l p i) : findH l p i = none := by
  rcases findHI_or l p i with ⟨_, h2⟩ | ⟨k, h1, _, _⟩
  · exact h2
  · omega
theorem findH_last {l : List Hnt} {h : Hnt} (hn : findH l h.1 (idH h) = none) : findH (l ++ [h]) h.1 (idH h) = some l.length := by
  refine findH_some (by simp) ?_ fun j hj => ?_
  · rw [hitH_at (a := h) (by simp)]
    simp
  · have hx : l[j]? = some l[j] := List.getElem?_eq_getElem hj
    rw [hitH_at (a := l[j]) (by rw [List.getElem?_append_left hj, hx])]
    have := findH_none_iff.1 hn _ (List.mem_of_getElem? hx)
    simp only [Bool.and_eq_false_iff, decide_eq_false_iff_not]
    by_cases h1 : l[j].1 = h.1
    · exact .inr fun h2 => this ⟨h1, h2⟩
    · exact .inl h1
/-- What is added is there, and gone again when it is done. -/
theorem add_said {h al : List Hnt} {p x1 x2 x3 x4 : Int} (k : addM h p (x1, x2, x3, x4) = (0, al)) : hintsFaultM al = 0 ∧ doneM al p x3 = (0, h) ∧ (addM al p (x1, x2, x3, x4)).1 = 6 := by
  unfold addM at k
  by_cases h0 : hintsFaultM h = 0
  rotate_left
  · rw [if_pos h0] at k
    exact absurd (Prod.mk.inj k).1 h0
  rw [if_neg (by simp [h0])] at k
  by_cases hf : faultM (x1, x2, x3, x4) = 0
  rotate_left
  · rw [if_pos hf] at k
    exact absurd (Prod.mk.inj k).1 (by decide)
  rw [if_neg (by simp [hf])] at k
  rcases hp : inB (p, 0, 3)
  · rw [if_pos hp] at k
    exact absurd (Prod.mk.inj k).1 (by decide)
  rw [if_neg (by simp [hp])] at k
  by_cases hi : 0 ≤ findHI h p x3
  · rw [if_pos hi] at k
    exact absurd (Prod.mk.inj k).1 (by decide)
  rw [if_neg hi] at k
  by_cases h8 : 8 ≤ h.length
  · rw [if_pos h8] at k
    exact absurd (Prod.mk.inj k).1 (by decide)
  rw [if_neg h8] at k
  obtain rfl := (Prod.mk.inj k).2
  have hn := findHI_neg hi
  obtain ⟨g1, g2, g3⟩ := (hintsFault_iff h).1 h0
  have hfn : hfaultM (p, (x1, x2, x3, x4), 0, 0) = 0 := hfault_yes hf (by unfold rangeH; rw [hp]; simp [inB])
  have hz : hintsFaultM (h ++ [(p, (x1, x2, x3, x4), 0, 0)]) = 0 := by
    refine (hintsFault_iff _).2 ⟨by simp; omega, fun y hy => ?_, dis_append.2 ⟨g3, fun y hy => ?_⟩⟩
    · rcases List.mem_append.1 hy with hy | hy
      · exact g2 y hy
      · obtain rfl := List.mem_singleton.1 hy
        exact hfn
    · have := findH_none_iff.1 hn y hy
      rcases hs : sameH y (p, (x1, x2, x3, x4), 0, 0)
      · rfl
      · exact absurd ((sameH_iff _ _).1 hs) this
  have hl := findH_last (h := (p, (x1, x2, x3, x4), 0, 0)) hn
  refine ⟨hz, ?_, ?_⟩
  · unfold doneM
    rw [if_neg (by simp [hz]), show findH (h ++ [(p, (x1, x2, x3, x4), 0, 0)]) p x3 = some h.length from hl]
    simp
  · unfold addM
    rw [if_neg (by simp [hz]), if_neg (by simp [hf]), if_neg (by simp [hp]), if_pos]
    unfold findHI
    rw [show findH (h ++ [(p, (x1, x2, x3, x4), 0, 0)]) p x3 = some h.length from hl]
    show (0 : Int) ≤ (h.length : Int)
    omega
end Go.Proofs.YtmaillakhhdkfaaGreatDoor
/-
  What a record does to a state, and what a disk says, of the pure answers.
-/
namespace Go.Proofs.YtmaillakhhdkfaaGreatDoor
set_option maxRecDepth 20000
open Go.RowKit
set_option linter.unusedSimpArgs false
set_option linter.unusedVariables false

abbrev zeroSta : Sta := ([], [], 0)
/-- A right record that is put to a state: the code, and the state behind it. -/
def stepR (s : Sta) (r : Rcd) : Int × Sta :=
  if r.1 = 1 then (if (insertM s.1 r.2.2.1).1 = 0 then (0, ((insertM s.1 r.2.2.1).2.2, s.2.1, s.2.2)) else ((insertM s.1 r.2.2.1).1, s))
  else if r.1 = 2 then (if (addM s.2.1 r.2.1 r.2.2.1).1 = 0 then (0, (s.1, (addM s.2.1 r.2.1 r.2.2.1).2, s.2.2)) else ((addM s.2.1 r.2.1 r.2.2.1).1, s))
  else if r.1 = 3 then (if (doneM s.2.1 r.2.1 r.2.2.2).1 = 0 then (0, (s.1, (doneM s.2.1 r.2.1 r.2.2.2).2, s.2.2)) else ((doneM s.2.1 r.2.1 r.2.2.2).1, s))
  else if r.2.2.2 < s.2.2 then (8, s) else (0, (s.1, s.2.1, r.2.2.2))
/-- What ApplyRecord answers. -/
def applyM (s : Sta) (r : Rcd) : Int × Sta :=
  if stateFaultM s ≠ 0 then (stateFaultM s, zeroSta) else if recFaultM r ≠ 0 then (recFaultM r, zeroSta) else if (stepR s r).1 = 0 then (0, (stepR s r).2) else ((stepR s r).1, zeroSta)

theorem stateFault_iff (s : Sta) : stateFaultM s = 0 ↔ storeFaultM s.1 = 0 ∧ hintsFaultM s.2.1 = 0 ∧ inB (s.2.2, 0, 60000) = true := by
  unfold stateFaultM
  constructor
  · intro h
    by_cases h1 : storeFaultM s.1 = 0
    · rw [if_neg (by simp [h1])] at h
      by_cases h2 : hintsFaultM s.2.1 = 0
      · rw [if_neg (by simp [h2])] at h
        by_cases h3 : inB (s.2.2, 0, 60000) = true
        · exact ⟨h1, h2, h3⟩
        · rw [if_neg h3] at h; cases h
      · rw [if_pos h2] at h; exact absurd h h2
    · rw [if_pos h1] at h; exact absurd h h1
  · rintro ⟨h1, h2, h3⟩
    rw [if_neg (by simp [h1]), if_neg (by simp [h2]), if_pos h3]
theorem done_right {g dl : List Hnt} {p i : Int} (k : doneM g p i = (0, dl)) : hintsFaultM dl = 0 := by
  unfold doneM at k
  by_cases h0 : hintsFaultM g = 0
  rotate_left
  · rw [if_pos h0] at k
    exact absurd (Prod.mk.inj k).1 h0
  rw [if_neg (by simp [h0])] at k
  rcases hf : findH g p i with _ | j
  · rw [hf] at k
    exact absurd (Prod.mk.inj k).1 (by decide)
  rw [hf] at k
  simp only [Prod.mk.injEq, true_and] at k
  obtain ⟨hlt, hh, hal⟩ := findH_is hf
  obtain ⟨g1, g2, g3⟩ := (hintsFault_iff g).1 h0
  have he : dl = g.eraseIdx j := by rw [List.eraseIdx_eq_take_drop_succ]; exact k.symm
  have hsub : dl.Sublist g := by rw [he]; exact List.eraseIdx_sublist _ _
  have := hsub.length_le
  exact (hintsFault_iff dl).2 ⟨by omega, fun y hy => g2 y (hsub.subset hy), g3.sublist hsub⟩
theorem range_four {k p p' : Int} {x : Smp} (h : recFaultM (k, p, x, p') = 0) (h1 : k ≠ 1) (h2 : k ≠ 2) (h3 : k ≠ 3) : inB (p', 0, 60000) = true := by
  by_cases h4 : k = 4
  · subst h4
    have hf : recFormM (4, p, x, p') = true := by
      rcases hf : recFormM (4, p, x, p')
      · rw [recFault_form hf] at h; cases h
      · rfl
    rw [recFault_range hf] at h
    unfold rrangeM mostM at h
    rcases hb : inB (p', 0, 60000)
    · simp [hb] at h
    · rfl
  · have hf : recFormM (k, p, x, p') = false := by unfold recFormM; rw [if_neg h1, if_neg h2, if_neg h3, if_neg h4]
    rw [recFault_form hf] at h; cases h
/-- A right record leaves a right state right. -/
theorem step_right {s : Sta} {r : Rcd} (hs : stateFaultM s = 0) (hr : recFaultM r = 0) (h : (stepR s r).1 = 0) : stateFaultM (stepR s r).2 = 0 := by
  obtain ⟨h1, h2, h3⟩ := (stateFault_iff s).1 hs
  unfold stepR at h ⊢
  by_cases k1 : r.1 = 1
  · rw [if_pos k1] at h ⊢
    by_cases hc : (insertM s.1 r.2.2.1).1 = 0
    · rw [if_pos hc] at h ⊢
      rcases hi : insertM s.1 r.2.2.1 with ⟨c, n, st⟩
      rw [hi] at hc
      obtain rfl : c = 0 := hc
      exact (stateFault_iff _).2 ⟨(insert_said hi).1, h2, h3⟩
    · rw [if_neg hc] at h; exact absurd h hc
  rw [if_neg k1] at h ⊢
  by_cases k2 : r.1 = 2
  · rw [if_pos k2] at h ⊢
    by_cases hc : (addM s.2.1 r.2.1 r.2.2.1).1 = 0
    · rw [if_pos hc] at h ⊢
      rcases hi : addM s.2.1 r.2.1 r.2.2.1 with ⟨c, st⟩
      rw [hi] at hc
      obtain rfl : c = 0 := hc
      exact (stateFault_iff _).2 ⟨h1, (add_said hi).1, h3⟩
    · rw [if_neg hc] at h; exact absurd h hc
  rw [if_neg k2] at h ⊢
  by_cases k3 : r.1 = 3
  · rw [if_pos k3] at h ⊢
    by_cases hc : (doneM s.2.1 r.2.1 r.2.2.2).1 = 0
    · rw [if_pos hc] at h ⊢
      rcases hi : doneM s.2.1 r.2.1 r.2.2.2 with ⟨c, st⟩
      rw [hi] at hc
      obtain rfl : c = 0 := hc
      exact (stateFault_iff _).2 ⟨h1, done_right hi, h3⟩
    · rw [if_neg hc] at h; exact absurd h hc
  rw [if_neg k3] at h ⊢
  by_cases k4 : r.2.2.2 < s.2.2
  · rw [if_pos k4] at h; cases h
  · rw [if_neg k4]
    exact (stateFault_iff _).2 ⟨h1, h2, range_four hr k1 k2 k3⟩
/-- The program's way, at a right state and a right record. -/
theorem apply_right {s : Sta} {r : Rcd} (hs : stateFaultM s = 0) (hr : recFaultM r = 0) : applyM s r = if (stepR s r).1 = 0 then (0, (stepR s r).2) else ((stepR s r).1, zeroSta) := by
  unfold applyM; rw [if_neg (by simp [hs]), if_neg (by simp [hr])]
end Go.Proofs.YtmaillakhhdkfaaGreatDoor
/-
  The model's AddHint.
-/
namespace Go.Proofs.YtmaillakhhdkfaaGreatDoor
set_option maxRecDepth 20000
open Go.RowKit
set_option linter.unusedSimpArgs false
set_option linter.unusedVariables false

set_option maxRecDepth 100000 in
set_option maxHeartbeats 4000000 in
theorem specAddHint (A : Option Addr) (n c : Nat) (l : List Hnt) (p x0 x1 x2 x3 : Int) (w : World) (ha : Rd eH w w.heap.size A l) (hn : l.length = n) :
    Calls Tryz.prog 107 #[.slice A n c, .int .i64 p, .agg #[.int .i64 x0, .int .i64 x1, .int .i64 x2, .int .i64 x3]] w (RetHs (addM l p (x0, x1, x2, x3)) w) := by
  have hB0 : Below w.heap.size w ((w.alloc (.cells #[.int .i64 x0, .int .i64 x1, .int .i64 x2, .int .i64 x3] 25)).alloc (.cells #[.int .i64 0, .slice none 0 0] 138)) := ((Below.refl _ _).alloc (Nat.le_refl _) _).alloc (by simp) _
  have bx0 := (At.new w 25 #[.int .i64 x0, .int .i64 x1, .int .i64 x2, .int .i64 x3]).alloc (.cells #[.int .i64 0, .slice none 0 0] 138)
  have e1 : (w.alloc (.cells #[.int .i64 x0, .int .i64 x1, .int .i64 x2, .int .i64 x3] 25)).heap.size = w.heap.size + 1 := by simp
  have r0 := At.new (w.alloc (.cells #[.int .i64 x0, .int .i64 x1, .int .i64 x2, .int .i64 x3] 25)) 138 #[.int .i64 0, .slice none 0 0]
  rw [e1] at r0
  have ha0 := ha.lift hB0
  have HF := specHintsFault A n c l _ ha0 hn
  by_cases h0 : hintsFaultM l = 0
  rotate_left
  · rw [show (addM l p (x0, x1, x2, x3)) = (hintsFaultM l, []) from if_pos h0]
    have hne : (hintsFaultM l != 0) = true := by rw [bne_iff_ne]; exact h0
    generalize hintsFaultM l = sf at *
    clear h0
    go_enter Tryz.func107, Tryz.ntmps107
    go_wp2_with fail
    refine (HF).mono ?_
    rintro e w1 ⟨rfl, hb1⟩
    have hB1 := hB0.trans (hb1.mono hB0.size)
    have r1 := r0.below hb1 r0.lt
    have ha1 := ha0.lift hb1
    have bx1 := bx0.below hb1 bx0.lt
    obtain ⟨b1_0, b1_1, b1_2, b1_3, _, _, _, _⟩ := bx1.four
    obtain ⟨c0, c1, _, _⟩ := r1.two
    go_wp2_with fail
    refine bodyPost_ret (v := .agg #[.int .i64 sf, .slice none 0 0]) (by simp [results, Tryz.results107, go_sem, c0, c1]) rfl ?_
    exact ⟨_, _, _, rfl, Ow.nil, (hB1.setCell (by simp) _).setCell (by simp) _⟩
  obtain ⟨h8, hall, hdis⟩ := (hintsFault_iff l).1 h0
  rw [h0] at HF
  rcases faultM_or (x0, x1, x2, x3) with hf | hf
  rotate_left
  · rw [show (addM l p (x0, x1, x2, x3)) = (3, []) by unfold addM; rw [if_neg (by simp [h0]), if_pos (by simp [hf])]]
    have XF := specSampleFault x0 x1 x2 x3
    rw [hf] at XF
    clear hf h0
    go_enter Tryz.func107, Tryz.ntmps107
    go_wp2_with fail
    refine (HF).mono ?_
    rintro e w1 ⟨rfl, hb1⟩
    have hB1 := hB0.trans (hb1.mono hB0.size)
    have r1 := r0.below hb1 r0.lt
    have ha1 := ha0.lift hb1
    have bx1 := bx0.below hb1 bx0.lt
    obtain ⟨b1_0, b1_1, b1_2, b1_3, _, _, _, _⟩ := bx1.four
    go_wp2_with fail
    refine (XF _).mono ?_
    rintro e w2 ⟨rfl, hb2⟩
    have hB2 := hB1.trans (hb2.mono hB1.size)
    have r2 := r1.below hb2 r1.lt
    have ha2 := ha1.lift hb2
    have bx2 := bx1.below hb2 bx1.lt
    obtain ⟨b2_0, b2_1, b2_2, b2_3, _, _, _, _⟩ := bx2.four
    obtain ⟨c0, c1, _, _⟩ := r2.two
    go_wp2_with fail
    refine bodyPost_ret (v := .agg #[.int .i64 3, .slice none 0 0]) (by simp [results, Tryz.results107, go_sem, c0, c1]) rfl ?_
    exact ⟨_, _, _, rfl, Ow.nil, (hB2.setCell (by simp) _).setCell (by simp) _⟩
  have XF := specSampleFault x0 x1 x2 x3
  rw [hf] at XF
  rcases hp : inB (p, 0, 3)
  · rw [show (addM l p (x0, x1, x2, x3)) = (3, []) by unfold addM; rw [if_neg (by simp [h0]), if_neg (by simp [hf]), if_pos hp]]
    clear hf h0
    go_enter Tryz.func107, Tryz.ntmps107
    go_wp2_with fail
    refine (HF).mono ?_
    rintro e w1 ⟨rfl, hb1⟩
    have hB1 := hB0.trans (hb1.mono hB0.size)
    have r1 := r0.below hb1 r0.lt
    have ha1 := ha0.lift hb1
    have bx1 := bx0.below hb1 bx0.lt
    obtain ⟨b1_0, b1_1, b1_2, b1_3, _, _, _, _⟩ := bx1.four
    go_wp2_with fail
    refine (XF _).mono ?_
    rintro e w2 ⟨rfl, hb2⟩
    have hB2 := hB1.trans (hb2.mono hB1.size)
    have r2 := r1.below hb2 r1.lt
    have ha2 := ha1.lift hb2
    have bx2 := bx1.below hb2 bx1.lt
    obtain ⟨b2_0, b2_1, b2_2, b2_3, _, _, _, _⟩ := bx2.four
    go_wp2_with fail
    refine (l4Node p _).mono ?_
    rintro e w99 ⟨rfl, rfl⟩
    obtain ⟨c0, c1, _, _⟩ := r2.two
    go_wp2_with fail
    refine bodyPost_ret (v := .agg #[.int .i64 3, .slice none 0 0]) (by simp [results, Tryz.results107, go_sem, c0, c1]) rfl ?_
    exact ⟨_, _, _, rfl, Ow.nil, (hB2.setCell (by simp) _).setCell (by simp) _⟩
  have HL := fun W (h1 : Rd eH W W.heap.size A l) => l4Find A n c l p x2 W h1 hn (by unfold maxLen; omega)
  rcases findHI_or l p x2 with ⟨hi, -⟩ | ⟨k, hi, -, hk⟩
  rotate_left
  · rw [hi] at HL
    rw [show (addM l p (x0, x1, x2, x3)) = (6, []) by unfold addM; rw [if_neg (by simp [h0]), if_neg (by simp [hf]), if_neg (by simp [hp]), if_pos (by rw [hi]; omega)]]
    have hk0 : (0 : Int) ≤ (k : Int) := by omega
    clear hf h0 hi
    go_enter Tryz.func107, Tryz.ntmps107
    go_wp2_with fail
    refine (HF).mono ?_
    rintro e w1 ⟨rfl, hb1⟩
    have hB1 := hB0.trans (hb1.mono hB0.size)
    have r1 := r0.below hb1 r0.lt
    have ha1 := ha0.lift hb1
    have bx1 := bx0.below hb1 bx0.lt
    obtain ⟨b1_0, b1_1, b1_2, b1_3, _, _, _, _⟩ := bx1.four
    go_wp2_with fail
    refine (XF _).mono ?_
    rintro e w2 ⟨rfl, hb2⟩
    have hB2 := hB1.trans (hb2.mono hB1.size)
    have r2 := r1.below hb2 r1.lt
    have ha2 := ha1.lift hb2
    have bx2 := bx1.below hb2 bx1.lt
    obtain ⟨b2_0, b2_1, b2_2, b2_3, _, _, _, _⟩ := bx2.four
    go_wp2_with fail
    refine (l4Node p _).mono ?_
    rintro e w99 ⟨rfl, rfl⟩
    go_wp2_with fail
    refine (HL _ ha2).mono ?_
    rintro e w99 ⟨rfl, rfl⟩
    obtain ⟨c0, c1, _, _⟩ := r2.two
    go_wp2_with fail
    refine bodyPost_ret (v := .agg #[.int .i64 6, .slice none 0 0]) (by simp [results, Tryz.results107, go_sem, c0, c1]) rfl ?_
    exact ⟨_, _, _, rfl, Ow.nil, (hB2.setCell (by simp) _).setCell (by simp) _⟩
  rw [hi] at HL
  by_cases hfull : 8 ≤ n
  · rw [show (addM l p (x0, x1, x2, x3)) = (7, []) by unfold addM; rw [if_neg (by simp [h0]), if_neg (by simp [hf]), if_neg (by simp [hp]), if_neg (by rw [hi]; omega), if_pos (by omega)]]
    have hfi : (8 : Int) ≤ (n : Int) := by omega
    clear hf h0 hi
    go_enter Tryz.func107, Tryz.ntmps107
    go_wp2_with fail
    refine (HF).mono ?_
    rintro e w1 ⟨rfl, hb1⟩
    have hB1 := hB0.trans (hb1.mono hB0.size)
    have r1 := r0.below hb1 r0.lt
    have ha1 := ha0.lift hb1
    have bx1 := bx0.below hb1 bx0.lt
    obtain ⟨b1_0, b1_1, b1_2, b1_3, _, _, _, _⟩ := bx1.four
    go_wp2_with fail
    refine (XF _).mono ?_
    rintro e w2 ⟨rfl, hb2⟩
    have hB2 := hB1.trans (hb2.mono hB1.size)
    have r2 := r1.below hb2 r1.lt
    have ha2 := ha1.lift hb2
    have bx2 := bx1.below hb2 bx1.lt
    obtain ⟨b2_0, b2_1, b2_2, b2_3, _, _, _, _⟩ := bx2.four
    go_wp2_with fail
    refine (l4Node p _).mono ?_
    rintro e w99 ⟨rfl, rfl⟩
    go_wp2_with fail
    refine (HL _ ha2).mono ?_
    rintro e w99 ⟨rfl, rfl⟩
    obtain ⟨c0, c1, _, _⟩ := r2.two
    go_wp2_with fail
    refine bodyPost_ret (v := .agg #[.int .i64 7, .slice none 0 0]) (by simp [results, Tryz.results107, go_sem, c0, c1]) rfl ?_
    exact ⟨_, _, _, rfl, Ow.nil, (hB2.setCell (by simp) _).setCell (by simp) _⟩
  · rw [show (addM l p (x0, x1, x2, x3)) = (0, l ++ [(p, (x0, x1, x2, x3), 0, 0)]) by unfold addM; rw [if_neg (by simp [h0]), if_neg (by simp [hf]), if_neg (by simp [hp]), if_neg (by rw [hi]; omega), if_neg (by omega)]]
    have hfi : ¬ (8 : Int) ≤ (n : Int) := by omega
    clear hf h0 hi
    go_enter Tryz.func107, Tryz.ntmps107
    go_wp2_with fail
    refine (HF).mono ?_
    rintro e w1 ⟨rfl, hb1⟩
    have hB1 := hB0.trans (hb1.mono hB0.size)
    have r1 := r0.below hb1 r0.lt
    have ha1 := ha0.lift hb1
    have bx1 := bx0.below hb1 bx0.lt
    obtain ⟨b1_0, b1_1, b1_2, b1_3, _, _, _, _⟩ := bx1.four
    go_wp2_with fail
    refine (XF _).mono ?_
    rintro e w2 ⟨rfl, hb2⟩
    have hB2 := hB1.trans (hb2.mono hB1.size)
    have r2 := r1.below hb2 r1.lt
    have ha2 := ha1.lift hb2
    have bx2 := bx1.below hb2 bx1.lt
    obtain ⟨b2_0, b2_1, b2_2, b2_3, _, _, _, _⟩ := bx2.four
    go_wp2_with fail
    refine (l4Node p _).mono ?_
    rintro e w99 ⟨rfl, rfl⟩
    go_wp2_with fail
    refine (HL _ ha2).mono ?_
    rintro e w99 ⟨rfl, rfl⟩
    go_wp2
    have hbd := hB2.drew
    have bxd := bx2.drew
    have rd := r2.drew
    have had := ha2.drewN 1
    clear b1_0 b1_1 b1_2 b1_3 b2_0 b2_1 b2_2 b2_3
    refine wp_region_fork2 [(0, false), (2, false), (3, false), (4, false)] [(5, true), (6, true), (7, false), (8, true)] [(1, true), (6, true), (7, false), (8, true)] 1 5 (fun u => At u w.heap.size 25 #[.int .i64 x0, .int .i64 x1, .int .i64 x2, .int .i64 x3]) (by kernel_rfl) (by kernel_rfl) (fun _ _ _ _ _ h => h) bxd ?_
    simp only [mixOps, List.map_cons, List.map_nil, List.getElem?_cons_succ, List.getElem?_cons_zero, Option.getD_some]
    iterate 4 (
      refine mixR_pure (v := ?_) (by rfl) (fun u hu => ?_) ?_
      rotate_left
      · obtain ⟨_, _, _, _, _, _, _, _⟩ := hu.four
        go_simp
        (with_reducible rfl)
      (try simp only [Act.put, List.setIfInBounds_toArray, List.set_cons_zero, List.set_cons_succ]))
    refine mixR_nil ⟨?_, ?_⟩
    · refine mixR_call (by rfl) (fun K hK => ?_)
      go_simp
      refine (l4Copy A n c l _ had hn (by omega)).mono ?_
      rintro e w3 ⟨A3, c3, rfl, o3, hb3⟩
      have o3 : Ow eH w3 w2.heap.size A3 n c3 l := o3
      have hB3 := hbd.trans (hb3.mono hbd.size)
      have bx3 := bxd.below hb3 bxd.lt
      have r3 := rd.below hb3 rd.lt
      refine hK _ _ _ (fun _ h => h) bx3 ?_
      (try simp only [Act.put, List.setIfInBounds_toArray, List.set_cons_zero, List.set_cons_succ])
      refine mixR_call (by rfl) (fun K hK => ?_)
      go_simp
      have hB4 := hB3.alloc hB3.size (.cells #[.int .i64 p, .int .i64 x0, .int .i64 x1, .int .i64 x2, .int .i64 x3, .int .i64 0, .int .i64 0] 75)
      have bx4 := bx3.alloc (.cells #[.int .i64 p, .int .i64 x0, .int .i64 x1, .int .i64 x2, .int .i64 x3, .int .i64 0, .int .i64 0] 75)
      have r4 := r3.alloc (.cells #[.int .i64 p, .int .i64 x0, .int .i64 x1, .int .i64 x2, .int .i64 x3, .int .i64 0, .int .i64 0] 75)
      have o4 := o3.alloc (.cells #[.int .i64 p, .int .i64 x0, .int .i64 x1, .int .i64 x2, .int .i64 x3, .int .i64 0, .int .i64 0] 75)
      have ob4 := rd_lit okH w3 75 [(p, (x0, x1, x2, x3), 0, 0)] #[.int .i64 p, .int .i64 x0, .int .i64 x1, .int .i64 x2, .int .i64 x3, .int .i64 0, .int .i64 0] rfl
      have hs4 : w2.heap.size ≤ (w3.alloc (.cells #[.int .i64 p, .int .i64 x0, .int .i64 x1, .int .i64 x2, .int .i64 x3, .int .i64 0, .int .i64 0] 75)).heap.size := by have := hb3.size; simp at this ⊢; omega
      refine hK _ _ _ (fun _ h => h) bx4 ?_
      (try simp only [Act.put, List.setIfInBounds_toArray, List.set_cons_zero, List.set_cons_succ])
      refine mixR_call (by rfl) (fun K hK => ?_)
      refine wp_append_ow okH _ (.tmp 37) (.tmp 41) _ rfl w2.heap.size info_hnt Tryz.underlying37 rfl A3 n c3 l rfl o4 _ 1 1 _ [(p, (x0, x1, x2, x3), 0, 0)] rfl ob4 rfl (by unfold maxLen; omega) (by omega) hs4 ?_
      intro A5 c5 w5 ow5 hg5 _
      have hB5 := hB4.grown hg5 hB4.size (fun g hg => by have := (o4.lt g hg).1; have := hB2.size; omega)
      have bx5 := bx4.grown hg5 (fun e => by have := (o4.lt _ e).1; have := bx2.lt; omega)
      have r5 := r4.grown hg5 (fun e => by have := (o4.lt _ e).1; have := r2.lt; omega)
      refine hK _ _ _ (fun _ h => h) bx5 ?_
      (try simp only [Act.put, List.setIfInBounds_toArray, List.set_cons_zero, List.set_cons_succ])
      refine mixR_pure (v := ?_) (by rfl) (fun u hu => ?_) ?_
      rotate_left
      · go_simp
        (with_reducible rfl)
      (try simp only [Act.put, List.setIfInBounds_toArray, List.set_cons_zero, List.set_cons_succ])
      obtain ⟨c0, c1, f0, f1⟩ := r5.two
      refine mixR_call (by rfl) (fun K hK => ?_)
      go_simp
      have r6 := r5.set 0 (.int .i64 0)
      have r7 := r6.set 1 (.slice A5 (n + 1) c5)
      refine hK _ _ _ (fun _ h => h) ((bx5.far (p := ⟨w.heap.size + 1, 0, none⟩) (by simp) _).far (p := ⟨w.heap.size + 1, 1, none⟩) (by simp) _) ?_
      (try simp only [Act.put, List.setIfInBounds_toArray, List.set_cons_zero, List.set_cons_succ])
      refine mixR_nil ?_
      go_wp2
      refine bodyPost_ret (v := .agg #[.int .i64 0, .slice A5 (n + 1) c5]) (by simp [results, Tryz.results107, go_sem, c0, c1]) rfl ?_
      exact ⟨_, _, _, rfl, (((ow5.under (p := ⟨w.heap.size + 1, 0, none⟩) r2.lt _).under (p := ⟨w.heap.size + 1, 1, none⟩) r2.lt _).from_ hB2.size), (hB5.setCell (by simp) _).setCell (by simp) _⟩
    · refine mixR_call (by rfl) (fun K hK => ?_)
      go_simp
      have hB3 := hB2.alloc hB2.size (.cells #[.int .i64 p, .int .i64 x0, .int .i64 x1, .int .i64 x2, .int .i64 x3, .int .i64 0, .int .i64 0] 75)
      have bx3 := (bx2.alloc (.cells #[.int .i64 p, .int .i64 x0, .int .i64 x1, .int .i64 x2, .int .i64 x3, .int .i64 0, .int .i64 0] 75)).drew
      have r3 := (r2.alloc (.cells #[.int .i64 p, .int .i64 x0, .int .i64 x1, .int .i64 x2, .int .i64 x3, .int .i64 0, .int .i64 0] 75)).drew
      have ha3 := ha2.lift ((Below.refl w2.heap.size w2).alloc (Nat.le_refl _) (.cells #[.int .i64 p, .int .i64 x0, .int .i64 x1, .int .i64 x2, .int .i64 x3, .int .i64 0, .int .i64 0] 75))
      have ob3 := rd_lit okH w2 75 [(p, (x0, x1, x2, x3), 0, 0)] #[.int .i64 p, .int .i64 x0, .int .i64 x1, .int .i64 x2, .int .i64 x3, .int .i64 0, .int .i64 0] rfl
      refine hK _ _ _ (fun _ h => h) bx3 ?_
      (try simp only [Act.put, List.setIfInBounds_toArray, List.set_cons_zero, List.set_cons_succ])
      refine mixR_call (by rfl) (fun K hK => ?_)
      go_simp
      refine (l4Copy A n c l _ (ha3.drewN 1) hn (by omega)).mono ?_
      rintro e w4 ⟨A3, c3, rfl, o3, hb4⟩
      have hB4 := hB3.drew.trans (hb4.mono hB3.size)
      have bx4 := bx3.below hb4 bx3.lt
      have r4 := r3.below hb4 r3.lt
      have o4 : Ow eH w4 w2.heap.size A3 n c3 l := o3.from_ (by simp)
      have ob4 := (ob3.drewN 1).below hb4 (by simp)
      have hs4 : w2.heap.size ≤ w4.heap.size := by have := hb4.size; simp at this; omega
      refine hK _ _ _ (fun _ h => h) bx4 ?_
      (try simp only [Act.put, List.setIfInBounds_toArray, List.set_cons_zero, List.set_cons_succ])
      refine mixR_call (by rfl) (fun K hK => ?_)
      refine wp_append_ow okH _ (.tmp 37) (.tmp 41) _ rfl w2.heap.size info_hnt Tryz.underlying37 rfl A3 n c3 l rfl o4 _ 1 1 _ [(p, (x0, x1, x2, x3), 0, 0)] rfl ob4 rfl (by unfold maxLen; omega) (by omega) hs4 ?_
      intro A5 c5 w5 ow5 hg5 _
      have hB5 := hB4.grown hg5 hB4.size (fun g hg => by have := (o4.lt g hg).1; have := hB2.size; omega)
      have bx5 := bx4.grown hg5 (fun e => by have := (o4.lt _ e).1; have := bx2.lt; omega)
      have r5 := r4.grown hg5 (fun e => by have := (o4.lt _ e).1; have := r2.lt; omega)
      refine hK _ _ _ (fun _ h => h) bx5 ?_
      (try simp only [Act.put, List.setIfInBounds_toArray, List.set_cons_zero, List.set_cons_succ])
      refine mixR_pure (v := ?_) (by rfl) (fun u hu => ?_) ?_
      rotate_left
      · go_simp
        (with_reducible rfl)
      (try simp only [Act.put, List.setIfInBounds_toArray, List.set_cons_zero, List.set_cons_succ])
      obtain ⟨c0, c1, f0, f1⟩ := r5.two
      refine mixR_call (by rfl) (fun K hK => ?_)
      go_simp
      have r6 := r5.set 0 (.int .i64 0)
      have r7 := r6.set 1 (.slice A5 (n + 1) c5)
      refine hK _ _ _ (fun _ h => h) ((bx5.far (p := ⟨w.heap.size + 1, 0, none⟩) (by simp) _).far (p := ⟨w.heap.size + 1, 1, none⟩) (by simp) _) ?_
      (try simp only [Act.put, List.setIfInBounds_toArray, List.set_cons_zero, List.set_cons_succ])
      refine mixR_nil ?_
      go_wp2
      refine bodyPost_ret (v := .agg #[.int .i64 0, .slice A5 (n + 1) c5]) (by simp [results, Tryz.results107, go_sem, c0, c1]) rfl ?_
      exact ⟨_, _, _, rfl, (((ow5.under (p := ⟨w.heap.size + 1, 0, none⟩) r2.lt _).under (p := ⟨w.heap.size + 1, 1, none⟩) r2.lt _).from_ hB2.size), (hB5.setCell (by simp) _).setCell (by simp) _⟩
end Go.Proofs.YtmaillakhhdkfaaGreatDoor
