/-
  A sample out of its bytes: the program's.
-/
import Derived.Test.YteiclanlhnccnaaDoorDec
namespace Go.Proofs.YteiclanlhnccnaaDoor
set_option maxRecDepth 20000
open Go.RowKit
set_option linter.unusedSimpArgs false

theorem eqSample_same (a0 a1 a2 a3 : Int) (w : World) :
    Calls Tryd.prog 66 #[.agg #[.int .i64 a0, .int .i64 a1, .int .i64 a2, .int .i64 a3], .agg #[.int .i64 a0, .int .i64 a1, .int .i64 a2, .int .i64 a3]] w fun e w' => e = .returned (.bool true) ∧ Below w.heap.size w w' := by
  go_enter Tryd.func66, Tryd.ntmps66
  go_wp2
  go_ret
  exact ⟨rfl, ((Below.refl _ _).alloc (Nat.le_refl _) _).alloc (by simp) _⟩

theorem sampleOf (a0 a1 a2 a3 : Int) (w : World) :
    Calls Tryd.prog 80 #[.agg #[.int .i64 a0, .int .i64 a1, .int .i64 a2, .int .i64 a3]] w fun e w' => e = .returned (.agg #[.int .i64 a0, .int .i64 a1, .int .i64 a2, .int .i64 a3]) ∧ Below w.heap.size w w' := by
  go_enter Tryd.func80, Tryd.ntmps80
  go_wp2
  refine bodyPost_ret (v := .agg #[.int .i64 a0, .int .i64 a1, .int .i64 a2, .int .i64 a3]) (by simp [results, Tryd.results80, go_sem]) rfl ?_
  exact ⟨rfl, ((Below.refl _ _).alloc (Nat.le_refl _) _).alloc (by simp) _⟩

theorem fldI1 (a b : Int) (u : World) : (Instr.field 114 (.agg #[.int .i64 a, .int .i64 b]) 1).run Tryd.prog u = .ok (.int .i64 b) u := by kernel_rfl

/-- The bytes of an array's block read as a list. -/
theorem rd_array {w : World} {g : Nat} {t : TypeId} {cs : Array Value} {l : List UInt8} (h : At w g t cs) (hc : cs.toList = eB.row l) : Rd eB w w.heap.size (some ⟨g, 0, none⟩) l := fun _ => by
  refine ⟨g, 0, rfl, h.lt, fun k j a u hk hu => ?_⟩
  have hj : j < eB.size := by rw [← okB.len a]; exact getElem?_some_lt hu
  rw [h.cell, Nat.zero_add, ← Array.getElem?_toList, hc, okB.row_at l k j a hk hj, hu]

theorem reads {w : World} {A : Option Addr} {l : List UInt8} (p s : Nat) (ha : Rd eB w w.heap.size A l) (hn : l.length = 7) (hs : 1 ≤ s) (hs2 : s ≤ 4) (hp : p + s ≤ 7) :
    Calls Tryd.prog 63 #[.slice A 7 7, .int .i64 p, .int .i64 s] w fun e w' => e = .returned (.agg #[.int .i64 0, .int .i64 ((readAt l p s 0 : Nat) : Int)]) ∧ Below w.heap.size w w' := by
  have h := implReadWord A 7 7 l p s w ha hn (by unfold maxLen; omega)
  rw [readM_nat ⟨hs, hs2, by omega⟩] at h
  exact h

def numRow (v0 v1 v2 v3 : Nat) : Nat → Array Value
  | 0 => #[.int .i64 0, .int .i64 0, .int .i64 0, .int .i64 0]
  | 1 => #[.int .i64 (v0 : Int), .int .i64 0, .int .i64 0, .int .i64 0]
  | 2 => #[.int .i64 (v0 : Int), .int .i64 (v1 : Int), .int .i64 0, .int .i64 0]
  | 3 => #[.int .i64 (v0 : Int), .int .i64 (v1 : Int), .int .i64 (v2 : Int), .int .i64 0]
  | _ => #[.int .i64 (v0 : Int), .int .i64 (v1 : Int), .int .i64 (v2 : Int), .int .i64 ((v3 : Int) - 1000)]

def UnpRel (w : World) (gb gR gN : Nat) (box : Array Value) (v0 v1 v2 v3 : Nat) (i : Value) (wr : World) : Prop :=
  ∃ k : Nat, k ≤ 4 ∧ i = .int .i64 k ∧ At wr gb 130 box ∧ At wr gR 27 #[.int .i64 0, .int .i64 0, .int .i64 0, .int .i64 0] ∧ At wr gN 100 (numRow v0 v1 v2 v3 k) ∧ Below w.heap.size w wr

set_option maxHeartbeats 4000000 in
theorem unpackSample (x0 x1 x2 x3 x4 x5 x6 : UInt8) (w : World) (hF : Flds w) :
    Calls Tryd.prog 78 #[.agg #[.int .u8 (x0.toNat : Int), .int .u8 (x1.toNat : Int), .int .u8 (x2.toNat : Int), .int .u8 (x3.toNat : Int), .int .u8 (x4.toNat : Int), .int .u8 (x5.toNat : Int), .int .u8 (x6.toNat : Int)]] w fun e w' => RetS (unpM [x0, x1, x2, x3, x4, x5, x6]) w e w' := by
  obtain ⟨L, hL⟩ : ∃ L : List UInt8, L = [x0, x1, x2, x3, x4, x5, x6] := ⟨_, rfl⟩
  have hLn : L.length = 7 := by rw [hL]; rfl
  have hLr := Lib.hid (show (#[.int .u8 (x0.toNat : Int), .int .u8 (x1.toNat : Int), .int .u8 (x2.toNat : Int), .int .u8 (x3.toNat : Int), .int .u8 (x4.toNat : Int), .int .u8 (x5.toNat : Int), .int .u8 (x6.toNat : Int)] : Array Value).toList = eB.row L by rw [hL]; rfl)
  rw [← hL]
  have hb0 : readAt L 0 1 0 < 4294967296 := readAt_lt L 0 1 0 (by omega)
  have hb1 : readAt L 1 2 0 < 4294967296 := readAt_lt L 1 2 0 (by omega)
  have hb2 : readAt L 3 2 0 < 4294967296 := readAt_lt L 3 2 0 (by omega)
  have hb3 : readAt L 5 2 0 < 4294967296 := readAt_lt L 5 2 0 (by omega)
  have R0 := fun W A (h : Rd eB W W.heap.size A L) => reads 0 1 h hLn (by omega) (by omega) (by omega)
  have R1 := fun W A (h : Rd eB W W.heap.size A L) => reads 1 2 h hLn (by omega) (by omega) (by omega)
  have R2 := fun W A (h : Rd eB W W.heap.size A L) => reads 3 2 h hLn (by omega) (by omega) (by omega)
  have R3 := fun W A (h : Rd eB W W.heap.size A L) => reads 5 2 h hLn (by omega) (by omega) (by omega)
  unfold unpM
  generalize readAt L 0 1 0 = v0 at *
  generalize readAt L 1 2 0 = v1 at *
  generalize readAt L 3 2 0 = v2 at *
  generalize readAt L 5 2 0 = v3 at *
  clear hL
  obtain ⟨box, hbox⟩ : ∃ box : Array Value, box = #[.int .u8 (x0.toNat : Int), .int .u8 (x1.toNat : Int), .int .u8 (x2.toNat : Int), .int .u8 (x3.toNat : Int), .int .u8 (x4.toNat : Int), .int .u8 (x5.toNat : Int), .int .u8 (x6.toNat : Int)] := ⟨_, rfl⟩
  have HR := Lib.hid (show ∀ W g, At W g 130 box → Rd eB W W.heap.size (some ⟨g, 0, none⟩) L from fun W g h => rd_array h (by rw [hbox]; exact hLr.out))
  have Hp0 := At.new w 130 #[.int .u8 (x0.toNat : Int), .int .u8 (x1.toNat : Int), .int .u8 (x2.toNat : Int), .int .u8 (x3.toNat : Int), .int .u8 (x4.toNat : Int), .int .u8 (x5.toNat : Int), .int .u8 (x6.toNat : Int)]
  have hS0 : (w.alloc (.cells #[.int .u8 (x0.toNat : Int), .int .u8 (x1.toNat : Int), .int .u8 (x2.toNat : Int), .int .u8 (x3.toNat : Int), .int .u8 (x4.toNat : Int), .int .u8 (x5.toNat : Int), .int .u8 (x6.toNat : Int)] 130)).heap.size = w.heap.size + 1 := by simp
  have hB0 : Below w.heap.size w (w.alloc (.cells #[.int .u8 (x0.toNat : Int), .int .u8 (x1.toNat : Int), .int .u8 (x2.toNat : Int), .int .u8 (x3.toNat : Int), .int .u8 (x4.toNat : Int), .int .u8 (x5.toNat : Int), .int .u8 (x6.toNat : Int)] 130)) := (Below.refl _ _).alloc (Nat.le_refl _) _
  have Hr0 := At.new (w.alloc (.cells #[.int .u8 (x0.toNat : Int), .int .u8 (x1.toNat : Int), .int .u8 (x2.toNat : Int), .int .u8 (x3.toNat : Int), .int .u8 (x4.toNat : Int), .int .u8 (x5.toNat : Int), .int .u8 (x6.toNat : Int)] 130)) 27 #[.int .i64 0, .int .i64 0, .int .i64 0, .int .i64 0]
  rw [hS0] at Hr0
  have hB1 := hB0.alloc hB0.size (.cells #[.int .i64 0, .int .i64 0, .int .i64 0, .int .i64 0] 27)
  have Hp1 := Hp0.alloc (.cells #[.int .i64 0, .int .i64 0, .int .i64 0, .int .i64 0] 27)
  have Hn2 := At.new ((w.alloc (.cells #[.int .u8 (x0.toNat : Int), .int .u8 (x1.toNat : Int), .int .u8 (x2.toNat : Int), .int .u8 (x3.toNat : Int), .int .u8 (x4.toNat : Int), .int .u8 (x5.toNat : Int), .int .u8 (x6.toNat : Int)] 130)).alloc (.cells #[.int .i64 0, .int .i64 0, .int .i64 0, .int .i64 0] 27)) 100 #[.int .i64 0, .int .i64 0, .int .i64 0, .int .i64 0]
  rw [show ((w.alloc (.cells #[.int .u8 (x0.toNat : Int), .int .u8 (x1.toNat : Int), .int .u8 (x2.toNat : Int), .int .u8 (x3.toNat : Int), .int .u8 (x4.toNat : Int), .int .u8 (x5.toNat : Int), .int .u8 (x6.toNat : Int)] 130)).alloc (.cells #[.int .i64 0, .int .i64 0, .int .i64 0, .int .i64 0] 27)).heap.size = w.heap.size + 1 + 1 by simp] at Hn2
  have hB2 := hB1.alloc hB1.size (.cells #[.int .i64 0, .int .i64 0, .int .i64 0, .int .i64 0] 100)
  have Hp2 := Hp1.alloc (.cells #[.int .i64 0, .int .i64 0, .int .i64 0, .int .i64 0] 100)
  have Hr2 := Hr0.alloc (.cells #[.int .i64 0, .int .i64 0, .int .i64 0, .int .i64 0] 100)
  clear Hp0 Hp1 hS0 hLr
  have hz := hF.pos
  obtain ⟨c0, c1, c2, c3, c4, c5, c6, c7, c8, c9, c10, c11, c12, c13, c14, c15⟩ := (hF.below hB2).all
  go_enter Tryd.func78, Tryd.ntmps78
  go_wp2_with fail
  clear c0 c1 c2 c3 c4 c5 c6 c7 c8 c9 c10 c11 c12 c13 c14 c15
  go_loopw [7] (fun i wr => UnpRel w w.heap.size (w.heap.size + 1) (w.heap.size + 1 + 1) box v0 v1 v2 v3 i wr) (fun i _ => 4 - (intOf i).toNat)
  case atStart => exact ⟨0, by omega, rfl, by rw [hbox]; exact Hp2, Hr2, Hn2, hB2⟩
  case round =>
    obtain ⟨k, hk, rfl, hP, hR, hN, hbel⟩ := hrel
    have lP := hP.lt
    have lN := hN.lt
    have lR := hR.lt
    rcases (show k = 0 ∨ k = 1 ∨ k = 2 ∨ k = 3 ∨ k = 4 by omega) with rfl | rfl | rfl | rfl | rfl
    · have hidx := fldAt0 wr
      have hsl := slAll w.heap.size
      have hw1 : IntKind.i64.wrap (v0 : Int) = (v0 : Int) := by exact IntWalk.i64_in _ (by omega)
      obtain ⟨m0, m1, m2, m3, f0, f1, f2, f3⟩ := (show At wr (w.heap.size + 1 + 1) 100 #[.int .i64 0, .int .i64 0, .int .i64 0, .int .i64 0] from hN).four
      go_wp2
      refine wp_region_mix [(0, false), (1, false), (2, false), (3, false), (4, false), (5, false), (6, false), (7, false), (8, true), (9, false), (10, false), (11, false), (12, true)] (fun u => u.cell? ⟨wr.heap.size, 0, none⟩ = some (.int .i64 0) ∧ u.cell? ⟨wr.heap.size, 1, none⟩ = some (.int .i64 1) ∧ u.cell? ⟨wr.heap.size, 2, none⟩ = some (.int .i64 0)) (by kernel_rfl) (by kernel_rfl) (fun _ _ _ _ _ h => h) (by go_simp) ?_
      simp only [mixOps, List.map_cons, List.map_nil, List.getElem?_cons_succ, List.getElem?_cons_zero, Option.getD_some]
      repeat (first
        | (refine mix_skip (by rfl) ?_
           (try simp only [Act.put, List.setIfInBounds_toArray, List.set_cons_zero, List.set_cons_succ]))
        | (refine mix_pure (v := ?_) (by rfl) (fun u hu => ?_) ?_
           rotate_left
           · obtain ⟨_, _, _⟩ := hu
             go_simp
             (with_reducible rfl)
           (try simp only [Act.put, List.setIfInBounds_toArray, List.set_cons_zero, List.set_cons_succ])))
      have F5 := (hbel.alloc hbel.size (.cells #[.int .i64 0, .int .i64 1, .int .i64 0, .int .i64 9] 103)).drew
      have P4 := (hP.alloc (.cells #[.int .i64 0, .int .i64 1, .int .i64 0, .int .i64 9] 103)).drew
      refine mix_call (by rfl) (fun K hK => ?_)
      go_simp
      refine (R0 _ _ (HR.out _ _ P4)).mono ?_
      rintro e w5 ⟨rfl, hb5⟩
      have fI := fldI1 0 (v0 : Int)
      have P5 := P4.below hb5 P4.lt
      have N5 := ((hN.alloc (.cells #[.int .i64 0, .int .i64 1, .int .i64 0, .int .i64 9] 103)).drew).below hb5 (by simp; omega)
      have R5 := ((hR.alloc (.cells #[.int .i64 0, .int .i64 1, .int .i64 0, .int .i64 9] 103)).drew).below hb5 (by simp; omega)
      have hB5 := F5.trans (hb5.mono F5.size)
      refine hK _ _ _ (fun _ h => h) ⟨(hb5.cell (p := ⟨wr.heap.size, 0, none⟩) (by simp)).trans (by go_simp), (hb5.cell (p := ⟨wr.heap.size, 1, none⟩) (by simp)).trans (by go_simp), (hb5.cell (p := ⟨wr.heap.size, 2, none⟩) (by simp)).trans (by go_simp)⟩ ?_
      (try simp only [Act.put, List.setIfInBounds_toArray, List.set_cons_zero, List.set_cons_succ])
      iterate 3
        refine mix_pure (v := ?_) (by rfl) (fun u hu => ?_) ?_
        rotate_left
        · go_simp
          (with_reducible rfl)
        (try simp only [Act.put, List.setIfInBounds_toArray, List.set_cons_zero, List.set_cons_succ])
      clear m0 m1 m2 m3 f0 f1 f2 f3
      obtain ⟨m0, m1, m2, m3, f0, f1, f2, f3⟩ := (show At w5 (w.heap.size + 1 + 1) 100 #[.int .i64 0, .int .i64 0, .int .i64 0, .int .i64 0] from N5).four
      have S0 : w5.cell? ⟨wr.heap.size, 0, none⟩ = some (.int .i64 0) := (hb5.cell (p := ⟨wr.heap.size, 0, none⟩) (by simp)).trans (by go_simp)
      have S1 : w5.cell? ⟨wr.heap.size, 1, none⟩ = some (.int .i64 1) := (hb5.cell (p := ⟨wr.heap.size, 1, none⟩) (by simp)).trans (by go_simp)
      have S2 : w5.cell? ⟨wr.heap.size, 2, none⟩ = some (.int .i64 0) := (hb5.cell (p := ⟨wr.heap.size, 2, none⟩) (by simp)).trans (by go_simp)
      have N6 := N5.set 0 (.int .i64 (v0 : Int))
      have P6 := P5.far (p := ⟨w.heap.size + 1 + 1, 0, none⟩) (by show w.heap.size ≠ w.heap.size + 1 + 1; omega) (.int .i64 (v0 : Int))
      have R6 := R5.far (p := ⟨w.heap.size + 1 + 1, 0, none⟩) (by show w.heap.size + 1 ≠ w.heap.size + 1 + 1; omega) (.int .i64 (v0 : Int))
      have hB6 := hB5.setCell (p := ⟨w.heap.size + 1 + 1, 0, none⟩) (by show w.heap.size ≤ w.heap.size + 1 + 1; omega) (.int .i64 (v0 : Int))
      have hne : wr.heap.size ≠ w.heap.size + 1 + 1 := by omega
      refine mix_call (by rfl) (fun K hK => ?_)
      go_simp
      refine hK _ _ _ (fun _ h => h) ⟨(cell_same (Below.heap_setCell _ _ _ _ hne)).trans S0, (cell_same (Below.heap_setCell _ _ _ _ hne)).trans S1, (cell_same (Below.heap_setCell _ _ _ _ hne)).trans S2⟩ ?_
      (try simp only [Act.put, List.setIfInBounds_toArray, List.set_cons_zero, List.set_cons_succ])
      refine mix_nil ?_
      go_wp2
      exact ⟨⟨0 + 1, by omega, by go_num, P6, R6, N6, hB6⟩, by simp [intOf]⟩
    · have hidx := fldAt1 wr
      have hsl := slAll w.heap.size
      have hw1 : IntKind.i64.wrap (v1 : Int) = (v1 : Int) := by exact IntWalk.i64_in _ (by omega)
      obtain ⟨m0, m1, m2, m3, f0, f1, f2, f3⟩ := (show At wr (w.heap.size + 1 + 1) 100 #[.int .i64 (v0 : Int), .int .i64 0, .int .i64 0, .int .i64 0] from hN).four
      go_wp2
      refine wp_region_mix [(0, false), (1, false), (2, false), (3, false), (4, false), (5, false), (6, false), (7, false), (8, true), (9, false), (10, false), (11, false), (12, true)] (fun u => u.cell? ⟨wr.heap.size, 0, none⟩ = some (.int .i64 1) ∧ u.cell? ⟨wr.heap.size, 1, none⟩ = some (.int .i64 2) ∧ u.cell? ⟨wr.heap.size, 2, none⟩ = some (.int .i64 0)) (by kernel_rfl) (by kernel_rfl) (fun _ _ _ _ _ h => h) (by go_simp) ?_
      simp only [mixOps, List.map_cons, List.map_nil, List.getElem?_cons_succ, List.getElem?_cons_zero, Option.getD_some]
      repeat (first
        | (refine mix_skip (by rfl) ?_
           (try simp only [Act.put, List.setIfInBounds_toArray, List.set_cons_zero, List.set_cons_succ]))
        | (refine mix_pure (v := ?_) (by rfl) (fun u hu => ?_) ?_
           rotate_left
           · obtain ⟨_, _, _⟩ := hu
             go_simp
             (with_reducible rfl)
           (try simp only [Act.put, List.setIfInBounds_toArray, List.set_cons_zero, List.set_cons_succ])))
      have F5 := (hbel.alloc hbel.size (.cells #[.int .i64 1, .int .i64 2, .int .i64 0, .int .i64 999] 103)).drew
      have P4 := (hP.alloc (.cells #[.int .i64 1, .int .i64 2, .int .i64 0, .int .i64 999] 103)).drew
      refine mix_call (by rfl) (fun K hK => ?_)
      go_simp
      refine (R1 _ _ (HR.out _ _ P4)).mono ?_
      rintro e w5 ⟨rfl, hb5⟩
      have fI := fldI1 0 (v1 : Int)
      have P5 := P4.below hb5 P4.lt
      have N5 := ((hN.alloc (.cells #[.int .i64 1, .int .i64 2, .int .i64 0, .int .i64 999] 103)).drew).below hb5 (by simp; omega)
      have R5 := ((hR.alloc (.cells #[.int .i64 1, .int .i64 2, .int .i64 0, .int .i64 999] 103)).drew).below hb5 (by simp; omega)
      have hB5 := F5.trans (hb5.mono F5.size)
      refine hK _ _ _ (fun _ h => h) ⟨(hb5.cell (p := ⟨wr.heap.size, 0, none⟩) (by simp)).trans (by go_simp), (hb5.cell (p := ⟨wr.heap.size, 1, none⟩) (by simp)).trans (by go_simp), (hb5.cell (p := ⟨wr.heap.size, 2, none⟩) (by simp)).trans (by go_simp)⟩ ?_
      (try simp only [Act.put, List.setIfInBounds_toArray, List.set_cons_zero, List.set_cons_succ])
      iterate 3
        refine mix_pure (v := ?_) (by rfl) (fun u hu => ?_) ?_
        rotate_left
        · go_simp
          (with_reducible rfl)
        (try simp only [Act.put, List.setIfInBounds_toArray, List.set_cons_zero, List.set_cons_succ])
      clear m0 m1 m2 m3 f0 f1 f2 f3
      obtain ⟨m0, m1, m2, m3, f0, f1, f2, f3⟩ := (show At w5 (w.heap.size + 1 + 1) 100 #[.int .i64 (v0 : Int), .int .i64 0, .int .i64 0, .int .i64 0] from N5).four
      have S0 : w5.cell? ⟨wr.heap.size, 0, none⟩ = some (.int .i64 1) := (hb5.cell (p := ⟨wr.heap.size, 0, none⟩) (by simp)).trans (by go_simp)
      have S1 : w5.cell? ⟨wr.heap.size, 1, none⟩ = some (.int .i64 2) := (hb5.cell (p := ⟨wr.heap.size, 1, none⟩) (by simp)).trans (by go_simp)
      have S2 : w5.cell? ⟨wr.heap.size, 2, none⟩ = some (.int .i64 0) := (hb5.cell (p := ⟨wr.heap.size, 2, none⟩) (by simp)).trans (by go_simp)
      have N6 := N5.set 1 (.int .i64 (v1 : Int))
      have P6 := P5.far (p := ⟨w.heap.size + 1 + 1, 1, none⟩) (by show w.heap.size ≠ w.heap.size + 1 + 1; omega) (.int .i64 (v1 : Int))
      have R6 := R5.far (p := ⟨w.heap.size + 1 + 1, 1, none⟩) (by show w.heap.size + 1 ≠ w.heap.size + 1 + 1; omega) (.int .i64 (v1 : Int))
      have hB6 := hB5.setCell (p := ⟨w.heap.size + 1 + 1, 1, none⟩) (by show w.heap.size ≤ w.heap.size + 1 + 1; omega) (.int .i64 (v1 : Int))
      have hne : wr.heap.size ≠ w.heap.size + 1 + 1 := by omega
      refine mix_call (by rfl) (fun K hK => ?_)
      go_simp
      refine hK _ _ _ (fun _ h => h) ⟨(cell_same (Below.heap_setCell _ _ _ _ hne)).trans S0, (cell_same (Below.heap_setCell _ _ _ _ hne)).trans S1, (cell_same (Below.heap_setCell _ _ _ _ hne)).trans S2⟩ ?_
      (try simp only [Act.put, List.setIfInBounds_toArray, List.set_cons_zero, List.set_cons_succ])
      refine mix_nil ?_
      go_wp2
      exact ⟨⟨1 + 1, by omega, by go_num, P6, R6, N6, hB6⟩, by simp [intOf]⟩
    · have hidx := fldAt2 wr
      have hsl := slAll w.heap.size
      have hw1 : IntKind.i64.wrap (v2 : Int) = (v2 : Int) := by exact IntWalk.i64_in _ (by omega)
      obtain ⟨m0, m1, m2, m3, f0, f1, f2, f3⟩ := (show At wr (w.heap.size + 1 + 1) 100 #[.int .i64 (v0 : Int), .int .i64 (v1 : Int), .int .i64 0, .int .i64 0] from hN).four
      go_wp2
      refine wp_region_mix [(0, false), (1, false), (2, false), (3, false), (4, false), (5, false), (6, false), (7, false), (8, true), (9, false), (10, false), (11, false), (12, true)] (fun u => u.cell? ⟨wr.heap.size, 0, none⟩ = some (.int .i64 3) ∧ u.cell? ⟨wr.heap.size, 1, none⟩ = some (.int .i64 2) ∧ u.cell? ⟨wr.heap.size, 2, none⟩ = some (.int .i64 0)) (by kernel_rfl) (by kernel_rfl) (fun _ _ _ _ _ h => h) (by go_simp) ?_
      simp only [mixOps, List.map_cons, List.map_nil, List.getElem?_cons_succ, List.getElem?_cons_zero, Option.getD_some]
      repeat (first
        | (refine mix_skip (by rfl) ?_
           (try simp only [Act.put, List.setIfInBounds_toArray, List.set_cons_zero, List.set_cons_succ]))
        | (refine mix_pure (v := ?_) (by rfl) (fun u hu => ?_) ?_
           rotate_left
           · obtain ⟨_, _, _⟩ := hu
             go_simp
             (with_reducible rfl)
           (try simp only [Act.put, List.setIfInBounds_toArray, List.set_cons_zero, List.set_cons_succ])))
      have F5 := (hbel.alloc hbel.size (.cells #[.int .i64 3, .int .i64 2, .int .i64 0, .int .i64 9999] 103)).drew
      have P4 := (hP.alloc (.cells #[.int .i64 3, .int .i64 2, .int .i64 0, .int .i64 9999] 103)).drew
      refine mix_call (by rfl) (fun K hK => ?_)
      go_simp
      refine (R2 _ _ (HR.out _ _ P4)).mono ?_
      rintro e w5 ⟨rfl, hb5⟩
      have fI := fldI1 0 (v2 : Int)
      have P5 := P4.below hb5 P4.lt
      have N5 := ((hN.alloc (.cells #[.int .i64 3, .int .i64 2, .int .i64 0, .int .i64 9999] 103)).drew).below hb5 (by simp; omega)
      have R5 := ((hR.alloc (.cells #[.int .i64 3, .int .i64 2, .int .i64 0, .int .i64 9999] 103)).drew).below hb5 (by simp; omega)
      have hB5 := F5.trans (hb5.mono F5.size)
      refine hK _ _ _ (fun _ h => h) ⟨(hb5.cell (p := ⟨wr.heap.size, 0, none⟩) (by simp)).trans (by go_simp), (hb5.cell (p := ⟨wr.heap.size, 1, none⟩) (by simp)).trans (by go_simp), (hb5.cell (p := ⟨wr.heap.size, 2, none⟩) (by simp)).trans (by go_simp)⟩ ?_
      (try simp only [Act.put, List.setIfInBounds_toArray, List.set_cons_zero, List.set_cons_succ])
      iterate 3
        refine mix_pure (v := ?_) (by rfl) (fun u hu => ?_) ?_
        rotate_left
        · go_simp
          (with_reducible rfl)
        (try simp only [Act.put, List.setIfInBounds_toArray, List.set_cons_zero, List.set_cons_succ])
      clear m0 m1 m2 m3 f0 f1 f2 f3
      obtain ⟨m0, m1, m2, m3, f0, f1, f2, f3⟩ := (show At w5 (w.heap.size + 1 + 1) 100 #[.int .i64 (v0 : Int), .int .i64 (v1 : Int), .int .i64 0, .int .i64 0] from N5).four
      have S0 : w5.cell? ⟨wr.heap.size, 0, none⟩ = some (.int .i64 3) := (hb5.cell (p := ⟨wr.heap.size, 0, none⟩) (by simp)).trans (by go_simp)
      have S1 : w5.cell? ⟨wr.heap.size, 1, none⟩ = some (.int .i64 2) := (hb5.cell (p := ⟨wr.heap.size, 1, none⟩) (by simp)).trans (by go_simp)
      have S2 : w5.cell? ⟨wr.heap.size, 2, none⟩ = some (.int .i64 0) := (hb5.cell (p := ⟨wr.heap.size, 2, none⟩) (by simp)).trans (by go_simp)
      have N6 := N5.set 2 (.int .i64 (v2 : Int))
      have P6 := P5.far (p := ⟨w.heap.size + 1 + 1, 2, none⟩) (by show w.heap.size ≠ w.heap.size + 1 + 1; omega) (.int .i64 (v2 : Int))
      have R6 := R5.far (p := ⟨w.heap.size + 1 + 1, 2, none⟩) (by show w.heap.size + 1 ≠ w.heap.size + 1 + 1; omega) (.int .i64 (v2 : Int))
      have hB6 := hB5.setCell (p := ⟨w.heap.size + 1 + 1, 2, none⟩) (by show w.heap.size ≤ w.heap.size + 1 + 1; omega) (.int .i64 (v2 : Int))
      have hne : wr.heap.size ≠ w.heap.size + 1 + 1 := by omega
      refine mix_call (by rfl) (fun K hK => ?_)
      go_simp
      refine hK _ _ _ (fun _ h => h) ⟨(cell_same (Below.heap_setCell _ _ _ _ hne)).trans S0, (cell_same (Below.heap_setCell _ _ _ _ hne)).trans S1, (cell_same (Below.heap_setCell _ _ _ _ hne)).trans S2⟩ ?_
      (try simp only [Act.put, List.setIfInBounds_toArray, List.set_cons_zero, List.set_cons_succ])
      refine mix_nil ?_
      go_wp2
      exact ⟨⟨2 + 1, by omega, by go_num, P6, R6, N6, hB6⟩, by simp [intOf]⟩
    · have hidx := fldAt3 wr
      have hsl := slAll w.heap.size
      have hw1 : IntKind.i64.wrap ((v3 : Int) - 1000) = ((v3 : Int) - 1000) := by exact IntWalk.i64_in _ (by omega)
      obtain ⟨m0, m1, m2, m3, f0, f1, f2, f3⟩ := (show At wr (w.heap.size + 1 + 1) 100 #[.int .i64 (v0 : Int), .int .i64 (v1 : Int), .int .i64 (v2 : Int), .int .i64 0] from hN).four
      go_wp2
      refine wp_region_mix [(0, false), (1, false), (2, false), (3, false), (4, false), (5, false), (6, false), (7, false), (8, true), (9, false), (10, false), (11, false), (12, true)] (fun u => u.cell? ⟨wr.heap.size, 0, none⟩ = some (.int .i64 5) ∧ u.cell? ⟨wr.heap.size, 1, none⟩ = some (.int .i64 2) ∧ u.cell? ⟨wr.heap.size, 2, none⟩ = some (.int .i64 (-1000))) (by kernel_rfl) (by kernel_rfl) (fun _ _ _ _ _ h => h) (by go_simp) ?_
      simp only [mixOps, List.map_cons, List.map_nil, List.getElem?_cons_succ, List.getElem?_cons_zero, Option.getD_some]
      repeat (first
        | (refine mix_skip (by rfl) ?_
           (try simp only [Act.put, List.setIfInBounds_toArray, List.set_cons_zero, List.set_cons_succ]))
        | (refine mix_pure (v := ?_) (by rfl) (fun u hu => ?_) ?_
           rotate_left
           · obtain ⟨_, _, _⟩ := hu
             go_simp
             (with_reducible rfl)
           (try simp only [Act.put, List.setIfInBounds_toArray, List.set_cons_zero, List.set_cons_succ])))
      have F5 := (hbel.alloc hbel.size (.cells #[.int .i64 5, .int .i64 2, .int .i64 (-1000), .int .i64 1000] 103)).drew
      have P4 := (hP.alloc (.cells #[.int .i64 5, .int .i64 2, .int .i64 (-1000), .int .i64 1000] 103)).drew
      refine mix_call (by rfl) (fun K hK => ?_)
      go_simp
      refine (R3 _ _ (HR.out _ _ P4)).mono ?_
      rintro e w5 ⟨rfl, hb5⟩
      have fI := fldI1 0 (v3 : Int)
      have P5 := P4.below hb5 P4.lt
      have N5 := ((hN.alloc (.cells #[.int .i64 5, .int .i64 2, .int .i64 (-1000), .int .i64 1000] 103)).drew).below hb5 (by simp; omega)
      have R5 := ((hR.alloc (.cells #[.int .i64 5, .int .i64 2, .int .i64 (-1000), .int .i64 1000] 103)).drew).below hb5 (by simp; omega)
      have hB5 := F5.trans (hb5.mono F5.size)
      refine hK _ _ _ (fun _ h => h) ⟨(hb5.cell (p := ⟨wr.heap.size, 0, none⟩) (by simp)).trans (by go_simp), (hb5.cell (p := ⟨wr.heap.size, 1, none⟩) (by simp)).trans (by go_simp), (hb5.cell (p := ⟨wr.heap.size, 2, none⟩) (by simp)).trans (by go_simp)⟩ ?_
      (try simp only [Act.put, List.setIfInBounds_toArray, List.set_cons_zero, List.set_cons_succ])
      iterate 3
        refine mix_pure (v := ?_) (by rfl) (fun u hu => ?_) ?_
        rotate_left
        · go_simp
          (with_reducible rfl)
        (try simp only [Act.put, List.setIfInBounds_toArray, List.set_cons_zero, List.set_cons_succ])
      clear m0 m1 m2 m3 f0 f1 f2 f3
      obtain ⟨m0, m1, m2, m3, f0, f1, f2, f3⟩ := (show At w5 (w.heap.size + 1 + 1) 100 #[.int .i64 (v0 : Int), .int .i64 (v1 : Int), .int .i64 (v2 : Int), .int .i64 0] from N5).four
      have S0 : w5.cell? ⟨wr.heap.size, 0, none⟩ = some (.int .i64 5) := (hb5.cell (p := ⟨wr.heap.size, 0, none⟩) (by simp)).trans (by go_simp)
      have S1 : w5.cell? ⟨wr.heap.size, 1, none⟩ = some (.int .i64 2) := (hb5.cell (p := ⟨wr.heap.size, 1, none⟩) (by simp)).trans (by go_simp)
      have S2 : w5.cell? ⟨wr.heap.size, 2, none⟩ = some (.int .i64 (-1000)) := (hb5.cell (p := ⟨wr.heap.size, 2, none⟩) (by simp)).trans (by go_simp)
      have N6 := N5.set 3 (.int .i64 ((v3 : Int) - 1000))
      have P6 := P5.far (p := ⟨w.heap.size + 1 + 1, 3, none⟩) (by show w.heap.size ≠ w.heap.size + 1 + 1; omega) (.int .i64 ((v3 : Int) - 1000))
      have R6 := R5.far (p := ⟨w.heap.size + 1 + 1, 3, none⟩) (by show w.heap.size + 1 ≠ w.heap.size + 1 + 1; omega) (.int .i64 ((v3 : Int) - 1000))
      have hB6 := hB5.setCell (p := ⟨w.heap.size + 1 + 1, 3, none⟩) (by show w.heap.size ≤ w.heap.size + 1 + 1; omega) (.int .i64 ((v3 : Int) - 1000))
      have hne : wr.heap.size ≠ w.heap.size + 1 + 1 := by omega
      refine mix_call (by rfl) (fun K hK => ?_)
      go_simp
      refine hK _ _ _ (fun _ h => h) ⟨(cell_same (Below.heap_setCell _ _ _ _ hne)).trans S0, (cell_same (Below.heap_setCell _ _ _ _ hne)).trans S1, (cell_same (Below.heap_setCell _ _ _ _ hne)).trans S2⟩ ?_
      (try simp only [Act.put, List.setIfInBounds_toArray, List.set_cons_zero, List.set_cons_succ])
      refine mix_nil ?_
      go_wp2
      exact ⟨⟨3 + 1, by omega, by go_num, P6, R6, N6, hB6⟩, by simp [intOf]⟩
    · obtain ⟨m0, m1, m2, m3, _, _, _, _⟩ := (show At wr (w.heap.size + 1 + 1) 100 #[.int .i64 (v0 : Int), .int .i64 (v1 : Int), .int .i64 (v2 : Int), .int .i64 ((v3 : Int) - 1000)] from hN).four
      go_wp2_with fail
      refine (sampleOf _ _ _ _ _).mono ?_
      rintro e w5 ⟨rfl, hb5⟩
      have R5 := hR.below hb5 lR
      have hB5 := hbel.trans (hb5.mono hbel.size)
      obtain ⟨r0, r1, r2, r3, f0, f1, f2, f3⟩ := R5.four
      go_wp2_with fail
      refine bodyPost_ret (v := .agg #[.int .i64 v0, .int .i64 v1, .int .i64 v2, .int .i64 ((v3 : Int) - 1000)]) (by simp [results, Tryd.results78, go_sem, r0, r1, r2, r3]) rfl ?_
      exact ⟨rfl, (((hB5.setCell (by simp) _).setCell (by simp) _).setCell (by simp) _).setCell (by simp) _⟩

theorem seven_of {l : List UInt8} (h : l.length = 7) : ∃ x0 x1 x2 x3 x4 x5 x6, l = [x0, x1, x2, x3, x4, x5, x6] := by
  match l, h with
  | [x0, x1, x2, x3, x4, x5, x6], _ => exact ⟨x0, x1, x2, x3, x4, x5, x6, rfl⟩

set_option maxHeartbeats 2000000 in
theorem implDecodeSample (A : Option Addr) (n c : Nat) (l : List UInt8) (w : World) (ha : Rd eB w w.heap.size A l) (hn : l.length = n) (hm : n ≤ maxLen) (hF : Flds w) :
    Calls Tryd.prog 74 #[.slice A n c] w fun e w' => RetSR (decodeM l) w e w' := by
  have hB0 : Below w.heap.size w (w.alloc (.cells #[.int .i64 0, .int .i64 0, .int .i64 0, .int .i64 0, .int .i64 0] 133)) := (Below.refl _ _).alloc (Nat.le_refl _) _
  by_cases h7 : n = 7
  · subst h7
    obtain ⟨x0, x1, x2, x3, x4, x5, x6, hl⟩ := seven_of hn
    have hS0 : (w.alloc (.cells #[.int .i64 0, .int .i64 0, .int .i64 0, .int .i64 0, .int .i64 0] 133)).heap.size = w.heap.size + 1 := by simp
    have z0 := (At.new w 133 #[.int .i64 0, .int .i64 0, .int .i64 0, .int .i64 0, .int .i64 0]).alloc (.cells #[.int .u8 0, .int .u8 0, .int .u8 0, .int .u8 0, .int .u8 0, .int .u8 0, .int .u8 0] 130)
    have p0 := At.new (w.alloc (.cells #[.int .i64 0, .int .i64 0, .int .i64 0, .int .i64 0, .int .i64 0] 133)) 130 #[.int .u8 0, .int .u8 0, .int .u8 0, .int .u8 0, .int .u8 0, .int .u8 0, .int .u8 0]
    rw [hS0] at p0
    have hB1 := hB0.alloc hB0.size (.cells #[.int .u8 0, .int .u8 0, .int .u8 0, .int .u8 0, .int .u8 0, .int .u8 0, .int .u8 0] 130)
    obtain ⟨g, o, rfl, hg, _⟩ := ha (by rw [hl]; simp)
    have hsrc := Rd.src (ha.lift hB1)
    obtain ⟨u0, u1, u2, u3, hu⟩ : ∃ u0 u1 u2 u3, unpM l = (u0, u1, u2, u3) := ⟨_, _, _, _, rfl⟩
    have e7 : (((7 : Nat) : Int) != 7) = false := by decide
    have hsl := slAll (w.heap.size + 1)
    have hun := fun W (h : Flds W) => unpackSample x0 x1 x2 x3 x4 x5 x6 W h
    rw [← hl, hu] at hun
    have hcs : (eB.row l).length = 7 := by rw [okB.row_len, hn]; rfl
    have Hsp := Lib.hid (show (splice [.int .u8 0, .int .u8 0, .int .u8 0, .int .u8 0, .int .u8 0, .int .u8 0, .int .u8 0] 0 (eB.row l)).toArray = #[.int .u8 (x0.toNat : Int), .int .u8 (x1.toNat : Int), .int .u8 (x2.toNat : Int), .int .u8 (x3.toNat : Int), .int .u8 (x4.toNat : Int), .int .u8 (x5.toNat : Int), .int .u8 (x6.toNat : Int)] by rw [hl]; rfl)
    rcases faultM_or (u0, u1, u2, u3) with hf | hf
    all_goals
      have hq := implSampleFault u0 u1 u2 u3
      rw [hf] at hq
      first | rw [decodeM_yes hn hu hf] | rw [decodeM_no hn hu hf]
      clear hf hu hn hl ha
      go_enter Tryd.func74, Tryd.ntmps74
      go_wp2_with (refine wpList_copy_splice rfl (.tmp 9) (.tmp 10) 32 32 rfl 5 Tryd.underlying32 u8_size _ _ _ _ _ _ rfl rfl (w.heap.size + 1) 0 [.int .u8 0, .int .u8 0, .int .u8 0, .int .u8 0, .int .u8 0, .int .u8 0, .int .u8 0] 130 p0 (eB.row l) (by rw [hcs]; rfl) (fun _ => ⟨rfl, _, rfl, hsrc⟩) (by rw [hcs]; decide) (okB.row_one _) (w.heap.size + 1) _ (Below.refl _ _) (Nat.le_refl _) ?_
                   intro w5 hP5 hB5
                   have P5 : At w5 (w.heap.size + 1) 130 #[.int .u8 (x0.toNat : Int), .int .u8 (x1.toNat : Int), .int .u8 (x2.toNat : Int), .int .u8 (x3.toNat : Int), .int .u8 (x4.toNat : Int), .int .u8 (x5.toNat : Int), .int .u8 (x6.toNat : Int)] := by rw [← Hsp.out]; exact hP5.out
                   have R5 := z0.below hB5 (Nat.lt_succ_self _)
                   have hBw := hB1.trans (hB5.mono (Nat.le_succ _))
                   have q0 := P5.cell 0
                   have q1 := P5.cell 1
                   have q2 := P5.cell 2
                   have q3 := P5.cell 3
                   have q4 := P5.cell 4
                   have q5 := P5.cell 5
                   have q6 := P5.cell 6)
      refine (hun _ (hF.below hBw)).mono ?_
      rintro e w6 ⟨rfl, hb6⟩
      clear q0 q1 q2 q3 q4 q5 q6
      have hB6 := hBw.trans (hb6.mono hBw.size)
      have R6 := (R5.below hb6 R5.lt).alloc (.cells #[.int .i64 u0, .int .i64 u1, .int .i64 u2, .int .i64 u3] 27)
      have x6' := At.new w6 27 #[.int .i64 u0, .int .i64 u1, .int .i64 u2, .int .i64 u3]
      have hB7 := hB6.alloc hB6.size (.cells #[.int .i64 u0, .int .i64 u1, .int .i64 u2, .int .i64 u3] 27)
      go_wp2_with fail
      refine (hq _ (hF.below hB7)).mono ?_
      rintro e w8 ⟨rfl, hb8⟩
      have hB8 := hB7.trans (hb8.mono hB7.size)
      have R8 := R6.below hb8 R6.lt
      have x8 := x6'.below hb8 x6'.lt
      obtain ⟨r0, r1, r2, r3, r4, f0, f1, f2, f3, f4⟩ := R8.five
      obtain ⟨d0, d1, d2, d3, _, _, _, _⟩ := x8.four
      have hne : ¬ w.heap.size = w6.heap.size := by have := R5.lt; have := hb6.size; omega
      go_wp2_with fail
    · refine bodyPost_ret (v := .agg #[.int .i64 0, .int .i64 u0, .int .i64 u1, .int .i64 u2, .int .i64 u3]) (by simp [results, Tryd.results74, go_sem, r0, r1, r2, r3, r4]) rfl ?_
      exact ⟨rfl, ((((hB8.setCell (by simp) _).setCell (by simp) _).setCell (by simp) _).setCell (by simp) _).setCell (by simp) _⟩
    · refine bodyPost_ret (v := .agg #[.int .i64 5, .int .i64 0, .int .i64 0, .int .i64 0, .int .i64 0]) (by simp [results, Tryd.results74, go_sem, r0, r1, r2, r3, r4]) rfl ?_
      exact ⟨rfl, ((((hB8.setCell (by simp) _).setCell (by simp) _).setCell (by simp) _).setCell (by simp) _).setCell (by simp) _⟩
  · have hne : ((n : Int) != 7) = true := by rw [bne_iff_ne]; omega
    rw [decodeM_len (by omega)]
    clear hn ha
    go_enter Tryd.func74, Tryd.ntmps74
    go_wp2
    refine bodyPost_ret (v := .agg #[.int .i64 2, .int .i64 0, .int .i64 0, .int .i64 0, .int .i64 0]) (by simp [results, Tryd.results74, go_sem]) rfl ?_
    exact ⟨rfl, by repeat (first | exact Below.refl _ _ | refine Below.setCell ?_ (Nat.le_refl _) _ | refine Below.alloc ?_ (Nat.le_refl _) _)⟩
end Go.Proofs.YteiclanlhnccnaaDoor
