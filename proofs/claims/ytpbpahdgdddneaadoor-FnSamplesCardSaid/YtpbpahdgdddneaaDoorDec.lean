/-
  A sample out of its bytes: the model's, and what the law compares.
-/
import Derived.Test.YtpbpahdgdddneaaDoorEncI
import Derived.Test.YtpbpahdgdddneaaDoorRead
import Derived.Test.YtpbpahdgdddneaaDoorTo
namespace Go.Proofs.YtpbpahdgdddneaaDoor
open Go.RowKit
set_option linter.unusedSimpArgs false

/-- The sample of so many bytes, right or not. -/
def unpM (l : List UInt8) : Smp := (((readAt l 0 1 0 : Nat) : Int), ((readAt l 1 2 0 : Nat) : Int), ((readAt l 3 2 0 : Nat) : Int), ((readAt l 5 2 0 : Nat) : Int) - 1000)
def decodeM (l : List UInt8) : Int × Smp := if l.length = 7 then (if faultM (unpM l) = 0 then (0, unpM l) else (5, (0, 0, 0, 0))) else (2, (0, 0, 0, 0))
/-- An answer of a code and a sample. -/
def RetSR (r : Int × Smp) (w : World) (e : Ending) (w' : World) : Prop :=
  e = .returned (.agg #[.int .i64 r.1, .int .i64 r.2.1, .int .i64 r.2.2.1, .int .i64 r.2.2.2.1, .int .i64 r.2.2.2.2]) ∧ Below w.heap.size w w'
def RetS (r : Smp) (w : World) (e : Ending) (w' : World) : Prop :=
  e = .returned (.agg #[.int .i64 r.1, .int .i64 r.2.1, .int .i64 r.2.2.1, .int .i64 r.2.2.2]) ∧ Below w.heap.size w w'

theorem At.five {w : World} {g : Nat} {t : TypeId} {a b c d e : Value} (h : At w g t #[a, b, c, d, e]) : w.cell? ⟨g, 0, none⟩ = some a ∧ w.cell? ⟨g, 1, none⟩ = some b ∧ w.cell? ⟨g, 2, none⟩ = some c ∧ w.cell? ⟨g, 3, none⟩ = some d ∧ w.cell? ⟨g, 4, none⟩ = some e ∧ w.frozen? ⟨g, 0, none⟩ = false ∧ w.frozen? ⟨g, 1, none⟩ = false ∧ w.frozen? ⟨g, 2, none⟩ = false ∧ w.frozen? ⟨g, 3, none⟩ = false ∧ w.frozen? ⟨g, 4, none⟩ = false :=
  ⟨h.cell 0, h.cell 1, h.cell 2, h.cell 3, h.cell 4, h.frozen 0, h.frozen 1, h.frozen 2, h.frozen 3, h.frozen 4⟩

theorem read_one {l : List UInt8} {x : UInt8} (h : l[0]? = some x) : readAt l 0 1 0 = x.toNat := by
  have := readAt_step (l := l) (p := 0) (s := 1) (j := 0) (by omega) h
  rw [this, readAt_end]
  omega

set_option maxHeartbeats 2000000 in
theorem l2Decode (A : Option Addr) (c : Nat) (l : List UInt8) (w : World) (ha : Rd eB w w.heap.size A l) (hn : l.length = 7) :
    Calls Tryd.prog 40 #[.slice A 7 c] w fun e w' => RetS (unpM l) w e w' := by
  obtain ⟨g, o, x, rfl, hg, hx, cx⟩ := ha.byte (k := 0) (by omega)
  have cx0 : w.cell? ⟨g, o, none⟩ = some (.int .u8 (x.toNat : Int)) := by simpa using cx
  have Hu := Lib.hid (show unpM l = ((x.toNat : Int), ((readAt l 1 2 0 : Nat) : Int), ((readAt l 3 2 0 : Nat) : Int), ((readAt l 5 2 0 : Nat) : Int) - 1000) by rw [unpM, read_one hx])
  have hxb : x.toNat < 256 := x.toNat_lt
  have b3 : readAt l 5 2 0 < 4294967296 := readAt_lt l 5 2 0 (by omega)
  have R1 := fun W (hW : Below w.heap.size w W) => l1Read (some ⟨g, o, none⟩) 7 c 1 2 l W (ha.lift hW) hn (by omega) (by omega) (by unfold maxLen; omega)
  have R2 := fun W (hW : Below w.heap.size w W) => l1Read (some ⟨g, o, none⟩) 7 c 3 2 l W (ha.lift hW) hn (by omega) (by omega) (by unfold maxLen; omega)
  have R3 := fun W (hW : Below w.heap.size w W) => l1Read (some ⟨g, o, none⟩) 7 c 5 2 l W (ha.lift hW) hn (by omega) (by omega) (by unfold maxLen; omega)
  rw [Hu.out]
  generalize readAt l 1 2 0 = v1 at *
  generalize readAt l 3 2 0 = v2 at *
  generalize readAt l 5 2 0 = v3 at *
  clear hn hx cx Hu ha
  generalize x.toNat = x0 at *
  have r0 := At.new w 25 #[.int .i64 0, .int .i64 0, .int .i64 0, .int .i64 0]
  have hB0 : Below w.heap.size w ((w.alloc (.cells #[.int .i64 0, .int .i64 0, .int .i64 0, .int .i64 0] 25)).drew) := ((Below.refl _ _).alloc (Nat.le_refl _) _).drew
  have hw0 : IntKind.i64.wrap (x0 : Int) = (x0 : Int) := IntWalk.i64_in _ (by omega)
  have hw3 : IntKind.i64.wrap ((v3 : Int) - 1000) = (v3 : Int) - 1000 := IntWalk.i64_in _ (by omega)
  have p7 : (0 : Int) < 7 := by omega
  go_enter Tryd.func40, Tryd.ntmps40
  go_wp2
  refine wp_region_mix [(0, false), (1, false), (2, false), (3, false), (4, false), (6, false), (8, false), (5, true), (7, true), (9, true), (10, false), (11, false), (12, true)] (fun u => u.cell? ⟨g, o, none⟩ = some (.int .u8 (x0 : Int))) (by kernel_rfl) (by kernel_rfl) (fun _ _ _ _ _ h => h) (by go_simp) ?_
  simp only [mixOps, List.map_cons, List.map_nil, List.getElem?_cons_succ, List.getElem?_cons_zero, Option.getD_some]
  repeat (first
    | (refine mix_skip (by rfl) ?_
       (try simp only [Act.put, List.setIfInBounds_toArray, List.set_cons_zero, List.set_cons_succ]))
    | (refine mix_pure (v := ?_) (by rfl) (fun u hu => ?_) ?_
       rotate_left
       · (try dsimp only at hu)
         go_simp
         (with_reducible rfl)
       (try simp only [Act.put, List.setIfInBounds_toArray, List.set_cons_zero, List.set_cons_succ])))
  refine mix_call (by rfl) (fun K hK => ?_)
  go_simp
  refine (R1 _ hB0).mono ?_
  rintro e w1 ⟨rfl, rfl⟩
  refine hK _ _ _ (fun _ h => h) (by go_simp) ?_
  (try simp only [Act.put, List.setIfInBounds_toArray, List.set_cons_zero, List.set_cons_succ])
  refine mix_call (by rfl) (fun K hK => ?_)
  go_simp
  refine (R2 _ hB0).mono ?_
  rintro e w1 ⟨rfl, rfl⟩
  refine hK _ _ _ (fun _ h => h) (by go_simp) ?_
  (try simp only [Act.put, List.setIfInBounds_toArray, List.set_cons_zero, List.set_cons_succ])
  refine mix_call (by rfl) (fun K hK => ?_)
  go_simp
  refine (R3 _ hB0).mono ?_
  rintro e w1 ⟨rfl, rfl⟩
  refine hK _ _ _ (fun _ h => h) (by go_simp) ?_
  (try simp only [Act.put, List.setIfInBounds_toArray, List.set_cons_zero, List.set_cons_succ])
  repeat (first
    | (refine mix_pure (v := ?_) (by rfl) (fun u hu => ?_) ?_
       rotate_left
       · go_simp
         (with_reducible rfl)
       (try simp only [Act.put, List.setIfInBounds_toArray, List.set_cons_zero, List.set_cons_succ])))
  refine mix_call (by rfl) (fun K hK => ?_)
  go_simp
  refine hK _ _ _ (fun _ h => h) (by go_simp) ?_
  (try simp only [Act.put, List.setIfInBounds_toArray, List.set_cons_zero, List.set_cons_succ])
  refine mix_nil ?_
  go_wp2
  refine bodyPost_ret (v := .agg #[.int .i64 x0, .int .i64 v1, .int .i64 v2, .int .i64 ((v3 : Int) - 1000)]) (by simp [results, Tryd.results40, go_sem]) rfl ?_
  exact ⟨rfl, ((Below.refl _ _).alloc (Nat.le_refl _) _).drew⟩

theorem decodeM_len {l : List UInt8} (h : l.length ≠ 7) : decodeM l = (2, (0, 0, 0, 0)) := if_neg h
theorem decodeM_no {l : List UInt8} {x : Smp} (h : l.length = 7) (hx : unpM l = x) (hf : faultM x = 3) : decodeM l = (5, (0, 0, 0, 0)) := by
  unfold decodeM
  rw [if_pos h, hx, hf]
  rfl
theorem decodeM_yes {l : List UInt8} {x : Smp} (h : l.length = 7) (hx : unpM l = x) (hf : faultM x = 0) : decodeM l = (0, x) := by
  unfold decodeM
  rw [if_pos h, hx, hf]
  rfl

set_option maxHeartbeats 1000000 in
theorem specDecodeSample (A : Option Addr) (n c : Nat) (l : List UInt8) (w : World) (ha : Rd eB w w.heap.size A l) (hn : l.length = n) (hm : n ≤ maxLen) :
    Calls Tryd.prog 15 #[.slice A n c] w fun e w' => RetSR (decodeM l) w e w' := by
  have hB0 : Below w.heap.size w (w.alloc (.cells #[.int .i64 0, .int .i64 0, .int .i64 0, .int .i64 0, .int .i64 0] 32)) := (Below.refl _ _).alloc (Nat.le_refl _) _
  by_cases h7 : n = 7
  · subst h7
    have r0 := At.new w 32 #[.int .i64 0, .int .i64 0, .int .i64 0, .int .i64 0, .int .i64 0]
    obtain ⟨u0, u1, u2, u3, hu⟩ : ∃ u0 u1 u2 u3, unpM l = (u0, u1, u2, u3) := ⟨_, _, _, _, rfl⟩
    have hd := l2Decode A c l _ (ha.lift hB0) hn
    rw [hu] at hd
    have e7 : (((7 : Nat) : Int) != 7) = false := by decide
    rcases faultM_or (u0, u1, u2, u3) with hf | hf
    all_goals
      have hq := specSampleFault u0 u1 u2 u3
      rw [hf] at hq
      first | rw [decodeM_yes hn hu hf] | rw [decodeM_no hn hu hf]
      clear hf hu hn
      go_enter Tryd.func15, Tryd.ntmps15
      go_wp2_with fail
      refine hd.mono ?_
      rintro e w1 ⟨rfl, hb1⟩
      have hB1 := hB0.trans (hb1.mono hB0.size)
      have r1 := (r0.below hb1 r0.lt).alloc (.cells #[.int .i64 u0, .int .i64 u1, .int .i64 u2, .int .i64 u3] 25)
      have x1 := At.new w1 25 #[.int .i64 u0, .int .i64 u1, .int .i64 u2, .int .i64 u3]
      have hB2 := hB1.alloc hB1.size (.cells #[.int .i64 u0, .int .i64 u1, .int .i64 u2, .int .i64 u3] 25)
      go_wp2_with fail
      refine (hq _).mono ?_
      rintro e w2 ⟨rfl, hb2⟩
      have hB3 := hB2.trans (hb2.mono hB2.size)
      have r2 := r1.below hb2 r1.lt
      have x2 := x1.below hb2 x1.lt
      obtain ⟨c0, c1, c2, c3, c4, f0, f1, f2, f3, f4⟩ := r2.five
      obtain ⟨d0, d1, d2, d3, _, _, _, _⟩ := x2.four
      have hne : ¬ w.heap.size = w1.heap.size := by have := hb1.size; simp at this; omega
      go_wp2_with fail
    · refine bodyPost_ret (v := .agg #[.int .i64 0, .int .i64 u0, .int .i64 u1, .int .i64 u2, .int .i64 u3]) (by simp [results, Tryd.results15, go_sem, c0, c1, c2, c3, c4]) rfl ?_
      exact ⟨rfl, ((((hB3.setCell (by simp) _).setCell (by simp) _).setCell (by simp) _).setCell (by simp) _).setCell (by simp) _⟩
    · refine bodyPost_ret (v := .agg #[.int .i64 5, .int .i64 0, .int .i64 0, .int .i64 0, .int .i64 0]) (by simp [results, Tryd.results15, go_sem, c0, c1, c2, c3, c4]) rfl ?_
      exact ⟨rfl, ((((hB3.setCell (by simp) _).setCell (by simp) _).setCell (by simp) _).setCell (by simp) _).setCell (by simp) _⟩
  · have hne : ((n : Int) != 7) = true := by rw [bne_iff_ne]; omega
    rw [decodeM_len (by omega)]
    clear hn ha
    go_enter Tryd.func15, Tryd.ntmps15
    go_wp2
    refine bodyPost_ret (v := .agg #[.int .i64 2, .int .i64 0, .int .i64 0, .int .i64 0, .int .i64 0]) (by simp [results, Tryd.results15, go_sem]) rfl ?_
    exact ⟨rfl, by repeat (first | exact Below.refl _ _ | refine Below.setCell ?_ (Nat.le_refl _) _ | refine Below.alloc ?_ (Nat.le_refl _) _)⟩
end Go.Proofs.YtpbpahdgdddneaaDoor
