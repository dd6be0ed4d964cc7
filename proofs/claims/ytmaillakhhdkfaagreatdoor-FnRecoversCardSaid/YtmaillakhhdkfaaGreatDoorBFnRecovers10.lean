/-
  Texts of one proof, joined: each has its own namespace.
-/
import Derived.Test.YtmaillakhhdkfaaGreatDoorBFnRecovers5
import Derived.Test.YtmaillakhhdkfaaGreatDoorBFnRecovers0
import Derived.Laws.CopyOwn
import Derived.Test.YtmaillakhhdkfaaGreatDoorBFnRecovers1
import Derived.Test.YtmaillakhhdkfaaGreatDoorBFnRecovers6
import Derived.Test.YtmaillakhhdkfaaGreatDoorBFnRecovers9
/-
  A sample's bytes: the program's.
-/
namespace Go.Proofs.YtmaillakhhdkfaaGreatDoor
set_option maxRecDepth 20000
open Go.RowKit
set_option linter.unusedSimpArgs false

/-- copy as one step of a region: as 'step_copy_splice'. -/
theorem copy_wp {P : Program} {o : Oper} {a : Act} {w : World} {K : Act → World → Prop} {Q : Exit → Act → World → Prop} (d s : Operand) (dT sT : TypeId)
    (ho : o.op = .call { callee := .builtin .copy, args := #[d, s], argTypes := #[dT, sT] }) (elem : TypeId) (hu : P.underlying dT = some (.slice elem)) (hsz : (P.info? elem).map (·.size) = some 1)
    (dp sp : Option Addr) (dLen dCap sLen sCap : Nat) (hd : a.eval d = .slice dp dLen dCap) (hs : a.eval s = .slice sp sLen sCap)
    (g off : Nat) (cur : List Value) (t : TypeId) (hg : At w g t cur.toArray) (cs : List Value) (hn : cs.length = Nat.min sLen dLen)
    (hpos : 0 < cs.length → dp = some ⟨g, off, none⟩ ∧ ∃ ad, sp = some ad ∧ ∀ j v, cs[j]? = some v → w.cell? (ad.add j) = some v)
    (hfit : off + cs.length ≤ cur.length) (h1 : ∀ v ∈ cs, v.oneCell' = true) (B : Nat) (w0 : World) (hb : Below B w0 w) (hBg : B ≤ g)
    (h : ∀ w', At w' g t (splice cur off cs).toArray → Below B w0 w' → (∀ g', g' ≠ g → w'.heap[g']? = w.heap[g']?) → K (a.put o.dst (goInt cs.length)) w') : o.wp P a w K Q := by
  by_cases h0 : cs.length = 0
  · obtain rfl : cs = [] := List.eq_nil_of_length_eq_zero h0
    have hrun := run_copy_none (P := P) w dT sT o.type elem dp sp dLen dCap sLen sCap hu hsz (by simpa using hn.symm)
    unfold Oper.wp
    simp [execOp, ho, resolve, invoke, builtin, hd, hs, hrun, Result.andThen]
    exact h w (by simpa [splice] using hg) hb (fun _ _ => rfl)
  · obtain ⟨rfl, ad, rfl, hsrc⟩ := hpos (by omega)
    have hrun := run_copy_row (P := P) w dT sT o.type elem g off dLen dCap ad sLen sCap cur.toArray t cs hu hsz hg hn hsrc (by simpa using hfit) h1
    unfold Oper.wp
    simp [execOp, ho, resolve, invoke, builtin, hd, hs, hrun, Result.andThen]
    exact h _ (show _ = _ by simpa [splice] using setRow_heap w g _ _ t _ hg) (below_setRow hb hBg _) (fun g' hne => setRow_other w g g' _ hne)

theorem Rd.src {w : World} {hi g o : Nat} {l : List UInt8} (h : Rd eB w hi (some ⟨g, o, none⟩) l) : ∀ (j : Nat) (v : Value), (eB.row l)[j]? = some v → w.cell? ((⟨g, o, none⟩ : Addr).add j) = some v := by
  intro j v hj
  have hl : j < l.length := by
    have := getElem?_some_lt hj
    rw [okB.row_len] at this
    simpa [eB] using this
  obtain ⟨g', o', e, _, hc⟩ := h (by intro e; subst e; simp at hl)
  obtain ⟨rfl, rfl⟩ : g = g' ∧ o = o' := by simpa using Option.some.inj e
  have h1 := okB.row_at l j 0 l[j] (List.getElem?_eq_getElem hl) Nat.one_pos
  rw [show j * eB.size + 0 = j by simp [eB]] at h1
  rw [h1] at hj
  have := hc j 0 _ v (List.getElem?_eq_getElem hl) hj
  rw [addr_add]
  simpa [eB] using this

theorem cell_same {w w' : World} {g o : Nat} (h : w'.heap[g]? = w.heap[g]?) : w'.cell? ⟨g, o, none⟩ = w.cell? ⟨g, o, none⟩ := by
  unfold World.cell?
  simp only [h]
theorem fldB1' (z : Int) (A : Option Addr) (k c : Nat) (u : World) : (Instr.field 30 (.agg #[.int .i64 z, .slice A k c]) 1).run Tryz.prog u = .ok (.slice A k c) u := by kernel_rfl
theorem u8_size : (Tryz.prog.info? 5).map (·.size) = some 1 := by kernel_rfl

theorem slAt0 (g : Nat) (u : World) : (Instr.sliceAt 177 (.pointer (some ⟨g, 0, none⟩)) (some (.int .i64 0)) (some (.int .i64 1)) none).run Tryz.prog u = .ok (.slice (some ⟨g, 0, none⟩) 1 7) u := by kernel_rfl
theorem slAt1 (g : Nat) (u : World) : (Instr.sliceAt 177 (.pointer (some ⟨g, 0, none⟩)) (some (.int .i64 1)) (some (.int .i64 3)) none).run Tryz.prog u = .ok (.slice (some ⟨g, 1, none⟩) 2 6) u := by kernel_rfl
theorem slAt2 (g : Nat) (u : World) : (Instr.sliceAt 177 (.pointer (some ⟨g, 0, none⟩)) (some (.int .i64 3)) (some (.int .i64 5)) none).run Tryz.prog u = .ok (.slice (some ⟨g, 3, none⟩) 2 4) u := by kernel_rfl
theorem slAt3 (g : Nat) (u : World) : (Instr.sliceAt 177 (.pointer (some ⟨g, 0, none⟩)) (some (.int .i64 5)) (some (.int .i64 7)) none).run Tryz.prog u = .ok (.slice (some ⟨g, 5, none⟩) 2 2) u := by kernel_rfl
theorem slAll (g : Nat) (u : World) : (Instr.sliceAt 177 (.pointer (some ⟨g, 0, none⟩)) none none none).run Tryz.prog u = .ok (.slice (some ⟨g, 0, none⟩) 7 7) u := by kernel_rfl
def encRow (n0 n1 n2 n3 : Nat) : Nat → List Value
  | 0 => [.int .u8 0, .int .u8 0, .int .u8 0, .int .u8 0, .int .u8 0, .int .u8 0, .int .u8 0]
  | 1 => [.int .u8 ((UInt8.ofNat n0).toNat : Int), .int .u8 0, .int .u8 0, .int .u8 0, .int .u8 0, .int .u8 0, .int .u8 0]
  | 2 => [.int .u8 ((UInt8.ofNat n0).toNat : Int), .int .u8 ((UInt8.ofNat n1).toNat : Int), .int .u8 ((UInt8.ofNat (n1 / 256)).toNat : Int), .int .u8 0, .int .u8 0, .int .u8 0, .int .u8 0]
  | 3 => [.int .u8 ((UInt8.ofNat n0).toNat : Int), .int .u8 ((UInt8.ofNat n1).toNat : Int), .int .u8 ((UInt8.ofNat (n1 / 256)).toNat : Int), .int .u8 ((UInt8.ofNat n2).toNat : Int), .int .u8 ((UInt8.ofNat (n2 / 256)).toNat : Int), .int .u8 0, .int .u8 0]
  | _ => [.int .u8 ((UInt8.ofNat n0).toNat : Int), .int .u8 ((UInt8.ofNat n1).toNat : Int), .int .u8 ((UInt8.ofNat (n1 / 256)).toNat : Int), .int .u8 ((UInt8.ofNat n2).toNat : Int), .int .u8 ((UInt8.ofNat (n2 / 256)).toNat : Int), .int .u8 ((UInt8.ofNat n3).toNat : Int), .int .u8 ((UInt8.ofNat (n3 / 256)).toNat : Int)]

/-- A code and bytes that lie in an array's block of the call's own. -/
def RetBA (r : Int × List UInt8) (w : World) (e : Ending) (w' : World) : Prop :=
  ∃ A n c, e = .returned (.agg #[.int .i64 r.1, .slice A n c]) ∧ Ow eA w' w.heap.size A n c r.2 ∧ Below w.heap.size w w'

def EncRel (w : World) (gp gN gR : Nat) (n0 n1 n2 n3 : Nat) (i : Value) (wr : World) : Prop :=
  ∃ k : Nat, k ≤ 4 ∧ i = .int .i64 k ∧ At wr gp 177 (encRow n0 n1 n2 n3 k).toArray ∧ At wr gN 151 #[.int .i64 (n0 : Int), .int .i64 (n1 : Int), .int .i64 (n2 : Int), .int .i64 ((n3 : Int) - 1000)] ∧ At wr gR 30 #[.int .i64 0, .slice none 0 0] ∧ Below w.heap.size w wr

theorem packs {n : Nat} (h : n ≤ 9999) (w : World) : Calls Tryz.prog 36 #[.int .i64 (n : Int), .int .i64 2] w fun e w' => RetBR (0, [UInt8.ofNat n, UInt8.ofNat (n / 256)]) w e w' := by
  have h1 := implPackWord (n : Int) 2 w
  have h2 : packM (n : Int) 2 = (0, packL n 2) := by simpa using packM_nat (m := n) (s := 2) (by omega) (by omega) (by omega)
  rw [h2, pack2] at h1
  exact h1
theorem packs1 {n : Nat} (h : n ≤ 9) (w : World) : Calls Tryz.prog 36 #[.int .i64 (n : Int), .int .i64 1] w fun e w' => RetBR (0, [UInt8.ofNat n]) w e w' := by
  have h1 := implPackWord (n : Int) 1 w
  have h2 : packM (n : Int) 1 = (0, packL n 1) := by simpa using packM_nat (m := n) (s := 1) (by omega) (by omega) (by omega)
  rw [h2, pack1] at h1
  exact h1

set_option maxHeartbeats 4000000 in
theorem implEncodeSample_ok (n0 n1 n2 n3 : Nat) (w : World) (hF : Flds w) (hf : faultM ((n0 : Int), (n1 : Int), (n2 : Int), ((n3 : Int) - 1000)) = 0) (k0 : n0 ≤ 9) (k1 : n1 ≤ 999) (k2 : n2 ≤ 9999) (k3 : n3 ≤ 2000) :
    Calls Tryz.prog 83 #[.agg #[.int .i64 (n0 : Int), .int .i64 (n1 : Int), .int .i64 (n2 : Int), .int .i64 ((n3 : Int) - 1000)]] w fun e w' => RetBA (0, encL n0 n1 n2 n3) w e w' := by
  have hB0 : Below w.heap.size w ((w.alloc (.cells #[.int .i64 (n0 : Int), .int .i64 (n1 : Int), .int .i64 (n2 : Int), .int .i64 ((n3 : Int) - 1000)] 25)).alloc (.cells #[.int .i64 0, .slice none 0 0] 30)) := ((Below.refl _ _).alloc (Nat.le_refl _) _).alloc (by simp) _
  have x0 := (At.new w 25 #[.int .i64 (n0 : Int), .int .i64 (n1 : Int), .int .i64 (n2 : Int), .int .i64 ((n3 : Int) - 1000)]).alloc (.cells #[.int .i64 0, .slice none 0 0] 30)
  have r0 := At.new (w.alloc (.cells #[.int .i64 (n0 : Int), .int .i64 (n1 : Int), .int .i64 (n2 : Int), .int .i64 ((n3 : Int) - 1000)] 25)) 30 #[.int .i64 0, .slice none 0 0]
  rw [show (w.alloc (.cells #[.int .i64 (n0 : Int), .int .i64 (n1 : Int), .int .i64 (n2 : Int), .int .i64 ((n3 : Int) - 1000)] 25)).heap.size = w.heap.size + 1 by simp] at r0
  have hq := implSampleFault (n0 : Int) (n1 : Int) (n2 : Int) ((n3 : Int) - 1000)
  rw [hf] at hq
  clear hf
  go_enter Tryz.func83, Tryz.ntmps83
  go_wp2_with fail
  refine (hq _ (hF.below hB0)).mono ?_
  rintro e w1 ⟨rfl, hb1⟩
  clear hq
  have hB1 := hB0.trans (hb1.mono hB0.size)
  have x1 := x0.below hb1 x0.lt
  have r1 := r0.below hb1 r0.lt
  obtain ⟨y0, y1, y2, y3, _, _, _, _⟩ := x1.four
  have l1 := x1.lt
  have hp := At.new w1 177 #[.int .u8 0, .int .u8 0, .int .u8 0, .int .u8 0, .int .u8 0, .int .u8 0, .int .u8 0]
  have r2 := r1.alloc (.cells #[.int .u8 0, .int .u8 0, .int .u8 0, .int .u8 0, .int .u8 0, .int .u8 0, .int .u8 0] 177)
  have hB2 := hB1.alloc hB1.size (.cells #[.int .u8 0, .int .u8 0, .int .u8 0, .int .u8 0, .int .u8 0, .int .u8 0, .int .u8 0] 177)
  go_wp2_with fail
  refine (numbersOf _ _ _ _ _).mono ?_
  rintro e w3 ⟨rfl, hb3⟩
  have hB3 := hB2.trans (hb3.mono hB2.size)
  have p3 := hp.below hb3 hp.lt
  have r3 := r2.below hb3 r2.lt
  have hz3 := (hF.below hB3).pos
  obtain ⟨c0, c1, c2, c3, c4, c5, c6, c7, c8, c9, c10, c11, c12, c13, c14, c15⟩ := (hF.below hB3).all
  have hN := At.new w3 151 #[.int .i64 (n0 : Int), .int .i64 (n1 : Int), .int .i64 (n2 : Int), .int .i64 ((n3 : Int) - 1000)]
  have p4 := p3.alloc (.cells #[.int .i64 (n0 : Int), .int .i64 (n1 : Int), .int .i64 (n2 : Int), .int .i64 ((n3 : Int) - 1000)] 151)
  have r4 := r3.alloc (.cells #[.int .i64 (n0 : Int), .int .i64 (n1 : Int), .int .i64 (n2 : Int), .int .i64 ((n3 : Int) - 1000)] 151)
  have hB4 := hB3.alloc hB3.size (.cells #[.int .i64 (n0 : Int), .int .i64 (n1 : Int), .int .i64 (n2 : Int), .int .i64 ((n3 : Int) - 1000)] 151)
  go_wp2_with fail
  clear c0 c1 c2 c3 c4 c5 c6 c7 c8 c9 c10 c11 c12 c13 c14 c15 y0 y1 y2 y3
  have Lp : w.heap.size ≤ w1.heap.size := hB1.size
  have Lr := r1.lt
  have Ln := p3.lt
  go_loopw [17] (fun i wr => EncRel w w1.heap.size w3.heap.size (w.heap.size + 1) n0 n1 n2 n3 i wr) (fun i _ => 4 - (intOf i).toNat)
  case atStart => exact ⟨0, by omega, rfl, p4, hN, r4, hB4⟩
  case round =>
    obtain ⟨k, hk, rfl, hP, hN', hR, hbel⟩ := hrel
    have lP := hP.lt
    have lN := hN'.lt
    have lR := hR.lt
    have hsz := hbel.size
    obtain ⟨m0, m1, m2, m3, _, _, _, _⟩ := hN'.four
    rcases (show k = 0 ∨ k = 1 ∨ k = 2 ∨ k = 3 ∨ k = 4 by omega) with rfl | rfl | rfl | rfl | rfl
    · have hidx := fldAt0 wr
      have hsl := slAt0 w1.heap.size
      have hw1 : IntKind.i64.wrap 1 = 1 := by decide
      have hw2 : IntKind.i64.wrap (n0 : Int) = (n0 : Int) := IntWalk.i64_in _ (by omega)
      go_wp2
      refine wp_region_mix [(0, false), (1, false), (2, false), (3, false), (4, false), (5, false), (6, false), (7, false), (8, false), (9, false), (10, false), (11, false), (12, false), (13, false), (14, false), (15, false), (16, true), (17, false), (18, true)] (fun u => u.cell? ⟨w3.heap.size, 0, none⟩ = some (.int .i64 (n0 : Int)) ∧ u.cell? ⟨wr.heap.size, 0, none⟩ = some (.int .i64 0) ∧ u.cell? ⟨wr.heap.size, 1, none⟩ = some (.int .i64 1) ∧ u.cell? ⟨wr.heap.size, 2, none⟩ = some (.int .i64 0)) (by kernel_rfl) (by kernel_rfl) (fun _ _ _ _ _ h => h) (by go_simp) ?_
      simp only [mixOps, List.map_cons, List.map_nil, List.getElem?_cons_succ, List.getElem?_cons_zero, Option.getD_some]
      repeat (first
        | (refine mix_skip (by rfl) ?_
           (try simp only [Act.put, List.setIfInBounds_toArray, List.set_cons_zero, List.set_cons_succ]))
        | (refine mix_pure (v := ?_) (by rfl) (fun u hu => ?_) ?_
           rotate_left
           · obtain ⟨_, _, _, _⟩ := hu
             go_simp
             (with_reducible rfl)
           (try simp only [Act.put, List.setIfInBounds_toArray, List.set_cons_zero, List.set_cons_succ])))
      refine mix_call (by rfl) (fun K hK => ?_)
      go_simp
      refine (packs1 (n := n0) (by omega) _).mono ?_
      rintro e w5 ⟨A5, j5, c5, rfl, o5, hb5⟩
      obtain rfl : 1 = j5 := o5.len okB
      obtain ⟨g5, rfl, gl5, gh5⟩ := o5.form (by omega)
      have fB5 := fldB1' 0 (some ⟨g5, 0, none⟩) 1 c5
      refine hK _ _ _ (fun _ h => h) ⟨(hb5.cell (p := ⟨w3.heap.size, 0, none⟩) (by simp; omega)).trans (by go_simp), (hb5.cell (p := ⟨wr.heap.size, 0, none⟩) (by simp)).trans (by go_simp), (hb5.cell (p := ⟨wr.heap.size, 1, none⟩) (by simp)).trans (by go_simp), (hb5.cell (p := ⟨wr.heap.size, 2, none⟩) (by simp)).trans (by go_simp)⟩ ?_
      (try simp only [Act.put, List.setIfInBounds_toArray, List.set_cons_zero, List.set_cons_succ])
      refine mix_pure (v := ?_) (by rfl) (fun u hu => ?_) ?_
      rotate_left
      · go_simp
        (with_reducible rfl)
      (try simp only [Act.put, List.setIfInBounds_toArray, List.set_cons_zero, List.set_cons_succ])
      have F5 := (hbel.alloc hbel.size (.cells #[.int .i64 0, .int .i64 1, .int .i64 0, .int .i64 9] 154)).drew
      have hB5 := F5.trans (hb5.mono F5.size)
      have P5 := ((hP.alloc (.cells #[.int .i64 0, .int .i64 1, .int .i64 0, .int .i64 9] 154)).drew).below hb5 (by simp; omega)
      have N5 := ((hN'.alloc (.cells #[.int .i64 0, .int .i64 1, .int .i64 0, .int .i64 9] 154)).drew).below hb5 (by simp; omega)
      have R5 := ((hR.alloc (.cells #[.int .i64 0, .int .i64 1, .int .i64 0, .int .i64 9] 154)).drew).below hb5 (by simp; omega)
      have L5 : wr.heap.size < w5.heap.size := by have := hb5.size; simp at this; omega
      have S0 : w5.cell? ⟨wr.heap.size, 0, none⟩ = some (.int .i64 0) := (hb5.cell (p := ⟨wr.heap.size, 0, none⟩) (by simp)).trans (by go_simp)
      have S1 : w5.cell? ⟨wr.heap.size, 1, none⟩ = some (.int .i64 1) := (hb5.cell (p := ⟨wr.heap.size, 1, none⟩) (by simp)).trans (by go_simp)
      have S2 : w5.cell? ⟨wr.heap.size, 2, none⟩ = some (.int .i64 0) := (hb5.cell (p := ⟨wr.heap.size, 2, none⟩) (by simp)).trans (by go_simp)
      refine mix_call (by rfl) (fun K hK => ?_)
      refine copy_wp (.tmp 28) (.tmp 38) 22 22 rfl 5 Tryz.underlying22 u8_size _ _ _ _ _ _ rfl rfl w1.heap.size 0 (encRow n0 n1 n2 n3 0) 177 P5 (eB.row [UInt8.ofNat n0]) rfl (fun _ => ⟨rfl, _, rfl, Rd.src (o5.rd okB)⟩) (by show 0 + 1 ≤ 7; omega) (okB.row_one _) w.heap.size w hB5 Lp ?_
      intro w6 P6 hB6 hoth
      have N6 : At w6 w3.heap.size 151 #[.int .i64 (n0 : Int), .int .i64 (n1 : Int), .int .i64 (n2 : Int), .int .i64 ((n3 : Int) - 1000)] := (hoth _ (by omega)).trans N5
      have R6 : At w6 (w.heap.size + 1) 30 #[.int .i64 0, .slice none 0 0] := (hoth _ (by omega)).trans R5
      refine hK _ _ _ (fun _ h => h) ⟨(N6.cell 0).trans rfl, (cell_same (hoth _ (by omega))).trans S0, (cell_same (hoth _ (by omega))).trans S1, (cell_same (hoth _ (by omega))).trans S2⟩ ?_
      (try simp only [Act.put, List.setIfInBounds_toArray, List.set_cons_zero, List.set_cons_succ])
      refine mix_nil ?_
      go_wp2
      exact ⟨⟨0 + 1, by omega, by go_num, P6, N6, R6, hB6⟩, by simp [intOf]⟩
    · have hidx := fldAt1 wr
      have hsl := slAt1 w1.heap.size
      have hw1 : IntKind.i64.wrap 3 = 3 := by decide
      have hw2 : IntKind.i64.wrap (n1 : Int) = (n1 : Int) := IntWalk.i64_in _ (by omega)
      go_wp2
      refine wp_region_mix [(0, false), (1, false), (2, false), (3, false), (4, false), (5, false), (6, false), (7, false), (8, false), (9, false), (10, false), (11, false), (12, false), (13, false), (14, false), (15, false), (16, true), (17, false), (18, true)] (fun u => u.cell? ⟨w3.heap.size, 1, none⟩ = some (.int .i64 (n1 : Int)) ∧ u.cell? ⟨wr.heap.size, 0, none⟩ = some (.int .i64 1) ∧ u.cell? ⟨wr.heap.size, 1, none⟩ = some (.int .i64 2) ∧ u.cell? ⟨wr.heap.size, 2, none⟩ = some (.int .i64 0)) (by kernel_rfl) (by kernel_rfl) (fun _ _ _ _ _ h => h) (by go_simp) ?_
      simp only [mixOps, List.map_cons, List.map_nil, List.getElem?_cons_succ, List.getElem?_cons_zero, Option.getD_some]
      repeat (first
        | (refine mix_skip (by rfl) ?_
           (try simp only [Act.put, List.setIfInBounds_toArray, List.set_cons_zero, List.set_cons_succ]))
        | (refine mix_pure (v := ?_) (by rfl) (fun u hu => ?_) ?_
           rotate_left
           · obtain ⟨_, _, _, _⟩ := hu
             go_simp
             (with_reducible rfl)
           (try simp only [Act.put, List.setIfInBounds_toArray, List.set_cons_zero, List.set_cons_succ])))
      refine mix_call (by rfl) (fun K hK => ?_)
      go_simp
      refine (packs (n := n1) (by omega) _).mono ?_
      rintro e w5 ⟨A5, j5, c5, rfl, o5, hb5⟩
      obtain rfl : 2 = j5 := o5.len okB
      obtain ⟨g5, rfl, gl5, gh5⟩ := o5.form (by omega)
      have fB5 := fldB1' 0 (some ⟨g5, 0, none⟩) 2 c5
      refine hK _ _ _ (fun _ h => h) ⟨(hb5.cell (p := ⟨w3.heap.size, 1, none⟩) (by simp; omega)).trans (by go_simp), (hb5.cell (p := ⟨wr.heap.size, 0, none⟩) (by simp)).trans (by go_simp), (hb5.cell (p := ⟨wr.heap.size, 1, none⟩) (by simp)).trans (by go_simp), (hb5.cell (p := ⟨wr.heap.size, 2, none⟩) (by simp)).trans (by go_simp)⟩ ?_
      (try simp only [Act.put, List.setIfInBounds_toArray, List.set_cons_zero, List.set_cons_succ])
      refine mix_pure (v := ?_) (by rfl) (fun u hu => ?_) ?_
      rotate_left
      · go_simp
        (with_reducible rfl)
      (try simp only [Act.put, List.setIfInBounds_toArray, List.set_cons_zero, List.set_cons_succ])
      have F5 := (hbel.alloc hbel.size (.cells #[.int .i64 1, .int .i64 2, .int .i64 0, .int .i64 999] 154)).drew
      have hB5 := F5.trans (hb5.mono F5.size)
      have P5 := ((hP.alloc (.cells #[.int .i64 1, .int .i64 2, .int .i64 0, .int .i64 999] 154)).drew).below hb5 (by simp; omega)
      have N5 := ((hN'.alloc (.cells #[.int .i64 1, .int .i64 2, .int .i64 0, .int .i64 999] 154)).drew).below hb5 (by simp; omega)
      have R5 := ((hR.alloc (.cells #[.int .i64 1, .int .i64 2, .int .i64 0, .int .i64 999] 154)).drew).below hb5 (by simp; omega)
      have L5 : wr.heap.size < w5.heap.size := by have := hb5.size; simp at this; omega
      have S0 : w5.cell? ⟨wr.heap.size, 0, none⟩ = some (.int .i64 1) := (hb5.cell (p := ⟨wr.heap.size, 0, none⟩) (by simp)).trans (by go_simp)
      have S1 : w5.cell? ⟨wr.heap.size, 1, none⟩ = some (.int .i64 2) := (hb5.cell (p := ⟨wr.heap.size, 1, none⟩) (by simp)).trans (by go_simp)
      have S2 : w5.cell? ⟨wr.heap.size, 2, none⟩ = some (.int .i64 0) := (hb5.cell (p := ⟨wr.heap.size, 2, none⟩) (by simp)).trans (by go_simp)
      refine mix_call (by rfl) (fun K hK => ?_)
      refine copy_wp (.tmp 28) (.tmp 38) 22 22 rfl 5 Tryz.underlying22 u8_size _ _ _ _ _ _ rfl rfl w1.heap.size 1 (encRow n0 n1 n2 n3 1) 177 P5 (eB.row [UInt8.ofNat n1, UInt8.ofNat (n1 / 256)]) rfl (fun _ => ⟨rfl, _, rfl, Rd.src (o5.rd okB)⟩) (by show 1 + 2 ≤ 7; omega) (okB.row_one _) w.heap.size w hB5 Lp ?_
      intro w6 P6 hB6 hoth
      have N6 : At w6 w3.heap.size 151 #[.int .i64 (n0 : Int), .int .i64 (n1 : Int), .int .i64 (n2 : Int), .int .i64 ((n3 : Int) - 1000)] := (hoth _ (by omega)).trans N5
      have R6 : At w6 (w.heap.size + 1) 30 #[.int .i64 0, .slice none 0 0] := (hoth _ (by omega)).trans R5
      refine hK _ _ _ (fun _ h => h) ⟨(N6.cell 1).trans rfl, (cell_same (hoth _ (by omega))).trans S0, (cell_same (hoth _ (by omega))).trans S1, (cell_same (hoth _ (by omega))).trans S2⟩ ?_
      (try simp only [Act.put, List.setIfInBounds_toArray, List.set_cons_zero, List.set_cons_succ])
      refine mix_nil ?_
      go_wp2
      exact ⟨⟨1 + 1, by omega, by go_num, P6, N6, R6, hB6⟩, by simp [intOf]⟩
    · have hidx := fldAt2 wr
      have hsl := slAt2 w1.heap.size
      have hw1 : IntKind.i64.wrap 5 = 5 := by decide
      have hw2 : IntKind.i64.wrap (n2 : Int) = (n2 : Int) := IntWalk.i64_in _ (by omega)
      go_wp2
      refine wp_region_mix [(0, false), (1, false), (2, false), (3, false), (4, false), (5, false), (6, false), (7, false), (8, false), (9, false), (10, false), (11, false), (12, false), (13, false), (14, false), (15, false), (16, true), (17, false), (18, true)] (fun u => u.cell? ⟨w3.heap.size, 2, none⟩ = some (.int .i64 (n2 : Int)) ∧ u.cell? ⟨wr.heap.size, 0, none⟩ = some (.int .i64 3) ∧ u.cell? ⟨wr.heap.size, 1, none⟩ = some (.int .i64 2) ∧ u.cell? ⟨wr.heap.size, 2, none⟩ = some (.int .i64 0)) (by kernel_rfl) (by kernel_rfl) (fun _ _ _ _ _ h => h) (by go_simp) ?_
      simp only [mixOps, List.map_cons, List.map_nil, List.getElem?_cons_succ, List.getElem?_cons_zero, Option.getD_some]
      repeat (first
        | (refine mix_skip (by rfl) ?_
           (try simp only [Act.put, List.setIfInBounds_toArray, List.set_cons_zero, List.set_cons_succ]))
        | (refine mix_pure (v := ?_) (by rfl) (fun u hu => ?_) ?_
           rotate_left
           · obtain ⟨_, _, _, _⟩ := hu
             go_simp
             (with_reducible rfl)
           (try simp only [Act.put, List.setIfInBounds_toArray, List.set_cons_zero, List.set_cons_succ])))
      refine mix_call (by rfl) (fun K hK => ?_)
      go_simp
      refine (packs (n := n2) (by omega) _).mono ?_
      rintro e w5 ⟨A5, j5, c5, rfl, o5, hb5⟩
      obtain rfl : 2 = j5 := o5.len okB
      obtain ⟨g5, rfl, gl5, gh5⟩ := o5.form (by omega)
      have fB5 := fldB1' 0 (some ⟨g5, 0, none⟩) 2 c5
      refine hK _ _ _ (fun _ h => h) ⟨(hb5.cell (p := ⟨w3.heap.size, 2, none⟩) (by simp; omega)).trans (by go_simp), (hb5.cell (p := ⟨wr.heap.size, 0, none⟩) (by simp)).trans (by go_simp), (hb5.cell (p := ⟨wr.heap.size, 1, none⟩) (by simp)).trans (by go_simp), (hb5.cell (p := ⟨wr.heap.size, 2, none⟩) (by simp)).trans (by go_simp)⟩ ?_
      (try simp only [Act.put, List.setIfInBounds_toArray, List.set_cons_zero, List.set_cons_succ])
      refine mix_pure (v := ?_) (by rfl) (fun u hu => ?_) ?_
      rotate_left
      · go_simp
        (with_reducible rfl)
      (try simp only [Act.put, List.setIfInBounds_toArray, List.set_cons_zero, List.set_cons_succ])
      have F5 := (hbel.alloc hbel.size (.cells #[.int .i64 3, .int .i64 2, .int .i64 0, .int .i64 9999] 154)).drew
      have hB5 := F5.trans (hb5.mono F5.size)
      have P5 := ((hP.alloc (.cells #[.int .i64 3, .int .i64 2, .int .i64 0, .int .i64 9999] 154)).drew).below hb5 (by simp; omega)
      have N5 := ((hN'.alloc (.cells #[.int .i64 3, .int .i64 2, .int .i64 0, .int .i64 9999] 154)).drew).below hb5 (by simp; omega)
      have R5 := ((hR.alloc (.cells #[.int .i64 3, .int .i64 2, .int .i64 0, .int .i64 9999] 154)).drew).below hb5 (by simp; omega)
      have L5 : wr.heap.size < w5.heap.size := by have := hb5.size; simp at this; omega
      have S0 : w5.cell? ⟨wr.heap.size, 0, none⟩ = some (.int .i64 3) := (hb5.cell (p := ⟨wr.heap.size, 0, none⟩) (by simp)).trans (by go_simp)
      have S1 : w5.cell? ⟨wr.heap.size, 1, none⟩ = some (.int .i64 2) := (hb5.cell (p := ⟨wr.heap.size, 1, none⟩) (by simp)).trans (by go_simp)
      have S2 : w5.cell? ⟨wr.heap.size, 2, none⟩ = some (.int .i64 0) := (hb5.cell (p := ⟨wr.heap.size, 2, none⟩) (by simp)).trans (by go_simp)
      refine mix_call (by rfl) (fun K hK => ?_)
      refine copy_wp (.tmp 28) (.tmp 38) 22 22 rfl 5 Tryz.underlying22 u8_size _ _ _ _ _ _ rfl rfl w1.heap.size 3 (encRow n0 n1 n2 n3 2) 177 P5 (eB.row [UInt8.ofNat n2, UInt8.ofNat (n2 / 256)]) rfl (fun _ => ⟨rfl, _, rfl, Rd.src (o5.rd okB)⟩) (by show 3 + 2 ≤ 7; omega) (okB.row_one _) w.heap.size w hB5 Lp ?_
      intro w6 P6 hB6 hoth
      have N6 : At w6 w3.heap.size 151 #[.int .i64 (n0 : Int), .int .i64 (n1 : Int), .int .i64 (n2 : Int), .int .i64 ((n3 : Int) - 1000)] := (hoth _ (by omega)).trans N5
      have R6 : At w6 (w.heap.size + 1) 30 #[.int .i64 0, .slice none 0 0] := (hoth _ (by omega)).trans R5
      refine hK _ _ _ (fun _ h => h) ⟨(N6.cell 2).trans rfl, (cell_same (hoth _ (by omega))).trans S0, (cell_same (hoth _ (by omega))).trans S1, (cell_same (hoth _ (by omega))).trans S2⟩ ?_
      (try simp only [Act.put, List.setIfInBounds_toArray, List.set_cons_zero, List.set_cons_succ])
      refine mix_nil ?_
      go_wp2
      exact ⟨⟨2 + 1, by omega, by go_num, P6, N6, R6, hB6⟩, by simp [intOf]⟩
    · have hidx := fldAt3 wr
      have hsl := slAt3 w1.heap.size
      have hw1 : IntKind.i64.wrap 7 = 7 := by decide
      have hw2 : IntKind.i64.wrap (n3 : Int) = (n3 : Int) := IntWalk.i64_in _ (by omega)
      go_wp2
      refine wp_region_mix [(0, false), (1, false), (2, false), (3, false), (4, false), (5, false), (6, false), (7, false), (8, false), (9, false), (10, false), (11, false), (12, false), (13, false), (14, false), (15, false), (16, true), (17, false), (18, true)] (fun u => u.cell? ⟨w3.heap.size, 3, none⟩ = some (.int .i64 ((n3 : Int) - 1000)) ∧ u.cell? ⟨wr.heap.size, 0, none⟩ = some (.int .i64 5) ∧ u.cell? ⟨wr.heap.size, 1, none⟩ = some (.int .i64 2) ∧ u.cell? ⟨wr.heap.size, 2, none⟩ = some (.int .i64 (-1000))) (by kernel_rfl) (by kernel_rfl) (fun _ _ _ _ _ h => h) (by go_simp) ?_
      simp only [mixOps, List.map_cons, List.map_nil, List.getElem?_cons_succ, List.getElem?_cons_zero, Option.getD_some]
      repeat (first
        | (refine mix_skip (by rfl) ?_
           (try simp only [Act.put, List.setIfInBounds_toArray, List.set_cons_zero, List.set_cons_succ]))
        | (refine mix_pure (v := ?_) (by rfl) (fun u hu => ?_) ?_
           rotate_left
           · obtain ⟨_, _, _, _⟩ := hu
             go_simp
             (with_reducible rfl)
           (try simp only [Act.put, List.setIfInBounds_toArray, List.set_cons_zero, List.set_cons_succ])))
      refine mix_call (by rfl) (fun K hK => ?_)
      go_simp
      refine (packs (n := n3) (by omega) _).mono ?_
      rintro e w5 ⟨A5, j5, c5, rfl, o5, hb5⟩
      obtain rfl : 2 = j5 := o5.len okB
      obtain ⟨g5, rfl, gl5, gh5⟩ := o5.form (by omega)
      have fB5 := fldB1' 0 (some ⟨g5, 0, none⟩) 2 c5
      refine hK _ _ _ (fun _ h => h) ⟨(hb5.cell (p := ⟨w3.heap.size, 3, none⟩) (by simp; omega)).trans (by go_simp), (hb5.cell (p := ⟨wr.heap.size, 0, none⟩) (by simp)).trans (by go_simp), (hb5.cell (p := ⟨wr.heap.size, 1, none⟩) (by simp)).trans (by go_simp), (hb5.cell (p := ⟨wr.heap.size, 2, none⟩) (by simp)).trans (by go_simp)⟩ ?_
      (try simp only [Act.put, List.setIfInBounds_toArray, List.set_cons_zero, List.set_cons_succ])
      refine mix_pure (v := ?_) (by rfl) (fun u hu => ?_) ?_
      rotate_left
      · go_simp
        (with_reducible rfl)
      (try simp only [Act.put, List.setIfInBounds_toArray, List.set_cons_zero, List.set_cons_succ])
      have F5 := (hbel.alloc hbel.size (.cells #[.int .i64 5, .int .i64 2, .int .i64 (-1000), .int .i64 1000] 154)).drew
      have hB5 := F5.trans (hb5.mono F5.size)
      have P5 := ((hP.alloc (.cells #[.int .i64 5, .int .i64 2, .int .i64 (-1000), .int .i64 1000] 154)).drew).below hb5 (by simp; omega)
      have N5 := ((hN'.alloc (.cells #[.int .i64 5, .int .i64 2, .int .i64 (-1000), .int .i64 1000] 154)).drew).below hb5 (by simp; omega)
      have R5 := ((hR.alloc (.cells #[.int .i64 5, .int .i64 2, .int .i64 (-1000), .int .i64 1000] 154)).drew).below hb5 (by simp; omega)
      have L5 : wr.heap.size < w5.heap.size := by have := hb5.size; simp at this; omega
      have S0 : w5.cell? ⟨wr.heap.size, 0, none⟩ = some (.int .i64 5) := (hb5.cell (p := ⟨wr.heap.size, 0, none⟩) (by simp)).trans (by go_simp)
      have S1 : w5.cell? ⟨wr.heap.size, 1, none⟩ = some (.int .i64 2) := (hb5.cell (p := ⟨wr.heap.size, 1, none⟩) (by simp)).trans (by go_simp)
      have S2 : w5.cell? ⟨wr.heap.size, 2, none⟩ = some (.int .i64 (-1000)) := (hb5.cell (p := ⟨wr.heap.size, 2, none⟩) (by simp)).trans (by go_simp)
      refine mix_call (by rfl) (fun K hK => ?_)
      refine copy_wp (.tmp 28) (.tmp 38) 22 22 rfl 5 Tryz.underlying22 u8_size _ _ _ _ _ _ rfl rfl w1.heap.size 5 (encRow n0 n1 n2 n3 3) 177 P5 (eB.row [UInt8.ofNat n3, UInt8.ofNat (n3 / 256)]) rfl (fun _ => ⟨rfl, _, rfl, Rd.src (o5.rd okB)⟩) (by show 5 + 2 ≤ 7; omega) (okB.row_one _) w.heap.size w hB5 Lp ?_
      intro w6 P6 hB6 hoth
      have N6 : At w6 w3.heap.size 151 #[.int .i64 (n0 : Int), .int .i64 (n1 : Int), .int .i64 (n2 : Int), .int .i64 ((n3 : Int) - 1000)] := (hoth _ (by omega)).trans N5
      have R6 : At w6 (w.heap.size + 1) 30 #[.int .i64 0, .slice none 0 0] := (hoth _ (by omega)).trans R5
      refine hK _ _ _ (fun _ h => h) ⟨(N6.cell 3).trans rfl, (cell_same (hoth _ (by omega))).trans S0, (cell_same (hoth _ (by omega))).trans S1, (cell_same (hoth _ (by omega))).trans S2⟩ ?_
      (try simp only [Act.put, List.setIfInBounds_toArray, List.set_cons_zero, List.set_cons_succ])
      refine mix_nil ?_
      go_wp2
      exact ⟨⟨3 + 1, by omega, by go_num, P6, N6, R6, hB6⟩, by simp [intOf]⟩
    · have hsl := slAll w1.heap.size
      obtain ⟨q0, q1, f0, f1⟩ := hR.two
      have L0 : ¬ w.heap.size + 1 = w1.heap.size := by omega
      go_wp2
      refine bodyPost_ret (v := .agg #[.int .i64 0, .slice (some ⟨w1.heap.size, 0, none⟩) 7 7]) (by simp [results, Tryz.results83, go_sem, q0, q1]) rfl ?_
      refine ⟨_, 7, 7, rfl, ?_, (hbel.setCell (by simp) _).setCell (by simp) _⟩
      have P7 := (hP.far (p := ⟨w.heap.size + 1, 0, none⟩) (fun e => L0 e.symm) (.int .i64 0)).far (p := ⟨w.heap.size + 1, 1, none⟩) (fun e => L0 e.symm) (.slice (some ⟨w1.heap.size, 0, none⟩) 7 7)
      rw [encL_eq]
      exact ⟨rfl, .inr ⟨_, 7, _, rfl, Lp, P7, by omega, by unfold maxLen; omega, rfl, rfl⟩⟩

/-- A code and bytes that lie in an array's block. -/
theorem implEncodeSample (a0 a1 a2 a3 : Int) (w : World) (hF : Flds w) :
    Calls Tryz.prog 83 #[.agg #[.int .i64 a0, .int .i64 a1, .int .i64 a2, .int .i64 a3]] w fun e w' => RetBA (encodeM (a0, a1, a2, a3)) w e w' := by
  rcases faultM_or (a0, a1, a2, a3) with h | h
  · obtain ⟨n0, n1, n2, n3, rfl, rfl, rfl, rfl, k0, k1, k2, k3⟩ := faultM_nat h
    rw [encodeM_nat h]
    exact implEncodeSample_ok n0 n1 n2 n3 w hF h k0 k1 k2 k3
  · have hB0 : Below w.heap.size w ((w.alloc (.cells #[.int .i64 a0, .int .i64 a1, .int .i64 a2, .int .i64 a3] 25)).alloc (.cells #[.int .i64 0, .slice none 0 0] 30)) := ((Below.refl _ _).alloc (Nat.le_refl _) _).alloc (by simp) _
    have r0 := At.new (w.alloc (.cells #[.int .i64 a0, .int .i64 a1, .int .i64 a2, .int .i64 a3] 25)) 30 #[.int .i64 0, .slice none 0 0]
    rw [show (w.alloc (.cells #[.int .i64 a0, .int .i64 a1, .int .i64 a2, .int .i64 a3] 25)).heap.size = w.heap.size + 1 by simp] at r0
    have hq := implSampleFault a0 a1 a2 a3 _ (hF.below hB0)
    rw [h] at hq
    rw [encodeM_no h]
    clear h
    go_enter Tryz.func83, Tryz.ntmps83
    go_wp2_with fail
    refine hq.mono ?_
    rintro e w1 ⟨rfl, hb1⟩
    have hB1 := hB0.trans (hb1.mono hB0.size)
    have r1 := r0.below hb1 r0.lt
    obtain ⟨c0, c1, f0, f1⟩ := r1.two
    go_wp2_with fail
    refine bodyPost_ret (v := .agg #[.int .i64 3, .slice none 0 0]) (by simp [results, Tryz.results83, go_sem, c0, c1]) rfl ?_
    exact ⟨none, 0, 0, rfl, Ow.nil, (hB1.setCell (by simp) _).setCell (by simp) _⟩
end Go.Proofs.YtmaillakhhdkfaaGreatDoor
/-
  A sample out of its bytes: the model's, and what the law compares.
-/
namespace Go.Proofs.YtmaillakhhdkfaaGreatDoor
set_option maxRecDepth 20000
open Go.RowKit
set_option linter.unusedSimpArgs false

/-- The sample of so many bytes, right or not. -/
def unpM (l : List UInt8) : Smp := (((readAt l 0 1 0 : Nat) : Int), ((readAt l 1 2 0 : Nat) : Int), ((readAt l 3 2 0 : Nat) : Int), ((readAt l 5 2 0 : Nat) : Int) - 1000)
def decodeM (l : List UInt8) : Int × Smp := if l.length = 7 then (if faultM (unpM l) = 0 then (0, unpM l) else (5, (0, 0, 0, 0))) else (2, (0, 0, 0, 0))
theorem read_one {l : List UInt8} {x : UInt8} (h : l[0]? = some x) : readAt l 0 1 0 = x.toNat := by
  have := readAt_step (l := l) (p := 0) (s := 1) (j := 0) (by omega) h
  rw [this, readAt_end]
  omega

set_option maxHeartbeats 2000000 in
theorem l2Decode (A : Option Addr) (c : Nat) (l : List UInt8) (w : World) (ha : Rd eB w w.heap.size A l) (hn : l.length = 7) :
    Calls Tryz.prog 104 #[.slice A 7 c] w fun e w' => RetS (unpM l) w e w' := by
  obtain ⟨g, o, x, rfl, hg, hx, cx⟩ := ha.byte (k := 0) (by omega)
  have cx0 : w.cell? ⟨g, o, none⟩ = some (.int .u8 (x.toNat : Int)) := by simpa using cx
  have Hu := Lib.hid (show unpM l = ((x.toNat : Int), ((readAt l 1 2 0 : Nat) : Int), ((readAt l 3 2 0 : Nat) : Int), ((readAt l 5 2 0 : Nat) : Int) - 1000) by rw [unpM, read_one hx])
  have hxb : x.toNat < 256 := x.toNat_lt
  have b3 : readAt l 5 2 0 < 4294967296 := readAt_lt l 5 2 0 (by omega)
  have R1 := fun W (hW : Below w.heap.size w W) => l1Read (some ⟨g, o, none⟩) 7 c 1 2 l W (ha.lift hW) hn (by omega) (by omega) (by unfold maxLen; omega)
  have R2 := fun W (hW : Below w.heap.size w W) => l1Read (some ⟨g, o, none⟩) 7 c 3 2 l W (ha.lift hW) hn (by omega) (by omega) (by unfold maxLen; omega)
  have R3 := fun W (hW : Below w.heap.size w W) => l1Read (some ⟨g, o, none⟩) 7 c 5 2 l W (ha.lift hW) hn (by omega) (by omega) (by unfold maxLen; omega)
  rw [Hu.out]
  generalize readAt l 1 2 0 = v1 at *
  generalize readAt l 3 2 0 = v2 at *
  generalize readAt l 5 2 0 = v3 at *
  clear hn hx cx Hu ha
  generalize x.toNat = x0 at *
  have r0 := At.new w 25 #[.int .i64 0, .int .i64 0, .int .i64 0, .int .i64 0]
  have hB0 : Below w.heap.size w ((w.alloc (.cells #[.int .i64 0, .int .i64 0, .int .i64 0, .int .i64 0] 25)).drew) := ((Below.refl _ _).alloc (Nat.le_refl _) _).drew
  have hw0 : IntKind.i64.wrap (x0 : Int) = (x0 : Int) := IntWalk.i64_in _ (by omega)
  have hw3 : IntKind.i64.wrap ((v3 : Int) - 1000) = (v3 : Int) - 1000 := IntWalk.i64_in _ (by omega)
  have p7 : (0 : Int) < 7 := by omega
  go_enter Tryz.func104, Tryz.ntmps104
  go_wp2
  refine wp_region_mix [(0, false), (1, false), (2, false), (3, false), (4, false), (6, false), (8, false), (5, true), (7, true), (9, true), (10, false), (11, false), (12, true)] (fun u => u.cell? ⟨g, o, none⟩ = some (.int .u8 (x0 : Int))) (by kernel_rfl) (by kernel_rfl) (fun _ _ _ _ _ h => h) (by go_simp) ?_
  simp only [mixOps, List.map_cons, List.map_nil, List.getElem?_cons_succ, List.getElem?_cons_zero, Option.getD_some]
  repeat (first
    | (refine mix_skip (by rfl) ?_
       (try simp only [Act.put, List.setIfInBounds_toArray, List.set_cons_zero, List.set_cons_succ]))
    | (refine mix_pure (v := ?_) (by rfl) (fun u hu => ?_) ?_
       rotate_left
       · (try dsimp only at hu)
         go_simp
         (with_reducible rfl)
       (try simp only [Act.put, List.setIfInBounds_toArray, List.set_cons_zero, List.set_cons_succ])))
  refine mix_call (by rfl) (fun K hK => ?_)
  go_simp
  refine (R1 _ hB0).mono ?_
  rintro e w1 ⟨rfl, rfl⟩
  refine hK _ _ _ (fun _ h => h) (by go_simp) ?_
  (try simp only [Act.put, List.setIfInBounds_toArray, List.set_cons_zero, List.set_cons_succ])
  refine mix_call (by rfl) (fun K hK => ?_)
  go_simp
  refine (R2 _ hB0).mono ?_
  rintro e w1 ⟨rfl, rfl⟩
  refine hK _ _ _ (fun _ h => h) (by go_simp) ?_
  (try simp only [Act.put, List.setIfInBounds_toArray, List.set_cons_zero, List.set_cons_succ])
  refine mix_call (by rfl) (fun K hK => ?_)
  go_simp
  refine (R3 _ hB0).mono ?_
  rintro e w1 ⟨rfl, rfl⟩
  refine hK _ _ _ (fun _ h => h) (by go_simp) ?_
  (try simp only [Act.put, List.setIfInBounds_toArray, List.set_cons_zero, List.set_cons_succ])
  repeat (first
    | (refine mix_pure (v := ?_) (by rfl) (fun u hu => ?_) ?_
       rotate_left
       · go_simp
         (with_reducible rfl)
       (try simp only [Act.put, List.setIfInBounds_toArray, List.set_cons_zero, List.set_cons_succ])))
  refine mix_call (by rfl) (fun K hK => ?_)
  go_simp
  refine hK _ _ _ (fun _ h => h) (by go_simp) ?_
  (try simp only [Act.put, List.setIfInBounds_toArray, List.set_cons_zero, List.set_cons_succ])
  refine mix_nil ?_
  go_wp2
  refine bodyPost_ret (v := .agg #[.int .i64 x0, .int .i64 v1, .int .i64 v2, .int .i64 ((v3 : Int) - 1000)]) (by simp [results, Tryz.results104, go_sem]) rfl ?_
  exact ⟨rfl, ((Below.refl _ _).alloc (Nat.le_refl _) _).drew⟩

theorem decodeM_len {l : List UInt8} (h : l.length ≠ 7) : decodeM l = (2, (0, 0, 0, 0)) := if_neg h
theorem decodeM_no {l : List UInt8} {x : Smp} (h : l.length = 7) (hx : unpM l = x) (hf : faultM x = 3) : decodeM l = (5, (0, 0, 0, 0)) := by
  unfold decodeM
  rw [if_pos h, hx, hf]
  rfl
theorem decodeM_yes {l : List UInt8} {x : Smp} (h : l.length = 7) (hx : unpM l = x) (hf : faultM x = 0) : decodeM l = (0, x) := by
  unfold decodeM
  rw [if_pos h, hx, hf]
  rfl

end Go.Proofs.YtmaillakhhdkfaaGreatDoor
/-
  A sample out of its bytes: the program's.
-/
namespace Go.Proofs.YtmaillakhhdkfaaGreatDoor
set_option maxRecDepth 20000
open Go.RowKit
set_option linter.unusedSimpArgs false

theorem sampleOf (a0 a1 a2 a3 : Int) (w : World) :
    Calls Tryz.prog 157 #[.agg #[.int .i64 a0, .int .i64 a1, .int .i64 a2, .int .i64 a3]] w fun e w' => e = .returned (.agg #[.int .i64 a0, .int .i64 a1, .int .i64 a2, .int .i64 a3]) ∧ Below w.heap.size w w' := by
  go_enter Tryz.func157, Tryz.ntmps157
  go_wp2
  refine bodyPost_ret (v := .agg #[.int .i64 a0, .int .i64 a1, .int .i64 a2, .int .i64 a3]) (by simp [results, Tryz.results157, go_sem]) rfl ?_
  exact ⟨rfl, ((Below.refl _ _).alloc (Nat.le_refl _) _).alloc (by simp) _⟩

theorem fldI1 (a b : Int) (u : World) : (Instr.field 131 (.agg #[.int .i64 a, .int .i64 b]) 1).run Tryz.prog u = .ok (.int .i64 b) u := by kernel_rfl

/-- The bytes of an array's block read as a list. -/
theorem rd_array {w : World} {g : Nat} {t : TypeId} {cs : Array Value} {l : List UInt8} (h : At w g t cs) (hc : cs.toList = eB.row l) : Rd eB w w.heap.size (some ⟨g, 0, none⟩) l := fun _ => by
  refine ⟨g, 0, rfl, h.lt, fun k j a u hk hu => ?_⟩
  have hj : j < eB.size := by rw [← okB.len a]; exact getElem?_some_lt hu
  rw [h.cell, Nat.zero_add, ← Array.getElem?_toList, hc, okB.row_at l k j a hk hj, hu]

theorem reads {w : World} {A : Option Addr} {l : List UInt8} (p s : Nat) (ha : Rd eB w w.heap.size A l) (hn : l.length = 7) (hs : 1 ≤ s) (hs2 : s ≤ 4) (hp : p + s ≤ 7) :
    Calls Tryz.prog 87 #[.slice A 7 7, .int .i64 p, .int .i64 s] w fun e w' => e = .returned (.agg #[.int .i64 0, .int .i64 ((readAt l p s 0 : Nat) : Int)]) ∧ Below w.heap.size w w' := by
  have h := implReadWord A 7 7 l p s w ha hn (by unfold maxLen; omega)
  rw [readM_nat ⟨hs, hs2, by omega⟩] at h
  exact h

def numRow (v0 v1 v2 v3 : Nat) : Nat → Array Value
  | 0 => #[.int .i64 0, .int .i64 0, .int .i64 0, .int .i64 0]
  | 1 => #[.int .i64 (v0 : Int), .int .i64 0, .int .i64 0, .int .i64 0]
  | 2 => #[.int .i64 (v0 : Int), .int .i64 (v1 : Int), .int .i64 0, .int .i64 0]
  | 3 => #[.int .i64 (v0 : Int), .int .i64 (v1 : Int), .int .i64 (v2 : Int), .int .i64 0]
  | _ => #[.int .i64 (v0 : Int), .int .i64 (v1 : Int), .int .i64 (v2 : Int), .int .i64 ((v3 : Int) - 1000)]

def UnpRel (w : World) (gb gR gN : Nat) (box : Array Value) (v0 v1 v2 v3 : Nat) (i : Value) (wr : World) : Prop :=
  ∃ k : Nat, k ≤ 4 ∧ i = .int .i64 k ∧ At wr gb 177 box ∧ At wr gR 25 #[.int .i64 0, .int .i64 0, .int .i64 0, .int .i64 0] ∧ At wr gN 151 (numRow v0 v1 v2 v3 k) ∧ Below w.heap.size w wr

set_option maxHeartbeats 4000000 in
theorem unpackSample (x0 x1 x2 x3 x4 x5 x6 : UInt8) (w : World) (hF : Flds w) :
    Calls Tryz.prog 148 #[.agg #[.int .u8 (x0.toNat : Int), .int .u8 (x1.toNat : Int), .int .u8 (x2.toNat : Int), .int .u8 (x3.toNat : Int), .int .u8 (x4.toNat : Int), .int .u8 (x5.toNat : Int), .int .u8 (x6.toNat : Int)]] w fun e w' => RetS (unpM [x0, x1, x2, x3, x4, x5, x6]) w e w' := by
  obtain ⟨L, hL⟩ : ∃ L : List UInt8, L = [x0, x1, x2, x3, x4, x5, x6] := ⟨_, rfl⟩
  have hLn : L.length = 7 := by rw [hL]; rfl
  have hLr := Lib.hid (show (#[.int .u8 (x0.toNat : Int), .int .u8 (x1.toNat : Int), .int .u8 (x2.toNat : Int), .int .u8 (x3.toNat : Int), .int .u8 (x4.toNat : Int), .int .u8 (x5.toNat : Int), .int .u8 (x6.toNat : Int)] : Array Value).toList = eB.row L by rw [hL]; rfl)
  rw [← hL]
  have hb0 : readAt L 0 1 0 < 4294967296 := readAt_lt L 0 1 0 (by omega)
  have hb1 : readAt L 1 2 0 < 4294967296 := readAt_lt L 1 2 0 (by omega)
  have hb2 : readAt L 3 2 0 < 4294967296 := readAt_lt L 3 2 0 (by omega)
  have hb3 : readAt L 5 2 0 < 4294967296 := readAt_lt L 5 2 0 (by omega)
  have R0 := fun W A (h : Rd eB W W.heap.size A L) => reads 0 1 h hLn (by omega) (by omega) (by omega)
  have R1 := fun W A (h : Rd eB W W.heap.size A L) => reads 1 2 h hLn (by omega) (by omega) (by omega)
  have R2 := fun W A (h : Rd eB W W.heap.size A L) => reads 3 2 h hLn (by omega) (by omega) (by omega)
  have R3 := fun W A (h : Rd eB W W.heap.size A L) => reads 5 2 h hLn (by omega) (by omega) (by omega)
  unfold unpM
  generalize readAt L 0 1 0 = v0 at *
  generalize readAt L 1 2 0 = v1 at *
  generalize readAt L 3 2 0 = v2 at *
  generalize readAt L 5 2 0 = v3 at *
  clear hL
  obtain ⟨box, hbox⟩ : ∃ box : Array Value, box = #[.int .u8 (x0.toNat : Int), .int .u8 (x1.toNat : Int), .int .u8 (x2.toNat : Int), .int .u8 (x3.toNat : Int), .int .u8 (x4.toNat : Int), .int .u8 (x5.toNat : Int), .int .u8 (x6.toNat : Int)] := ⟨_, rfl⟩
  have HR := Lib.hid (show ∀ W g, At W g 177 box → Rd eB W W.heap.size (some ⟨g, 0, none⟩) L from fun W g h => rd_array h (by rw [hbox]; exact hLr.out))
  have Hp0 := At.new w 177 #[.int .u8 (x0.toNat : Int), .int .u8 (x1.toNat : Int), .int .u8 (x2.toNat : Int), .int .u8 (x3.toNat : Int), .int .u8 (x4.toNat : Int), .int .u8 (x5.toNat : Int), .int .u8 (x6.toNat : Int)]
  have hS0 : (w.alloc (.cells #[.int .u8 (x0.toNat : Int), .int .u8 (x1.toNat : Int), .int .u8 (x2.toNat : Int), .int .u8 (x3.toNat : Int), .int .u8 (x4.toNat : Int), .int .u8 (x5.toNat : Int), .int .u8 (x6.toNat : Int)] 177)).heap.size = w.heap.size + 1 := by simp
  have hB0 : Below w.heap.size w (w.alloc (.cells #[.int .u8 (x0.toNat : Int), .int .u8 (x1.toNat : Int), .int .u8 (x2.toNat : Int), .int .u8 (x3.toNat : Int), .int .u8 (x4.toNat : Int), .int .u8 (x5.toNat : Int), .int .u8 (x6.toNat : Int)] 177)) := (Below.refl _ _).alloc (Nat.le_refl _) _
  have Hr0 := At.new (w.alloc (.cells #[.int .u8 (x0.toNat : Int), .int .u8 (x1.toNat : Int), .int .u8 (x2.toNat : Int), .int .u8 (x3.toNat : Int), .int .u8 (x4.toNat : Int), .int .u8 (x5.toNat : Int), .int .u8 (x6.toNat : Int)] 177)) 25 #[.int .i64 0, .int .i64 0, .int .i64 0, .int .i64 0]
  rw [hS0] at Hr0
  have hB1 := hB0.alloc hB0.size (.cells #[.int .i64 0, .int .i64 0, .int .i64 0, .int .i64 0] 25)
  have Hp1 := Hp0.alloc (.cells #[.int .i64 0, .int .i64 0, .int .i64 0, .int .i64 0] 25)
  have Hn2 := At.new ((w.alloc (.cells #[.int .u8 (x0.toNat : Int), .int .u8 (x1.toNat : Int), .int .u8 (x2.toNat : Int), .int .u8 (x3.toNat : Int), .int .u8 (x4.toNat : Int), .int .u8 (x5.toNat : Int), .int .u8 (x6.toNat : Int)] 177)).alloc (.cells #[.int .i64 0, .int .i64 0, .int .i64 0, .int .i64 0] 25)) 151 #[.int .i64 0, .int .i64 0, .int .i64 0, .int .i64 0]
  rw [show ((w.alloc (.cells #[.int .u8 (x0.toNat : Int), .int .u8 (x1.toNat : Int), .int .u8 (x2.toNat : Int), .int .u8 (x3.toNat : Int), .int .u8 (x4.toNat : Int), .int .u8 (x5.toNat : Int), .int .u8 (x6.toNat : Int)] 177)).alloc (.cells #[.int .i64 0, .int .i64 0, .int .i64 0, .int .i64 0] 25)).heap.size = w.heap.size + 1 + 1 by simp] at Hn2
  have hB2 := hB1.alloc hB1.size (.cells #[.int .i64 0, .int .i64 0, .int .i64 0, .int .i64 0] 151)
  have Hp2 := Hp1.alloc (.cells #[.int .i64 0, .int .i64 0, .int .i64 0, .int .i64 0] 151)
  have Hr2 := Hr0.alloc (.cells #[.int .i64 0, .int .i64 0, .int .i64 0, .int .i64 0] 151)
  clear Hp0 Hp1 hS0 hLr
  have hz := hF.pos
  obtain ⟨c0, c1, c2, c3, c4, c5, c6, c7, c8, c9, c10, c11, c12, c13, c14, c15⟩ := (hF.below hB2).all
  go_enter Tryz.func148, Tryz.ntmps148
  go_wp2_with fail
  clear c0 c1 c2 c3 c4 c5 c6 c7 c8 c9 c10 c11 c12 c13 c14 c15
  go_loopw [7] (fun i wr => UnpRel w w.heap.size (w.heap.size + 1) (w.heap.size + 1 + 1) box v0 v1 v2 v3 i wr) (fun i _ => 4 - (intOf i).toNat)
  case atStart => exact ⟨0, by omega, rfl, by rw [hbox]; exact Hp2, Hr2, Hn2, hB2⟩
  case round =>
    obtain ⟨k, hk, rfl, hP, hR, hN, hbel⟩ := hrel
    have lP := hP.lt
    have lN := hN.lt
    have lR := hR.lt
    rcases (show k = 0 ∨ k = 1 ∨ k = 2 ∨ k = 3 ∨ k = 4 by omega) with rfl | rfl | rfl | rfl | rfl
    · have hidx := fldAt0 wr
      have hsl := slAll w.heap.size
      have hw1 : IntKind.i64.wrap (v0 : Int) = (v0 : Int) := by exact IntWalk.i64_in _ (by omega)
      obtain ⟨m0, m1, m2, m3, f0, f1, f2, f3⟩ := (show At wr (w.heap.size + 1 + 1) 151 #[.int .i64 0, .int .i64 0, .int .i64 0, .int .i64 0] from hN).four
      go_wp2
      refine wp_region_mix [(0, false), (1, false), (2, false), (3, false), (4, false), (5, false), (6, false), (7, false), (8, true), (9, false), (10, false), (11, false), (12, true)] (fun u => u.cell? ⟨wr.heap.size, 0, none⟩ = some (.int .i64 0) ∧ u.cell? ⟨wr.heap.size, 1, none⟩ = some (.int .i64 1) ∧ u.cell? ⟨wr.heap.size, 2, none⟩ = some (.int .i64 0)) (by kernel_rfl) (by kernel_rfl) (fun _ _ _ _ _ h => h) (by go_simp) ?_
      simp only [mixOps, List.map_cons, List.map_nil, List.getElem?_cons_succ, List.getElem?_cons_zero, Option.getD_some]
      repeat (first
        | (refine mix_skip (by rfl) ?_
           (try simp only [Act.put, List.setIfInBounds_toArray, List.set_cons_zero, List.set_cons_succ]))
        | (refine mix_pure (v := ?_) (by rfl) (fun u hu => ?_) ?_
           rotate_left
           · obtain ⟨_, _, _⟩ := hu
             go_simp
             (with_reducible rfl)
           (try simp only [Act.put, List.setIfInBounds_toArray, List.set_cons_zero, List.set_cons_succ])))
      have F5 := (hbel.alloc hbel.size (.cells #[.int .i64 0, .int .i64 1, .int .i64 0, .int .i64 9] 154)).drew
      have P4 := (hP.alloc (.cells #[.int .i64 0, .int .i64 1, .int .i64 0, .int .i64 9] 154)).drew
      refine mix_call (by rfl) (fun K hK => ?_)
      go_simp
      refine (R0 _ _ (HR.out _ _ P4)).mono ?_
      rintro e w5 ⟨rfl, hb5⟩
      have fI := fldI1 0 (v0 : Int)
      have P5 := P4.below hb5 P4.lt
      have N5 := ((hN.alloc (.cells #[.int .i64 0, .int .i64 1, .int .i64 0, .int .i64 9] 154)).drew).below hb5 (by simp; omega)
      have R5 := ((hR.alloc (.cells #[.int .i64 0, .int .i64 1, .int .i64 0, .int .i64 9] 154)).drew).below hb5 (by simp; omega)
      have hB5 := F5.trans (hb5.mono F5.size)
      refine hK _ _ _ (fun _ h => h) ⟨(hb5.cell (p := ⟨wr.heap.size, 0, none⟩) (by simp)).trans (by go_simp), (hb5.cell (p := ⟨wr.heap.size, 1, none⟩) (by simp)).trans (by go_simp), (hb5.cell (p := ⟨wr.heap.size, 2, none⟩) (by simp)).trans (by go_simp)⟩ ?_
      (try simp only [Act.put, List.setIfInBounds_toArray, List.set_cons_zero, List.set_cons_succ])
      iterate 3
        refine mix_pure (v := ?_) (by rfl) (fun u hu => ?_) ?_
        rotate_left
        · go_simp
          (with_reducible rfl)
        (try simp only [Act.put, List.setIfInBounds_toArray, List.set_cons_zero, List.set_cons_succ])
      clear m0 m1 m2 m3 f0 f1 f2 f3
      obtain ⟨m0, m1, m2, m3, f0, f1, f2, f3⟩ := (show At w5 (w.heap.size + 1 + 1) 151 #[.int .i64 0, .int .i64 0, .int .i64 0, .int .i64 0] from N5).four
      have S0 : w5.cell? ⟨wr.heap.size, 0, none⟩ = some (.int .i64 0) := (hb5.cell (p := ⟨wr.heap.size, 0, none⟩) (by simp)).trans (by go_simp)
      have S1 : w5.cell? ⟨wr.heap.size, 1, none⟩ = some (.int .i64 1) := (hb5.cell (p := ⟨wr.heap.size, 1, none⟩) (by simp)).trans (by go_simp)
      have S2 : w5.cell? ⟨wr.heap.size, 2, none⟩ = some (.int .i64 0) := (hb5.cell (p := ⟨wr.heap.size, 2, none⟩) (by simp)).trans (by go_simp)
      have N6 := N5.set 0 (.int .i64 (v0 : Int))
      have P6 := P5.far (p := ⟨w.heap.size + 1 + 1, 0, none⟩) (by show w.heap.size ≠ w.heap.size + 1 + 1; omega) (.int .i64 (v0 : Int))
      have R6 := R5.far (p := ⟨w.heap.size + 1 + 1, 0, none⟩) (by show w.heap.size + 1 ≠ w.heap.size + 1 + 1; omega) (.int .i64 (v0 : Int))
      have hB6 := hB5.setCell (p := ⟨w.heap.size + 1 + 1, 0, none⟩) (by show w.heap.size ≤ w.heap.size + 1 + 1; omega) (.int .i64 (v0 : Int))
      have hne : wr.heap.size ≠ w.heap.size + 1 + 1 := by omega
      refine mix_call (by rfl) (fun K hK => ?_)
      go_simp
      refine hK _ _ _ (fun _ h => h) ⟨(cell_same (Below.heap_setCell _ _ _ _ hne)).trans S0, (cell_same (Below.heap_setCell _ _ _ _ hne)).trans S1, (cell_same (Below.heap_setCell _ _ _ _ hne)).trans S2⟩ ?_
      (try simp only [Act.put, List.setIfInBounds_toArray, List.set_cons_zero, List.set_cons_succ])
      refine mix_nil ?_
      go_wp2
      exact ⟨⟨0 + 1, by omega, by go_num, P6, R6, N6, hB6⟩, by simp [intOf]⟩
    · have hidx := fldAt1 wr
      have hsl := slAll w.heap.size
      have hw1 : IntKind.i64.wrap (v1 : Int) = (v1 : Int) := by exact IntWalk.i64_in _ (by omega)
      obtain ⟨m0, m1, m2, m3, f0, f1, f2, f3⟩ := (show At wr (w.heap.size + 1 + 1) 151 #[.int .i64 (v0 : Int), .int .i64 0, .int .i64 0, .int .i64 0] from hN).four
      go_wp2
      refine wp_region_mix [(0, false), (1, false), (2, false), (3, false), (4, false), (5, false), (6, false), (7, false), (8, true), (9, false), (10, false), (11, false), (12, true)] (fun u => u.cell? ⟨wr.heap.size, 0, none⟩ = some (.int .i64 1) ∧ u.cell? ⟨wr.heap.size, 1, none⟩ = some (.int .i64 2) ∧ u.cell? ⟨wr.heap.size, 2, none⟩ = some (.int .i64 0)) (by kernel_rfl) (by kernel_rfl) (fun _ _ _ _ _ h => h) (by go_simp) ?_
      simp only [mixOps, List.map_cons, List.map_nil, List.getElem?_cons_succ, List.getElem?_cons_zero, Option.getD_some]
      repeat (first
        | (refine mix_skip (by rfl) ?_
           (try simp only [Act.put, List.setIfInBounds_toArray, List.set_cons_zero, List.set_cons_succ]))
        | (refine mix_pure (v := ?_) (by rfl) (fun u hu => ?_) ?_
           rotate_left
           · obtain ⟨_, _, _⟩ := hu
             go_simp
             (with_reducible rfl)
           (try simp only [Act.put, List.setIfInBounds_toArray, List.set_cons_zero, List.set_cons_succ])))
      have F5 := (hbel.alloc hbel.size (.cells #[.int .i64 1, .int .i64 2, .int .i64 0, .int .i64 999] 154)).drew
      have P4 := (hP.alloc (.cells #[.int .i64 1, .int .i64 2, .int .i64 0, .int .i64 999] 154)).drew
      refine mix_call (by rfl) (fun K hK => ?_)
      go_simp
      refine (R1 _ _ (HR.out _ _ P4)).mono ?_
      rintro e w5 ⟨rfl, hb5⟩
      have fI := fldI1 0 (v1 : Int)
      have P5 := P4.below hb5 P4.lt
      have N5 := ((hN.alloc (.cells #[.int .i64 1, .int .i64 2, .int .i64 0, .int .i64 999] 154)).drew).below hb5 (by simp; omega)
      have R5 := ((hR.alloc (.cells #[.int .i64 1, .int .i64 2, .int .i64 0, .int .i64 999] 154)).drew).below hb5 (by simp; omega)
      have hB5 := F5.trans (hb5.mono F5.size)
      refine hK _ _ _ (fun _ h => h) ⟨(hb5.cell (p := ⟨wr.heap.size, 0, none⟩) (by simp)).trans (by go_simp), (hb5.cell (p := ⟨wr.heap.size, 1, none⟩) (by simp)).trans (by go_simp), (hb5.cell (p := ⟨wr.heap.size, 2, none⟩) (by simp)).trans (by go_simp)⟩ ?_
      (try simp only [Act.put, List.setIfInBounds_toArray, List.set_cons_zero, List.set_cons_succ])
      iterate 3
        refine mix_pure (v := ?_) (by rfl) (fun u hu => ?_) ?_
        rotate_left
        · go_simp
          (with_reducible rfl)
        (try simp only [Act.put, List.setIfInBounds_toArray, List.set_cons_zero, List.set_cons_succ])
      clear m0 m1 m2 m3 f0 f1 f2 f3
      obtain ⟨m0, m1, m2, m3, f0, f1, f2, f3⟩ := (show At w5 (w.heap.size + 1 + 1) 151 #[.int .i64 (v0 : Int), .int .i64 0, .int .i64 0, .int .i64 0] from N5).four
      have S0 : w5.cell? ⟨wr.heap.size, 0, none⟩ = some (.int .i64 1) := (hb5.cell (p := ⟨wr.heap.size, 0, none⟩) (by simp)).trans (by go_simp)
      have S1 : w5.cell? ⟨wr.heap.size, 1, none⟩ = some (.int .i64 2) := (hb5.cell (p := ⟨wr.heap.size, 1, none⟩) (by simp)).trans (by go_simp)
      have S2 : w5.cell? ⟨wr.heap.size, 2, none⟩ = some (.int .i64 0) := (hb5.cell (p := ⟨wr.heap.size, 2, none⟩) (by simp)).trans (by go_simp)
      have N6 := N5.set 1 (.int .i64 (v1 : Int))
      have P6 := P5.far (p := ⟨w.heap.size + 1 + 1, 1, none⟩) (by show w.heap.size ≠ w.heap.size + 1 + 1; omega) (.int .i64 (v1 : Int))
      have R6 := R5.far (p := ⟨w.heap.size + 1 + 1, 1, none⟩) (by show w.heap.size + 1 ≠ w.heap.size + 1 + 1; omega) (.int .i64 (v1 : Int))
      have hB6 := hB5.setCell (p := ⟨w.heap.size + 1 + 1, 1, none⟩) (by show w.heap.size ≤ w.heap.size + 1 + 1; omega) (.int .i64 (v1 : Int))
      have hne : wr.heap.size ≠ w.heap.size + 1 + 1 := by omega
      refine mix_call (by rfl) (fun K hK => ?_)
      go_simp
      refine hK _ _ _ (fun _ h => h) ⟨(cell_same (Below.heap_setCell _ _ _ _ hne)).trans S0, (cell_same (Below.heap_setCell _ _ _ _ hne)).trans S1, (cell_same (Below.heap_setCell _ _ _ _ hne)).trans S2⟩ ?_
      (try simp only [Act.put, List.setIfInBounds_toArray, List.set_cons_zero, List.set_cons_succ])
      refine mix_nil ?_
      go_wp2
      exact ⟨⟨1 + 1, by omega, by go_num, P6, R6, N6, hB6⟩, by simp [intOf]⟩
    · have hidx := fldAt2 wr
      have hsl := slAll w.heap.size
      have hw1 : IntKind.i64.wrap (v2 : Int) = (v2 : Int) := by exact IntWalk.i64_in _ (by omega)
      obtain ⟨m0, m1, m2, m3, f0, f1, f2, f3⟩ := (show At wr (w.heap.size + 1 + 1) 151 #[.int .i64 (v0 : Int), .int .i64 (v1 : Int), .int .i64 0, .int .i64 0] from hN).four
      go_wp2
      refine wp_region_mix [(0, false), (1, false), (2, false), (3, false), (4, false), (5, false), (6, false), (7, false), (8, true), (9, false), (10, false), (11, false), (12, true)] (fun u => u.cell? ⟨wr.heap.size, 0, none⟩ = some (.int .i64 3) ∧ u.cell? ⟨wr.heap.size, 1, none⟩ = some (.int .i64 2) ∧ u.cell? ⟨wr.heap.size, 2, none⟩ = some (.int .i64 0)) (by kernel_rfl) (by kernel_rfl) (fun _ _ _ _ _ h => h) (by go_simp) ?_
      simp only [mixOps, List.map_cons, List.map_nil, List.getElem?_cons_succ, List.getElem?_cons_zero, Option.getD_some]
      repeat (first
        | (refine mix_skip (by rfl) ?_
           (try simp only [Act.put, List.setIfInBounds_toArray, List.set_cons_zero, List.set_cons_succ]))
        | (refine mix_pure (v := ?_) (by rfl) (fun u hu => ?_) ?_
           rotate_left
           · obtain ⟨_, _, _⟩ := hu
             go_simp
             (with_reducible rfl)
           (try simp only [Act.put, List.setIfInBounds_toArray, List.set_cons_zero, List.set_cons_succ])))
      have F5 := (hbel.alloc hbel.size (.cells #[.int .i64 3, .int .i64 2, .int .i64 0, .int .i64 9999] 154)).drew
      have P4 := (hP.alloc (.cells #[.int .i64 3, .int .i64 2, .int .i64 0, .int .i64 9999] 154)).drew
      refine mix_call (by rfl) (fun K hK => ?_)
      go_simp
      refine (R2 _ _ (HR.out _ _ P4)).mono ?_
      rintro e w5 ⟨rfl, hb5⟩
      have fI := fldI1 0 (v2 : Int)
      have P5 := P4.below hb5 P4.lt
      have N5 := ((hN.alloc (.cells #[.int .i64 3, .int .i64 2, .int .i64 0, .int .i64 9999] 154)).drew).below hb5 (by simp; omega)
      have R5 := ((hR.alloc (.cells #[.int .i64 3, .int .i64 2, .int .i64 0, .int .i64 9999] 154)).drew).below hb5 (by simp; omega)
      have hB5 := F5.trans (hb5.mono F5.size)
      refine hK _ _ _ (fun _ h => h) ⟨(hb5.cell (p := ⟨wr.heap.size, 0, none⟩) (by simp)).trans (by go_simp), (hb5.cell (p := ⟨wr.heap.size, 1, none⟩) (by simp)).trans (by go_simp), (hb5.cell (p := ⟨wr.heap.size, 2, none⟩) (by simp)).trans (by go_simp)⟩ ?_
      (try simp only [Act.put, List.setIfInBounds_toArray, List.set_cons_zero, List.set_cons_succ])
      iterate 3
        refine mix_pure (v := ?_) (by rfl) (fun u hu => ?_) ?_
        rotate_left
        · go_simp
          (with_reducible rfl)
        (try simp only [Act.put, List.setIfInBounds_toArray, List.set_cons_zero, List.set_cons_succ])
      clear m0 m1 m2 m3 f0 f1 f2 f3
      obtain ⟨m0, m1, m2, m3, f0, f1, f2, f3⟩ := (show At w5 (w.heap.size + 1 + 1) 151 #[.int .i64 (v0 : Int), .int .i64 (v1 : Int), .int .i64 0, .int .i64 0] from N5).four
      have S0 : w5.cell? ⟨wr.heap.size, 0, none⟩ = some (.int .i64 3) := (hb5.cell (p := ⟨wr.heap.size, 0, none⟩) (by simp)).trans (by go_simp)
      have S1 : w5.cell? ⟨wr.heap.size, 1, none⟩ = some (.int .i64 2) := (hb5.cell (p := ⟨wr.heap.size, 1, none⟩) (by simp)).trans (by go_simp)
      have S2 : w5.cell? ⟨wr.heap.size, 2, none⟩ = some (.int .i64 0) := (hb5.cell (p := ⟨wr.heap.size, 2, none⟩) (by simp)).trans (by go_simp)
      have N6 := N5.set 2 (.int .i64 (v2 : Int))
      have P6 := P5.far (p := ⟨w.heap.size + 1 + 1, 2, none⟩) (by show w.heap.size ≠ w.heap.size + 1 + 1; omega) (.int .i64 (v2 : Int))
      have R6 := R5.far (p := ⟨w.heap.size + 1 + 1, 2, none⟩) (by show w.heap.size + 1 ≠ w.heap.size + 1 + 1; omega) (.int .i64 (v2 : Int))
      have hB6 := hB5.setCell (p := ⟨w.heap.size + 1 + 1, 2, none⟩) (by show w.heap.size ≤ w.heap.size + 1 + 1; omega) (.int .i64 (v2 : Int))
      have hne : wr.heap.size ≠ w.heap.size + 1 + 1 := by omega
      refine mix_call (by rfl) (fun K hK => ?_)
      go_simp
      refine hK _ _ _ (fun _ h => h) ⟨(cell_same (Below.heap_setCell _ _ _ _ hne)).trans S0, (cell_same (Below.heap_setCell _ _ _ _ hne)).trans S1, (cell_same (Below.heap_setCell _ _ _ _ hne)).trans S2⟩ ?_
      (try simp only [Act.put, List.setIfInBounds_toArray, List.set_cons_zero, List.set_cons_succ])
      refine mix_nil ?_
      go_wp2
      exact ⟨⟨2 + 1, by omega, by go_num, P6, R6, N6, hB6⟩, by simp [intOf]⟩
    · have hidx := fldAt3 wr
      have hsl := slAll w.heap.size
      have hw1 : IntKind.i64.wrap ((v3 : Int) - 1000) = ((v3 : Int) - 1000) := by exact IntWalk.i64_in _ (by omega)
      obtain ⟨m0, m1, m2, m3, f0, f1, f2, f3⟩ := (show At wr (w.heap.size + 1 + 1) 151 #[.int .i64 (v0 : Int), .int .i64 (v1 : Int), .int .i64 (v2 : Int), .int .i64 0] from hN).four
      go_wp2
      refine wp_region_mix [(0, false), (1, false), (2, false), (3, false), (4, false), (5, false), (6, false), (7, false), (8, true), (9, false), (10, false), (11, false), (12, true)] (fun u => u.cell? ⟨wr.heap.size, 0, none⟩ = some (.int .i64 5) ∧ u.cell? ⟨wr.heap.size, 1, none⟩ = some (.int .i64 2) ∧ u.cell? ⟨wr.heap.size, 2, none⟩ = some (.int .i64 (-1000))) (by kernel_rfl) (by kernel_rfl) (fun _ _ _ _ _ h => h) (by go_simp) ?_
      simp only [mixOps, List.map_cons, List.map_nil, List.getElem?_cons_succ, List.getElem?_cons_zero, Option.getD_some]
      repeat (first
        | (refine mix_skip (by rfl) ?_
           (try simp only [Act.put, List.setIfInBounds_toArray, List.set_cons_zero, List.set_cons_succ]))
        | (refine mix_pure (v := ?_) (by rfl) (fun u hu => ?_) ?_
           rotate_left
           · obtain ⟨_, _, _⟩ := hu
             go_simp
             (with_reducible rfl)
           (try simp only [Act.put, List.setIfInBounds_toArray, List.set_cons_zero, List.set_cons_succ])))
      have F5 := (hbel.alloc hbel.size (.cells #[.int .i64 5, .int .i64 2, .int .i64 (-1000), .int .i64 1000] 154)).drew
      have P4 := (hP.alloc (.cells #[.int .i64 5, .int .i64 2, .int .i64 (-1000), .int .i64 1000] 154)).drew
      refine mix_call (by rfl) (fun K hK => ?_)
      go_simp
      refine (R3 _ _ (HR.out _ _ P4)).mono ?_
      rintro e w5 ⟨rfl, hb5⟩
      have fI := fldI1 0 (v3 : Int)
      have P5 := P4.below hb5 P4.lt
      have N5 := ((hN.alloc (.cells #[.int .i64 5, .int .i64 2, .int .i64 (-1000), .int .i64 1000] 154)).drew).below hb5 (by simp; omega)
      have R5 := ((hR.alloc (.cells #[.int .i64 5, .int .i64 2, .int .i64 (-1000), .int .i64 1000] 154)).drew).below hb5 (by simp; omega)
      have hB5 := F5.trans (hb5.mono F5.size)
      refine hK _ _ _ (fun _ h => h) ⟨(hb5.cell (p := ⟨wr.heap.size, 0, none⟩) (by simp)).trans (by go_simp), (hb5.cell (p := ⟨wr.heap.size, 1, none⟩) (by simp)).trans (by go_simp), (hb5.cell (p := ⟨wr.heap.size, 2, none⟩) (by simp)).trans (by go_simp)⟩ ?_
      (try simp only [Act.put, List.setIfInBounds_toArray, List.set_cons_zero, List.set_cons_succ])
      iterate 3
        refine mix_pure (v := ?_) (by rfl) (fun u hu => ?_) ?_
        rotate_left
        · go_simp
          (with_reducible rfl)
        (try simp only [Act.put, List.setIfInBounds_toArray, List.set_cons_zero, List.set_cons_succ])
      clear m0 m1 m2 m3 f0 f1 f2 f3
      obtain ⟨m0, m1, m2, m3, f0, f1, f2, f3⟩ := (show At w5 (w.heap.size + 1 + 1) 151 #[.int .i64 (v0 : Int), .int .i64 (v1 : Int), .int .i64 (v2 : Int), .int .i64 0] from N5).four
      have S0 : w5.cell? ⟨wr.heap.size, 0, none⟩ = some (.int .i64 5) := (hb5.cell (p := ⟨wr.heap.size, 0, none⟩) (by simp)).trans (by go_simp)
      have S1 : w5.cell? ⟨wr.heap.size, 1, none⟩ = some (.int .i64 2) := (hb5.cell (p := ⟨wr.heap.size, 1, none⟩) (by simp)).trans (by go_simp)
      have S2 : w5.cell? ⟨wr.heap.size, 2, none⟩ = some (.int .i64 (-1000)) := (hb5.cell (p := ⟨wr.heap.size, 2, none⟩) (by simp)).trans (by go_simp)
      have N6 := N5.set 3 (.int .i64 ((v3 : Int) - 1000))
      have P6 := P5.far (p := ⟨w.heap.size + 1 + 1, 3, none⟩) (by show w.heap.size ≠ w.heap.size + 1 + 1; omega) (.int .i64 ((v3 : Int) - 1000))
      have R6 := R5.far (p := ⟨w.heap.size + 1 + 1, 3, none⟩) (by show w.heap.size + 1 ≠ w.heap.size + 1 + 1; omega) (.int .i64 ((v3 : Int) - 1000))
      have hB6 := hB5.setCell (p := ⟨w.heap.size + 1 + 1, 3, none⟩) (by show w.heap.size ≤ w.heap.size + 1 + 1; omega) (.int .i64 ((v3 : Int) - 1000))
      have hne : wr.heap.size ≠ w.heap.size + 1 + 1 := by omega
      refine mix_call (by rfl) (fun K hK => ?_)
      go_simp
      refine hK _ _ _ (fun _ h => h) ⟨(cell_same (Below.heap_setCell _ _ _ _ hne)).trans S0, (cell_same (Below.heap_setCell _ _ _ _ hne)).trans S1, (cell_same (Below.heap_setCell _ _ _ _ hne)).trans S2⟩ ?_
      (try simp only [Act.put, List.setIfInBounds_toArray, List.set_cons_zero, List.set_cons_succ])
      refine mix_nil ?_
      go_wp2
      exact ⟨⟨3 + 1, by omega, by go_num, P6, R6, N6, hB6⟩, by simp [intOf]⟩
    · obtain ⟨m0, m1, m2, m3, _, _, _, _⟩ := (show At wr (w.heap.size + 1 + 1) 151 #[.int .i64 (v0 : Int), .int .i64 (v1 : Int), .int .i64 (v2 : Int), .int .i64 ((v3 : Int) - 1000)] from hN).four
      go_wp2_with fail
      refine (sampleOf _ _ _ _ _).mono ?_
      rintro e w5 ⟨rfl, hb5⟩
      have R5 := hR.below hb5 lR
      have hB5 := hbel.trans (hb5.mono hbel.size)
      obtain ⟨r0, r1, r2, r3, f0, f1, f2, f3⟩ := R5.four
      go_wp2_with fail
      refine bodyPost_ret (v := .agg #[.int .i64 v0, .int .i64 v1, .int .i64 v2, .int .i64 ((v3 : Int) - 1000)]) (by simp [results, Tryz.results148, go_sem, r0, r1, r2, r3]) rfl ?_
      exact ⟨rfl, (((hB5.setCell (by simp) _).setCell (by simp) _).setCell (by simp) _).setCell (by simp) _⟩

theorem seven_of {l : List UInt8} (h : l.length = 7) : ∃ x0 x1 x2 x3 x4 x5 x6, l = [x0, x1, x2, x3, x4, x5, x6] := by
  match l, h with
  | [x0, x1, x2, x3, x4, x5, x6], _ => exact ⟨x0, x1, x2, x3, x4, x5, x6, rfl⟩

set_option maxHeartbeats 2000000 in
theorem implDecodeSample (A : Option Addr) (n c : Nat) (l : List UInt8) (w : World) (ha : Rd eB w w.heap.size A l) (hn : l.length = n) (hm : n ≤ maxLen) (hF : Flds w) :
    Calls Tryz.prog 131 #[.slice A n c] w fun e w' => RetSR (decodeM l) w e w' := by
  have hB0 : Below w.heap.size w (w.alloc (.cells #[.int .i64 0, .int .i64 0, .int .i64 0, .int .i64 0, .int .i64 0] 179)) := (Below.refl _ _).alloc (Nat.le_refl _) _
  by_cases h7 : n = 7
  · subst h7
    obtain ⟨x0, x1, x2, x3, x4, x5, x6, hl⟩ := seven_of hn
    have hS0 : (w.alloc (.cells #[.int .i64 0, .int .i64 0, .int .i64 0, .int .i64 0, .int .i64 0] 179)).heap.size = w.heap.size + 1 := by simp
    have z0 := (At.new w 179 #[.int .i64 0, .int .i64 0, .int .i64 0, .int .i64 0, .int .i64 0]).alloc (.cells #[.int .u8 0, .int .u8 0, .int .u8 0, .int .u8 0, .int .u8 0, .int .u8 0, .int .u8 0] 177)
    have p0 := At.new (w.alloc (.cells #[.int .i64 0, .int .i64 0, .int .i64 0, .int .i64 0, .int .i64 0] 179)) 177 #[.int .u8 0, .int .u8 0, .int .u8 0, .int .u8 0, .int .u8 0, .int .u8 0, .int .u8 0]
    rw [hS0] at p0
    have hB1 := hB0.alloc hB0.size (.cells #[.int .u8 0, .int .u8 0, .int .u8 0, .int .u8 0, .int .u8 0, .int .u8 0, .int .u8 0] 177)
    obtain ⟨g, o, rfl, hg, _⟩ := ha (by rw [hl]; simp)
    have hsrc := Rd.src (ha.lift hB1)
    obtain ⟨u0, u1, u2, u3, hu⟩ : ∃ u0 u1 u2 u3, unpM l = (u0, u1, u2, u3) := ⟨_, _, _, _, rfl⟩
    have e7 : (((7 : Nat) : Int) != 7) = false := by decide
    have hsl := slAll (w.heap.size + 1)
    have hun := fun W (h : Flds W) => unpackSample x0 x1 x2 x3 x4 x5 x6 W h
    rw [← hl, hu] at hun
    have hcs : (eB.row l).length = 7 := by rw [okB.row_len, hn]; rfl
    have Hsp := Lib.hid (show (splice [.int .u8 0, .int .u8 0, .int .u8 0, .int .u8 0, .int .u8 0, .int .u8 0, .int .u8 0] 0 (eB.row l)).toArray = #[.int .u8 (x0.toNat : Int), .int .u8 (x1.toNat : Int), .int .u8 (x2.toNat : Int), .int .u8 (x3.toNat : Int), .int .u8 (x4.toNat : Int), .int .u8 (x5.toNat : Int), .int .u8 (x6.toNat : Int)] by rw [hl]; rfl)
    rcases faultM_or (u0, u1, u2, u3) with hf | hf
    all_goals
      have hq := implSampleFault u0 u1 u2 u3
      rw [hf] at hq
      first | rw [decodeM_yes hn hu hf] | rw [decodeM_no hn hu hf]
      clear hf hu hn hl ha
      go_enter Tryz.func131, Tryz.ntmps131
      go_wp2_with (refine wpList_copy_splice rfl (.tmp 9) (.tmp 10) 22 22 rfl 5 Tryz.underlying22 u8_size _ _ _ _ _ _ rfl rfl (w.heap.size + 1) 0 [.int .u8 0, .int .u8 0, .int .u8 0, .int .u8 0, .int .u8 0, .int .u8 0, .int .u8 0] 177 p0 (eB.row l) (by rw [hcs]; rfl) (fun _ => ⟨rfl, _, rfl, hsrc⟩) (by rw [hcs]; decide) (okB.row_one _) (w.heap.size + 1) _ (Below.refl _ _) (Nat.le_refl _) ?_
                   intro w5 hP5 hB5
                   have P5 : At w5 (w.heap.size + 1) 177 #[.int .u8 (x0.toNat : Int), .int .u8 (x1.toNat : Int), .int .u8 (x2.toNat : Int), .int .u8 (x3.toNat : Int), .int .u8 (x4.toNat : Int), .int .u8 (x5.toNat : Int), .int .u8 (x6.toNat : Int)] := by rw [← Hsp.out]; exact hP5.out
                   have R5 := z0.below hB5 (Nat.lt_succ_self _)
                   have hBw := hB1.trans (hB5.mono (Nat.le_succ _))
                   have q0 := P5.cell 0
                   have q1 := P5.cell 1
                   have q2 := P5.cell 2
                   have q3 := P5.cell 3
                   have q4 := P5.cell 4
                   have q5 := P5.cell 5
                   have q6 := P5.cell 6)
      refine (hun _ (hF.below hBw)).mono ?_
      rintro e w6 ⟨rfl, hb6⟩
      clear q0 q1 q2 q3 q4 q5 q6
      have hB6 := hBw.trans (hb6.mono hBw.size)
      have R6 := (R5.below hb6 R5.lt).alloc (.cells #[.int .i64 u0, .int .i64 u1, .int .i64 u2, .int .i64 u3] 25)
      have x6' := At.new w6 25 #[.int .i64 u0, .int .i64 u1, .int .i64 u2, .int .i64 u3]
      have hB7 := hB6.alloc hB6.size (.cells #[.int .i64 u0, .int .i64 u1, .int .i64 u2, .int .i64 u3] 25)
      go_wp2_with fail
      refine (hq _ (hF.below hB7)).mono ?_
      rintro e w8 ⟨rfl, hb8⟩
      have hB8 := hB7.trans (hb8.mono hB7.size)
      have R8 := R6.below hb8 R6.lt
      have x8 := x6'.below hb8 x6'.lt
      obtain ⟨r0, r1, r2, r3, r4, f0, f1, f2, f3, f4⟩ := R8.five
      obtain ⟨d0, d1, d2, d3, _, _, _, _⟩ := x8.four
      have hne : ¬ w.heap.size = w6.heap.size := by have := R5.lt; have := hb6.size; omega
      go_wp2_with fail
    · refine bodyPost_ret (v := .agg #[.int .i64 0, .int .i64 u0, .int .i64 u1, .int .i64 u2, .int .i64 u3]) (by simp [results, Tryz.results131, go_sem, r0, r1, r2, r3, r4]) rfl ?_
      exact ⟨rfl, ((((hB8.setCell (by simp) _).setCell (by simp) _).setCell (by simp) _).setCell (by simp) _).setCell (by simp) _⟩
    · refine bodyPost_ret (v := .agg #[.int .i64 5, .int .i64 0, .int .i64 0, .int .i64 0, .int .i64 0]) (by simp [results, Tryz.results131, go_sem, r0, r1, r2, r3, r4]) rfl ?_
      exact ⟨rfl, ((((hB8.setCell (by simp) _).setCell (by simp) _).setCell (by simp) _).setCell (by simp) _).setCell (by simp) _⟩
  · have hne : ((n : Int) != 7) = true := by rw [bne_iff_ne]; omega
    rw [decodeM_len (by omega)]
    clear hn ha
    go_enter Tryz.func131, Tryz.ntmps131
    go_wp2
    refine bodyPost_ret (v := .agg #[.int .i64 2, .int .i64 0, .int .i64 0, .int .i64 0, .int .i64 0]) (by simp [results, Tryz.results131, go_sem]) rfl ?_
    exact ⟨rfl, by repeat (first | exact Below.refl _ _ | refine Below.setCell ?_ (Nat.le_refl _) _ | refine Below.alloc ?_ (Nat.le_refl _) _)⟩
end Go.Proofs.YtmaillakhhdkfaaGreatDoor
/-
  What the law of samples says, of the pure answers.
-/
namespace Go.Proofs.YtmaillakhhdkfaaGreatDoor
set_option maxRecDepth 20000
open Go.RowKit

theorem readAt_two {l : List UInt8} {p : Nat} {a b : UInt8} (ha : l[p]? = some a) (hb : l[p + 1]? = some b) : readAt l p 2 0 = a.toNat + 256 * b.toNat := by
  rw [readAt_step (l := l) (p := p) (s := 2) (j := 0) (by omega) (by simpa using ha), readAt_step (l := l) (p := p) (s := 2) (j := 1) (by omega) hb, readAt_end]
  omega

theorem byte_lo (a b : UInt8) : UInt8.ofNat (a.toNat + 256 * b.toNat) = a := by
  apply UInt8.toNat.inj
  rw [UInt8.toNat_ofNat']
  have := a.toNat_lt
  omega
theorem byte_hi (a b : UInt8) : UInt8.ofNat ((a.toNat + 256 * b.toNat) / 256) = b := by
  apply UInt8.toNat.inj
  rw [UInt8.toNat_ofNat']
  have := a.toNat_lt
  have := b.toNat_lt
  omega
theorem byte_self (a : UInt8) : UInt8.ofNat a.toNat = a := by
  apply UInt8.toNat.inj
  rw [UInt8.toNat_ofNat']
  have := a.toNat_lt
  omega

/-- What is read is what was written. -/
theorem decode_encode {l : List UInt8} (h : (decodeM l).1 = 0) : encodeM (decodeM l).2 = (0, l) := by
  by_cases h7 : l.length = 7
  · rcases faultM_or (unpM l) with hf | hf
    · rw [decodeM_yes h7 rfl hf]
      show encodeM (unpM l) = (0, l)
      unfold encodeM
      rw [if_pos hf]
      obtain ⟨x0, x1, x2, x3, x4, x5, x6, rfl⟩ := seven_of h7
      unfold unpM
      rw [read_one (x := x0) rfl, readAt_two (p := 1) (a := x1) (b := x2) rfl rfl, readAt_two (p := 3) (a := x3) (b := x4) rfl rfl, readAt_two (p := 5) (a := x5) (b := x6) rfl rfl]
      simp only [Int.toNat_natCast, Int.sub_add_cancel]
      rw [encL_eq, byte_self, byte_lo, byte_hi, byte_lo, byte_hi, byte_lo, byte_hi]
    · rw [decodeM_no h7 rfl hf] at h
      cases h
  · rw [decodeM_len h7] at h
    cases h

theorem small_two {n : Nat} (h : n ≤ 9999) : (UInt8.ofNat n).toNat + 256 * (UInt8.ofNat (n / 256)).toNat = n := by
  rw [UInt8.toNat_ofNat', UInt8.toNat_ofNat']
  omega
/-- What is written is read. -/
theorem encode_decode {x : Smp} (h : faultM x = 0) : (encodeM x).2.length = 7 ∧ decodeM (encodeM x).2 = (0, x) := by
  obtain ⟨a0, a1, a2, a3⟩ := x
  obtain ⟨n0, n1, n2, n3, rfl, rfl, rfl, rfl, k0, k1, k2, k3⟩ := faultM_nat h
  rw [encodeM_nat h]
  have hl : (encL n0 n1 n2 n3).length = 7 := by rw [encL_eq]; rfl
  refine ⟨hl, ?_⟩
  have hu : unpM (encL n0 n1 n2 n3) = ((n0 : Int), (n1 : Int), (n2 : Int), (n3 : Int) - 1000) := by
    rw [encL_eq]
    unfold unpM
    rw [read_one (x := UInt8.ofNat n0) rfl, readAt_two (p := 1) (a := UInt8.ofNat n1) (b := UInt8.ofNat (n1 / 256)) rfl rfl, readAt_two (p := 3) (a := UInt8.ofNat n2) (b := UInt8.ofNat (n2 / 256)) rfl rfl, readAt_two (p := 5) (a := UInt8.ofNat n3) (b := UInt8.ofNat (n3 / 256)) rfl rfl,
      small_two (by omega), small_two (by omega), small_two (by omega)]
    rw [show (UInt8.ofNat n0).toNat = n0 by rw [UInt8.toNat_ofNat']; omega]
  exact decodeM_yes hl hu h
end Go.Proofs.YtmaillakhhdkfaaGreatDoor
/-
  The bytes of a record and a record out of its bytes, of the pure answers.
-/
namespace Go.Proofs.YtmaillakhhdkfaaGreatDoor
set_option maxRecDepth 20000
open Go.RowKit
set_option linter.unusedSimpArgs false
set_option linter.unusedVariables false

/-- A right sample's bytes. -/
def encSb (x : Smp) : List UInt8 := encL x.1.toNat x.2.1.toNat x.2.2.1.toNat (x.2.2.2 + 1000).toNat
theorem encSb_len (x : Smp) : (encSb x).length = 7 := by unfold encSb; rw [encL_eq]; rfl
theorem encodeM_encSb {x : Smp} (h : faultM x = 0) : encodeM x = (0, encSb x) := by unfold encodeM; rw [if_pos h]; rfl
/-- A right record's bytes. -/
def encT (r : Rcd) : List UInt8 := if r.1 = 1 then encSb r.2.2.1 else if r.1 = 2 then UInt8.ofNat r.2.1.toNat :: encSb r.2.2.1 else if r.1 = 3 then UInt8.ofNat r.2.1.toNat :: packL r.2.2.2.toNat 2 else packL r.2.2.2.toNat 2
def encR (r : Rcd) : List UInt8 := UInt8.ofNat r.1.toNat :: encT r
/-- What EncodeRecord answers. -/
def encRecM (r : Rcd) : Int × List UInt8 := if recFaultM r = 0 then (0, encR r) else (recFaultM r, [])

/-- The record of some bytes, right or not; false: there are not as many. -/
def decR (l : List UInt8) : Rcd × Bool :=
  if (readM l 0 1).2 = 1 ∧ l.length = 8 then ((1, 0, unpM (l.drop 1), 0), decide (recFaultM (1, 0, unpM (l.drop 1), 0) = 0))
  else if (readM l 0 1).2 = 2 ∧ l.length = 9 then ((2, (readM l 1 1).2, unpM (l.drop 2), 0), decide (recFaultM (2, (readM l 1 1).2, unpM (l.drop 2), 0) = 0))
  else if (readM l 0 1).2 = 3 ∧ l.length = 4 then ((3, (readM l 1 1).2, (0, 0, 0, 0), (readM l 2 2).2), decide (recFaultM (3, (readM l 1 1).2, (0, 0, 0, 0), (readM l 2 2).2) = 0))
  else if (readM l 0 1).2 = 4 ∧ l.length = 3 then ((4, 0, (0, 0, 0, 0), (readM l 1 2).2), decide (recFaultM (4, 0, (0, 0, 0, 0), (readM l 1 2).2) = 0))
  else (zeroR, false)
/-- What DecodeRecord answers. -/
def decodeRecM (l : List UInt8) : Int × Rcd := if (decR l).2 = true then (0, (decR l).1) else (5, zeroR)
/-- The record that is read from whatever there is. -/
def unpR (l : List UInt8) : Rcd :=
  if (readM l 0 1).2 = 1 then (1, 0, (decodeM (l.drop 1)).2, 0)
  else if (readM l 0 1).2 = 2 then (2, (readM l 1 1).2, (decodeM (l.drop 2)).2, 0)
  else if (readM l 0 1).2 = 3 then (3, (readM l 1 1).2, (0, 0, 0, 0), (readM l 2 2).2)
  else if (readM l 0 1).2 = 4 then (4, 0, (0, 0, 0, 0), (readM l 1 2).2)
  else ((readM l 0 1).2, 0, (0, 0, 0, 0), 0)

theorem rec1 (x : Smp) : recFaultM (1, 0, x, 0) = faultM x := by
  have : recFormM (1, 0, x, 0) = true := by unfold recFormM formM; simp
  rw [recFault_range this]; unfold rrangeM; rw [if_pos (by unfold mostM inB; simp)]
theorem rec2 (p : Int) (x : Smp) : recFaultM (2, p, x, 0) = if inB (p, 0, 3) = true then faultM x else 3 := by
  have : recFormM (2, p, x, 0) = true := by unfold recFormM formM; simp
  rw [recFault_range this]; unfold rrangeM mostM
  have h0 : inB ((0 : Int), 0, 9999) = true := by decide
  simp only [show ¬ ((2 : Int) = 4) by decide, if_false, h0, Bool.and_true]
theorem zero_right : faultM (0, 0, 0, 0) = 0 := by decide
theorem rec3 (p k : Int) : recFaultM (3, p, (0, 0, 0, 0), k) = if (inB (p, 0, 3) && inB (k, 0, 9999)) = true then 0 else 3 := by
  have : recFormM (3, p, (0, 0, 0, 0), k) = true := by unfold recFormM formM; simp
  rw [recFault_range this]; unfold rrangeM mostM
  simp only [show ¬ ((3 : Int) = 4) by decide, if_false, zero_right]
theorem rec4 (k : Int) : recFaultM (4, 0, (0, 0, 0, 0), k) = if inB (k, 0, 60000) = true then 0 else 3 := by
  have : recFormM (4, 0, (0, 0, 0, 0), k) = true := by unfold recFormM formM; simp
  rw [recFault_range this]; unfold rrangeM mostM
  have h0 : inB ((0 : Int), 0, 3) = true := by decide
  simp only [if_true, zero_right, h0, Bool.true_and]
theorem rec_other {k : Int} (h1 : k ≠ 1) (h2 : k ≠ 2) (h3 : k ≠ 3) (h4 : k ≠ 4) (r : Int × Smp × Int) : recFaultM (k, r) = 1 := recFault_form (by unfold recFormM; rw [if_neg h1, if_neg h2, if_neg h3, if_neg h4])

theorem decode_bad {l : List UInt8} (h : (decodeM l).1 ≠ 0) : (decodeM l).2 = (0, 0, 0, 0) ∧ encSb (decodeM l).2 ≠ l := by
  by_cases h7 : l.length = 7
  · rcases faultM_or (unpM l) with hf | hf
    · rw [decodeM_yes h7 rfl hf] at h; exact absurd rfl h
    · rw [decodeM_no h7 rfl hf]
      refine ⟨rfl, fun e => ?_⟩
      have := encode_decode (x := (0, 0, 0, 0)) zero_right
      rw [encodeM_encSb zero_right] at this
      have h2 := this.2
      rw [show encSb (0, 0, 0, 0) = l from e, decodeM_no h7 rfl hf] at h2
      cases h2
  · rw [decodeM_len h7]
    exact ⟨rfl, fun e => h7 (by rw [← e]; exact encSb_len _)⟩
theorem decode_good {l : List UInt8} (h : (decodeM l).1 = 0) : l.length = 7 ∧ (decodeM l).2 = unpM l ∧ faultM (unpM l) = 0 ∧ encSb (unpM l) = l := by
  have h1 := decode_encode h
  by_cases h7 : l.length = 7
  · rcases faultM_or (unpM l) with hf | hf
    · rw [decodeM_yes h7 rfl hf] at h1
      refine ⟨h7, by rw [decodeM_yes h7 rfl hf], hf, ?_⟩
      rw [encodeM_encSb hf] at h1
      exact (Prod.mk.inj h1).2
    · rw [decodeM_no h7 rfl hf] at h; cases h
  · rw [decodeM_len h7] at h; cases h
theorem unp_bad {l : List UInt8} (h : (decodeM l).1 ≠ 0) (h7 : l.length = 7) : faultM (unpM l) = 3 := by
  rcases faultM_or (unpM l) with hf | hf
  · rw [decodeM_yes h7 rfl hf] at h; exact absurd rfl h
  · exact hf
theorem byte_of (b : UInt8) : UInt8.ofNat ((b.toNat : Int)).toNat = b := by rw [Int.toNat_natCast]; exact byte_self b
theorem read1 {l : List UInt8} {p : Nat} {b : UInt8} (h : l[p]? = some b) : (readM l p 1).2 = (b.toNat : Int) := by
  have hl := getElem?_some_lt h
  rw [show (1 : Int) = ((1 : Nat) : Int) from rfl, readM_nat ⟨by omega, by omega, by omega⟩]
  rw [readAt_step (l := l) (p := p) (s := 1) (j := 0) (by omega) (by simpa using h), readAt_end]
  simp
theorem read2 {l : List UInt8} {p : Nat} {a b : UInt8} (ha : l[p]? = some a) (hb : l[p + 1]? = some b) : (readM l p 2).2 = ((a.toNat + 256 * b.toNat : Nat) : Int) := by
  have hl := getElem?_some_lt hb
  rw [show (2 : Int) = ((2 : Nat) : Int) from rfl, readM_nat ⟨by omega, by omega, by omega⟩]
  rw [readAt_two ha hb]
theorem pack_two (a b : UInt8) : packL (((a.toNat + 256 * b.toNat : Nat) : Int)).toNat 2 = [a, b] := by
  rw [Int.toNat_natCast, pack2, byte_lo, byte_hi]
theorem read0_nil : (readM [] 0 1).2 = 0 := by decide

theorem dec_of {l : List UInt8} {r : Rcd} {b : Bool} (h : decR l = (r, b)) : decodeRecM l = if b = true then (0, r) else (5, zeroR) := by unfold decodeRecM; rw [h]
theorem dec_no {l : List UInt8} {r : Rcd} (h : decR l = (r, false)) : decodeRecM l = (5, zeroR) := dec_of h
theorem dec_yes {l : List UInt8} {r : Rcd} (h : decR l = (r, true)) : decodeRecM l = (0, r) := dec_of h
theorem ne12 : ¬ (1 : Int) = 2 := by decide
theorem ne13 : ¬ (1 : Int) = 3 := by decide
theorem ne14 : ¬ (1 : Int) = 4 := by decide
theorem ne21 : ¬ (2 : Int) = 1 := by decide
theorem ne23 : ¬ (2 : Int) = 3 := by decide
theorem ne24 : ¬ (2 : Int) = 4 := by decide
theorem ne31 : ¬ (3 : Int) = 1 := by decide
theorem ne32 : ¬ (3 : Int) = 2 := by decide
theorem ne34 : ¬ (3 : Int) = 4 := by decide
theorem ne41 : ¬ (4 : Int) = 1 := by decide
theorem ne42 : ¬ (4 : Int) = 2 := by decide
theorem ne43 : ¬ (4 : Int) = 3 := by decide
section
variable {l : List UInt8}
theorem decR_1 (k : (readM l 0 1).2 = 1) (h : l.length = 8) : decR l = ((1, 0, unpM (l.drop 1), 0), decide (recFaultM (1, 0, unpM (l.drop 1), 0) = 0)) := by unfold decR; rw [if_pos ⟨k, h⟩]
theorem decR_1n (k : (readM l 0 1).2 = 1) (h : ¬ l.length = 8) : decR l = (zeroR, false) := by unfold decR; rw [k, if_neg (fun q => h q.2), if_neg (fun q => ne12 q.1), if_neg (fun q => ne13 q.1), if_neg (fun q => ne14 q.1)]
theorem decR_2 (k : (readM l 0 1).2 = 2) (h : l.length = 9) : decR l = ((2, (readM l 1 1).2, unpM (l.drop 2), 0), decide (recFaultM (2, (readM l 1 1).2, unpM (l.drop 2), 0) = 0)) := by unfold decR; rw [k, if_neg (fun q => ne21 q.1), if_pos ⟨rfl, h⟩]
theorem decR_2n (k : (readM l 0 1).2 = 2) (h : ¬ l.length = 9) : decR l = (zeroR, false) := by unfold decR; rw [k, if_neg (fun q => ne21 q.1), if_neg (fun q => h q.2), if_neg (fun q => ne23 q.1), if_neg (fun q => ne24 q.1)]
theorem decR_3 (k : (readM l 0 1).2 = 3) (h : l.length = 4) : decR l = ((3, (readM l 1 1).2, (0, 0, 0, 0), (readM l 2 2).2), decide (recFaultM (3, (readM l 1 1).2, (0, 0, 0, 0), (readM l 2 2).2) = 0)) := by unfold decR; rw [k, if_neg (fun q => ne31 q.1), if_neg (fun q => ne32 q.1), if_pos ⟨rfl, h⟩]
theorem decR_3n (k : (readM l 0 1).2 = 3) (h : ¬ l.length = 4) : decR l = (zeroR, false) := by unfold decR; rw [k, if_neg (fun q => ne31 q.1), if_neg (fun q => ne32 q.1), if_neg (fun q => h q.2), if_neg (fun q => ne34 q.1)]
theorem decR_4 (k : (readM l 0 1).2 = 4) (h : l.length = 3) : decR l = ((4, 0, (0, 0, 0, 0), (readM l 1 2).2), decide (recFaultM (4, 0, (0, 0, 0, 0), (readM l 1 2).2) = 0)) := by unfold decR; rw [k, if_neg (fun q => ne41 q.1), if_neg (fun q => ne42 q.1), if_neg (fun q => ne43 q.1), if_pos ⟨rfl, h⟩]
theorem decR_4n (k : (readM l 0 1).2 = 4) (h : ¬ l.length = 3) : decR l = (zeroR, false) := by unfold decR; rw [k, if_neg (fun q => ne41 q.1), if_neg (fun q => ne42 q.1), if_neg (fun q => ne43 q.1), if_neg (fun q => h q.2)]
theorem decR_o (k1 : ¬ (readM l 0 1).2 = 1) (k2 : ¬ (readM l 0 1).2 = 2) (k3 : ¬ (readM l 0 1).2 = 3) (k4 : ¬ (readM l 0 1).2 = 4) : decR l = (zeroR, false) := by unfold decR; rw [if_neg (fun q => k1 q.1), if_neg (fun q => k2 q.1), if_neg (fun q => k3 q.1), if_neg (fun q => k4 q.1)]
theorem unpR_1 (k : (readM l 0 1).2 = 1) : unpR l = (1, 0, (decodeM (l.drop 1)).2, 0) := by unfold unpR; rw [if_pos k]
theorem unpR_2 (k : (readM l 0 1).2 = 2) : unpR l = (2, (readM l 1 1).2, (decodeM (l.drop 2)).2, 0) := by unfold unpR; rw [k, if_neg ne21, if_pos rfl]
theorem unpR_3 (k : (readM l 0 1).2 = 3) : unpR l = (3, (readM l 1 1).2, (0, 0, 0, 0), (readM l 2 2).2) := by unfold unpR; rw [k, if_neg ne31, if_neg ne32, if_pos rfl]
theorem unpR_4 (k : (readM l 0 1).2 = 4) : unpR l = (4, 0, (0, 0, 0, 0), (readM l 1 2).2) := by unfold unpR; rw [k, if_neg ne41, if_neg ne42, if_neg ne43, if_pos rfl]
theorem unpR_o (k1 : ¬ (readM l 0 1).2 = 1) (k2 : ¬ (readM l 0 1).2 = 2) (k3 : ¬ (readM l 0 1).2 = 3) (k4 : ¬ (readM l 0 1).2 = 4) : unpR l = ((readM l 0 1).2, 0, (0, 0, 0, 0), 0) := by unfold unpR; rw [if_neg k1, if_neg k2, if_neg k3, if_neg k4]
end
theorem encR_1 (p : Int) (y : Smp) (k : Int) : encR (1, p, y, k) = 1 :: encSb y := by unfold encR encT; rw [if_pos rfl]; rfl
theorem encR_2 (p : Int) (y : Smp) (k : Int) : encR (2, p, y, k) = 2 :: UInt8.ofNat p.toNat :: encSb y := by unfold encR encT; rw [if_neg ne21, if_pos rfl]; rfl
theorem encR_3 (p : Int) (y : Smp) (k : Int) : encR (3, p, y, k) = 3 :: UInt8.ofNat p.toNat :: packL k.toNat 2 := by unfold encR encT; rw [if_neg ne31, if_neg ne32, if_pos rfl]; rfl
theorem encR_4 (p : Int) (y : Smp) (k : Int) : encR (4, p, y, k) = 4 :: packL k.toNat 2 := by unfold encR encT; rw [if_neg ne41, if_neg ne42, if_neg ne43]; rfl
theorem byte_is {x : UInt8} {k : Nat} (h : (x.toNat : Int) = (k : Int)) (hk : k < 256) : x = UInt8.ofNat k := by
  apply UInt8.toNat.inj
  rw [UInt8.toNat_ofNat']
  omega

/-- The program's way: what is read from whatever there is, held against its own bytes. -/
theorem dec_or (l : List UInt8) : (decodeRecM l = (0, unpR l) ∧ recFaultM (unpR l) = 0 ∧ encR (unpR l) = l) ∨ (decodeRecM l = (5, zeroR) ∧ ¬ (recFaultM (unpR l) = 0 ∧ encR (unpR l) = l)) := by
  rcases l with _ | ⟨x, m⟩
  · have a1 : ¬ (readM [] 0 1).2 = 1 := by rw [read0_nil]; decide
    have a2 : ¬ (readM [] 0 1).2 = 2 := by rw [read0_nil]; decide
    have a3 : ¬ (readM [] 0 1).2 = 3 := by rw [read0_nil]; decide
    have a4 : ¬ (readM [] 0 1).2 = 4 := by rw [read0_nil]; decide
    refine .inr ⟨dec_no (decR_o a1 a2 a3 a4), ?_⟩
    rw [unpR_o a1 a2 a3 a4]
    exact fun h => absurd h.1 (by rw [rec_other a1 a2 a3 a4]; decide)
  have hk : (readM (x :: m) 0 1).2 = (x.toNat : Int) := read1 (p := 0) rfl
  by_cases k1 : (readM (x :: m) 0 1).2 = 1
  · have hx : x = 1 := byte_is (k := 1) (by rw [← hk, k1]; rfl) (by omega)
    rw [unpR_1 k1, encR_1, rec1, show (x :: m).drop 1 = m from rfl, hx]
    by_cases h0 : (decodeM m).1 = 0
    · obtain ⟨h7, hd, hf, he⟩ := decode_good h0
      refine .inl ⟨?_, by rw [hd]; exact hf, by rw [hd, he]⟩
      rw [← hx, dec_yes (r := (1, 0, unpM m, 0)) (by rw [decR_1 k1 (by simp [h7]), show (x :: m).drop 1 = m from rfl, rec1, hf]; rfl), hd]
    · obtain ⟨hd, he⟩ := decode_bad h0
      refine .inr ⟨?_, fun h => he (List.cons.inj h.2).2⟩
      rw [← hx]
      by_cases h7 : (x :: m).length = 8
      · have hu := unp_bad h0 (by simpa using h7)
        exact dec_no (r := (1, 0, unpM m, 0)) (by rw [decR_1 k1 h7, show (x :: m).drop 1 = m from rfl, rec1, hu]; rfl)
      · exact dec_no (decR_1n k1 h7)
  by_cases k2 : (readM (x :: m) 0 1).2 = 2
  · have hx : x = 2 := byte_is (k := 2) (by rw [← hk, k2]; rfl) (by omega)
    rw [unpR_2 k2, encR_2, rec2]
    rcases m with _ | ⟨y, m⟩
    · refine .inr ⟨dec_no (decR_2n k2 (by simp)), ?_⟩
      rintro ⟨-, h⟩
      have := congrArg List.length h
      simp at this
    have hp : (readM (x :: y :: m) 1 1).2 = (y.toNat : Int) := read1 (p := 1) rfl
    rw [hp, byte_of, show (x :: y :: m).drop 2 = m from rfl]
    by_cases h0 : (decodeM m).1 = 0
    · obtain ⟨h7, hd, hf, he⟩ := decode_good h0
      rcases hb : inB ((y.toNat : Int), 0, 3)
      · refine .inr ⟨dec_no (r := (2, (y.toNat : Int), unpM m, 0)) ?_, fun h => absurd h.1 (by rw [if_neg (by simp)]; decide)⟩
        rw [decR_2 k2 (by simp [h7]), show (x :: y :: m).drop 2 = m from rfl, hp, rec2, hb]; rfl
      · refine .inl ⟨?_, by rw [if_pos rfl, hd]; exact hf, by rw [hd, he, hx]⟩
        rw [dec_yes (r := (2, (y.toNat : Int), unpM m, 0)) (by rw [decR_2 k2 (by simp [h7]), show (x :: y :: m).drop 2 = m from rfl, hp, rec2, hb, if_pos rfl, hf]; rfl), hd]
    · obtain ⟨hd, he⟩ := decode_bad h0
      refine .inr ⟨?_, fun h => he (List.cons.inj (List.cons.inj h.2).2).2⟩
      by_cases h7 : (x :: y :: m).length = 9
      · have hu := unp_bad h0 (by simpa using h7)
        refine dec_no (r := (2, (y.toNat : Int), unpM m, 0)) ?_
        rw [decR_2 k2 h7, show (x :: y :: m).drop 2 = m from rfl, hp, rec2, hu]
        rcases hb : inB ((y.toNat : Int), 0, 3) <;> rfl
      · exact dec_no (decR_2n k2 h7)
  by_cases k3 : (readM (x :: m) 0 1).2 = 3
  · have hx : x = 3 := byte_is (k := 3) (by rw [← hk, k3]; rfl) (by omega)
    rw [unpR_3 k3, encR_3]
    by_cases h4 : (x :: m).length = 4
    · obtain ⟨y, a, b, rfl⟩ : ∃ y a b, m = [y, a, b] := by
        rcases m with _ | ⟨y, _ | ⟨a, _ | ⟨b, _ | ⟨c, m⟩⟩⟩⟩ <;> simp at h4
        exact ⟨y, a, b, rfl⟩
      have hp : (readM [x, y, a, b] 1 1).2 = (y.toNat : Int) := read1 (p := 1) rfl
      have hq : (readM [x, y, a, b] 2 2).2 = ((a.toNat + 256 * b.toNat : Nat) : Int) := read2 (p := 2) rfl rfl
      have hD := decR_3 k3 h4
      rw [hp, hq] at hD
      rw [hp, hq, pack_two, byte_of]
      by_cases hb : recFaultM (3, (y.toNat : Int), (0, 0, 0, 0), ((a.toNat + 256 * b.toNat : Nat) : Int)) = 0
      · rw [decide_eq_true hb] at hD
        exact .inl ⟨dec_yes hD, hb, by rw [hx]⟩
      · rw [decide_eq_false hb] at hD
        exact .inr ⟨dec_no hD, fun h => hb h.1⟩
    · exact .inr ⟨dec_no (decR_3n k3 h4), fun h => h4 (by rw [← h.2]; simp [packL_len])⟩
  by_cases k4 : (readM (x :: m) 0 1).2 = 4
  · have hx : x = 4 := byte_is (k := 4) (by rw [← hk, k4]; rfl) (by omega)
    rw [unpR_4 k4, encR_4]
    by_cases h4 : (x :: m).length = 3
    · obtain ⟨a, b, rfl⟩ : ∃ a b, m = [a, b] := by
        rcases m with _ | ⟨a, _ | ⟨b, _ | ⟨c, m⟩⟩⟩ <;> simp at h4
        exact ⟨a, b, rfl⟩
      have hq : (readM [x, a, b] 1 2).2 = ((a.toNat + 256 * b.toNat : Nat) : Int) := read2 (p := 1) rfl rfl
      have hD := decR_4 k4 h4
      rw [hq] at hD
      rw [hq, pack_two]
      by_cases hb : recFaultM (4, 0, (0, 0, 0, 0), ((a.toNat + 256 * b.toNat : Nat) : Int)) = 0
      · rw [decide_eq_true hb] at hD
        exact .inl ⟨dec_yes hD, hb, by rw [hx]⟩
      · rw [decide_eq_false hb] at hD
        exact .inr ⟨dec_no hD, fun h => hb h.1⟩
    · exact .inr ⟨dec_no (decR_4n k4 h4), fun h => h4 (by rw [← h.2]; simp [packL_len])⟩
  · rw [unpR_o k1 k2 k3 k4]
    exact .inr ⟨dec_no (decR_o k1 k2 k3 k4), fun h => absurd h.1 (by rw [rec_other k1 k2 k3 k4]; decide)⟩
end Go.Proofs.YtmaillakhhdkfaaGreatDoor
/-
  A record's bytes: the model's.
-/
namespace Go.Proofs.YtmaillakhhdkfaaGreatDoor
set_option maxRecDepth 20000
open Go.RowKit
set_option linter.unusedSimpArgs false
set_option linter.unusedVariables false
attribute [local irreducible] mixW

theorem ow_oneR (w : World) (b : UInt8) (v : Int) (hv : v = (b.toNat : Int)) : Ow eB (w.alloc (.cells #[.int .u8 v] 5)) w.heap.size (some ⟨w.heap.size, 0, none⟩) 1 1 [b] :=
  Ow.lit w [b] _ 1 (Nat.le_refl _) (by unfold maxLen; omega) (by simp [Enc.row, eB, hv]) rfl
/-- A record with no fault: its numbers. -/
theorem rec_nat {a0 a1 a2 a3 a4 a5 a6 : Int} (h : recFaultM (a0, a1, (a2, a3, a4, a5), a6) = 0) : (∃ n0 n1 n2 n3 : Nat, a2 = n0 ∧ a3 = n1 ∧ a4 = n2 ∧ a5 = (n3 : Int) - 1000 ∧ n0 ≤ 9 ∧ n1 ≤ 999 ∧ n2 ≤ 9999 ∧ n3 ≤ 2000) ∧ (∃ p : Nat, a1 = p ∧ p ≤ 3) ∧ (∃ k : Nat, a6 = k ∧ k ≤ 60000 ∧ (a0 ≠ 4 → k ≤ 9999)) ∧ (a0 = 1 ∨ a0 = 2 ∨ a0 = 3 ∨ a0 = 4) ∧ recFormM (a0, a1, (a2, a3, a4, a5), a6) = true ∧ faultM (a2, a3, a4, a5) = 0 := by
  have hf : recFormM (a0, a1, (a2, a3, a4, a5), a6) = true := by
    rcases hf : recFormM (a0, a1, (a2, a3, a4, a5), a6)
    · rw [recFault_form hf] at h; cases h
    · rfl
  have h1 := h
  rw [recFault_range hf] at h1
  unfold rrangeM at h1
  rcases hb : (inB (a1, 0, 3) && inB (a6, 0, mostM (a0, a1, (a2, a3, a4, a5), a6)))
  · simp only [hb] at h1; cases h1
  · simp only [hb, if_true] at h1
    have hb2 : (0 ≤ a1 ∧ a1 ≤ 3) ∧ (0 ≤ a6 ∧ a6 ≤ mostM (a0, a1, (a2, a3, a4, a5), a6)) := by simpa [inB] using hb
    have hm : mostM (a0, a1, (a2, a3, a4, a5), a6) ≤ 60000 ∧ (a0 ≠ 4 → mostM (a0, a1, (a2, a3, a4, a5), a6) ≤ 9999) := by
      unfold mostM
      by_cases h4 : a0 = 4
      · rw [if_pos h4]; exact ⟨by omega, fun q => absurd h4 q⟩
      · rw [if_neg h4]; exact ⟨by omega, fun _ => by omega⟩
    have hk : a0 = 1 ∨ a0 = 2 ∨ a0 = 3 ∨ a0 = 4 := by
      by_cases k1 : a0 = 1
      · exact .inl k1
      by_cases k2 : a0 = 2
      · exact .inr (.inl k2)
      by_cases k3 : a0 = 3
      · exact .inr (.inr (.inl k3))
      by_cases k4 : a0 = 4
      · exact .inr (.inr (.inr k4))
      · unfold recFormM at hf; rw [if_neg k1, if_neg k2, if_neg k3, if_neg k4] at hf; cases hf
    refine ⟨faultM_nat h1, ⟨a1.toNat, by omega, by omega⟩, ⟨a6.toNat, by omega, by omega, fun q => by have := hm.2 q; omega⟩, hk, hf, h1⟩
theorem encSb_nat (n0 n1 n2 n3 : Nat) : encSb ((n0 : Int), (n1 : Int), (n2 : Int), (n3 : Int) - 1000) = encL n0 n1 n2 n3 := by
  unfold encSb
  simp only [Int.toNat_natCast, Int.sub_add_cancel]
theorem packL_is (k s : Nat) : packL ((k : Int)).toNat s = packL k s := by rw [Int.toNat_natCast]

set_option maxHeartbeats 4000000 in
theorem l5Encode (g : Nat) (a0 a1 a2 a3 a4 a5 a6 : Int) (w : World) (hx : At w g 27 #[.int .i64 a0, .int .i64 a1, .int .i64 a2, .int .i64 a3, .int .i64 a4, .int .i64 a5, .int .i64 a6]) (h : recFaultM (a0, a1, (a2, a3, a4, a5), a6) = 0) :
    Calls Tryz.prog 40 #[.pointer (some ⟨g, 0, none⟩)] w fun e w' => ∃ A n c, e = .returned (.slice A n c) ∧ Ow eB w' w.heap.size A n c (encR (a0, a1, (a2, a3, a4, a5), a6)) ∧ Below w.heap.size w w' := by
  obtain ⟨⟨n0, n1, n2, n3, rfl, rfl, rfl, rfl, k0, k1, k2, k3⟩, ⟨p, rfl, kp⟩, ⟨k, rfl, kk, kk2⟩, hk, -, -⟩ := rec_nat h
  clear h
  have hg := hx.lt
  rcases hk with rfl | rfl | rfl | rfl
  · rw [encR_1, encSb_nat]
    have hx0 := hx.alloc (.cells #[.int .u8 1] 5)
    have hB0 : Below w.heap.size w (w.alloc (.cells #[.int .u8 1] 5)) := (Below.refl _ _).alloc (Nat.le_refl _) _
    have ob := ow_oneR w 1 1 rfl
    obtain ⟨c0, c1, c2, c3, c4, c5, c6⟩ := hx.seven
    obtain ⟨y0, y1, y2, y3, y4, y5, y6⟩ := hx0.seven
    go_enter Tryz.func40, Tryz.ntmps40
    go_wp2_with fail
    refine (l2EncodeR g n0 n1 n2 n3 1 p k _ hx0 k0 k1 k2 k3).mono ?_
    rintro e w2 ⟨A2, c2', rfl, o2, hb2⟩
    have hB2 := hB0.trans (hb2.mono hB0.size)
    have ob2 := ob.below hb2 (Nat.le_refl _)
    go_wp2_with (at_builtin; refine wpList_append_ow okB _ rfl (.tmp 16) (.tmp 20) _ rfl w.heap.size info_u8 Tryz.underlying22 rfl _ 1 1 [1] rfl ob2 A2 7 c2' _ (encL n0 n1 n2 n3) rfl (o2.rd okB) (o2.len okB) (by unfold maxLen; omega) (by omega) hB2.size ?_; intro A9 c9 w9 ow9 hg9 _)
    go_ret
    exact ⟨A9, _, c9, rfl, ow9, hB2.grown hg9 hB2.size (fun g hg => (ob2.lt g hg).1)⟩
  · rw [encR_2, encSb_nat]
    have hx0 := hx.alloc (.cells #[.int .u8 2] 5)
    have hB0 : Below w.heap.size w (w.alloc (.cells #[.int .u8 2] 5)) := (Below.refl _ _).alloc (Nat.le_refl _) _
    have ob := ow_oneR w 2 2 rfl
    obtain ⟨c0, c1, c2, c3, c4, c5, c6⟩ := hx.seven
    obtain ⟨y0, y1, y2, y3, y4, y5, y6⟩ := hx0.seven
    go_enter Tryz.func40, Tryz.ntmps40
    go_wp2
    refine wp_region_mix [(0, false), (1, false), (2, false), (3, false), (4, false), (5, false), (8, false), (9, false), (10, false), (6, true), (7, true), (11, true), (12, true), (13, false)] (fun u => At u g 27 #[.int .i64 2, .int .i64 p, .int .i64 n0, .int .i64 n1, .int .i64 n2, .int .i64 ((n3 : Int) - 1000), .int .i64 k]) (by kernel_rfl) (by kernel_rfl) (fun _ _ _ _ _ h => h) hx0.drew ?_
    simp only [mixOps, List.map_cons, List.map_nil, List.getElem?_cons_succ, List.getElem?_cons_zero, Option.getD_some]
    repeat (first
        | (refine mix_skip (by rfl) ?_
           (try simp only [Act.put, List.setIfInBounds_toArray, List.set_cons_zero, List.set_cons_succ]))
        | (refine mix_pure (v := ?_) (by rfl) (fun u hu => ?_) ?_
           rotate_left
           · obtain ⟨_, _, _, _, _, _, _⟩ := hu.seven
             go_simp
             (with_reducible rfl)
           (try simp only [Act.put, List.setIfInBounds_toArray, List.set_cons_zero, List.set_cons_succ])))
    have hB0 := hB0.drew
    have X0 : At (w.alloc (.cells #[.int .u8 2] 5)).drew g 27 #[.int .i64 2, .int .i64 p, .int .i64 n0, .int .i64 n1, .int .i64 n2, .int .i64 ((n3 : Int) - 1000), .int .i64 k] := hx0.drew
    have ob : Ow eB (w.alloc (.cells #[.int .u8 2] 5)).drew w.heap.size (some ⟨w.heap.size, 0, none⟩) 1 1 [2] := ob
    generalize (w.alloc (.cells #[.int .u8 2] 5)).drew = v0 at *
    refine mix_call (by rfl) (fun K hK => ?_)
    go_simp
    have X1 := X0.alloc (.cells #[.int .u8 (IntKind.u8.wrap (p : Int))] 5)
    have hB1 := hB0.alloc hB0.size (.cells #[.int .u8 (IntKind.u8.wrap (p : Int))] 5)
    have ob1 := ob.alloc (.cells #[.int .u8 (IntKind.u8.wrap (p : Int))] 5)
    have oc1 := (ow_oneR v0 (UInt8.ofNat p) (IntKind.u8.wrap (p : Int)) (by rw [byte_small1 (by omega)]; exact IntWalk.u8_in _ (by omega)))
    refine hK _ _ (fun u => At u g 27 #[.int .i64 2, .int .i64 p, .int .i64 n0, .int .i64 n1, .int .i64 n2, .int .i64 ((n3 : Int) - 1000), .int .i64 k]) (fun _ h => h) X1 ?_
    clear hK K
    (try simp only [Act.put, List.setIfInBounds_toArray, List.set_cons_zero, List.set_cons_succ])
    refine mix_call (by rfl) (fun K hK => ?_)
    refine wp_append_ow okB _ (.tmp 24) (.tmp 30) _ rfl w.heap.size info_u8 Tryz.underlying22 rfl _ 1 1 [2] rfl ob1 _ 1 1 _ [UInt8.ofNat p] rfl (oc1.rd okB) rfl (by unfold maxLen; omega) (by omega) hB1.size ?_
    intro A3 c3' w3 ow3 hg3 _
    have hB3 : Below w.heap.size w w3 := hB1.grown hg3 hB1.size (fun g hg => (ob1.lt g hg).1)
    have X3 := X1.grown hg3 (fun e => by have := (ob1.lt _ e).1; omega)
    refine hK _ _ (fun u => At u g 27 #[.int .i64 2, .int .i64 p, .int .i64 n0, .int .i64 n1, .int .i64 n2, .int .i64 ((n3 : Int) - 1000), .int .i64 k]) (fun _ h => h) X3 ?_
    clear hK K
    (try simp only [Act.put, List.setIfInBounds_toArray, List.set_cons_zero, List.set_cons_succ])
    refine mix_call (by rfl) (fun K hK => ?_)
    go_simp
    refine (l2EncodeR g n0 n1 n2 n3 2 p k _ X3 k0 k1 k2 k3).mono ?_
    rintro e w4 ⟨A4, c4', rfl, o4, hb4⟩
    have hB4 := hB3.trans (hb4.mono hB3.size)
    have X4 := X3.below hb4 X3.lt
    have ow4 := ow3.below hb4 (Nat.le_refl _)
    refine hK _ _ (fun u => At u g 27 #[.int .i64 2, .int .i64 p, .int .i64 n0, .int .i64 n1, .int .i64 n2, .int .i64 ((n3 : Int) - 1000), .int .i64 k]) (fun _ h => h) X4 ?_
    clear hK K
    (try simp only [Act.put, List.setIfInBounds_toArray, List.set_cons_zero, List.set_cons_succ])
    refine mix_call (by rfl) (fun K hK => ?_)
    refine wp_append_ow okB _ (.tmp 31) (.tmp 35) _ rfl w.heap.size info_u8 Tryz.underlying22 rfl A3 (1 + 1) c3' ([2] ++ [UInt8.ofNat p]) rfl ow4 A4 7 c4' _ (encL n0 n1 n2 n3) rfl (o4.rd okB) (o4.len okB) (by unfold maxLen; omega) (by omega) hB4.size ?_
    intro A9 c9 w9 ow9 hg9 _
    have hB9 : Below w.heap.size w w9 := hB4.grown hg9 hB4.size (fun g hg => (ow4.lt g hg).1)
    have X9 := X4.grown hg9 (fun e => by have := (ow4.lt _ e).1; omega)
    refine hK _ _ (fun u => At u g 27 #[.int .i64 2, .int .i64 p, .int .i64 n0, .int .i64 n1, .int .i64 n2, .int .i64 ((n3 : Int) - 1000), .int .i64 k]) (fun _ h => h) X9 ?_
    clear hK K
    (try simp only [Act.put, List.setIfInBounds_toArray, List.set_cons_zero, List.set_cons_succ])
    refine mix_pure (v := ?_) (by rfl) (fun u hu => ?_) ?_
    rotate_left
    · go_simp
      (with_reducible rfl)
    (try simp only [Act.put, List.setIfInBounds_toArray, List.set_cons_zero, List.set_cons_succ])
    refine mix_nil ?_
    go_wp2
    go_ret
    exact ⟨A9, _, c9, rfl, ow9, hB9⟩
  · rw [encR_3, packL_is]
    have hx0 := hx.alloc (.cells #[.int .u8 3] 5)
    have hB0 : Below w.heap.size w (w.alloc (.cells #[.int .u8 3] 5)) := (Below.refl _ _).alloc (Nat.le_refl _) _
    have ob := ow_oneR w 3 3 rfl
    obtain ⟨c0, c1, c2, c3, c4, c5, c6⟩ := hx.seven
    obtain ⟨y0, y1, y2, y3, y4, y5, y6⟩ := hx0.seven
    go_enter Tryz.func40, Tryz.ntmps40
    go_wp2
    refine wp_region_mix [(0, false), (1, false), (2, false), (3, false), (4, false), (5, false), (8, false), (9, false), (10, false), (11, false), (6, true), (7, true), (12, true), (13, true), (14, false)] (fun u => At u g 27 #[.int .i64 3, .int .i64 p, .int .i64 n0, .int .i64 n1, .int .i64 n2, .int .i64 ((n3 : Int) - 1000), .int .i64 k]) (by kernel_rfl) (by kernel_rfl) (fun _ _ _ _ _ h => h) hx0.drew ?_
    simp only [mixOps, List.map_cons, List.map_nil, List.getElem?_cons_succ, List.getElem?_cons_zero, Option.getD_some]
    repeat (first
        | (refine mix_skip (by rfl) ?_
           (try simp only [Act.put, List.setIfInBounds_toArray, List.set_cons_zero, List.set_cons_succ]))
        | (refine mix_pure (v := ?_) (by rfl) (fun u hu => ?_) ?_
           rotate_left
           · obtain ⟨_, _, _, _, _, _, _⟩ := hu.seven
             go_simp
             (with_reducible rfl)
           (try simp only [Act.put, List.setIfInBounds_toArray, List.set_cons_zero, List.set_cons_succ])))
    have hB0 := hB0.drew
    have X0 : At (w.alloc (.cells #[.int .u8 3] 5)).drew g 27 #[.int .i64 3, .int .i64 p, .int .i64 n0, .int .i64 n1, .int .i64 n2, .int .i64 ((n3 : Int) - 1000), .int .i64 k] := hx0.drew
    have ob : Ow eB (w.alloc (.cells #[.int .u8 3] 5)).drew w.heap.size (some ⟨w.heap.size, 0, none⟩) 1 1 [3] := ob
    generalize (w.alloc (.cells #[.int .u8 3] 5)).drew = v0 at *
    refine mix_call (by rfl) (fun K hK => ?_)
    go_simp
    have X1 := X0.alloc (.cells #[.int .u8 (IntKind.u8.wrap (p : Int))] 5)
    have hB1 := hB0.alloc hB0.size (.cells #[.int .u8 (IntKind.u8.wrap (p : Int))] 5)
    have ob1 := ob.alloc (.cells #[.int .u8 (IntKind.u8.wrap (p : Int))] 5)
    have oc1 := (ow_oneR v0 (UInt8.ofNat p) (IntKind.u8.wrap (p : Int)) (by rw [byte_small1 (by omega)]; exact IntWalk.u8_in _ (by omega)))
    refine hK _ _ (fun u => At u g 27 #[.int .i64 3, .int .i64 p, .int .i64 n0, .int .i64 n1, .int .i64 n2, .int .i64 ((n3 : Int) - 1000), .int .i64 k]) (fun _ h => h) X1 ?_
    clear hK K
    (try simp only [Act.put, List.setIfInBounds_toArray, List.set_cons_zero, List.set_cons_succ])
    refine mix_call (by rfl) (fun K hK => ?_)
    refine wp_append_ow okB _ (.tmp 39) (.tmp 45) _ rfl w.heap.size info_u8 Tryz.underlying22 rfl _ 1 1 [3] rfl ob1 _ 1 1 _ [UInt8.ofNat p] rfl (oc1.rd okB) rfl (by unfold maxLen; omega) (by omega) hB1.size ?_
    intro A3 c3' w3 ow3 hg3 _
    have hB3 : Below w.heap.size w w3 := hB1.grown hg3 hB1.size (fun g hg => (ob1.lt g hg).1)
    have X3 := X1.grown hg3 (fun e => by have := (ob1.lt _ e).1; omega)
    refine hK _ _ (fun u => At u g 27 #[.int .i64 3, .int .i64 p, .int .i64 n0, .int .i64 n1, .int .i64 n2, .int .i64 ((n3 : Int) - 1000), .int .i64 k]) (fun _ h => h) X3 ?_
    clear hK K
    (try simp only [Act.put, List.setIfInBounds_toArray, List.set_cons_zero, List.set_cons_succ])
    refine mix_call (by rfl) (fun K hK => ?_)
    go_simp
    refine (l1Pack k 2 _ (by omega) (by omega)).mono ?_
    rintro e w4 ⟨A4, c4', rfl, o4, hb4⟩
    have hB4 := hB3.trans (hb4.mono hB3.size)
    have X4 := X3.below hb4 X3.lt
    have ow4 := ow3.below hb4 (Nat.le_refl _)
    refine hK _ _ (fun u => At u g 27 #[.int .i64 3, .int .i64 p, .int .i64 n0, .int .i64 n1, .int .i64 n2, .int .i64 ((n3 : Int) - 1000), .int .i64 k]) (fun _ h => h) X4 ?_
    clear hK K
    (try simp only [Act.put, List.setIfInBounds_toArray, List.set_cons_zero, List.set_cons_succ])
    refine mix_call (by rfl) (fun K hK => ?_)
    refine wp_append_ow okB _ (.tmp 46) (.tmp 51) _ rfl w.heap.size info_u8 Tryz.underlying22 rfl A3 (1 + 1) c3' ([3] ++ [UInt8.ofNat p]) rfl ow4 A4 2 c4' _ (packL k 2) rfl (o4.rd okB) (packL_len _ _) (by unfold maxLen; omega) (by omega) hB4.size ?_
    intro A9 c9 w9 ow9 hg9 _
    have hB9 : Below w.heap.size w w9 := hB4.grown hg9 hB4.size (fun g hg => (ow4.lt g hg).1)
    have X9 := X4.grown hg9 (fun e => by have := (ow4.lt _ e).1; omega)
    refine hK _ _ (fun u => At u g 27 #[.int .i64 3, .int .i64 p, .int .i64 n0, .int .i64 n1, .int .i64 n2, .int .i64 ((n3 : Int) - 1000), .int .i64 k]) (fun _ h => h) X9 ?_
    clear hK K
    (try simp only [Act.put, List.setIfInBounds_toArray, List.set_cons_zero, List.set_cons_succ])
    refine mix_pure (v := ?_) (by rfl) (fun u hu => ?_) ?_
    rotate_left
    · go_simp
      (with_reducible rfl)
    (try simp only [Act.put, List.setIfInBounds_toArray, List.set_cons_zero, List.set_cons_succ])
    refine mix_nil ?_
    go_wp2
    go_ret
    exact ⟨A9, _, c9, rfl, ow9, hB9⟩
  · rw [encR_4, packL_is]
    have hx0 := hx.alloc (.cells #[.int .u8 4] 5)
    have hB0 : Below w.heap.size w (w.alloc (.cells #[.int .u8 4] 5)) := (Below.refl _ _).alloc (Nat.le_refl _) _
    have ob := ow_oneR w 4 4 rfl
    obtain ⟨c0, c1, c2, c3, c4, c5, c6⟩ := hx.seven
    obtain ⟨y0, y1, y2, y3, y4, y5, y6⟩ := hx0.seven
    go_enter Tryz.func40, Tryz.ntmps40
    go_wp2_with fail
    refine (l1Pack k 2 _ (by omega) (by omega)).mono ?_
    rintro e w2 ⟨A2, c2', rfl, o2, hb2⟩
    have hB2 := hB0.trans (hb2.mono hB0.size)
    have ob2 := ob.below hb2 (Nat.le_refl _)
    go_wp2_with (at_builtin; refine wpList_append_ow okB _ rfl (.tmp 53) (.tmp 58) _ rfl w.heap.size info_u8 Tryz.underlying22 rfl _ 1 1 [4] rfl ob2 A2 2 c2' _ (packL k 2) rfl (o2.rd okB) (packL_len _ _) (by unfold maxLen; omega) (by omega) hB2.size ?_; intro A9 c9 w9 ow9 hg9 _)
    go_ret
    exact ⟨A9, _, c9, rfl, ow9, hB2.grown hg9 hB2.size (fun g hg => (ob2.lt g hg).1)⟩

theorem encRecM_code (r : Rcd) : (encRecM r).1 = recFaultM r := by
  unfold encRecM
  by_cases h : recFaultM r = 0
  · rw [if_pos h, h]
  · rw [if_neg h]
set_option maxHeartbeats 1000000 in
theorem specEncodeRecord (a0 a1 a2 a3 a4 a5 a6 : Int) (w : World) :
    Calls Tryz.prog 14 #[.agg #[.int .i64 a0, .int .i64 a1, .int .i64 a2, .int .i64 a3, .int .i64 a4, .int .i64 a5, .int .i64 a6]] w fun e w' => RetBR (encRecM (a0, a1, (a2, a3, a4, a5), a6)) w e w' := by
  have hB0 : Below w.heap.size w ((w.alloc (.cells #[.int .i64 a0, .int .i64 a1, .int .i64 a2, .int .i64 a3, .int .i64 a4, .int .i64 a5, .int .i64 a6] 27)).alloc (.cells #[.int .i64 0, .slice none 0 0] 30)) := ((Below.refl _ _).alloc (Nat.le_refl _) _).alloc (by simp) _
  have x0 := (At.new w 27 #[.int .i64 a0, .int .i64 a1, .int .i64 a2, .int .i64 a3, .int .i64 a4, .int .i64 a5, .int .i64 a6]).alloc (.cells #[.int .i64 0, .slice none 0 0] 30)
  have r0 := At.new (w.alloc (.cells #[.int .i64 a0, .int .i64 a1, .int .i64 a2, .int .i64 a3, .int .i64 a4, .int .i64 a5, .int .i64 a6] 27)) 30 #[.int .i64 0, .slice none 0 0]
  rw [show (w.alloc (.cells #[.int .i64 a0, .int .i64 a1, .int .i64 a2, .int .i64 a3, .int .i64 a4, .int .i64 a5, .int .i64 a6] 27)).heap.size = w.heap.size + 1 by simp] at r0
  obtain ⟨c0, c1, c2, c3, c4, c5, c6⟩ := x0.seven
  have hq := specRecordFault a0 a1 a2 a3 a4 a5 a6 ((w.alloc (.cells #[.int .i64 a0, .int .i64 a1, .int .i64 a2, .int .i64 a3, .int .i64 a4, .int .i64 a5, .int .i64 a6] 27)).alloc (.cells #[.int .i64 0, .slice none 0 0] 30))
  by_cases h : recFaultM (a0, a1, (a2, a3, a4, a5), a6) = 0
  · rw [h] at hq
    have Hr := Lib.hid (show encRecM (a0, a1, (a2, a3, a4, a5), a6) = (0, encR (a0, a1, (a2, a3, a4, a5), a6)) from if_pos h)
    have LE := fun W hw => l5Encode w.heap.size a0 a1 a2 a3 a4 a5 a6 W hw h
    clear h
    go_enter Tryz.func14, Tryz.ntmps14
    go_wp2_with fail
    refine hq.mono ?_
    rintro e w1 ⟨rfl, hb1⟩
    have hB1 := hB0.trans (hb1.mono hB0.size)
    have x1 := x0.below hb1 x0.lt
    have r1 := r0.below hb1 r0.lt
    go_wp2_with fail
    refine (LE _ x1).mono ?_
    rintro e w2 ⟨A, n, c, rfl, ow, hb2⟩
    have hB2 := hB1.trans (hb2.mono hB1.size)
    have r2 := r1.below hb2 r1.lt
    obtain ⟨d0, d1, f0, f1⟩ := r2.two
    go_wp2_with fail
    refine bodyPost_ret (v := .agg #[.int .i64 0, .slice A n c]) (by simp [results, Tryz.results14, go_sem, d0, d1]) rfl ?_
    rw [Hr.out]
    exact ⟨A, n, c, rfl, ((ow.under (p := ⟨w.heap.size + 1, 0, none⟩) r1.lt _).under (p := ⟨w.heap.size + 1, 1, none⟩) r1.lt _).from_ hB1.size, (hB2.setCell (by simp) _).setCell (by simp) _⟩
  · have Hr := Lib.hid (show encRecM (a0, a1, (a2, a3, a4, a5), a6) = (recFaultM (a0, a1, (a2, a3, a4, a5), a6), []) from if_neg h)
    have hne : (recFaultM (a0, a1, (a2, a3, a4, a5), a6) != 0) = true := by rw [bne_iff_ne]; exact h
    rw [Hr.out]
    clear Hr h
    generalize recFaultM (a0, a1, (a2, a3, a4, a5), a6) = rf at *
    go_enter Tryz.func14, Tryz.ntmps14
    go_wp2_with fail
    refine hq.mono ?_
    rintro e w1 ⟨rfl, hb1⟩
    have hB1 := hB0.trans (hb1.mono hB0.size)
    have r1 := r0.below hb1 r0.lt
    obtain ⟨d0, d1, f0, f1⟩ := r1.two
    go_wp2_with fail
    refine bodyPost_ret (v := .agg #[.int .i64 rf, .slice none 0 0]) (by simp [results, Tryz.results14, go_sem, d0, d1]) rfl ?_
    exact ⟨none, 0, 0, rfl, Ow.nil, (hB1.setCell (by simp) _).setCell (by simp) _⟩
end Go.Proofs.YtmaillakhhdkfaaGreatDoor
