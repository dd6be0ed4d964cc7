/-
  A sample's bytes: the program's.
-/
import Derived.Test.YteiclanlhnccnaaDoorEnc
import Derived.Test.YteiclanlhnccnaaDoorMarkA
import Derived.Laws.CopyOwn
namespace Go.Proofs.YteiclanlhnccnaaDoor
set_option maxRecDepth 20000
open Go.RowKit
set_option linter.unusedSimpArgs false

/-- copy as one step of a region: as 'step_copy_splice'. -/
theorem copy_wp {P : Program} {o : Oper} {a : Act} {w : World} {K : Act → World → Prop} {Q : Exit → Act → World → Prop} (d s : Operand) (dT sT : TypeId)
    (ho : o.op = .call { callee := .builtin .copy, args := #[d, s], argTypes := #[dT, sT] }) (elem : TypeId) (hu : P.underlying dT = some (.slice elem)) (hsz : (P.info? elem).map (·.size) = some 1)
    (dp sp : Option Addr) (dLen dCap sLen sCap : Nat) (hd : a.eval d = .slice dp dLen dCap) (hs : a.eval s = .slice sp sLen sCap)
    (g off : Nat) (cur : List Value) (t : TypeId) (hg : At w g t cur.toArray) (cs : List Value) (hn : cs.length = Nat.min sLen dLen)
    (hpos : 0 < cs.length → dp = some ⟨g, off, none⟩ ∧ ∃ ad, sp = some ad ∧ ∀ j v, cs[j]? = some v → w.cell? (ad.add j) = some v)
    (hfit : off + cs.length ≤ cur.length) (h1 : ∀ v ∈ cs, v.oneCell' = true) (B : Nat) (w0 : World) (hb : Below B w0 w) (hBg : B ≤ g)
    (h : ∀ w', At w' g t (splice cur off cs).toArray → Below B w0 w' → (∀ g', g' ≠ g → w'.heap[g']? = w.heap[g']?) → K (a.put o.dst (goInt cs.length)) w') : o.wp P a w K Q := by
  by_cases h0 : cs.length = 0
  · obtain rfl : cs = [] := List.eq_nil_of_length_eq_zero h0
    have hrun := run_copy_none (P := P) w dT sT o.type elem dp sp dLen dCap sLen sCap hu hsz (by simpa using hn.symm)
    unfold Oper.wp
    simp [execOp, ho, resolve, invoke, builtin, hd, hs, hrun, Result.andThen]
    exact h w (by simpa [splice] using hg) hb (fun _ _ => rfl)
  · obtain ⟨rfl, ad, rfl, hsrc⟩ := hpos (by omega)
    have hrun := run_copy_row (P := P) w dT sT o.type elem g off dLen dCap ad sLen sCap cur.toArray t cs hu hsz hg hn hsrc (by simpa using hfit) h1
    unfold Oper.wp
    simp [execOp, ho, resolve, invoke, builtin, hd, hs, hrun, Result.andThen]
    exact h _ (show _ = _ by simpa [splice] using setRow_heap w g _ _ t _ hg) (below_setRow hb hBg _) (fun g' hne => setRow_other w g g' _ hne)

theorem Rd.src {w : World} {hi g o : Nat} {l : List UInt8} (h : Rd eB w hi (some ⟨g, o, none⟩) l) : ∀ (j : Nat) (v : Value), (eB.row l)[j]? = some v → w.cell? ((⟨g, o, none⟩ : Addr).add j) = some v := by
  intro j v hj
  have hl : j < l.length := by
    have := getElem?_some_lt hj
    rw [okB.row_len] at this
    simpa [eB] using this
  obtain ⟨g', o', e, _, hc⟩ := h (by intro e; subst e; simp at hl)
  obtain ⟨rfl, rfl⟩ : g = g' ∧ o = o' := by simpa using Option.some.inj e
  have h1 := okB.row_at l j 0 l[j] (List.getElem?_eq_getElem hl) Nat.one_pos
  rw [show j * eB.size + 0 = j by simp [eB]] at h1
  rw [h1] at hj
  have := hc j 0 _ v (List.getElem?_eq_getElem hl) hj
  rw [addr_add]
  simpa [eB] using this

theorem cell_same {w w' : World} {g o : Nat} (h : w'.heap[g]? = w.heap[g]?) : w'.cell? ⟨g, o, none⟩ = w.cell? ⟨g, o, none⟩ := by
  unfold World.cell?
  simp only [h]
theorem fldB1' (z : Int) (A : Option Addr) (k c : Nat) (u : World) : (Instr.field 34 (.agg #[.int .i64 z, .slice A k c]) 1).run Tryd.prog u = .ok (.slice A k c) u := by kernel_rfl
theorem u8_size : (Tryd.prog.info? 5).map (·.size) = some 1 := by kernel_rfl

theorem slAt0 (g : Nat) (u : World) : (Instr.sliceAt 130 (.pointer (some ⟨g, 0, none⟩)) (some (.int .i64 0)) (some (.int .i64 1)) none).run Tryd.prog u = .ok (.slice (some ⟨g, 0, none⟩) 1 7) u := by kernel_rfl
theorem slAt1 (g : Nat) (u : World) : (Instr.sliceAt 130 (.pointer (some ⟨g, 0, none⟩)) (some (.int .i64 1)) (some (.int .i64 3)) none).run Tryd.prog u = .ok (.slice (some ⟨g, 1, none⟩) 2 6) u := by kernel_rfl
theorem slAt2 (g : Nat) (u : World) : (Instr.sliceAt 130 (.pointer (some ⟨g, 0, none⟩)) (some (.int .i64 3)) (some (.int .i64 5)) none).run Tryd.prog u = .ok (.slice (some ⟨g, 3, none⟩) 2 4) u := by kernel_rfl
theorem slAt3 (g : Nat) (u : World) : (Instr.sliceAt 130 (.pointer (some ⟨g, 0, none⟩)) (some (.int .i64 5)) (some (.int .i64 7)) none).run Tryd.prog u = .ok (.slice (some ⟨g, 5, none⟩) 2 2) u := by kernel_rfl
theorem slAll (g : Nat) (u : World) : (Instr.sliceAt 130 (.pointer (some ⟨g, 0, none⟩)) none none none).run Tryd.prog u = .ok (.slice (some ⟨g, 0, none⟩) 7 7) u := by kernel_rfl
def encRow (n0 n1 n2 n3 : Nat) : Nat → List Value
  | 0 => [.int .u8 0, .int .u8 0, .int .u8 0, .int .u8 0, .int .u8 0, .int .u8 0, .int .u8 0]
  | 1 => [.int .u8 ((UInt8.ofNat n0).toNat : Int), .int .u8 0, .int .u8 0, .int .u8 0, .int .u8 0, .int .u8 0, .int .u8 0]
  | 2 => [.int .u8 ((UInt8.ofNat n0).toNat : Int), .int .u8 ((UInt8.ofNat n1).toNat : Int), .int .u8 ((UInt8.ofNat (n1 / 256)).toNat : Int), .int .u8 0, .int .u8 0, .int .u8 0, .int .u8 0]
  | 3 => [.int .u8 ((UInt8.ofNat n0).toNat : Int), .int .u8 ((UInt8.ofNat n1).toNat : Int), .int .u8 ((UInt8.ofNat (n1 / 256)).toNat : Int), .int .u8 ((UInt8.ofNat n2).toNat : Int), .int .u8 ((UInt8.ofNat (n2 / 256)).toNat : Int), .int .u8 0, .int .u8 0]
  | _ => [.int .u8 ((UInt8.ofNat n0).toNat : Int), .int .u8 ((UInt8.ofNat n1).toNat : Int), .int .u8 ((UInt8.ofNat (n1 / 256)).toNat : Int), .int .u8 ((UInt8.ofNat n2).toNat : Int), .int .u8 ((UInt8.ofNat (n2 / 256)).toNat : Int), .int .u8 ((UInt8.ofNat n3).toNat : Int), .int .u8 ((UInt8.ofNat (n3 / 256)).toNat : Int)]

/-- A code and bytes that lie in an array's block of the call's own. -/
def RetBA (r : Int × List UInt8) (w : World) (e : Ending) (w' : World) : Prop :=
  ∃ A n c, e = .returned (.agg #[.int .i64 r.1, .slice A n c]) ∧ Ow eA w' w.heap.size A n c r.2 ∧ Below w.heap.size w w'

def EncRel (w : World) (gp gN gR : Nat) (n0 n1 n2 n3 : Nat) (i : Value) (wr : World) : Prop :=
  ∃ k : Nat, k ≤ 4 ∧ i = .int .i64 k ∧ At wr gp 130 (encRow n0 n1 n2 n3 k).toArray ∧ At wr gN 100 #[.int .i64 (n0 : Int), .int .i64 (n1 : Int), .int .i64 (n2 : Int), .int .i64 ((n3 : Int) - 1000)] ∧ At wr gR 34 #[.int .i64 0, .slice none 0 0] ∧ Below w.heap.size w wr

theorem packs {n : Nat} (h : n ≤ 9999) (w : World) : Calls Tryd.prog 33 #[.int .i64 (n : Int), .int .i64 2] w fun e w' => RetBR (0, [UInt8.ofNat n, UInt8.ofNat (n / 256)]) w e w' := by
  have h1 := implPackWord (n : Int) 2 w
  have h2 : packM (n : Int) 2 = (0, packL n 2) := by simpa using packM_nat (m := n) (s := 2) (by omega) (by omega) (by omega)
  rw [h2, pack2] at h1
  exact h1
theorem packs1 {n : Nat} (h : n ≤ 9) (w : World) : Calls Tryd.prog 33 #[.int .i64 (n : Int), .int .i64 1] w fun e w' => RetBR (0, [UInt8.ofNat n]) w e w' := by
  have h1 := implPackWord (n : Int) 1 w
  have h2 : packM (n : Int) 1 = (0, packL n 1) := by simpa using packM_nat (m := n) (s := 1) (by omega) (by omega) (by omega)
  rw [h2, pack1] at h1
  exact h1

set_option maxHeartbeats 4000000 in
theorem implEncodeSample_ok (n0 n1 n2 n3 : Nat) (w : World) (hF : Flds w) (hf : faultM ((n0 : Int), (n1 : Int), (n2 : Int), ((n3 : Int) - 1000)) = 0) (k0 : n0 ≤ 9) (k1 : n1 ≤ 999) (k2 : n2 ≤ 9999) (k3 : n3 ≤ 2000) :
    Calls Tryd.prog 60 #[.agg #[.int .i64 (n0 : Int), .int .i64 (n1 : Int), .int .i64 (n2 : Int), .int .i64 ((n3 : Int) - 1000)]] w fun e w' => RetBA (0, encL n0 n1 n2 n3) w e w' := by
  have hB0 : Below w.heap.size w ((w.alloc (.cells #[.int .i64 (n0 : Int), .int .i64 (n1 : Int), .int .i64 (n2 : Int), .int .i64 ((n3 : Int) - 1000)] 27)).alloc (.cells #[.int .i64 0, .slice none 0 0] 34)) := ((Below.refl _ _).alloc (Nat.le_refl _) _).alloc (by simp) _
  have x0 := (At.new w 27 #[.int .i64 (n0 : Int), .int .i64 (n1 : Int), .int .i64 (n2 : Int), .int .i64 ((n3 : Int) - 1000)]).alloc (.cells #[.int .i64 0, .slice none 0 0] 34)
  have r0 := At.new (w.alloc (.cells #[.int .i64 (n0 : Int), .int .i64 (n1 : Int), .int .i64 (n2 : Int), .int .i64 ((n3 : Int) - 1000)] 27)) 34 #[.int .i64 0, .slice none 0 0]
  rw [show (w.alloc (.cells #[.int .i64 (n0 : Int), .int .i64 (n1 : Int), .int .i64 (n2 : Int), .int .i64 ((n3 : Int) - 1000)] 27)).heap.size = w.heap.size + 1 by simp] at r0
  have hq := implSampleFault (n0 : Int) (n1 : Int) (n2 : Int) ((n3 : Int) - 1000)
  rw [hf] at hq
  clear hf
  go_enter Tryd.func60, Tryd.ntmps60
  go_wp2_with fail
  refine (hq _ (hF.below hB0)).mono ?_
  rintro e w1 ⟨rfl, hb1⟩
  clear hq
  have hB1 := hB0.trans (hb1.mono hB0.size)
  have x1 := x0.below hb1 x0.lt
  have r1 := r0.below hb1 r0.lt
  obtain ⟨y0, y1, y2, y3, _, _, _, _⟩ := x1.four
  have l1 := x1.lt
  have hp := At.new w1 130 #[.int .u8 0, .int .u8 0, .int .u8 0, .int .u8 0, .int .u8 0, .int .u8 0, .int .u8 0]
  have r2 := r1.alloc (.cells #[.int .u8 0, .int .u8 0, .int .u8 0, .int .u8 0, .int .u8 0, .int .u8 0, .int .u8 0] 130)
  have hB2 := hB1.alloc hB1.size (.cells #[.int .u8 0, .int .u8 0, .int .u8 0, .int .u8 0, .int .u8 0, .int .u8 0, .int .u8 0] 130)
  go_wp2_with fail
  refine (numbersOf _ _ _ _ _).mono ?_
  rintro e w3 ⟨rfl, hb3⟩
  have hB3 := hB2.trans (hb3.mono hB2.size)
  have p3 := hp.below hb3 hp.lt
  have r3 := r2.below hb3 r2.lt
  have hz3 := (hF.below hB3).pos
  obtain ⟨c0, c1, c2, c3, c4, c5, c6, c7, c8, c9, c10, c11, c12, c13, c14, c15⟩ := (hF.below hB3).all
  have hN := At.new w3 100 #[.int .i64 (n0 : Int), .int .i64 (n1 : Int), .int .i64 (n2 : Int), .int .i64 ((n3 : Int) - 1000)]
  have p4 := p3.alloc (.cells #[.int .i64 (n0 : Int), .int .i64 (n1 : Int), .int .i64 (n2 : Int), .int .i64 ((n3 : Int) - 1000)] 100)
  have r4 := r3.alloc (.cells #[.int .i64 (n0 : Int), .int .i64 (n1 : Int), .int .i64 (n2 : Int), .int .i64 ((n3 : Int) - 1000)] 100)
  have hB4 := hB3.alloc hB3.size (.cells #[.int .i64 (n0 : Int), .int .i64 (n1 : Int), .int .i64 (n2 : Int), .int .i64 ((n3 : Int) - 1000)] 100)
  go_wp2_with fail
  clear c0 c1 c2 c3 c4 c5 c6 c7 c8 c9 c10 c11 c12 c13 c14 c15 y0 y1 y2 y3
  have Lp : w.heap.size ≤ w1.heap.size := hB1.size
  have Lr := r1.lt
  have Ln := p3.lt
  go_loopw [17] (fun i wr => EncRel w w1.heap.size w3.heap.size (w.heap.size + 1) n0 n1 n2 n3 i wr) (fun i _ => 4 - (intOf i).toNat)
  case atStart => exact ⟨0, by omega, rfl, p4, hN, r4, hB4⟩
  case round =>
    obtain ⟨k, hk, rfl, hP, hN', hR, hbel⟩ := hrel
    have lP := hP.lt
    have lN := hN'.lt
    have lR := hR.lt
    have hsz := hbel.size
    obtain ⟨m0, m1, m2, m3, _, _, _, _⟩ := hN'.four
    rcases (show k = 0 ∨ k = 1 ∨ k = 2 ∨ k = 3 ∨ k = 4 by omega) with rfl | rfl | rfl | rfl | rfl
    · have hidx := fldAt0 wr
      have hsl := slAt0 w1.heap.size
      have hw1 : IntKind.i64.wrap 1 = 1 := by decide
      have hw2 : IntKind.i64.wrap (n0 : Int) = (n0 : Int) := IntWalk.i64_in _ (by omega)
      go_wp2
      refine wp_region_mix [(0, false), (1, false), (2, false), (3, false), (4, false), (5, false), (6, false), (7, false), (8, false), (9, false), (10, false), (11, false), (12, false), (13, false), (14, false), (15, false), (16, true), (17, false), (18, true)] (fun u => u.cell? ⟨w3.heap.size, 0, none⟩ = some (.int .i64 (n0 : Int)) ∧ u.cell? ⟨wr.heap.size, 0, none⟩ = some (.int .i64 0) ∧ u.cell? ⟨wr.heap.size, 1, none⟩ = some (.int .i64 1) ∧ u.cell? ⟨wr.heap.size, 2, none⟩ = some (.int .i64 0)) (by kernel_rfl) (by kernel_rfl) (fun _ _ _ _ _ h => h) (by go_simp) ?_
      simp only [mixOps, List.map_cons, List.map_nil, List.getElem?_cons_succ, List.getElem?_cons_zero, Option.getD_some]
      repeat (first
        | (refine mix_skip (by rfl) ?_
           (try simp only [Act.put, List.setIfInBounds_toArray, List.set_cons_zero, List.set_cons_succ]))
        | (refine mix_pure (v := ?_) (by rfl) (fun u hu => ?_) ?_
           rotate_left
           · obtain ⟨_, _, _, _⟩ := hu
             go_simp
             (with_reducible rfl)
           (try simp only [Act.put, List.setIfInBounds_toArray, List.set_cons_zero, List.set_cons_succ])))
      refine mix_call (by rfl) (fun K hK => ?_)
      go_simp
      refine (packs1 (n := n0) (by omega) _).mono ?_
      rintro e w5 ⟨A5, j5, c5, rfl, o5, hb5⟩
      obtain rfl : 1 = j5 := o5.len okB
      obtain ⟨g5, rfl, gl5, gh5⟩ := o5.form (by omega)
      have fB5 := fldB1' 0 (some ⟨g5, 0, none⟩) 1 c5
      refine hK _ _ _ (fun _ h => h) ⟨(hb5.cell (p := ⟨w3.heap.size, 0, none⟩) (by simp; omega)).trans (by go_simp), (hb5.cell (p := ⟨wr.heap.size, 0, none⟩) (by simp)).trans (by go_simp), (hb5.cell (p := ⟨wr.heap.size, 1, none⟩) (by simp)).trans (by go_simp), (hb5.cell (p := ⟨wr.heap.size, 2, none⟩) (by simp)).trans (by go_simp)⟩ ?_
      (try simp only [Act.put, List.setIfInBounds_toArray, List.set_cons_zero, List.set_cons_succ])
      refine mix_pure (v := ?_) (by rfl) (fun u hu => ?_) ?_
      rotate_left
      · go_simp
        (with_reducible rfl)
      (try simp only [Act.put, List.setIfInBounds_toArray, List.set_cons_zero, List.set_cons_succ])
      have F5 := (hbel.alloc hbel.size (.cells #[.int .i64 0, .int .i64 1, .int .i64 0, .int .i64 9] 103)).drew
      have hB5 := F5.trans (hb5.mono F5.size)
      have P5 := ((hP.alloc (.cells #[.int .i64 0, .int .i64 1, .int .i64 0, .int .i64 9] 103)).drew).below hb5 (by simp; omega)
      have N5 := ((hN'.alloc (.cells #[.int .i64 0, .int .i64 1, .int .i64 0, .int .i64 9] 103)).drew).below hb5 (by simp; omega)
      have R5 := ((hR.alloc (.cells #[.int .i64 0, .int .i64 1, .int .i64 0, .int .i64 9] 103)).drew).below hb5 (by simp; omega)
      have L5 : wr.heap.size < w5.heap.size := by have := hb5.size; simp at this; omega
      have S0 : w5.cell? ⟨wr.heap.size, 0, none⟩ = some (.int .i64 0) := (hb5.cell (p := ⟨wr.heap.size, 0, none⟩) (by simp)).trans (by go_simp)
      have S1 : w5.cell? ⟨wr.heap.size, 1, none⟩ = some (.int .i64 1) := (hb5.cell (p := ⟨wr.heap.size, 1, none⟩) (by simp)).trans (by go_simp)
      have S2 : w5.cell? ⟨wr.heap.size, 2, none⟩ = some (.int .i64 0) := (hb5.cell (p := ⟨wr.heap.size, 2, none⟩) (by simp)).trans (by go_simp)
      refine mix_call (by rfl) (fun K hK => ?_)
      refine copy_wp (.tmp 28) (.tmp 38) 32 32 rfl 5 Tryd.underlying32 u8_size _ _ _ _ _ _ rfl rfl w1.heap.size 0 (encRow n0 n1 n2 n3 0) 130 P5 (eB.row [UInt8.ofNat n0]) rfl (fun _ => ⟨rfl, _, rfl, Rd.src (o5.rd okB)⟩) (by show 0 + 1 ≤ 7; omega) (okB.row_one _) w.heap.size w hB5 Lp ?_
      intro w6 P6 hB6 hoth
      have N6 : At w6 w3.heap.size 100 #[.int .i64 (n0 : Int), .int .i64 (n1 : Int), .int .i64 (n2 : Int), .int .i64 ((n3 : Int) - 1000)] := (hoth _ (by omega)).trans N5
      have R6 : At w6 (w.heap.size + 1) 34 #[.int .i64 0, .slice none 0 0] := (hoth _ (by omega)).trans R5
      refine hK _ _ _ (fun _ h => h) ⟨(N6.cell 0).trans rfl, (cell_same (hoth _ (by omega))).trans S0, (cell_same (hoth _ (by omega))).trans S1, (cell_same (hoth _ (by omega))).trans S2⟩ ?_
      (try simp only [Act.put, List.setIfInBounds_toArray, List.set_cons_zero, List.set_cons_succ])
      refine mix_nil ?_
      go_wp2
      exact ⟨⟨0 + 1, by omega, by go_num, P6, N6, R6, hB6⟩, by simp [intOf]⟩
    · have hidx := fldAt1 wr
      have hsl := slAt1 w1.heap.size
      have hw1 : IntKind.i64.wrap 3 = 3 := by decide
      have hw2 : IntKind.i64.wrap (n1 : Int) = (n1 : Int) := IntWalk.i64_in _ (by omega)
      go_wp2
      refine wp_region_mix [(0, false), (1, false), (2, false), (3, false), (4, false), (5, false), (6, false), (7, false), (8, false), (9, false), (10, false), (11, false), (12, false), (13, false), (14, false), (15, false), (16, true), (17, false), (18, true)] (fun u => u.cell? ⟨w3.heap.size, 1, none⟩ = some (.int .i64 (n1 : Int)) ∧ u.cell? ⟨wr.heap.size, 0, none⟩ = some (.int .i64 1) ∧ u.cell? ⟨wr.heap.size, 1, none⟩ = some (.int .i64 2) ∧ u.cell? ⟨wr.heap.size, 2, none⟩ = some (.int .i64 0)) (by kernel_rfl) (by kernel_rfl) (fun _ _ _ _ _ h => h) (by go_simp) ?_
      simp only [mixOps, List.map_cons, List.map_nil, List.getElem?_cons_succ, List.getElem?_cons_zero, Option.getD_some]
      repeat (first
        | (refine mix_skip (by rfl) ?_
           (try simp only [Act.put, List.setIfInBounds_toArray, List.set_cons_zero, List.set_cons_succ]))
        | (refine mix_pure (v := ?_) (by rfl) (fun u hu => ?_) ?_
           rotate_left
           · obtain ⟨_, _, _, _⟩ := hu
             go_simp
             (with_reducible rfl)
           (try simp only [Act.put, List.setIfInBounds_toArray, List.set_cons_zero, List.set_cons_succ])))
      refine mix_call (by rfl) (fun K hK => ?_)
      go_simp
      refine (packs (n := n1) (by omega) _).mono ?_
      rintro e w5 ⟨A5, j5, c5, rfl, o5, hb5⟩
      obtain rfl : 2 = j5 := o5.len okB
      obtain ⟨g5, rfl, gl5, gh5⟩ := o5.form (by omega)
      have fB5 := fldB1' 0 (some ⟨g5, 0, none⟩) 2 c5
      refine hK _ _ _ (fun _ h => h) ⟨(hb5.cell (p := ⟨w3.heap.size, 1, none⟩) (by simp; omega)).trans (by go_simp), (hb5.cell (p := ⟨wr.heap.size, 0, none⟩) (by simp)).trans (by go_simp), (hb5.cell (p := ⟨wr.heap.size, 1, none⟩) (by simp)).trans (by go_simp), (hb5.cell (p := ⟨wr.heap.size, 2, none⟩) (by simp)).trans (by go_simp)⟩ ?_
      (try simp only [Act.put, List.setIfInBounds_toArray, List.set_cons_zero, List.set_cons_succ])
      refine mix_pure (v := ?_) (by rfl) (fun u hu => ?_) ?_
      rotate_left
      · go_simp
        (with_reducible rfl)
      (try simp only [Act.put, List.setIfInBounds_toArray, List.set_cons_zero, List.set_cons_succ])
      have F5 := (hbel.alloc hbel.size (.cells #[.int .i64 1, .int .i64 2, .int .i64 0, .int .i64 999] 103)).drew
      have hB5 := F5.trans (hb5.mono F5.size)
      have P5 := ((hP.alloc (.cells #[.int .i64 1, .int .i64 2, .int .i64 0, .int .i64 999] 103)).drew).below hb5 (by simp; omega)
      have N5 := ((hN'.alloc (.cells #[.int .i64 1, .int .i64 2, .int .i64 0, .int .i64 999] 103)).drew).below hb5 (by simp; omega)
      have R5 := ((hR.alloc (.cells #[.int .i64 1, .int .i64 2, .int .i64 0, .int .i64 999] 103)).drew).below hb5 (by simp; omega)
      have L5 : wr.heap.size < w5.heap.size := by have := hb5.size; simp at this; omega
      have S0 : w5.cell? ⟨wr.heap.size, 0, none⟩ = some (.int .i64 1) := (hb5.cell (p := ⟨wr.heap.size, 0, none⟩) (by simp)).trans (by go_simp)
      have S1 : w5.cell? ⟨wr.heap.size, 1, none⟩ = some (.int .i64 2) := (hb5.cell (p := ⟨wr.heap.size, 1, none⟩) (by simp)).trans (by go_simp)
      have S2 : w5.cell? ⟨wr.heap.size, 2, none⟩ = some (.int .i64 0) := (hb5.cell (p := ⟨wr.heap.size, 2, none⟩) (by simp)).trans (by go_simp)
      refine mix_call (by rfl) (fun K hK => ?_)
      refine copy_wp (.tmp 28) (.tmp 38) 32 32 rfl 5 Tryd.underlying32 u8_size _ _ _ _ _ _ rfl rfl w1.heap.size 1 (encRow n0 n1 n2 n3 1) 130 P5 (eB.row [UInt8.ofNat n1, UInt8.ofNat (n1 / 256)]) rfl (fun _ => ⟨rfl, _, rfl, Rd.src (o5.rd okB)⟩) (by show 1 + 2 ≤ 7; omega) (okB.row_one _) w.heap.size w hB5 Lp ?_
      intro w6 P6 hB6 hoth
      have N6 : At w6 w3.heap.size 100 #[.int .i64 (n0 : Int), .int .i64 (n1 : Int), .int .i64 (n2 : Int), .int .i64 ((n3 : Int) - 1000)] := (hoth _ (by omega)).trans N5
      have R6 : At w6 (w.heap.size + 1) 34 #[.int .i64 0, .slice none 0 0] := (hoth _ (by omega)).trans R5
      refine hK _ _ _ (fun _ h => h) ⟨(N6.cell 1).trans rfl, (cell_same (hoth _ (by omega))).trans S0, (cell_same (hoth _ (by omega))).trans S1, (cell_same (hoth _ (by omega))).trans S2⟩ ?_
      (try simp only [Act.put, List.setIfInBounds_toArray, List.set_cons_zero, List.set_cons_succ])
      refine mix_nil ?_
      go_wp2
      exact ⟨⟨1 + 1, by omega, by go_num, P6, N6, R6, hB6⟩, by simp [intOf]⟩
    · have hidx := fldAt2 wr
      have hsl := slAt2 w1.heap.size
      have hw1 : IntKind.i64.wrap 5 = 5 := by decide
      have hw2 : IntKind.i64.wrap (n2 : Int) = (n2 : Int) := IntWalk.i64_in _ (by omega)
      go_wp2
      refine wp_region_mix [(0, false), (1, false), (2, false), (3, false), (4, false), (5, false), (6, false), (7, false), (8, false), (9, false), (10, false), (11, false), (12, false), (13, false), (14, false), (15, false), (16, true), (17, false), (18, true)] (fun u => u.cell? ⟨w3.heap.size, 2, none⟩ = some (.int .i64 (n2 : Int)) ∧ u.cell? ⟨wr.heap.size, 0, none⟩ = some (.int .i64 3) ∧ u.cell? ⟨wr.heap.size, 1, none⟩ = some (.int .i64 2) ∧ u.cell? ⟨wr.heap.size, 2, none⟩ = some (.int .i64 0)) (by kernel_rfl) (by kernel_rfl) (fun _ _ _ _ _ h => h) (by go_simp) ?_
      simp only [mixOps, List.map_cons, List.map_nil, List.getElem?_cons_succ, List.getElem?_cons_zero, Option.getD_some]
      repeat (first
        | (refine mix_skip (by rfl) ?_
           (try simp only [Act.put, List.setIfInBounds_toArray, List.set_cons_zero, List.set_cons_succ]))
        | (refine mix_pure (v := ?_) (by rfl) (fun u hu => ?_) ?_
           rotate_left
           · obtain ⟨_, _, _, _⟩ := hu
             go_simp
             (with_reducible rfl)
           (try simp only [Act.put, List.setIfInBounds_toArray, List.set_cons_zero, List.set_cons_succ])))
      refine mix_call (by rfl) (fun K hK => ?_)
      go_simp
      refine (packs (n := n2) (by omega) _).mono ?_
      rintro e w5 ⟨A5, j5, c5, rfl, o5, hb5⟩
      obtain rfl : 2 = j5 := o5.len okB
      obtain ⟨g5, rfl, gl5, gh5⟩ := o5.form (by omega)
      have fB5 := fldB1' 0 (some ⟨g5, 0, none⟩) 2 c5
      refine hK _ _ _ (fun _ h => h) ⟨(hb5.cell (p := ⟨w3.heap.size, 2, none⟩) (by simp; omega)).trans (by go_simp), (hb5.cell (p := ⟨wr.heap.size, 0, none⟩) (by simp)).trans (by go_simp), (hb5.cell (p := ⟨wr.heap.size, 1, none⟩) (by simp)).trans (by go_simp), (hb5.cell (p := ⟨wr.heap.size, 2, none⟩) (by simp)).trans (by go_simp)⟩ ?_
      (try simp only [Act.put, List.setIfInBounds_toArray, List.set_cons_zero, List.set_cons_succ])
      refine mix_pure (v := ?_) (by rfl) (fun u hu => ?_) ?_
      rotate_left
      · go_simp
        (with_reducible rfl)
      (try simp only [Act.put, List.setIfInBounds_toArray, List.set_cons_zero, List.set_cons_succ])
      have F5 := (hbel.alloc hbel.size (.cells #[.int .i64 3, .int .i64 2, .int .i64 0, .int .i64 9999] 103)).drew
      have hB5 := F5.trans (hb5.mono F5.size)
      have P5 := ((hP.alloc (.cells #[.int .i64 3, .int .i64 2, .int .i64 0, .int .i64 9999] 103)).drew).below hb5 (by simp; omega)
      have N5 := ((hN'.alloc (.cells #[.int .i64 3, .int .i64 2, .int .i64 0, .int .i64 9999] 103)).drew).below hb5 (by simp; omega)
      have R5 := ((hR.alloc (.cells #[.int .i64 3, .int .i64 2, .int .i64 0, .int .i64 9999] 103)).drew).below hb5 (by simp; omega)
      have L5 : wr.heap.size < w5.heap.size := by have := hb5.size; simp at this; omega
      have S0 : w5.cell? ⟨wr.heap.size, 0, none⟩ = some (.int .i64 3) := (hb5.cell (p := ⟨wr.heap.size, 0, none⟩) (by simp)).trans (by go_simp)
      have S1 : w5.cell? ⟨wr.heap.size, 1, none⟩ = some (.int .i64 2) := (hb5.cell (p := ⟨wr.heap.size, 1, none⟩) (by simp)).trans (by go_simp)
      have S2 : w5.cell? ⟨wr.heap.size, 2, none⟩ = some (.int .i64 0) := (hb5.cell (p := ⟨wr.heap.size, 2, none⟩) (by simp)).trans (by go_simp)
      refine mix_call (by rfl) (fun K hK => ?_)
      refine copy_wp (.tmp 28) (.tmp 38) 32 32 rfl 5 Tryd.underlying32 u8_size _ _ _ _ _ _ rfl rfl w1.heap.size 3 (encRow n0 n1 n2 n3 2) 130 P5 (eB.row [UInt8.ofNat n2, UInt8.ofNat (n2 / 256)]) rfl (fun _ => ⟨rfl, _, rfl, Rd.src (o5.rd okB)⟩) (by show 3 + 2 ≤ 7; omega) (okB.row_one _) w.heap.size w hB5 Lp ?_
      intro w6 P6 hB6 hoth
      have N6 : At w6 w3.heap.size 100 #[.int .i64 (n0 : Int), .int .i64 (n1 : Int), .int .i64 (n2 : Int), .int .i64 ((n3 : Int) - 1000)] := (hoth _ (by omega)).trans N5
      have R6 : At w6 (w.heap.size + 1) 34 #[.int .i64 0, .slice none 0 0] := (hoth _ (by omega)).trans R5
      refine hK _ _ _ (fun _ h => h) ⟨(N6.cell 2).trans rfl, (cell_same (hoth _ (by omega))).trans S0, (cell_same (hoth _ (by omega))).trans S1, (cell_same (hoth _ (by omega))).trans S2⟩ ?_
      (try simp only [Act.put, List.setIfInBounds_toArray, List.set_cons_zero, List.set_cons_succ])
      refine mix_nil ?_
      go_wp2
      exact ⟨⟨2 + 1, by omega, by go_num, P6, N6, R6, hB6⟩, by simp [intOf]⟩
    · have hidx := fldAt3 wr
      have hsl := slAt3 w1.heap.size
      have hw1 : IntKind.i64.wrap 7 = 7 := by decide
      have hw2 : IntKind.i64.wrap (n3 : Int) = (n3 : Int) := IntWalk.i64_in _ (by omega)
      go_wp2
      refine wp_region_mix [(0, false), (1, false), (2, false), (3, false), (4, false), (5, false), (6, false), (7, false), (8, false), (9, false), (10, false), (11, false), (12, false), (13, false), (14, false), (15, false), (16, true), (17, false), (18, true)] (fun u => u.cell? ⟨w3.heap.size, 3, none⟩ = some (.int .i64 ((n3 : Int) - 1000)) ∧ u.cell? ⟨wr.heap.size, 0, none⟩ = some (.int .i64 5) ∧ u.cell? ⟨wr.heap.size, 1, none⟩ = some (.int .i64 2) ∧ u.cell? ⟨wr.heap.size, 2, none⟩ = some (.int .i64 (-1000))) (by kernel_rfl) (by kernel_rfl) (fun _ _ _ _ _ h => h) (by go_simp) ?_
      simp only [mixOps, List.map_cons, List.map_nil, List.getElem?_cons_succ, List.getElem?_cons_zero, Option.getD_some]
      repeat (first
        | (refine mix_skip (by rfl) ?_
           (try simp only [Act.put, List.setIfInBounds_toArray, List.set_cons_zero, List.set_cons_succ]))
        | (refine mix_pure (v := ?_) (by rfl) (fun u hu => ?_) ?_
           rotate_left
           · obtain ⟨_, _, _, _⟩ := hu
             go_simp
             (with_reducible rfl)
           (try simp only [Act.put, List.setIfInBounds_toArray, List.set_cons_zero, List.set_cons_succ])))
      refine mix_call (by rfl) (fun K hK => ?_)
      go_simp
      refine (packs (n := n3) (by omega) _).mono ?_
      rintro e w5 ⟨A5, j5, c5, rfl, o5, hb5⟩
      obtain rfl : 2 = j5 := o5.len okB
      obtain ⟨g5, rfl, gl5, gh5⟩ := o5.form (by omega)
      have fB5 := fldB1' 0 (some ⟨g5, 0, none⟩) 2 c5
      refine hK _ _ _ (fun _ h => h) ⟨(hb5.cell (p := ⟨w3.heap.size, 3, none⟩) (by simp; omega)).trans (by go_simp), (hb5.cell (p := ⟨wr.heap.size, 0, none⟩) (by simp)).trans (by go_simp), (hb5.cell (p := ⟨wr.heap.size, 1, none⟩) (by simp)).trans (by go_simp), (hb5.cell (p := ⟨wr.heap.size, 2, none⟩) (by simp)).trans (by go_simp)⟩ ?_
      (try simp only [Act.put, List.setIfInBounds_toArray, List.set_cons_zero, List.set_cons_succ])
      refine mix_pure (v := ?_) (by rfl) (fun u hu => ?_) ?_
      rotate_left
      · go_simp
        (with_reducible rfl)
      (try simp only [Act.put, List.setIfInBounds_toArray, List.set_cons_zero, List.set_cons_succ])
      have F5 := (hbel.alloc hbel.size (.cells #[.int .i64 5, .int .i64 2, .int .i64 (-1000), .int .i64 1000] 103)).drew
      have hB5 := F5.trans (hb5.mono F5.size)
      have P5 := ((hP.alloc (.cells #[.int .i64 5, .int .i64 2, .int .i64 (-1000), .int .i64 1000] 103)).drew).below hb5 (by simp; omega)
      have N5 := ((hN'.alloc (.cells #[.int .i64 5, .int .i64 2, .int .i64 (-1000), .int .i64 1000] 103)).drew).below hb5 (by simp; omega)
      have R5 := ((hR.alloc (.cells #[.int .i64 5, .int .i64 2, .int .i64 (-1000), .int .i64 1000] 103)).drew).below hb5 (by simp; omega)
      have L5 : wr.heap.size < w5.heap.size := by have := hb5.size; simp at this; omega
      have S0 : w5.cell? ⟨wr.heap.size, 0, none⟩ = some (.int .i64 5) := (hb5.cell (p := ⟨wr.heap.size, 0, none⟩) (by simp)).trans (by go_simp)
      have S1 : w5.cell? ⟨wr.heap.size, 1, none⟩ = some (.int .i64 2) := (hb5.cell (p := ⟨wr.heap.size, 1, none⟩) (by simp)).trans (by go_simp)
      have S2 : w5.cell? ⟨wr.heap.size, 2, none⟩ = some (.int .i64 (-1000)) := (hb5.cell (p := ⟨wr.heap.size, 2, none⟩) (by simp)).trans (by go_simp)
      refine mix_call (by rfl) (fun K hK => ?_)
      refine copy_wp (.tmp 28) (.tmp 38) 32 32 rfl 5 Tryd.underlying32 u8_size _ _ _ _ _ _ rfl rfl w1.heap.size 5 (encRow n0 n1 n2 n3 3) 130 P5 (eB.row [UInt8.ofNat n3, UInt8.ofNat (n3 / 256)]) rfl (fun _ => ⟨rfl, _, rfl, Rd.src (o5.rd okB)⟩) (by show 5 + 2 ≤ 7; omega) (okB.row_one _) w.heap.size w hB5 Lp ?_
      intro w6 P6 hB6 hoth
      have N6 : At w6 w3.heap.size 100 #[.int .i64 (n0 : Int), .int .i64 (n1 : Int), .int .i64 (n2 : Int), .int .i64 ((n3 : Int) - 1000)] := (hoth _ (by omega)).trans N5
      have R6 : At w6 (w.heap.size + 1) 34 #[.int .i64 0, .slice none 0 0] := (hoth _ (by omega)).trans R5
      refine hK _ _ _ (fun _ h => h) ⟨(N6.cell 3).trans rfl, (cell_same (hoth _ (by omega))).trans S0, (cell_same (hoth _ (by omega))).trans S1, (cell_same (hoth _ (by omega))).trans S2⟩ ?_
      (try simp only [Act.put, List.setIfInBounds_toArray, List.set_cons_zero, List.set_cons_succ])
      refine mix_nil ?_
      go_wp2
      exact ⟨⟨3 + 1, by omega, by go_num, P6, N6, R6, hB6⟩, by simp [intOf]⟩
    · have hsl := slAll w1.heap.size
      obtain ⟨q0, q1, f0, f1⟩ := hR.two
      have L0 : ¬ w.heap.size + 1 = w1.heap.size := by omega
      go_wp2
      refine bodyPost_ret (v := .agg #[.int .i64 0, .slice (some ⟨w1.heap.size, 0, none⟩) 7 7]) (by simp [results, Tryd.results60, go_sem, q0, q1]) rfl ?_
      refine ⟨_, 7, 7, rfl, ?_, (hbel.setCell (by simp) _).setCell (by simp) _⟩
      have P7 := (hP.far (p := ⟨w.heap.size + 1, 0, none⟩) (fun e => L0 e.symm) (.int .i64 0)).far (p := ⟨w.heap.size + 1, 1, none⟩) (fun e => L0 e.symm) (.slice (some ⟨w1.heap.size, 0, none⟩) 7 7)
      rw [encL_eq]
      exact ⟨rfl, .inr ⟨_, 7, _, rfl, Lp, P7, by omega, by unfold maxLen; omega, rfl, rfl⟩⟩

/-- A code and bytes that lie in an array's block. -/
theorem implEncodeSample (a0 a1 a2 a3 : Int) (w : World) (hF : Flds w) :
    Calls Tryd.prog 60 #[.agg #[.int .i64 a0, .int .i64 a1, .int .i64 a2, .int .i64 a3]] w fun e w' => RetBA (encodeM (a0, a1, a2, a3)) w e w' := by
  rcases faultM_or (a0, a1, a2, a3) with h | h
  · obtain ⟨n0, n1, n2, n3, rfl, rfl, rfl, rfl, k0, k1, k2, k3⟩ := faultM_nat h
    rw [encodeM_nat h]
    exact implEncodeSample_ok n0 n1 n2 n3 w hF h k0 k1 k2 k3
  · have hB0 : Below w.heap.size w ((w.alloc (.cells #[.int .i64 a0, .int .i64 a1, .int .i64 a2, .int .i64 a3] 27)).alloc (.cells #[.int .i64 0, .slice none 0 0] 34)) := ((Below.refl _ _).alloc (Nat.le_refl _) _).alloc (by simp) _
    have r0 := At.new (w.alloc (.cells #[.int .i64 a0, .int .i64 a1, .int .i64 a2, .int .i64 a3] 27)) 34 #[.int .i64 0, .slice none 0 0]
    rw [show (w.alloc (.cells #[.int .i64 a0, .int .i64 a1, .int .i64 a2, .int .i64 a3] 27)).heap.size = w.heap.size + 1 by simp] at r0
    have hq := implSampleFault a0 a1 a2 a3 _ (hF.below hB0)
    rw [h] at hq
    rw [encodeM_no h]
    clear h
    go_enter Tryd.func60, Tryd.ntmps60
    go_wp2_with fail
    refine hq.mono ?_
    rintro e w1 ⟨rfl, hb1⟩
    have hB1 := hB0.trans (hb1.mono hB0.size)
    have r1 := r0.below hb1 r0.lt
    obtain ⟨c0, c1, f0, f1⟩ := r1.two
    go_wp2_with fail
    refine bodyPost_ret (v := .agg #[.int .i64 3, .slice none 0 0]) (by simp [results, Tryd.results60, go_sem, c0, c1]) rfl ?_
    exact ⟨none, 0, 0, rfl, Ow.nil, (hB1.setCell (by simp) _).setCell (by simp) _⟩
end Go.Proofs.YteiclanlhnccnaaDoor
