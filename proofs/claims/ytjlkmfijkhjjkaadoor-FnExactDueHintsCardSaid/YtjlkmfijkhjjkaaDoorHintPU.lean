/-
  The program's DueHints.
-/
import Derived.Test.YtjlkmfijkhjjkaaDoorHintP
namespace Go.Proofs.YtjlkmfijkhjjkaaDoor
set_option maxRecDepth 20000
open Go.RowKit Go.Shelf
set_option linter.unusedSimpArgs false
set_option linter.unusedVariables false

def DueRelP (w1 : World) (l : List Hnt) (now : Int) (n : Nat) (o i : Value) (wr : World) : Prop :=
  ∃ (k : Nat) (A : Option Addr) (L c : Nat), k ≤ n ∧ i = .int .i64 k ∧ o = .slice A L c ∧ L ≤ k ∧ Ow eH wr w1.heap.size A L c (dueL (l.take k) now) ∧ Below w1.heap.size w1 wr

set_option maxRecDepth 100000 in
set_option maxHeartbeats 4000000 in
theorem implDueHints (A : Option Addr) (n c : Nat) (l : List Hnt) (now : Int) (w : World) (ha : Rd eH w w.heap.size A l) (hn : l.length = n) (hF : Flds w) :
    Calls Tryd.prog 17 #[.slice A n c, .int .i64 now] w (RetHs (dueM l now) w) := by
  have hB0 : Below w.heap.size w (w.alloc (.cells #[.int .i64 0, .slice none 0 0] 30)) := (Below.refl _ _).alloc (Nat.le_refl _) _
  have r0 := At.new w 30 #[.int .i64 0, .slice none 0 0]
  have ha0 := ha.lift hB0
  have hF0 := hF.below hB0
  have HF := implHintsFault A n c l _ ha0 hn hF0
  by_cases h0 : hintsFaultM l = 0
  rotate_left
  · rw [show dueM l now = (hintsFaultM l, []) from if_pos h0]
    have hne : (hintsFaultM l != 0) = true := by rw [bne_iff_ne]; exact h0
    generalize hintsFaultM l = sf at *
    clear h0
    go_enter Tryd.func17, Tryd.ntmps17
    go_wp2_with fail
    refine (HF).mono ?_
    rintro e w1 ⟨rfl, hb1⟩
    have r_1 := r0.below hb1 r0.lt
    have ha_1 := ha0.lift hb1
    have hF_1 := hF0.below hb1
    have hB_1 := hB0.trans (hb1.mono hB0.size)
    obtain ⟨r0_1, r1_1, rf_1, rg_1⟩ := r_1.two
    go_wp2_with fail
    refine bodyPost_ret (v := .agg #[.int .i64 sf, .slice none 0 0]) (by simp [results, Tryd.results17, go_sem, r0_1, r1_1]) rfl ?_
    exact ⟨_, _, _, rfl, Ow.nil, (hB_1.setCell (by simp) _).setCell (by simp) _⟩
  have hn8 := ((hintsFault_iff l).1 h0).1
  rw [show dueM l now = (0, dueL l now) by unfold dueM; rw [if_neg (by simp [h0])]]
  rw [h0] at HF
  have Hn := Lib.hid hn
  rw [hn] at hn8
  clear h0 hn
  go_enter Tryd.func17, Tryd.ntmps17
  go_wp2_with fail
  refine (HF).mono ?_
  rintro e w1 ⟨rfl, hb1⟩
  have r_1 := r0.below hb1 r0.lt
  have ha_1 := ha0.lift hb1
  have hF_1 := hF0.below hb1
  have hB_1 := hB0.trans (hb1.mono hB0.size)
  go_wp2
  go_loopw [6, 17] (fun o i wr => DueRelP w1 l now n o i wr) (fun _ i _ => n - (intOf i).toNat)
  case atStart => exact ⟨0, none, 0, 0, Nat.zero_le _, rfl, rfl, Nat.le_refl _, by simpa [dueL] using (Ow.nil : Ow eH w1 w1.heap.size none 0 0 []), Below.refl _ _⟩
  case round =>
    obtain ⟨k, A1, L1, c1, hk, rfl, rfl, hL, how, hbel⟩ := hrel
    by_cases hlt : k < n
    · obtain ⟨g, o, a0, a1, a2, a3, a4, a5, a6, rfl, hg, hx, c0, c1', c2, c3, c4, c5, c6⟩ := (ha_1.below hbel (Nat.le_refl _)).hnt (k := k) (by rw [Hn.out]; exact hlt)
      have Hq := Lib.hid (due_next now hx)
      clear hx
      have hlo := how.len okH
      have hBa := hbel.alloc hbel.size (.cells #[.int .i64 a0, .int .i64 a1, .int .i64 a2, .int .i64 a3, .int .i64 a4, .int .i64 a5, .int .i64 a6] 50)
      have hoa := how.alloc (.cells #[.int .i64 a0, .int .i64 a1, .int .i64 a2, .int .i64 a3, .int .i64 a4, .int .i64 a5, .int .i64 a6] 50)
      by_cases hnow : a6 ≤ now
      · have Hnow := Lib.hid hnow
        have ob : Rd eH ((wr.alloc (.cells #[.int .i64 a0, .int .i64 a1, .int .i64 a2, .int .i64 a3, .int .i64 a4, .int .i64 a5, .int .i64 a6] 50)).alloc (.cells #[.int .i64 a0, .int .i64 a1, .int .i64 a2, .int .i64 a3, .int .i64 a4, .int .i64 a5, .int .i64 a6] 50)) (wr.heap.size + 1 + 1) (some ⟨wr.heap.size + 1, 0, none⟩) [(a0, (a1, a2, a3, a4), a5, a6)] := by
          have := rd_lit okH (wr.alloc (.cells #[.int .i64 a0, .int .i64 a1, .int .i64 a2, .int .i64 a3, .int .i64 a4, .int .i64 a5, .int .i64 a6] 50)) 50 [(a0, (a1, a2, a3, a4), a5, a6)] #[.int .i64 a0, .int .i64 a1, .int .i64 a2, .int .i64 a3, .int .i64 a4, .int .i64 a5, .int .i64 a6] rfl
          simpa using this
        have hob := hoa.alloc (.cells #[.int .i64 a0, .int .i64 a1, .int .i64 a2, .int .i64 a3, .int .i64 a4, .int .i64 a5, .int .i64 a6] 50)
        have hBb := hBa.alloc hBa.size (.cells #[.int .i64 a0, .int .i64 a1, .int .i64 a2, .int .i64 a3, .int .i64 a4, .int .i64 a5, .int .i64 a6] 50)
        go_wp2_with (at_builtin; refine wpList_append_ow okH _ rfl (.tmp 25) (.tmp 27) _ rfl w1.heap.size info_hnt Tryd.underlying24 rfl A1 L1 c1 _ rfl hob _ 1 1 _ [(a0, (a1, a2, a3, a4), a5, a6)] rfl ob rfl (by unfold maxLen; omega) (by omega) hBb.size ?_; intro A5 c5' w5 ow5 hg5 _; have hB5 := hBb.grown hg5 hBb.size (fun g hg => (how.lt g hg).1))
        refine ⟨⟨k + 1, A5, L1 + 1, c5', by omega, by go_num, rfl, by omega, ?_, hB5⟩, by simp [intOf]; omega⟩
        rw [Hq.out, if_pos Hnow.out]
        exact ow5
      · have Hnow := Lib.hid hnow
        have hnow' : now < a6 := by omega
        go_wp2
        refine ⟨⟨k + 1, A1, L1, c1, by omega, by go_num, rfl, by omega, ?_, hBa⟩, by simp [intOf]; omega⟩
        rw [Hq.out, if_neg Hnow.out, List.append_nil]
        exact hoa
    · obtain rfl : n = k := by omega
      rw [show l.take n = l from List.take_of_length_le (by rw [Hn.out]; exact Nat.le_refl _)] at how
      have r2 := r_1.below hbel r_1.lt
      have lr := r_1.lt
      obtain ⟨rr0, rr1, rf0, rf1⟩ := r2.two
      have hBf := hB_1.trans (hbel.mono hB_1.size)
      go_wp2
      refine bodyPost_ret (v := .agg #[.int .i64 0, .slice A1 L1 c1]) (by simp [results, Tryd.results17, go_sem, rr0, rr1]) rfl ?_
      exact ⟨_, _, _, rfl, (((how.under (p := ⟨w.heap.size, 0, none⟩) lr _).under (p := ⟨w.heap.size, 1, none⟩) lr _).from_ hB_1.size), (hBf.setCell (Nat.le_refl _) _).setCell (Nat.le_refl _) _⟩
theorem hiDueHints : ∀ (A0 : Option Addr) (m0 e0 : Nat) (q0 : List Hnt) (t : Int) (W : World), Rd eH W W.heap.size A0 q0 → q0.length = m0 → m0 ≤ 1048576 → Flds W → Calls Tryd.prog 17 #[.slice A0 m0 e0, .int .i64 t] W (RetHs (dueM q0 t) W) :=
  fun A0 m0 e0 q0 t W ha hn _ hF => implDueHints A0 m0 e0 q0 t W ha hn hF
end Go.Proofs.YtjlkmfijkhjjkaaDoor
