/-
  The model's SentHint.
-/
import Derived.Test.YtjlkmfijkhjjkaaDoorHintS
namespace Go.Proofs.YtjlkmfijkhjjkaaDoor
set_option maxRecDepth 20000
open Go.RowKit
set_option linter.unusedSimpArgs false
set_option linter.unusedVariables false

set_option maxRecDepth 100000 in
set_option maxHeartbeats 4000000 in
theorem specSentHint (A : Option Addr) (n c : Nat) (l : List Hnt) (p i now : Int) (w : World) (ha : Rd eH w w.heap.size A l) (hn : l.length = n) :
    Calls Tryd.prog 23 #[.slice A n c, .int .i64 p, .int .i64 i, .int .i64 now] w (RetHs (sentM l p i now) w) := by
  have hB0 : Below w.heap.size w (w.alloc (.cells #[.int .i64 0, .slice none 0 0] 30)) := (Below.refl _ _).alloc (Nat.le_refl _) _
  have r0 := At.new w 30 #[.int .i64 0, .slice none 0 0]
  have ha0 := ha.lift hB0
  have HF := specHintsFault A n c l _ ha0 hn
  by_cases h0 : hintsFaultM l = 0
  rotate_left
  · rw [show (sentM l p i now) = (hintsFaultM l, []) from if_pos h0]
    have hne : (hintsFaultM l != 0) = true := by rw [bne_iff_ne]; exact h0
    generalize hintsFaultM l = sf at *
    clear h0
    go_enter Tryd.func23, Tryd.ntmps23
    go_wp2_with fail
    refine (HF).mono ?_
    rintro e w1 ⟨rfl, hb1⟩
    have hB1 := hB0.trans (hb1.mono hB0.size)
    have r1 := r0.below hb1 r0.lt
    have ha1 := ha0.lift hb1
    obtain ⟨c0, c1, _, _⟩ := r1.two
    go_wp2_with fail
    refine bodyPost_ret (v := .agg #[.int .i64 sf, .slice none 0 0]) (by simp [results, Tryd.results23, go_sem, c0, c1]) rfl ?_
    exact ⟨_, _, _, rfl, Ow.nil, (hB1.setCell (by simp) _).setCell (by simp) _⟩
  obtain ⟨h8, hall, hdis⟩ := (hintsFault_iff l).1 h0
  rw [h0] at HF
  rcases hp : inB (now, 0, 100000)
  · rw [show (sentM l p i now) = (3, []) by unfold sentM; rw [if_neg (by simp [h0]), if_pos hp]]
    clear h0
    go_enter Tryd.func23, Tryd.ntmps23
    go_wp2_with fail
    refine (HF).mono ?_
    rintro e w1 ⟨rfl, hb1⟩
    have hB1 := hB0.trans (hb1.mono hB0.size)
    have r1 := r0.below hb1 r0.lt
    have ha1 := ha0.lift hb1
    go_wp2_with fail
    refine (l1In_any now 0 100000 _).mono ?_
    rintro e w99 ⟨rfl, rfl⟩
    obtain ⟨c0, c1, _, _⟩ := r1.two
    go_wp2_with fail
    refine bodyPost_ret (v := .agg #[.int .i64 3, .slice none 0 0]) (by simp [results, Tryd.results23, go_sem, c0, c1]) rfl ?_
    exact ⟨_, _, _, rfl, Ow.nil, (hB1.setCell (by simp) _).setCell (by simp) _⟩
  have HL := fun W (h1 : Rd eH W W.heap.size A l) => l4Find A n c l p i W h1 hn (by unfold maxLen; omega)
  rcases findHI_or l p i with ⟨hi, hj⟩ | ⟨k, hi, hj, hk⟩
  · rw [hi] at HL
    rw [show (sentM l p i now) = (4, []) by unfold sentM; rw [if_neg (by simp [h0]), if_neg (by simp [hp]), hj]]
    clear h0 hi hj
    go_enter Tryd.func23, Tryd.ntmps23
    go_wp2_with fail
    refine (HF).mono ?_
    rintro e w1 ⟨rfl, hb1⟩
    have hB1 := hB0.trans (hb1.mono hB0.size)
    have r1 := r0.below hb1 r0.lt
    have ha1 := ha0.lift hb1
    go_wp2_with fail
    refine (l1In_any now 0 100000 _).mono ?_
    rintro e w99 ⟨rfl, rfl⟩
    go_wp2_with fail
    refine (HL _ ha1).mono ?_
    rintro e w99 ⟨rfl, rfl⟩
    obtain ⟨c0, c1, _, _⟩ := r1.two
    go_wp2_with fail
    refine bodyPost_ret (v := .agg #[.int .i64 4, .slice none 0 0]) (by simp [results, Tryd.results23, go_sem, c0, c1]) rfl ?_
    exact ⟨_, _, _, rfl, Ow.nil, (hB1.setCell (by simp) _).setCell (by simp) _⟩
  · rw [hi] at HL
    obtain ⟨g, o, a0, a1, a2, a3, a4, a5, a6, rfl, hg, hx, -⟩ := ha0.hnt (k := k) hk
    rw [show (sentM l p i now) = (0, l.set k (a0, (a1, a2, a3, a4), (if a5 + 1 < 4 then a5 + 1 else 4), now + pw a5.toNat)) by unfold sentM; rw [if_neg (by simp [h0]), if_neg (by simp [hp]), hj]; simp only; rw [hx]; rfl]
    obtain ⟨hf0, hr0⟩ := hfault_zero (hall _ (List.mem_of_getElem? hx))
    have h5 : 0 ≤ a5 ∧ a5 ≤ 4 := by unfold rangeH at hr0; simp [inB] at hr0; omega
    have hnow : 0 ≤ now ∧ now ≤ 100000 := by simpa [inB] using hp
    obtain ⟨m, rfl⟩ : ∃ m : Nat, a5 = (m : Int) := ⟨a5.toNat, by omega⟩
    have hm : m ≤ 4 := by omega
    rw [show ((m : Int)).toNat = m by simp]
    obtain ⟨q1, q2⟩ := pw_le hm
    have hP := l4Power m hm
    obtain ⟨b, hb⟩ : ∃ b, pw m = b := ⟨_, rfl⟩
    rw [hb] at hP q1 q2 ⊢
    clear hb
    have Hx := Lib.hid hx
    have hk0 : ¬ (k : Int) < 0 := by omega
    have hk1 : (0 : Int) ≤ (k : Int) := by omega
    have hkn : (k : Int) < (n : Int) := by omega
    have hw1 : IntKind.i64.wrap (now + b) = now + b := IntWalk.i64_in _ (by omega)
    have hw2 : IntKind.i64.wrap ((m : Int) + 1) = (m : Int) + 1 := IntWalk.i64_in _ (by omega)
    have hM := l1Min ((m : Int) + 1) 4
    obtain ⟨d, hd⟩ : ∃ d, (if (m : Int) + 1 < 4 then (m : Int) + 1 else 4) = d := ⟨_, rfl⟩
    rw [hd] at hM ⊢
    clear h0 hi hj hx hf0 hr0 h5 hd
    go_enter Tryd.func23, Tryd.ntmps23
    go_wp2_with fail
    refine (HF).mono ?_
    rintro e w1 ⟨rfl, hb1⟩
    have hB1 := hB0.trans (hb1.mono hB0.size)
    have r1 := r0.below hb1 r0.lt
    have ha1 := ha0.lift hb1
    go_wp2_with fail
    refine (l1In_any now 0 100000 _).mono ?_
    rintro e w99 ⟨rfl, rfl⟩
    go_wp2_with fail
    refine (HL _ ha1).mono ?_
    rintro e w99 ⟨rfl, rfl⟩
    go_wp2_with fail
    refine (l4Copy _ n c l _ ha1 hn (by omega)).mono ?_
    rintro e w2 ⟨A2, c2, rfl, o2, hb2⟩
    have hB2 := hB1.trans (hb2.mono hB1.size)
    have r2 := r1.below hb2 r1.lt
    have ha2 := ha1.lift hb2
    obtain ⟨g2, rfl, hg2, hg2'⟩ := o2.form (by omega)
    obtain ⟨d0, d1, d2, d3, d4, d5, d6⟩ := o2.hntAt Hx.out
    have fz := fun j => o2.frozenAt j
    have f5 := fz (k * 7 + 5)
    have f6 := fz (k * 7 + 6)
    have lk : k < l.length := getElem?_some_lt Hx.out
    have s1 := o2.hntPut (j := 6) (y := (a0, (a1, a2, a3, a4), (m : Int), now + b)) (u := .int .i64 (now + b)) Hx.out (by omega) rfl
    have s2 := s1.1.hntPut (j := 5) (x := (a0, (a1, a2, a3, a4), (m : Int), now + b)) (y := (a0, (a1, a2, a3, a4), d, now + b)) (u := .int .i64 d) (by rw [List.getElem?_set_self lk]) (by omega) rfl
    rw [List.set_set] at s2
    have rs1 := r2.far (p := ⟨g2, k * 7 + 6, none⟩) (by have := r1.lt; simp; omega) (.int .i64 (now + b))
    have rs2 := rs1.far (p := ⟨g2, k * 7 + 5, none⟩) (by have := r1.lt; simp; omega) (.int .i64 d)
    have hs1 := hB2.setCell (p := ⟨g2, k * 7 + 6, none⟩) (by have := hB1.size; simp; omega) (.int .i64 (now + b))
    have hs2 := hs1.setCell (p := ⟨g2, k * 7 + 5, none⟩) (by have := hB1.size; simp; omega) (.int .i64 d)
    have Hs2 := Lib.hid s2.1
    have hr1 := r1.lt
    clear s1 s2 rs1 hs1 fz
    go_wp2_with fail
    refine (hP _).mono ?_
    rintro e w99 ⟨rfl, rfl⟩
    go_wp2_with fail
    refine (hM _).mono ?_
    rintro e w98 ⟨rfl, rfl⟩
    obtain ⟨c0, c1, _, _⟩ := rs2.two
    go_wp2_with fail
    refine bodyPost_ret (v := .agg #[.int .i64 0, .slice (some ⟨g2, 0, none⟩) n c2]) (by simp [results, Tryd.results23, go_sem, c0, c1]) rfl ?_
    exact ⟨_, _, _, rfl, (((Hs2.out.under (p := ⟨w.heap.size, 0, none⟩) hr1 _).under (p := ⟨w.heap.size, 1, none⟩) hr1 _).from_ hB1.size), (hs2.setCell (Nat.le_refl _) _).setCell (Nat.le_refl _) _⟩
end Go.Proofs.YtjlkmfijkhjjkaaDoor
