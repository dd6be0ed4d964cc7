/-
  The model's faults of a state.
-/
import Derived.Test.YteiclanlhnccnaaDoorRPure
import Derived.Test.YteiclanlhnccnaaDoorHintS
import Derived.Test.YteiclanlhnccnaaDoorStoreF
namespace Go.Proofs.YteiclanlhnccnaaDoor
set_option maxRecDepth 20000
open Go.RowKit
set_option linter.unusedSimpArgs false
set_option linter.unusedVariables false

theorem stateFault_store {s : Sta} {z : Int} (h : storeFaultM s.1 = z) (k : z ≠ 0) : stateFaultM s = z := by unfold stateFaultM; rw [h, if_pos k]
theorem stateFault_hints {s : Sta} {z : Int} (h : storeFaultM s.1 = 0) (h2 : hintsFaultM s.2.1 = z) (k : z ≠ 0) : stateFaultM s = z := by unfold stateFaultM; rw [h, if_neg (by simp), h2, if_pos k]
theorem stateFault_life {s : Sta} {b : Bool} (h : storeFaultM s.1 = 0) (h2 : hintsFaultM s.2.1 = 0) (h3 : inB (s.2.2, 0, 60000) = b) : stateFaultM s = if b then 0 else 3 := by
  unfold stateFaultM
  rw [h, if_neg (by simp), h2, if_neg (by simp), h3]

set_option maxHeartbeats 4000000 in
theorem specStateFault (A B : Option Addr) (n c m d : Nat) (l : List Smp) (h : List Hnt) (life : Int) (w : World) (ha : Rd eS w w.heap.size A l) (hb : Rd eH w w.heap.size B h) (hn : l.length = n) (hm : h.length = m) :
    Calls Tryd.prog 21 #[.agg #[.slice A n c, .slice B m d, .int .i64 life]] w fun e w' => e = .returned (.int .i64 (stateFaultM (l, h, life))) ∧ Below w.heap.size w w' := by
  have hB0 : Below w.heap.size w (w.alloc (.cells #[.slice A n c, .slice B m d, .int .i64 life] 54)) := (Below.refl _ _).alloc (Nat.le_refl _) _
  have r0 := At.new w 54 #[.slice A n c, .slice B m d, .int .i64 life]
  obtain ⟨c0, c1, c2, _, _, _⟩ := r0.three
  have SF := specStoreFault A n c l _ (ha.lift hB0) hn
  have hb0 := hb.lift hB0
  obtain ⟨sf, hsf⟩ : ∃ z, storeFaultM l = z := ⟨_, rfl⟩
  obtain ⟨hf, hhf⟩ : ∃ z, hintsFaultM h = z := ⟨_, rfl⟩
  rw [hsf] at SF
  by_cases k1 : sf = 0
  rotate_left
  · have Hr := Lib.hid (stateFault_store (s := (l, h, life)) hsf k1)
    have b1 : (sf != 0) = true := by simpa using k1
    clear hsf hhf k1 ha hb hn hm
    go_enter Tryd.func21, Tryd.ntmps21
    go_wp2_with (go_at_call 43; refine SF.mono ?_; rintro e w1 ⟨rfl, hb1⟩)
    go_ret
    exact ⟨by rw [Hr.out]; try rfl, hB0.trans (hb1.mono hB0.size)⟩
  subst k1
  have HF := fun W (hW : Below (w.alloc (.cells #[.slice A n c, .slice B m d, .int .i64 life] 54)).heap.size _ W) => specHintsFault B m d h W (hb0.lift hW) hm
  rw [hhf] at HF
  by_cases k2 : hf = 0
  rotate_left
  · have Hr := Lib.hid (stateFault_hints (s := (l, h, life)) hsf hhf k2)
    have b1 : (hf != 0) = true := by simpa using k2
    clear hsf hhf k2 ha hb hn hm hb0
    go_enter Tryd.func21, Tryd.ntmps21
    go_wp2_with fail
    refine SF.mono ?_
    rintro e w1 ⟨rfl, hb1⟩
    have r1 := r0.below hb1 r0.lt
    obtain ⟨e0, e1, e2, _, _, _⟩ := r1.three
    go_wp2_with fail
    refine (HF w1 hb1).mono ?_
    rintro e w2 ⟨rfl, hb2⟩
    go_wp2
    go_ret
    exact ⟨by rw [Hr.out]; try rfl, (hB0.trans (hb1.mono hB0.size)).trans (hb2.mono (hB0.trans (hb1.mono hB0.size)).size)⟩
  subst k2
  rcases h3 : inB (life, 0, 60000)
  all_goals
    have Hr := Lib.hid (stateFault_life (s := (l, h, life)) hsf hhf h3)
    have H3 := Lib.hid h3
    clear hsf hhf h3 ha hb hn hm hb0
    go_enter Tryd.func21, Tryd.ntmps21
    go_wp2_with fail
    refine SF.mono ?_
    rintro e w1 ⟨rfl, hb1⟩
    have r1 := r0.below hb1 r0.lt
    obtain ⟨e0, e1, e2, _, _, _⟩ := r1.three
    go_wp2_with fail
    refine (HF w1 hb1).mono ?_
    rintro e w2 ⟨rfl, hb2⟩
    have r2 := r1.below hb2 r1.lt
    obtain ⟨g0, g1, g2, _, _, _⟩ := r2.three
    go_wp2_with fail
    refine (l1In_any life 0 60000 w2).mono ?_
    rintro e w3 ⟨rfl, rfl⟩
    rw [H3.out]
    go_wp2
    go_ret
    exact ⟨by rw [Hr.out]; rfl, (hB0.trans (hb1.mono hB0.size)).trans (hb2.mono (hB0.trans (hb1.mono hB0.size)).size)⟩
end Go.Proofs.YteiclanlhnccnaaDoor
