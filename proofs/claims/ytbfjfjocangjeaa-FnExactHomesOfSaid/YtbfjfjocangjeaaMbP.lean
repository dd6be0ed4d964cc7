/-
  The program's marks and members.
-/
import Derived.Test.YtbfjfjocangjeaaMbS
import Derived.Test.YtbfjfjocangjeaaCmp
import Derived.Laws.LoneSync
namespace Go.Proofs.Ytbfjfjocangjeaa
set_option maxRecDepth 20000
open Go.RowKit
set_option linter.unusedSimpArgs false
set_option linter.unusedVariables false

/-- What rangeFault answers. -/
def rngMk (bs : List (Int × Int × Int)) : Int := if bs.all inB = true then 0 else 3
theorem rangeMk (g n c : Nat) (bs : List (Int × Int × Int)) (w : World) (hb : Bnds w g bs) (hg : g < w.heap.size) (hn : bs.length = n) (hm : n ≤ 1000) :
    Calls Try.prog 70 #[.slice (some ⟨g, 0, none⟩) n c] w fun e w' => e = .returned (.int .i64 (rngMk bs)) ∧ Below w.heap.size w w' := by
  unfold rngMk
  have HW := areWithin_any g n c bs w hb hg hn hm
  rcases hq : bs.all inB
  · rw [hq] at HW
    rw [if_neg (by simp)]
    clear hq hb hn
    go_enter Try.func70, Try.ntmps70
    go_wp2_with fail
    refine HW.mono ?_
    rintro e w1 ⟨rfl, hb1⟩
    go_wp2
    go_ret
    exact ⟨rfl, hb1⟩
  · rw [hq] at HW
    rw [if_pos rfl]
    clear hq hb hn
    go_enter Try.func70, Try.ntmps70
    go_wp2_with fail
    refine HW.mono ?_
    rintro e w1 ⟨rfl, hb1⟩
    go_wp2
    go_ret
    exact ⟨rfl, hb1⟩

set_option maxHeartbeats 400000 in
theorem or64Mk (g n c : Nat) (l : List Int) (w : World) (hl : Ints w g l) (hn : l.length = n) (hm : n ≤ 1000) :
    Calls Try.prog 65 #[.slice (some ⟨g, 0, none⟩) n c] w fun e w' => e = .returned (.int .i64 (orM l)) ∧ w' = w := by
  have Hn := Lib.hid hn
  clear hn
  go_enter Try.func65, Try.ntmps65
  go_wp2
  go_loopw [8] (fun i wr => OrRel w l n i wr) (fun i _ => n - (intOf i).toNat)
  case atStart => exact ⟨0, Nat.zero_le _, rfl, rfl, rfl⟩
  case round =>
    obtain ⟨k, hk, rfl, hd, rfl⟩ := hrel
    have Hd := Lib.hid hd
    clear hd
    by_cases hlt : k < n
    · have hkl : k < l.length := by rw [Hn.out]; exact hlt
      obtain ⟨x, hx⟩ : ∃ x, l[k]? = some x := ⟨l[k], List.getElem?_eq_getElem hkl⟩
      have hc := hl k x hx
      have Ho := Lib.hid (show orM (l.drop k) = if x = 0 then orM (l.drop (k + 1)) else x by
        rw [List.drop_eq_getElem_cons hkl, orM_cons]
        rw [List.getElem?_eq_getElem hkl] at hx
        rw [Option.some.inj hx])
      clear hx
      by_cases h0 : x = 0
      · subst h0
        go_wp2
        refine ⟨⟨k + 1, by omega, by go_num, ?_, rfl⟩, by simp [intOf]; omega⟩
        have := Ho.out
        rw [if_pos rfl] at this
        rw [← this]
        exact Hd.out
      · have hne : (x != 0) = true := by simpa using h0
        have Hx := Lib.hid (show orM l = x by rw [← Hd.out, Ho.out, if_neg h0])
        clear h0
        go_wp2
        go_ret
        exact ⟨by rw [Hx.out]; rfl, rfl⟩
    · obtain rfl : k = n := by omega
      have Hf := Lib.hid (show orM l = 0 by rw [← Hd.out, List.drop_eq_nil_of_le (Nat.le_of_eq Hn.out)]; rfl)
      go_wp2
      go_ret
      exact ⟨by rw [Hf.out]; rfl, rfl⟩
theorem intsMk_at {w : World} {g : Nat} {t : TypeId} {l : List Int} (h : At w g t (l.map (Value.int .i64)).toArray) : Ints w g l := fun k x hk => by
  rw [h.cell k]
  simp [hk]
theorem bndsMk_at {w : World} {g : Nat} {t : TypeId} {a lo hi : Int} (h : At w g t #[.int .i64 a, .int .i64 lo, .int .i64 hi]) : Bnds w g [(a, lo, hi)] := by
  intro k b hk
  match k, hk with
  | 0, hk =>
    obtain rfl : (a, lo, hi) = b := by simpa using hk
    exact ⟨h.cell 0, h.cell 1, h.cell 2⟩
  | k + 1, hk => simp at hk

theorem implMarkFault (a b : Int) (w : World) :
    Calls Try.prog 33 #[.agg #[.int .i64 a, .int .i64 b]] w fun e w' => e = .returned (.int .i64 (markFaultM (a, b))) ∧ Below w.heap.size w w' := by
  have hb0 : Below w.heap.size w ((w.alloc (.cells #[.int .i64 a, .int .i64 b] 25)).alloc (.cells #[.int .i64 a, .int .i64 1, .int .i64 3] 98)) := ((Below.refl _ _).alloc (Nat.le_refl _) _).alloc (by simp) _
  have x0 : At ((w.alloc (.cells #[.int .i64 a, .int .i64 b] 25)).alloc (.cells #[.int .i64 a, .int .i64 1, .int .i64 3] 98)) w.heap.size 25 #[.int .i64 a, .int .i64 b] := (At.new w 25 #[.int .i64 a, .int .i64 b]).alloc _
  rcases h1 : inB (a, 1, 3)
  · have Hm := Lib.hid (show markFaultM (a, b) = 1 by simp [markFaultM, h1])
    go_enter Try.func33, Try.ntmps33
    go_wp2_with fail
    refine (areWithin_any _ 1 _ [(a, 1, 3)] _ (bnds_one (by simp)) (by simp) rfl (by omega)).mono ?_
    rintro e w1 ⟨he, hb1⟩
    obtain rfl : e = .returned (.bool false) := by rw [he]; simp [h1]
    clear he
    go_wp2
    go_ret
    exact ⟨by rw [Hm.out]; rfl, hb0.trans (hb1.mono hb0.size)⟩
  · have Hm := Lib.hid (show markFaultM (a, b) = rngMk [(b, 0, 60000)] by simp [markFaultM, rngMk, h1])
    go_enter Try.func33, Try.ntmps33
    go_wp2_with fail
    refine (areWithin_any _ 1 _ [(a, 1, 3)] _ (bnds_one (by simp)) (by simp) rfl (by omega)).mono ?_
    rintro e w1 ⟨he, hb1⟩
    obtain rfl : e = .returned (.bool true) := by rw [he]; simp [h1]
    clear he
    obtain ⟨p0, p1⟩ := (x0.below hb1 x0.lt).twoC
    have hB1 := hb0.trans (hb1.mono hb0.size)
    go_wp2_with fail
    refine (rangeMk _ 1 _ [(b, 0, 60000)] _ (bnds_one (by simp)) (by simp) rfl (by omega)).mono ?_
    rintro e w2 ⟨rfl, hb2⟩
    have hB2 := (hB1.alloc hB1.size (.cells #[.int .i64 b, .int .i64 0, .int .i64 60000] 98)).trans (hb2.mono (by have := hB1.size; simp; omega))
    go_wp2
    go_ret
    exact ⟨by rw [Hm.out]; rfl, hB2⟩

theorem clockFault (n : Int) (w : World) :
    Calls Try.prog 66 #[.int .i64 n] w fun e w' => e = .returned (.int .i64 (rngMk [(n, 0, 100000)])) ∧ Below w.heap.size w w' := by
  go_enter Try.func66, Try.ntmps66
  go_wp2_with fail
  refine (rangeMk _ 1 _ [(n, 0, 100000)] _ (bnds_one (by simp)) (by simp) rfl (by omega)).mono ?_
  rintro e w2 ⟨rfl, hb2⟩
  go_wp2
  go_ret
  exact ⟨rfl, ((Below.refl _ _).alloc (Nat.le_refl _) _).trans (hb2.mono (by simp))⟩

theorem keys_strong (a b : Mrk) : decide (0 < orM [cmpM a.2 b.2, cmpM a.1 b.1]) = strongM a b := by
  obtain ⟨a0, a1⟩ := a
  obtain ⟨b0, b1⟩ := b
  unfold strongM
  simp only [orM_cons, orM_nil]
  rcases cmpM_range a1 b1 with ⟨h0, k0⟩ | ⟨h0, k0⟩ | ⟨h0, k0⟩
  · have n0 : ¬ b1 < a1 := by omega
    have n1 : ¬ a1 = b1 := by omega
    simp [h0, n0, n1]
  · subst k0
    rcases cmpM_range a0 b0 with ⟨h1, k1⟩ | ⟨h1, k1⟩ | ⟨h1, k1⟩
    · have n1 : ¬ b0 < a0 := by omega
      simp [h0, h1]; omega
    · subst k1
      simp [h0, h1]
    · simp [h0, h1, k1]
  · simp [h0, k0]

theorem ints_twoMk {w : World} {t : TypeId} {x y : Int} {g : Nat} (hg : w.heap.size = g) : Ints ((w.alloc (.cells #[.int .i64 x, .int .i64 y] t)).drew) g [x, y] := by
  subst hg
  have h := At.new w t #[.int .i64 x, .int .i64 y]
  intro k u hk
  match k, hk with
  | 0, hk => obtain rfl : x = u := by simpa using hk
             exact h.cell 0
  | 1, hk => obtain rfl : y = u := by simpa using hk
             exact h.cell 1
  | k + 2, hk => simp at hk

set_option maxHeartbeats 1000000 in
set_option maxRecDepth 2000 in
theorem implIsStronger (a0 a1 b0 b1 : Int) (w : World) :
    Calls Try.prog 29 #[.agg #[.int .i64 a0, .int .i64 a1], .agg #[.int .i64 b0, .int .i64 b1]] w fun e w' => e = .returned (.bool (strongM (a0, a1) (b0, b1))) ∧ Below w.heap.size w w' := by
  have Hk := Lib.hid (keys_strong (a0, a1) (b0, b1))
  go_enter Try.func29, Try.ntmps29
  go_wp2
  refine wp_region_mix [(0, false), (1, false), (2, false), (3, false), (5, false), (6, false), (7, false), (8, false), (4, true), (9, true), (10, true), (11, true), (12, false), (13, false)] (fun u => u.cell? ⟨w.heap.size, 0, none⟩ = some (.int .i64 a0) ∧ u.cell? ⟨w.heap.size, 1, none⟩ = some (.int .i64 a1) ∧ u.cell? ⟨w.heap.size + 1, 0, none⟩ = some (.int .i64 b0) ∧ u.cell? ⟨w.heap.size + 1, 1, none⟩ = some (.int .i64 b1)) (by kernel_rfl) (by kernel_rfl) (fun _ _ _ _ _ h => h) (by go_simp) ?_
  simp only [mixOps, List.map_cons, List.map_nil, List.getElem?_cons_succ, List.getElem?_cons_zero, Option.getD_some]
  iterate 8
    refine mix_pure (v := ?_) (by rfl) (fun u hu => ?_) ?_
    rotate_left
    · obtain ⟨_, _, _, _⟩ := hu
      go_simp
      (with_reducible rfl)
    (try simp only [Act.put, List.setIfInBounds_toArray, List.set_cons_zero, List.set_cons_succ])
  iterate 2
    refine mix_call (by rfl) (fun K hK => ?_)
    go_simp
    refine (cmpCompare _ _ _).mono ?_
    rintro e w1 ⟨rfl, rfl⟩
    refine hK _ _ _ (fun _ h => h) (by go_simp) ?_
    (try simp only [Act.put, List.setIfInBounds_toArray, List.set_cons_zero, List.set_cons_succ])
  refine mix_call (by rfl) (fun K hK => ?_)
  go_simp
  refine hK _ _ _ (fun _ h => h) (by go_simp) ?_
  (try simp only [Act.put, List.setIfInBounds_toArray, List.set_cons_zero, List.set_cons_succ])
  refine mix_call (by rfl) (fun K hK => ?_)
  go_simp
  refine (cmpOr _ 2 _ [cmpM a1 b1, cmpM a0 b0] _ (ints_twoMk (by simp)) rfl (by omega)).mono ?_
  rintro e w1 ⟨rfl, rfl⟩
  refine hK _ _ _ (fun _ h => h) (by go_simp) ?_
  (try simp only [Act.put, List.setIfInBounds_toArray, List.set_cons_zero, List.set_cons_succ])
  iterate 2
    refine mix_pure (v := ?_) (by rfl) (fun u hu => ?_) ?_
    rotate_left
    · go_simp
      (with_reducible rfl)
    (try simp only [Act.put, List.setIfInBounds_toArray, List.set_cons_zero, List.set_cons_succ])
  refine mix_nil ?_
  go_wp2
  go_ret
  exact ⟨by rw [← Hk.out]; rfl, (((Below.refl _ _).alloc (Nat.le_refl _) _).alloc (by simp) _).alloc (by simp; omega) _ |>.drew⟩

end Go.Proofs.Ytbfjfjocangjeaa
