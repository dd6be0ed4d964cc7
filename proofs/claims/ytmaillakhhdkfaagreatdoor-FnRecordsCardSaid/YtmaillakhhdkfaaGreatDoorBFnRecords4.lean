/-
  Texts of one proof, joined: each has its own namespace.
-/
import Derived.Test.YtmaillakhhdkfaaGreatDoorBFnRecords1
import Derived.Test.YtmaillakhhdkfaaGreatDoorBFnRecords3
import Derived.Test.YtmaillakhhdkfaaGreatDoorBFnRecords2
import Derived.Test.YtmaillakhhdkfaaGreatDoorBFnRecords0
/-
  The model's DoneHint.
-/
namespace Go.Proofs.YtmaillakhhdkfaaGreatDoor
set_option maxRecDepth 20000
open Go.RowKit
set_option linter.unusedSimpArgs false
set_option linter.unusedVariables false

set_option maxRecDepth 100000 in
set_option maxHeartbeats 4000000 in
theorem specDoneHint (A : Option Addr) (n c : Nat) (l : List Hnt) (p i : Int) (w : World) (ha : Rd eH w w.heap.size A l) (hn : l.length = n) (hc : n ≤ c) :
    Calls Tryz.prog 108 #[.slice A n c, .int .i64 p, .int .i64 i] w (RetHs (doneM l p i) w) := by
  have hB0 : Below w.heap.size w (w.alloc (.cells #[.int .i64 0, .slice none 0 0] 138)) := (Below.refl _ _).alloc (Nat.le_refl _) _
  have r0 := At.new w 138 #[.int .i64 0, .slice none 0 0]
  have ha0 := ha.lift hB0
  have HF := specHintsFault A n c l _ ha0 hn
  by_cases h0 : hintsFaultM l = 0
  rotate_left
  · rw [show (doneM l p i) = (hintsFaultM l, []) from if_pos h0]
    have hne : (hintsFaultM l != 0) = true := by rw [bne_iff_ne]; exact h0
    generalize hintsFaultM l = sf at *
    clear h0
    go_enter Tryz.func108, Tryz.ntmps108
    go_wp2_with fail
    refine (HF).mono ?_
    rintro e w1 ⟨rfl, hb1⟩
    have hB1 := hB0.trans (hb1.mono hB0.size)
    have r1 := r0.below hb1 r0.lt
    have ha1 := ha0.lift hb1
    obtain ⟨c0, c1, _, _⟩ := r1.two
    go_wp2_with fail
    refine bodyPost_ret (v := .agg #[.int .i64 sf, .slice none 0 0]) (by simp [results, Tryz.results108, go_sem, c0, c1]) rfl ?_
    exact ⟨_, _, _, rfl, Ow.nil, (hB1.setCell (by simp) _).setCell (by simp) _⟩
  obtain ⟨h8, hall, hdis⟩ := (hintsFault_iff l).1 h0
  rw [h0] at HF
  have HL := fun W (h1 : Rd eH W W.heap.size A l) => l4Find A n c l p i W h1 hn (by unfold maxLen; omega)
  rcases findHI_or l p i with ⟨hi, hj⟩ | ⟨k, hi, hj, hk⟩
  · rw [hi] at HL
    rw [show (doneM l p i) = (4, []) by unfold doneM; rw [if_neg (by simp [h0]), hj]]
    clear h0 hi hj
    go_enter Tryz.func108, Tryz.ntmps108
    go_wp2_with fail
    refine (HF).mono ?_
    rintro e w1 ⟨rfl, hb1⟩
    have hB1 := hB0.trans (hb1.mono hB0.size)
    have r1 := r0.below hb1 r0.lt
    have ha1 := ha0.lift hb1
    go_wp2_with fail
    refine (HL _ ha1).mono ?_
    rintro e w99 ⟨rfl, rfl⟩
    obtain ⟨c0, c1, _, _⟩ := r1.two
    go_wp2_with fail
    refine bodyPost_ret (v := .agg #[.int .i64 4, .slice none 0 0]) (by simp [results, Tryz.results108, go_sem, c0, c1]) rfl ?_
    exact ⟨_, _, _, rfl, Ow.nil, (hB1.setCell (by simp) _).setCell (by simp) _⟩
  rw [hi] at HL
  rw [show (doneM l p i) = (0, l.take k ++ l.drop (k + 1)) by unfold doneM; rw [if_neg (by simp [h0]), hj]]
  obtain ⟨g, o, rfl, -⟩ := ha0.add hk
  by_cases hcc : c = k + 1
  · subst hcc
    have hX : ∀ W : World, Rd eH W W.heap.size (some ⟨g, o, none⟩) l → Rd eH W W.heap.size (some ⟨g, o, none⟩) (l.drop (k + 1)) := fun W h => by
      rw [List.drop_of_length_le (by omega)]
      exact Rd.nil
    have htl : (l.take k).length = k := by rw [List.length_take]; omega
    have hdl : (l.drop (k + 1)).length = 0 := by rw [List.length_drop]; omega
    have HX := Lib.hid hX
    have Htl := Lib.hid htl
    have Hdl := Lib.hid hdl
    have hk0 : ¬ (k : Int) < 0 := by omega
    have hk1 : (0 : Int) ≤ (k : Int) := by omega
    have hkc : k ≤ (k + 1) := by omega
    have hwr : IntKind.i64.wrap ((k : Int) + 1) = (k : Int) + 1 := IntWalk.i64_in _ (by omega)
    have htn : ((k : Int) + 1).toNat = k + 1 := by omega
    have hm : k + 0 ≤ 8 := by omega
    clear h0 hi hj hX htl hdl
    go_enter Tryz.func108, Tryz.ntmps108
    go_wp2_with fail
    refine (HF).mono ?_
    rintro e w1 ⟨rfl, hb1⟩
    have hB1 := hB0.trans (hb1.mono hB0.size)
    have r1 := r0.below hb1 r0.lt
    have ha1 := ha0.lift hb1
    go_wp2_with fail
    refine (HL _ ha1).mono ?_
    rintro e w99 ⟨rfl, rfl⟩
    go_wp2
    have hbd := hB1.drew
    have rd := r1.drew
    have had := ha1.drewN 1
    have i1 : (k : Int) ≤ (k : Int) + 1 := by omega
    have i2 : (k : Int) + 1 ≤ (n : Int) := by omega
    have i3 : (0 : Int) ≤ (k : Int) + 1 := by omega
    refine wp_region_mix [(0, false), (1, false), (2, false), (4, false), (5, false), (6, false), (7, false), (3, true), (8, true), (9, false), (10, true)] (fun _ => True) (by kernel_rfl) (by kernel_rfl) (fun _ _ _ _ _ h => h) trivial ?_
    simp only [mixOps, List.map_cons, List.map_nil, List.getElem?_cons_succ, List.getElem?_cons_zero, Option.getD_some]
    iterate 7 (
      refine mix_pure (v := ?_) (by rfl) (fun u hu => ?_) ?_
      rotate_left
      · skip
        go_simp
        (with_reducible rfl)
      (try simp only [Act.put, List.setIfInBounds_toArray, List.set_cons_zero, List.set_cons_succ]))
    refine mix_call (by rfl) (fun K hK => ?_)
    go_simp
    refine (l4Copy (some ⟨g, o, none⟩) k _ (l.take k) _ (had.take k) Htl.out (by omega)).mono ?_
    rintro e w3 ⟨A3, c3, rfl, o3, hb3⟩
    have o3 : Ow eH w3 w1.heap.size A3 k c3 (l.take k) := o3
    have hB3 := hbd.trans (hb3.mono hbd.size)
    have r3 := rd.below hb3 rd.lt
    have hX3 := HX.out _ (had.lift hb3)
    have hs3 : w1.heap.size ≤ w3.heap.size := hb3.size
    refine hK _ _ _ (fun _ h => h) trivial ?_
    (try simp only [Act.put, List.setIfInBounds_toArray, List.set_cons_zero, List.set_cons_succ])
    refine mix_call (by rfl) (fun K hK => ?_)
    refine wp_append_ow okH _ (.tmp 25) (.tmp 29) _ rfl w1.heap.size info_hnt Tryz.underlying37 rfl A3 k c3 (l.take k) rfl o3 _ 0 _ _ (l.drop (k + 1)) rfl hX3 Hdl.out (by unfold maxLen; omega) (by omega) hs3 ?_
    intro A5 c5 w5 ow5 hg5 _
    have hB5 := hB3.grown hg5 hB3.size (fun g hg => by have := (o3.lt g hg).1; have := hB1.size; omega)
    have r5 := r3.grown hg5 (fun e => by have := (o3.lt _ e).1; have := r1.lt; omega)
    refine hK _ _ _ (fun _ h => h) trivial ?_
    (try simp only [Act.put, List.setIfInBounds_toArray, List.set_cons_zero, List.set_cons_succ])
    iterate 1 (
      refine mix_pure (v := ?_) (by rfl) (fun u hu => ?_) ?_
      rotate_left
      · skip
        go_simp
        (with_reducible rfl)
      (try simp only [Act.put, List.setIfInBounds_toArray, List.set_cons_zero, List.set_cons_succ]))
    obtain ⟨c0, c1, f0, f1⟩ := r5.two
    refine mix_call (by rfl) (fun K hK => ?_)
    go_simp
    refine hK _ _ _ (fun _ h => h) trivial ?_
    (try simp only [Act.put, List.setIfInBounds_toArray, List.set_cons_zero, List.set_cons_succ])
    refine mix_nil ?_
    go_wp2
    refine bodyPost_ret (v := .agg #[.int .i64 0, .slice A5 (k + 0) c5]) (by simp [results, Tryz.results108, go_sem, c0, c1]) rfl ?_
    exact ⟨_, _, _, rfl, (((ow5.under (p := ⟨w.heap.size, 0, none⟩) r1.lt _).under (p := ⟨w.heap.size, 1, none⟩) r1.lt _).from_ hB1.size), (hB5.setCell (Nat.le_refl _) _).setCell (Nat.le_refl _) _⟩
  · have hX : ∀ W : World, Rd eH W W.heap.size (some ⟨g, o, none⟩) l → Rd eH W W.heap.size (some ⟨g, o + (k + 1) * 7, none⟩) (l.drop (k + 1)) := fun W h => by
      rcases Nat.lt_or_ge (k + 1) l.length with hl | hl
      · obtain ⟨g', o', e, hr⟩ := h.add hl
        obtain ⟨rfl, rfl⟩ : g = g' ∧ o = o' := by simpa using Option.some.inj e
        exact hr
      · rw [List.drop_of_length_le hl]
        exact Rd.nil
    have htl : (l.take k).length = k := by rw [List.length_take]; omega
    have hdl : (l.drop (k + 1)).length = (n - (k + 1)) := by rw [List.length_drop]; omega
    have HX := Lib.hid hX
    have Htl := Lib.hid htl
    have Hdl := Lib.hid hdl
    have hk0 : ¬ (k : Int) < 0 := by omega
    have hk1 : (0 : Int) ≤ (k : Int) := by omega
    have hkc : k ≤ c := by omega
    have hwr : IntKind.i64.wrap ((k : Int) + 1) = (k : Int) + 1 := IntWalk.i64_in _ (by omega)
    have htn : ((k : Int) + 1).toNat = k + 1 := by omega
    have hm : k + (n - (k + 1)) ≤ 8 := by omega
    clear h0 hi hj hX htl hdl
    go_enter Tryz.func108, Tryz.ntmps108
    go_wp2_with fail
    refine (HF).mono ?_
    rintro e w1 ⟨rfl, hb1⟩
    have hB1 := hB0.trans (hb1.mono hB0.size)
    have r1 := r0.below hb1 r0.lt
    have ha1 := ha0.lift hb1
    go_wp2_with fail
    refine (HL _ ha1).mono ?_
    rintro e w99 ⟨rfl, rfl⟩
    go_wp2
    have hbd := hB1.drew
    have rd := r1.drew
    have had := ha1.drewN 1
    have i1 : (k : Int) ≤ (c : Int) := by omega
    have i2 : (k : Int) + 1 ≤ (n : Int) := by omega
    have i3 : (0 : Int) ≤ (k : Int) + 1 := by omega
    refine wp_region_mix [(0, false), (1, false), (2, false), (4, false), (5, false), (6, false), (7, false), (3, true), (8, true), (9, false), (10, true)] (fun _ => True) (by kernel_rfl) (by kernel_rfl) (fun _ _ _ _ _ h => h) trivial ?_
    simp only [mixOps, List.map_cons, List.map_nil, List.getElem?_cons_succ, List.getElem?_cons_zero, Option.getD_some]
    iterate 7 (
      refine mix_pure (v := ?_) (by rfl) (fun u hu => ?_) ?_
      rotate_left
      · skip
        go_simp
        (with_reducible rfl)
      (try simp only [Act.put, List.setIfInBounds_toArray, List.set_cons_zero, List.set_cons_succ]))
    refine mix_call (by rfl) (fun K hK => ?_)
    go_simp
    refine (l4Copy (some ⟨g, o, none⟩) k _ (l.take k) _ (had.take k) Htl.out (by omega)).mono ?_
    rintro e w3 ⟨A3, c3, rfl, o3, hb3⟩
    have o3 : Ow eH w3 w1.heap.size A3 k c3 (l.take k) := o3
    have hB3 := hbd.trans (hb3.mono hbd.size)
    have r3 := rd.below hb3 rd.lt
    have hX3 := HX.out _ (had.lift hb3)
    have hs3 : w1.heap.size ≤ w3.heap.size := hb3.size
    refine hK _ _ _ (fun _ h => h) trivial ?_
    (try simp only [Act.put, List.setIfInBounds_toArray, List.set_cons_zero, List.set_cons_succ])
    refine mix_call (by rfl) (fun K hK => ?_)
    refine wp_append_ow okH _ (.tmp 25) (.tmp 29) _ rfl w1.heap.size info_hnt Tryz.underlying37 rfl A3 k c3 (l.take k) rfl o3 _ (n - (k + 1)) _ _ (l.drop (k + 1)) rfl hX3 Hdl.out (by unfold maxLen; omega) (by omega) hs3 ?_
    intro A5 c5 w5 ow5 hg5 _
    have hB5 := hB3.grown hg5 hB3.size (fun g hg => by have := (o3.lt g hg).1; have := hB1.size; omega)
    have r5 := r3.grown hg5 (fun e => by have := (o3.lt _ e).1; have := r1.lt; omega)
    refine hK _ _ _ (fun _ h => h) trivial ?_
    (try simp only [Act.put, List.setIfInBounds_toArray, List.set_cons_zero, List.set_cons_succ])
    iterate 1 (
      refine mix_pure (v := ?_) (by rfl) (fun u hu => ?_) ?_
      rotate_left
      · skip
        go_simp
        (with_reducible rfl)
      (try simp only [Act.put, List.setIfInBounds_toArray, List.set_cons_zero, List.set_cons_succ]))
    obtain ⟨c0, c1, f0, f1⟩ := r5.two
    refine mix_call (by rfl) (fun K hK => ?_)
    go_simp
    refine hK _ _ _ (fun _ h => h) trivial ?_
    (try simp only [Act.put, List.setIfInBounds_toArray, List.set_cons_zero, List.set_cons_succ])
    refine mix_nil ?_
    go_wp2
    refine bodyPost_ret (v := .agg #[.int .i64 0, .slice A5 (k + (n - (k + 1))) c5]) (by simp [results, Tryz.results108, go_sem, c0, c1]) rfl ?_
    exact ⟨_, _, _, rfl, (((ow5.under (p := ⟨w.heap.size, 0, none⟩) r1.lt _).under (p := ⟨w.heap.size, 1, none⟩) r1.lt _).from_ hB1.size), (hB5.setCell (Nat.le_refl _) _).setCell (Nat.le_refl _) _⟩
end Go.Proofs.YtmaillakhhdkfaaGreatDoor
/-
  Two blocks that are known whole; a state copied: the model's.
-/
namespace Go.Proofs.YtmaillakhhdkfaaGreatDoor
set_option maxRecDepth 20000
open Go.RowKit
set_option linter.unusedSimpArgs false
set_option linter.unusedVariables false
attribute [local irreducible] mixW

/-- Two blocks that are known whole. -/
def At2 (w : World) (g : Nat) (t : TypeId) (cs : Array Value) (g' : Nat) (t' : TypeId) (cs' : Array Value) : Prop := At w g t cs ∧ At w g' t' cs'
section
variable {w w' : World} {g g' : Nat} {t t' : TypeId} {cs cs' : Array Value}
theorem At2.lt (h : At2 w g t cs g' t' cs') : g < w.heap.size ∧ g' < w.heap.size := ⟨h.1.lt, h.2.lt⟩
theorem At2.drew (h : At2 w g t cs g' t' cs') : At2 w.drew g t cs g' t' cs' := ⟨h.1.drew, h.2.drew⟩
theorem At2.below {B : Nat} (h : At2 w g t cs g' t' cs') (hb : Below B w w') (hl : g < B ∧ g' < B) : At2 w' g t cs g' t' cs' := ⟨h.1.below hb hl.1, h.2.below hb hl.2⟩
theorem At2.alloc (h : At2 w g t cs g' t' cs') (o : Obj) : At2 (w.alloc o) g t cs g' t' cs' := ⟨h.1.alloc o, h.2.alloc o⟩
theorem At2.far (h : At2 w g t cs g' t' cs') {p : Addr} (hp : g ≠ p.block ∧ g' ≠ p.block) (u : Value) : At2 (w.setCell p u) g t cs g' t' cs' := ⟨h.1.far hp.1 u, h.2.far hp.2 u⟩
end
/-- A row of the call's own lies in no block of another type. -/
theorem Ow.apart {α : Type} {E : Enc α} {w : World} {base n c : Nat} {A : Option Addr} {l : List α} {g : Nat} {t : TypeId} {cs : Array Value} (h : Ow E w base A n c l) (hne : E.tid ≠ t) (hx : At w g t cs) (i : Nat) (u : Value) : Ow E (w.setCell ⟨g, i, none⟩ u) base A n c l := by
  refine h.grown (grown_setCell w ⟨g, i, none⟩ u) (fun k hk e => ?_)
  obtain rfl : g = k := by simpa using e
  rcases h.2 with ⟨h0, _⟩ | ⟨g', cap, cur, hv, hb, hgg, rest⟩
  · simp only [Value.slice.injEq] at h0
    rw [h0.1] at hk
    simp at hk
  · simp only [Value.slice.injEq] at hv
    rw [hv.1] at hk
    obtain rfl : g' = g := by simpa using hk
    unfold At at hx
    rw [hx] at hgg
    simp only [Option.some.injEq, Obj.cells.injEq] at hgg
    exact hne hgg.2.1.symm
theorem grown_any {w w' : World} (h : w.grownBy w' none) (r : Option Nat) : w.grownBy w' r := ⟨h.os, h.tape, h.output, h.size, fun k hk _ => h.block k hk (by simp)⟩

set_option maxHeartbeats 4000000 in
theorem l5Copy (g : Nat) (A B : Option Addr) (n c m d : Nat) (l : List Smp) (h : List Hnt) (x : Int) (w : World) (hx : At w g 39 #[.slice A n c, .slice B m d, .int .i64 x]) (ha : Rd eS w w.heap.size A l) (hb : Rd eH w w.heap.size B h) (hn : l.length = n) (hm : h.length = m) (hn1 : n ≤ 1048576) (hm1 : m ≤ 1048576) :
    Calls Tryz.prog 50 #[.pointer (some ⟨g, 0, none⟩)] w fun e w' => ∃ A' c' B' d', e = .returned (.agg #[.slice A' n c', .slice B' m d', .int .i64 x]) ∧ Ow eS w' w.heap.size A' n c' l ∧ Ow eH w' w.heap.size B' m d' h ∧ Below w.heap.size w w' := by
  have hg := hx.lt
  have hB0 : Below w.heap.size w (w.alloc (.cells #[.slice none 0 0, .slice none 0 0, .int .i64 0] 39)).drew := ((Below.refl _ _).alloc (Nat.le_refl _) _).drew
  have x0 : At (w.alloc (.cells #[.slice none 0 0, .slice none 0 0, .int .i64 0] 39)).drew g 39 #[.slice A n c, .slice B m d, .int .i64 x] := (hx.alloc _).drew
  have z0 : At (w.alloc (.cells #[.slice none 0 0, .slice none 0 0, .int .i64 0] 39)).drew w.heap.size 39 #[.slice none 0 0, .slice none 0 0, .int .i64 0] := (At.new w 39 #[.slice none 0 0, .slice none 0 0, .int .i64 0]).drew
  have ha0 := ha.lift hB0
  have hb0 := hb.lift hB0
  go_enter Tryz.func50, Tryz.ntmps50
  go_wp2
  refine wp_region_mix [(0, false), (1, false), (2, false), (3, false), (5, false), (6, false), (7, false), (8, false), (10, false), (11, false), (12, false), (13, false), (4, true), (9, true), (14, false), (15, true)] (fun u => At u g 39 #[.slice A n c, .slice B m d, .int .i64 x]) (by kernel_rfl) (by kernel_rfl) (fun _ _ _ _ _ h => h) x0 ?_
  simp only [mixOps, List.map_cons, List.map_nil, List.getElem?_cons_succ, List.getElem?_cons_zero, Option.getD_some]
  repeat (first
    | (refine mix_skip (by rfl) ?_
       (try simp only [Act.put, List.setIfInBounds_toArray, List.set_cons_zero, List.set_cons_succ]))
    | (refine mix_pure (v := ?_) (by rfl) (fun u hu => ?_) ?_
       rotate_left
       · obtain ⟨_, _, _, _, _, _⟩ := hu.three
         go_simp
         (with_reducible rfl)
       (try simp only [Act.put, List.setIfInBounds_toArray, List.set_cons_zero, List.set_cons_succ])))
  generalize (w.alloc (.cells #[.slice none 0 0, .slice none 0 0, .int .i64 0] 39)).drew = v0 at *
  refine mix_call (by rfl) (fun K hK => ?_)
  go_simp
  refine (l3Copy A n c l _ ha0 hn hn1).mono ?_
  rintro e w1 ⟨A1, c1, rfl, o1, hb1⟩
  have hB1 := hB0.trans (hb1.mono hB0.size)
  have x1 := x0.below hb1 x0.lt
  have z1 := z0.below hb1 z0.lt
  refine hK _ _ (fun u => At u g 39 #[.slice A n c, .slice B m d, .int .i64 x]) (fun _ h => h) x1 ?_
  clear hK K
  (try simp only [Act.put, List.setIfInBounds_toArray, List.set_cons_zero, List.set_cons_succ])
  refine mix_call (by rfl) (fun K hK => ?_)
  go_simp
  refine (l4Copy B m d h _ (hb0.lift hb1) hm hm1).mono ?_
  rintro e w2 ⟨B1, d1, rfl, o2, hb2⟩
  have hB2 := hB1.trans (hb2.mono hB1.size)
  have x2 := x1.below hb2 x1.lt
  have z2 := z1.below hb2 z1.lt
  have lz := z0.lt
  have lz1 := z1.lt
  have oa := o1.below hb2 (Nat.le_refl _)
  refine hK _ _ (fun u => At u g 39 #[.slice A n c, .slice B m d, .int .i64 x]) (fun _ h => h) x2 ?_
  clear hK K
  (try simp only [Act.put, List.setIfInBounds_toArray, List.set_cons_zero, List.set_cons_succ])
  refine mix_pure (v := ?_) (by rfl) (fun u hu => ?_) ?_
  rotate_left
  · go_simp
    (with_reducible rfl)
  (try simp only [Act.put, List.setIfInBounds_toArray, List.set_cons_zero, List.set_cons_succ])
  obtain ⟨p0, p1, p2, f0, f1, f2⟩ := z2.three
  refine mix_call (by rfl) (fun K hK => ?_)
  go_simp
  refine hK _ _ (fun u => At u g 39 #[.slice A n c, .slice B m d, .int .i64 x]) (fun _ h => h) (((x2.far (p := ⟨w.heap.size, 0, none⟩) (by simp; omega) _).far (p := ⟨w.heap.size, 1, none⟩) (by simp; omega) _).far (p := ⟨w.heap.size, 2, none⟩) (by simp; omega) _) ?_
  clear hK K
  (try simp only [Act.put, List.setIfInBounds_toArray, List.set_cons_zero, List.set_cons_succ])
  refine mix_nil ?_
  go_wp2
  refine bodyPost_ret (v := .agg #[.slice A1 n c1, .slice B1 m d1, .int .i64 x]) (by simp [results, Tryz.results50, go_sem, p0, p1, p2]) rfl ?_
  exact ⟨A1, c1, B1, d1, rfl, (((oa.under (p := ⟨w.heap.size, 0, none⟩) lz _).under (p := ⟨w.heap.size, 1, none⟩) lz _).under (p := ⟨w.heap.size, 2, none⟩) lz _).from_ hB0.size, (((o2.under (p := ⟨w.heap.size, 0, none⟩) lz1 _).under (p := ⟨w.heap.size, 1, none⟩) lz1 _).under (p := ⟨w.heap.size, 2, none⟩) lz1 _).from_ hB1.size, ((hB2.setCell (by simp) _).setCell (by simp) _).setCell (by simp) _⟩
end Go.Proofs.YtmaillakhhdkfaaGreatDoor
/-
  Records and states that are drawn.
-/
namespace Go.Proofs.YtmaillakhhdkfaaGreatDoor
set_option maxRecDepth 20000
open Go.RowKit
set_option linter.unusedSimpArgs false
set_option linter.unusedVariables false

theorem Src.drewS {w : World} {base g n c k : Nat} {A : Option Addr} {l : List UInt8} (h : Src w base g A n c k l) : Src w.drew base g A n c k l := ⟨h.at_.drew, h.rd.drewN 1, h.len, h.big, h.low⟩
theorem fault_small {n0 n1 n2 n3 : Nat} (h0 : n0 ≤ 9) (h1 : n1 ≤ 999) (h2 : n2 ≤ 9999) (h3 : n3 ≤ 2000) : faultM ((n0 : Int), (n1 : Int), (n2 : Int), (n3 : Int) - 1000) = 0 := by
  unfold faultM bndsM
  rw [if_pos]
  simp [inB]
  omega
theorem pick_bd {xs : List Int} {v : Int} (lo hi : Int) (h : v ∈ xs) (ha : (xs.all fun x => decide (lo ≤ x ∧ x ≤ hi)) = true) : lo ≤ v ∧ v ≤ hi := by
  have := List.all_eq_true.1 ha v h
  simpa using this
theorem node_small {r : Int} (h0 : 0 ≤ r) (h1 : r < 4) : inB (r, 0, 3) = true := by
  simp [inB]; omega
theorem pick_in {xs : List Int} {v : Int} (lo hi : Int) (h : v ∈ xs) (ha : (xs.all fun x => decide (lo ≤ x ∧ x ≤ hi)) = true) : inB (v, lo, hi) = true := by
  have := List.all_eq_true.1 ha v h
  simp only [decide_eq_true_eq] at this
  simp [inB]; omega

set_option maxHeartbeats 4000000 in
theorem l5Draw (w : World) (base g : Nat) (A : Option Addr) (m c k : Nat) (l : List UInt8) (h : Src w base g A m c k l) (hk : k < 900000000) :
    Calls Tryz.prog 39 #[.pointer (some ⟨g, 0, none⟩)] w fun e w' => ∃ a0 a1 a2 a3 a4 a5 a6 : Int, e = .returned (.agg #[.int .i64 a0, .int .i64 a1, .int .i64 a2, .int .i64 a3, .int .i64 a4, .int .i64 a5, .int .i64 a6]) ∧ recFaultM (a0, a1, (a2, a3, a4, a5), a6) = 0 ∧ (∃ k' : Nat, k' ≤ k + 8 ∧ Src w' base g A m c k' l) ∧ Within g (g + 1) w w' := by
  have g0 := h.at_.lt
  have WI0 := Within.refl g (g + 1) w
  have r := At.newAt' (w := w) (t := 27) (cs := #[.int .i64 0, .int .i64 0, .int .i64 0, .int .i64 0, .int .i64 0, .int .i64 0, .int .i64 0]) (show w.heap.size = w.heap.size by first | rfl | simp)
  have s1 := h.alloc (.cells #[.int .i64 0, .int .i64 0, .int .i64 0, .int .i64 0, .int .i64 0, .int .i64 0, .int .i64 0] 27)
  have g1 := s1.at_.lt
  have WI1 := WI0.alloc (.cells #[.int .i64 0, .int .i64 0, .int .i64 0, .int .i64 0, .int .i64 0, .int .i64 0, .int .i64 0] 27)
  have zw1 := WI1.size
  go_enter Tryz.func39, Tryz.ntmps39
  go_wp2_with fail
  refine (l1Next (w.alloc (.cells #[.int .i64 0, .int .i64 0, .int .i64 0, .int .i64 0, .int .i64 0, .int .i64 0, .int .i64 0] 27)) base g A m c k l 6 s1 (by omega) (by omega)).mono ?_
  rintro e w2 ⟨q, rfl, hr2, -, s2, hw2, -⟩
  have zs2 : w.heap.size + 1 ≤ w2.heap.size := by have q := hw2.size; first | exact q | (simp; done) | (simp at q; exact q) | (simp at q ⊢; omega)
  have r_2 := r.within hw2 (by first | omega | (simp; omega))
  have WI2 := WI1.trans hw2
  have zw2 := WI2.size
  have g2 := s2.at_.lt
  obtain ⟨hr2a, hr2b⟩ := hr2 (by omega)
  rcases (show q = 0 ∨ q = 1 ∨ q = 2 ∨ q = 3 ∨ q = 4 ∨ 5 ≤ q by omega) with rfl | rfl | rfl | rfl | rfl | hq5
  · go_wp2_with fail
    refine (l2Draw w2 base g A m c (k + 1) l s2 (by omega)).mono ?_
    rintro e w3 ⟨n0, n1, n2, n3, rfl, b0, b1, b2, b3, s3, hw3⟩
    have zs3 : w2.heap.size ≤ w3.heap.size := by have q := hw3.size; first | exact q | (simp; done) | (simp at q; exact q) | (simp at q ⊢; omega)
    have r_3 := r_2.within hw3 (by first | omega | (simp; omega))
    have WI3 := WI2.trans hw3
    have zw3 := WI3.size
    have g3 := s3.at_.lt
    have rc0 : World.cell? w3 ⟨w.heap.size, 0, none⟩ = some (.int .i64 0) := r_3.cell 0
    have rc1 : World.cell? w3 ⟨w.heap.size, 1, none⟩ = some (.int .i64 0) := r_3.cell 1
    have rc2 : World.cell? w3 ⟨w.heap.size, 2, none⟩ = some (.int .i64 0) := r_3.cell 2
    have rc3 : World.cell? w3 ⟨w.heap.size, 3, none⟩ = some (.int .i64 0) := r_3.cell 3
    have rc4 : World.cell? w3 ⟨w.heap.size, 4, none⟩ = some (.int .i64 0) := r_3.cell 4
    have rc5 : World.cell? w3 ⟨w.heap.size, 5, none⟩ = some (.int .i64 0) := r_3.cell 5
    have rc6 : World.cell? w3 ⟨w.heap.size, 6, none⟩ = some (.int .i64 0) := r_3.cell 6
    have rf0 : World.frozen? w3 ⟨w.heap.size, 0, none⟩ = false := r_3.frozen 0
    have rf1 : World.frozen? w3 ⟨w.heap.size, 1, none⟩ = false := r_3.frozen 1
    have rf2 : World.frozen? w3 ⟨w.heap.size, 2, none⟩ = false := r_3.frozen 2
    have rf3 : World.frozen? w3 ⟨w.heap.size, 3, none⟩ = false := r_3.frozen 3
    have rf4 : World.frozen? w3 ⟨w.heap.size, 4, none⟩ = false := r_3.frozen 4
    have rf5 : World.frozen? w3 ⟨w.heap.size, 5, none⟩ = false := r_3.frozen 5
    have rf6 : World.frozen? w3 ⟨w.heap.size, 6, none⟩ = false := r_3.frozen 6
    go_wp2_with fail
    have s4 := s3.put (p := ⟨w.heap.size, 0, none⟩) (by show _ < w.heap.size; first | omega | (simp; omega)) (.int .i64 1)
    have WI4 := WI3.put (p := ⟨w.heap.size, 0, none⟩) (by show _ ≤ w.heap.size; first | exact Nat.le_refl _ | omega | (simp; omega)) (.int .i64 1)
    have r_4 := r_3.set 0 (.int .i64 1)
    have s5 := s4.put (p := ⟨w.heap.size, 1, none⟩) (by show _ < w.heap.size; first | omega | (simp; omega)) (.int .i64 0)
    have WI5 := WI4.put (p := ⟨w.heap.size, 1, none⟩) (by show _ ≤ w.heap.size; first | exact Nat.le_refl _ | omega | (simp; omega)) (.int .i64 0)
    have r_5 := r_4.set 1 (.int .i64 0)
    have s6 := s5.put (p := ⟨w.heap.size, 2, none⟩) (by show _ < w.heap.size; first | omega | (simp; omega)) (.int .i64 n0)
    have WI6 := WI5.put (p := ⟨w.heap.size, 2, none⟩) (by show _ ≤ w.heap.size; first | exact Nat.le_refl _ | omega | (simp; omega)) (.int .i64 n0)
    have r_6 := r_5.set 2 (.int .i64 n0)
    have s7 := s6.put (p := ⟨w.heap.size, 3, none⟩) (by show _ < w.heap.size; first | omega | (simp; omega)) (.int .i64 n1)
    have WI7 := WI6.put (p := ⟨w.heap.size, 3, none⟩) (by show _ ≤ w.heap.size; first | exact Nat.le_refl _ | omega | (simp; omega)) (.int .i64 n1)
    have r_7 := r_6.set 3 (.int .i64 n1)
    have s8 := s7.put (p := ⟨w.heap.size, 4, none⟩) (by show _ < w.heap.size; first | omega | (simp; omega)) (.int .i64 n2)
    have WI8 := WI7.put (p := ⟨w.heap.size, 4, none⟩) (by show _ ≤ w.heap.size; first | exact Nat.le_refl _ | omega | (simp; omega)) (.int .i64 n2)
    have r_8 := r_7.set 4 (.int .i64 n2)
    have s9 := s8.put (p := ⟨w.heap.size, 5, none⟩) (by show _ < w.heap.size; first | omega | (simp; omega)) (.int .i64 ((n3 : Int) - 1000))
    have WI9 := WI8.put (p := ⟨w.heap.size, 5, none⟩) (by show _ ≤ w.heap.size; first | exact Nat.le_refl _ | omega | (simp; omega)) (.int .i64 ((n3 : Int) - 1000))
    have r_9 := r_8.set 5 (.int .i64 ((n3 : Int) - 1000))
    have s10 := s9.put (p := ⟨w.heap.size, 6, none⟩) (by show _ < w.heap.size; first | omega | (simp; omega)) (.int .i64 0)
    have WI10 := WI9.put (p := ⟨w.heap.size, 6, none⟩) (by show _ ≤ w.heap.size; first | exact Nat.le_refl _ | omega | (simp; omega)) (.int .i64 0)
    have r_10 := r_9.set 6 (.int .i64 0)
    refine bodyPost_ret (v := .agg #[.int .i64 1, .int .i64 0, .int .i64 n0, .int .i64 n1, .int .i64 n2, .int .i64 ((n3 : Int) - 1000), .int .i64 0]) (by simp [results, Tryz.results39, go_sem, rc0, rc1, rc2, rc3, rc4, rc5, rc6]) rfl ?_
    exact ⟨_, _, _, _, _, _, _, rfl, by rw [rec1]; exact fault_small b0 b1 b2 b3, ⟨_, by omega, s10⟩, WI10⟩
  · go_wp2_with fail
    refine (l2Draw w2 base g A m c (k + 1) l s2 (by omega)).mono ?_
    rintro e w3 ⟨n0, n1, n2, n3, rfl, b0, b1, b2, b3, s3, hw3⟩
    have zs3 : w2.heap.size ≤ w3.heap.size := by have q := hw3.size; first | exact q | (simp; done) | (simp at q; exact q) | (simp at q ⊢; omega)
    have r_3 := r_2.within hw3 (by first | omega | (simp; omega))
    have WI3 := WI2.trans hw3
    have zw3 := WI3.size
    have g3 := s3.at_.lt
    have rc0 : World.cell? w3 ⟨w.heap.size, 0, none⟩ = some (.int .i64 0) := r_3.cell 0
    have rc1 : World.cell? w3 ⟨w.heap.size, 1, none⟩ = some (.int .i64 0) := r_3.cell 1
    have rc2 : World.cell? w3 ⟨w.heap.size, 2, none⟩ = some (.int .i64 0) := r_3.cell 2
    have rc3 : World.cell? w3 ⟨w.heap.size, 3, none⟩ = some (.int .i64 0) := r_3.cell 3
    have rc4 : World.cell? w3 ⟨w.heap.size, 4, none⟩ = some (.int .i64 0) := r_3.cell 4
    have rc5 : World.cell? w3 ⟨w.heap.size, 5, none⟩ = some (.int .i64 0) := r_3.cell 5
    have rc6 : World.cell? w3 ⟨w.heap.size, 6, none⟩ = some (.int .i64 0) := r_3.cell 6
    have rf0 : World.frozen? w3 ⟨w.heap.size, 0, none⟩ = false := r_3.frozen 0
    have rf1 : World.frozen? w3 ⟨w.heap.size, 1, none⟩ = false := r_3.frozen 1
    have rf2 : World.frozen? w3 ⟨w.heap.size, 2, none⟩ = false := r_3.frozen 2
    have rf3 : World.frozen? w3 ⟨w.heap.size, 3, none⟩ = false := r_3.frozen 3
    have rf4 : World.frozen? w3 ⟨w.heap.size, 4, none⟩ = false := r_3.frozen 4
    have rf5 : World.frozen? w3 ⟨w.heap.size, 5, none⟩ = false := r_3.frozen 5
    have rf6 : World.frozen? w3 ⟨w.heap.size, 6, none⟩ = false := r_3.frozen 6
    go_wp2_with fail
    have s4 := s3.put (p := ⟨w.heap.size, 0, none⟩) (by show _ < w.heap.size; first | omega | (simp; omega)) (.int .i64 1)
    have WI4 := WI3.put (p := ⟨w.heap.size, 0, none⟩) (by show _ ≤ w.heap.size; first | exact Nat.le_refl _ | omega | (simp; omega)) (.int .i64 1)
    have r_4 := r_3.set 0 (.int .i64 1)
    have s5 := s4.put (p := ⟨w.heap.size, 1, none⟩) (by show _ < w.heap.size; first | omega | (simp; omega)) (.int .i64 0)
    have WI5 := WI4.put (p := ⟨w.heap.size, 1, none⟩) (by show _ ≤ w.heap.size; first | exact Nat.le_refl _ | omega | (simp; omega)) (.int .i64 0)
    have r_5 := r_4.set 1 (.int .i64 0)
    have s6 := s5.put (p := ⟨w.heap.size, 2, none⟩) (by show _ < w.heap.size; first | omega | (simp; omega)) (.int .i64 n0)
    have WI6 := WI5.put (p := ⟨w.heap.size, 2, none⟩) (by show _ ≤ w.heap.size; first | exact Nat.le_refl _ | omega | (simp; omega)) (.int .i64 n0)
    have r_6 := r_5.set 2 (.int .i64 n0)
    have s7 := s6.put (p := ⟨w.heap.size, 3, none⟩) (by show _ < w.heap.size; first | omega | (simp; omega)) (.int .i64 n1)
    have WI7 := WI6.put (p := ⟨w.heap.size, 3, none⟩) (by show _ ≤ w.heap.size; first | exact Nat.le_refl _ | omega | (simp; omega)) (.int .i64 n1)
    have r_7 := r_6.set 3 (.int .i64 n1)
    have s8 := s7.put (p := ⟨w.heap.size, 4, none⟩) (by show _ < w.heap.size; first | omega | (simp; omega)) (.int .i64 n2)
    have WI8 := WI7.put (p := ⟨w.heap.size, 4, none⟩) (by show _ ≤ w.heap.size; first | exact Nat.le_refl _ | omega | (simp; omega)) (.int .i64 n2)
    have r_8 := r_7.set 4 (.int .i64 n2)
    have s9 := s8.put (p := ⟨w.heap.size, 5, none⟩) (by show _ < w.heap.size; first | omega | (simp; omega)) (.int .i64 ((n3 : Int) - 1000))
    have WI9 := WI8.put (p := ⟨w.heap.size, 5, none⟩) (by show _ ≤ w.heap.size; first | exact Nat.le_refl _ | omega | (simp; omega)) (.int .i64 ((n3 : Int) - 1000))
    have r_9 := r_8.set 5 (.int .i64 ((n3 : Int) - 1000))
    have s10 := s9.put (p := ⟨w.heap.size, 6, none⟩) (by show _ < w.heap.size; first | omega | (simp; omega)) (.int .i64 0)
    have WI10 := WI9.put (p := ⟨w.heap.size, 6, none⟩) (by show _ ≤ w.heap.size; first | exact Nat.le_refl _ | omega | (simp; omega)) (.int .i64 0)
    have r_10 := r_9.set 6 (.int .i64 0)
    refine bodyPost_ret (v := .agg #[.int .i64 1, .int .i64 0, .int .i64 n0, .int .i64 n1, .int .i64 n2, .int .i64 ((n3 : Int) - 1000), .int .i64 0]) (by simp [results, Tryz.results39, go_sem, rc0, rc1, rc2, rc3, rc4, rc5, rc6]) rfl ?_
    exact ⟨_, _, _, _, _, _, _, rfl, by rw [rec1]; exact fault_small b0 b1 b2 b3, ⟨_, by omega, s10⟩, WI10⟩
  · go_wp2_with fail
    refine (l1Next w2 base g A m c (k + 1) l 4 s2 (by omega) (by omega)).mono ?_
    rintro e w3 ⟨p, rfl, hr3, -, s3, hw3, -⟩
    have zs3 : w2.heap.size ≤ w3.heap.size := by have q := hw3.size; first | exact q | (simp; done) | (simp at q; exact q) | (simp at q ⊢; omega)
    have r_3 := r_2.within hw3 (by first | omega | (simp; omega))
    have WI3 := WI2.trans hw3
    have zw3 := WI3.size
    have g3 := s3.at_.lt
    obtain ⟨hr3a, hr3b⟩ := hr3 (by omega)
    go_wp2_with fail
    refine (l2Draw w3 base g A m c ((k + 1) + 1) l s3 (by omega)).mono ?_
    rintro e w4 ⟨n0, n1, n2, n3, rfl, b0, b1, b2, b3, s4, hw4⟩
    have zs4 : w3.heap.size ≤ w4.heap.size := by have q := hw4.size; first | exact q | (simp; done) | (simp at q; exact q) | (simp at q ⊢; omega)
    have r_4 := r_3.within hw4 (by first | omega | (simp; omega))
    have WI4 := WI3.trans hw4
    have zw4 := WI4.size
    have g4 := s4.at_.lt
    have rc0 : World.cell? w4 ⟨w.heap.size, 0, none⟩ = some (.int .i64 0) := r_4.cell 0
    have rc1 : World.cell? w4 ⟨w.heap.size, 1, none⟩ = some (.int .i64 0) := r_4.cell 1
    have rc2 : World.cell? w4 ⟨w.heap.size, 2, none⟩ = some (.int .i64 0) := r_4.cell 2
    have rc3 : World.cell? w4 ⟨w.heap.size, 3, none⟩ = some (.int .i64 0) := r_4.cell 3
    have rc4 : World.cell? w4 ⟨w.heap.size, 4, none⟩ = some (.int .i64 0) := r_4.cell 4
    have rc5 : World.cell? w4 ⟨w.heap.size, 5, none⟩ = some (.int .i64 0) := r_4.cell 5
    have rc6 : World.cell? w4 ⟨w.heap.size, 6, none⟩ = some (.int .i64 0) := r_4.cell 6
    have rf0 : World.frozen? w4 ⟨w.heap.size, 0, none⟩ = false := r_4.frozen 0
    have rf1 : World.frozen? w4 ⟨w.heap.size, 1, none⟩ = false := r_4.frozen 1
    have rf2 : World.frozen? w4 ⟨w.heap.size, 2, none⟩ = false := r_4.frozen 2
    have rf3 : World.frozen? w4 ⟨w.heap.size, 3, none⟩ = false := r_4.frozen 3
    have rf4 : World.frozen? w4 ⟨w.heap.size, 4, none⟩ = false := r_4.frozen 4
    have rf5 : World.frozen? w4 ⟨w.heap.size, 5, none⟩ = false := r_4.frozen 5
    have rf6 : World.frozen? w4 ⟨w.heap.size, 6, none⟩ = false := r_4.frozen 6
    go_wp2_with fail
    have s5 := s4.put (p := ⟨w.heap.size, 0, none⟩) (by show _ < w.heap.size; first | omega | (simp; omega)) (.int .i64 2)
    have WI5 := WI4.put (p := ⟨w.heap.size, 0, none⟩) (by show _ ≤ w.heap.size; first | exact Nat.le_refl _ | omega | (simp; omega)) (.int .i64 2)
    have r_5 := r_4.set 0 (.int .i64 2)
    have s6 := s5.put (p := ⟨w.heap.size, 1, none⟩) (by show _ < w.heap.size; first | omega | (simp; omega)) (.int .i64 p)
    have WI6 := WI5.put (p := ⟨w.heap.size, 1, none⟩) (by show _ ≤ w.heap.size; first | exact Nat.le_refl _ | omega | (simp; omega)) (.int .i64 p)
    have r_6 := r_5.set 1 (.int .i64 p)
    have s7 := s6.put (p := ⟨w.heap.size, 2, none⟩) (by show _ < w.heap.size; first | omega | (simp; omega)) (.int .i64 n0)
    have WI7 := WI6.put (p := ⟨w.heap.size, 2, none⟩) (by show _ ≤ w.heap.size; first | exact Nat.le_refl _ | omega | (simp; omega)) (.int .i64 n0)
    have r_7 := r_6.set 2 (.int .i64 n0)
    have s8 := s7.put (p := ⟨w.heap.size, 3, none⟩) (by show _ < w.heap.size; first | omega | (simp; omega)) (.int .i64 n1)
    have WI8 := WI7.put (p := ⟨w.heap.size, 3, none⟩) (by show _ ≤ w.heap.size; first | exact Nat.le_refl _ | omega | (simp; omega)) (.int .i64 n1)
    have r_8 := r_7.set 3 (.int .i64 n1)
    have s9 := s8.put (p := ⟨w.heap.size, 4, none⟩) (by show _ < w.heap.size; first | omega | (simp; omega)) (.int .i64 n2)
    have WI9 := WI8.put (p := ⟨w.heap.size, 4, none⟩) (by show _ ≤ w.heap.size; first | exact Nat.le_refl _ | omega | (simp; omega)) (.int .i64 n2)
    have r_9 := r_8.set 4 (.int .i64 n2)
    have s10 := s9.put (p := ⟨w.heap.size, 5, none⟩) (by show _ < w.heap.size; first | omega | (simp; omega)) (.int .i64 ((n3 : Int) - 1000))
    have WI10 := WI9.put (p := ⟨w.heap.size, 5, none⟩) (by show _ ≤ w.heap.size; first | exact Nat.le_refl _ | omega | (simp; omega)) (.int .i64 ((n3 : Int) - 1000))
    have r_10 := r_9.set 5 (.int .i64 ((n3 : Int) - 1000))
    have s11 := s10.put (p := ⟨w.heap.size, 6, none⟩) (by show _ < w.heap.size; first | omega | (simp; omega)) (.int .i64 0)
    have WI11 := WI10.put (p := ⟨w.heap.size, 6, none⟩) (by show _ ≤ w.heap.size; first | exact Nat.le_refl _ | omega | (simp; omega)) (.int .i64 0)
    have r_11 := r_10.set 6 (.int .i64 0)
    refine bodyPost_ret (v := .agg #[.int .i64 2, .int .i64 p, .int .i64 n0, .int .i64 n1, .int .i64 n2, .int .i64 ((n3 : Int) - 1000), .int .i64 0]) (by simp [results, Tryz.results39, go_sem, rc0, rc1, rc2, rc3, rc4, rc5, rc6]) rfl ?_
    exact ⟨_, _, _, _, _, _, _, rfl, by rw [rec2, if_pos (node_small hr3a hr3b)]; exact fault_small b0 b1 b2 b3, ⟨_, by omega, s11⟩, WI11⟩
  · go_wp2_with fail
    refine (l1Next w2 base g A m c (k + 1) l 4 s2 (by omega) (by omega)).mono ?_
    rintro e w3 ⟨p, rfl, hr3, -, s3, hw3, -⟩
    have zs3 : w2.heap.size ≤ w3.heap.size := by have q := hw3.size; first | exact q | (simp; done) | (simp at q; exact q) | (simp at q ⊢; omega)
    have r_3 := r_2.within hw3 (by first | omega | (simp; omega))
    have WI3 := WI2.trans hw3
    have zw3 := WI3.size
    have g3 := s3.at_.lt
    obtain ⟨hr3a, hr3b⟩ := hr3 (by omega)
    go_wp2_with fail
    refine (l2Draw w3 base g A m c ((k + 1) + 1) l s3 (by omega)).mono ?_
    rintro e w4 ⟨n0, n1, n2, n3, rfl, b0, b1, b2, b3, s4, hw4⟩
    have zs4 : w3.heap.size ≤ w4.heap.size := by have q := hw4.size; first | exact q | (simp; done) | (simp at q; exact q) | (simp at q ⊢; omega)
    have r_4 := r_3.within hw4 (by first | omega | (simp; omega))
    have WI4 := WI3.trans hw4
    have zw4 := WI4.size
    have g4 := s4.at_.lt
    have rc0 : World.cell? w4 ⟨w.heap.size, 0, none⟩ = some (.int .i64 0) := r_4.cell 0
    have rc1 : World.cell? w4 ⟨w.heap.size, 1, none⟩ = some (.int .i64 0) := r_4.cell 1
    have rc2 : World.cell? w4 ⟨w.heap.size, 2, none⟩ = some (.int .i64 0) := r_4.cell 2
    have rc3 : World.cell? w4 ⟨w.heap.size, 3, none⟩ = some (.int .i64 0) := r_4.cell 3
    have rc4 : World.cell? w4 ⟨w.heap.size, 4, none⟩ = some (.int .i64 0) := r_4.cell 4
    have rc5 : World.cell? w4 ⟨w.heap.size, 5, none⟩ = some (.int .i64 0) := r_4.cell 5
    have rc6 : World.cell? w4 ⟨w.heap.size, 6, none⟩ = some (.int .i64 0) := r_4.cell 6
    have rf0 : World.frozen? w4 ⟨w.heap.size, 0, none⟩ = false := r_4.frozen 0
    have rf1 : World.frozen? w4 ⟨w.heap.size, 1, none⟩ = false := r_4.frozen 1
    have rf2 : World.frozen? w4 ⟨w.heap.size, 2, none⟩ = false := r_4.frozen 2
    have rf3 : World.frozen? w4 ⟨w.heap.size, 3, none⟩ = false := r_4.frozen 3
    have rf4 : World.frozen? w4 ⟨w.heap.size, 4, none⟩ = false := r_4.frozen 4
    have rf5 : World.frozen? w4 ⟨w.heap.size, 5, none⟩ = false := r_4.frozen 5
    have rf6 : World.frozen? w4 ⟨w.heap.size, 6, none⟩ = false := r_4.frozen 6
    go_wp2_with fail
    have s5 := s4.put (p := ⟨w.heap.size, 0, none⟩) (by show _ < w.heap.size; first | omega | (simp; omega)) (.int .i64 2)
    have WI5 := WI4.put (p := ⟨w.heap.size, 0, none⟩) (by show _ ≤ w.heap.size; first | exact Nat.le_refl _ | omega | (simp; omega)) (.int .i64 2)
    have r_5 := r_4.set 0 (.int .i64 2)
    have s6 := s5.put (p := ⟨w.heap.size, 1, none⟩) (by show _ < w.heap.size; first | omega | (simp; omega)) (.int .i64 p)
    have WI6 := WI5.put (p := ⟨w.heap.size, 1, none⟩) (by show _ ≤ w.heap.size; first | exact Nat.le_refl _ | omega | (simp; omega)) (.int .i64 p)
    have r_6 := r_5.set 1 (.int .i64 p)
    have s7 := s6.put (p := ⟨w.heap.size, 2, none⟩) (by show _ < w.heap.size; first | omega | (simp; omega)) (.int .i64 n0)
    have WI7 := WI6.put (p := ⟨w.heap.size, 2, none⟩) (by show _ ≤ w.heap.size; first | exact Nat.le_refl _ | omega | (simp; omega)) (.int .i64 n0)
    have r_7 := r_6.set 2 (.int .i64 n0)
    have s8 := s7.put (p := ⟨w.heap.size, 3, none⟩) (by show _ < w.heap.size; first | omega | (simp; omega)) (.int .i64 n1)
    have WI8 := WI7.put (p := ⟨w.heap.size, 3, none⟩) (by show _ ≤ w.heap.size; first | exact Nat.le_refl _ | omega | (simp; omega)) (.int .i64 n1)
    have r_8 := r_7.set 3 (.int .i64 n1)
    have s9 := s8.put (p := ⟨w.heap.size, 4, none⟩) (by show _ < w.heap.size; first | omega | (simp; omega)) (.int .i64 n2)
    have WI9 := WI8.put (p := ⟨w.heap.size, 4, none⟩) (by show _ ≤ w.heap.size; first | exact Nat.le_refl _ | omega | (simp; omega)) (.int .i64 n2)
    have r_9 := r_8.set 4 (.int .i64 n2)
    have s10 := s9.put (p := ⟨w.heap.size, 5, none⟩) (by show _ < w.heap.size; first | omega | (simp; omega)) (.int .i64 ((n3 : Int) - 1000))
    have WI10 := WI9.put (p := ⟨w.heap.size, 5, none⟩) (by show _ ≤ w.heap.size; first | exact Nat.le_refl _ | omega | (simp; omega)) (.int .i64 ((n3 : Int) - 1000))
    have r_10 := r_9.set 5 (.int .i64 ((n3 : Int) - 1000))
    have s11 := s10.put (p := ⟨w.heap.size, 6, none⟩) (by show _ < w.heap.size; first | omega | (simp; omega)) (.int .i64 0)
    have WI11 := WI10.put (p := ⟨w.heap.size, 6, none⟩) (by show _ ≤ w.heap.size; first | exact Nat.le_refl _ | omega | (simp; omega)) (.int .i64 0)
    have r_11 := r_10.set 6 (.int .i64 0)
    refine bodyPost_ret (v := .agg #[.int .i64 2, .int .i64 p, .int .i64 n0, .int .i64 n1, .int .i64 n2, .int .i64 ((n3 : Int) - 1000), .int .i64 0]) (by simp [results, Tryz.results39, go_sem, rc0, rc1, rc2, rc3, rc4, rc5, rc6]) rfl ?_
    exact ⟨_, _, _, _, _, _, _, rfl, by rw [rec2, if_pos (node_small hr3a hr3b)]; exact fault_small b0 b1 b2 b3, ⟨_, by omega, s11⟩, WI11⟩
  · go_wp2_with fail
    refine (l1Next w2 base g A m c (k + 1) l 4 s2 (by omega) (by omega)).mono ?_
    rintro e w3 ⟨p, rfl, hr3, -, s3, hw3, -⟩
    have zs3 : w2.heap.size ≤ w3.heap.size := by have q := hw3.size; first | exact q | (simp; done) | (simp at q; exact q) | (simp at q ⊢; omega)
    have r_3 := r_2.within hw3 (by first | omega | (simp; omega))
    have WI3 := WI2.trans hw3
    have zw3 := WI3.size
    have g3 := s3.at_.lt
    obtain ⟨hr3a, hr3b⟩ := hr3 (by omega)
    have r_4 := r_3.alloc (.cells #[.int .i64 0, .int .i64 1, .int .i64 2, .int .i64 3, .int .i64 9999] 2)
    have s4 := s3.alloc (.cells #[.int .i64 0, .int .i64 1, .int .i64 2, .int .i64 3, .int .i64 9999] 2)
    have g4 := s4.at_.lt
    have WI4 := WI3.alloc (.cells #[.int .i64 0, .int .i64 1, .int .i64 2, .int .i64 3, .int .i64 9999] 2)
    have zw4 := WI4.size
    go_wp2_with fail
    refine (l1Pick (w3.alloc (.cells #[.int .i64 0, .int .i64 1, .int .i64 2, .int .i64 3, .int .i64 9999] 2)) base g A m c ((k + 1) + 1) l (w3.heap.size) #[.int .i64 0, .int .i64 1, .int .i64 2, .int .i64 3, .int .i64 9999] [0, 1, 2, 3, 9999] 5 5 s4 (by omega) (At.newAt' (show w3.heap.size = w3.heap.size by first | rfl | simp)) (by simp [intCells]) (by first | omega | (simp; omega)) rfl (by omega) (by omega)).mono ?_
    rintro e w5 ⟨v, hv5, rfl, s5, hw5, -⟩
    have zs5 : w3.heap.size + 1 ≤ w5.heap.size := by have q := hw5.size; first | exact q | (simp; done) | (simp at q; exact q) | (simp at q ⊢; omega)
    have r_5 := r_4.within hw5 (by first | omega | (simp; omega))
    have WI5 := WI4.trans hw5
    have zw5 := WI5.size
    have g5 := s5.at_.lt
    have rc0 : World.cell? w5 ⟨w.heap.size, 0, none⟩ = some (.int .i64 0) := r_5.cell 0
    have rc1 : World.cell? w5 ⟨w.heap.size, 1, none⟩ = some (.int .i64 0) := r_5.cell 1
    have rc2 : World.cell? w5 ⟨w.heap.size, 2, none⟩ = some (.int .i64 0) := r_5.cell 2
    have rc3 : World.cell? w5 ⟨w.heap.size, 3, none⟩ = some (.int .i64 0) := r_5.cell 3
    have rc4 : World.cell? w5 ⟨w.heap.size, 4, none⟩ = some (.int .i64 0) := r_5.cell 4
    have rc5 : World.cell? w5 ⟨w.heap.size, 5, none⟩ = some (.int .i64 0) := r_5.cell 5
    have rc6 : World.cell? w5 ⟨w.heap.size, 6, none⟩ = some (.int .i64 0) := r_5.cell 6
    have rf0 : World.frozen? w5 ⟨w.heap.size, 0, none⟩ = false := r_5.frozen 0
    have rf1 : World.frozen? w5 ⟨w.heap.size, 1, none⟩ = false := r_5.frozen 1
    have rf2 : World.frozen? w5 ⟨w.heap.size, 2, none⟩ = false := r_5.frozen 2
    have rf3 : World.frozen? w5 ⟨w.heap.size, 3, none⟩ = false := r_5.frozen 3
    have rf4 : World.frozen? w5 ⟨w.heap.size, 4, none⟩ = false := r_5.frozen 4
    have rf5 : World.frozen? w5 ⟨w.heap.size, 5, none⟩ = false := r_5.frozen 5
    have rf6 : World.frozen? w5 ⟨w.heap.size, 6, none⟩ = false := r_5.frozen 6
    go_wp2_with fail
    have s6 := s5.put (p := ⟨w.heap.size, 0, none⟩) (by show _ < w.heap.size; first | omega | (simp; omega)) (.int .i64 3)
    have WI6 := WI5.put (p := ⟨w.heap.size, 0, none⟩) (by show _ ≤ w.heap.size; first | exact Nat.le_refl _ | omega | (simp; omega)) (.int .i64 3)
    have r_6 := r_5.set 0 (.int .i64 3)
    have s7 := s6.put (p := ⟨w.heap.size, 1, none⟩) (by show _ < w.heap.size; first | omega | (simp; omega)) (.int .i64 p)
    have WI7 := WI6.put (p := ⟨w.heap.size, 1, none⟩) (by show _ ≤ w.heap.size; first | exact Nat.le_refl _ | omega | (simp; omega)) (.int .i64 p)
    have r_7 := r_6.set 1 (.int .i64 p)
    have s8 := s7.put (p := ⟨w.heap.size, 2, none⟩) (by show _ < w.heap.size; first | omega | (simp; omega)) (.int .i64 0)
    have WI8 := WI7.put (p := ⟨w.heap.size, 2, none⟩) (by show _ ≤ w.heap.size; first | exact Nat.le_refl _ | omega | (simp; omega)) (.int .i64 0)
    have r_8 := r_7.set 2 (.int .i64 0)
    have s9 := s8.put (p := ⟨w.heap.size, 3, none⟩) (by show _ < w.heap.size; first | omega | (simp; omega)) (.int .i64 0)
    have WI9 := WI8.put (p := ⟨w.heap.size, 3, none⟩) (by show _ ≤ w.heap.size; first | exact Nat.le_refl _ | omega | (simp; omega)) (.int .i64 0)
    have r_9 := r_8.set 3 (.int .i64 0)
    have s10 := s9.put (p := ⟨w.heap.size, 4, none⟩) (by show _ < w.heap.size; first | omega | (simp; omega)) (.int .i64 0)
    have WI10 := WI9.put (p := ⟨w.heap.size, 4, none⟩) (by show _ ≤ w.heap.size; first | exact Nat.le_refl _ | omega | (simp; omega)) (.int .i64 0)
    have r_10 := r_9.set 4 (.int .i64 0)
    have s11 := s10.put (p := ⟨w.heap.size, 5, none⟩) (by show _ < w.heap.size; first | omega | (simp; omega)) (.int .i64 0)
    have WI11 := WI10.put (p := ⟨w.heap.size, 5, none⟩) (by show _ ≤ w.heap.size; first | exact Nat.le_refl _ | omega | (simp; omega)) (.int .i64 0)
    have r_11 := r_10.set 5 (.int .i64 0)
    have s12 := s11.put (p := ⟨w.heap.size, 6, none⟩) (by show _ < w.heap.size; first | omega | (simp; omega)) (.int .i64 v)
    have WI12 := WI11.put (p := ⟨w.heap.size, 6, none⟩) (by show _ ≤ w.heap.size; first | exact Nat.le_refl _ | omega | (simp; omega)) (.int .i64 v)
    have r_12 := r_11.set 6 (.int .i64 v)
    refine bodyPost_ret (v := .agg #[.int .i64 3, .int .i64 p, .int .i64 0, .int .i64 0, .int .i64 0, .int .i64 0, .int .i64 v]) (by simp [results, Tryz.results39, go_sem, rc0, rc1, rc2, rc3, rc4, rc5, rc6]) rfl ?_
    exact ⟨_, _, _, _, _, _, _, rfl, by rw [rec3, if_pos (by rw [node_small hr3a hr3b, pick_in 0 9999 hv5 rfl]; rfl)], ⟨_, by omega, s12⟩, WI12⟩
  · have bq0 : (q == 0) = false := by simp; omega
    have bq1 : (q == 1) = false := by simp; omega
    have bq2 : (q == 2) = false := by simp; omega
    have bq3 : (q == 3) = false := by simp; omega
    have bq4 : (q == 4) = false := by simp; omega
    have r_3 := r_2.alloc (.cells #[.int .i64 0, .int .i64 1, .int .i64 5, .int .i64 60000] 2)
    have s3 := s2.alloc (.cells #[.int .i64 0, .int .i64 1, .int .i64 5, .int .i64 60000] 2)
    have g3 := s3.at_.lt
    have WI3 := WI2.alloc (.cells #[.int .i64 0, .int .i64 1, .int .i64 5, .int .i64 60000] 2)
    have zw3 := WI3.size
    go_wp2_with fail
    refine (l1Pick (w2.alloc (.cells #[.int .i64 0, .int .i64 1, .int .i64 5, .int .i64 60000] 2)) base g A m c (k + 1) l (w2.heap.size) #[.int .i64 0, .int .i64 1, .int .i64 5, .int .i64 60000] [0, 1, 5, 60000] 4 4 s3 (by omega) (At.newAt' (show w2.heap.size = w2.heap.size by first | rfl | simp)) (by simp [intCells]) (by first | omega | (simp; omega)) rfl (by omega) (by omega)).mono ?_
    rintro e w4 ⟨v, hv4, rfl, s4, hw4, -⟩
    have zs4 : w2.heap.size + 1 ≤ w4.heap.size := by have q := hw4.size; first | exact q | (simp; done) | (simp at q; exact q) | (simp at q ⊢; omega)
    have r_4 := r_3.within hw4 (by first | omega | (simp; omega))
    have WI4 := WI3.trans hw4
    have zw4 := WI4.size
    have g4 := s4.at_.lt
    have rc0 : World.cell? w4 ⟨w.heap.size, 0, none⟩ = some (.int .i64 0) := r_4.cell 0
    have rc1 : World.cell? w4 ⟨w.heap.size, 1, none⟩ = some (.int .i64 0) := r_4.cell 1
    have rc2 : World.cell? w4 ⟨w.heap.size, 2, none⟩ = some (.int .i64 0) := r_4.cell 2
    have rc3 : World.cell? w4 ⟨w.heap.size, 3, none⟩ = some (.int .i64 0) := r_4.cell 3
    have rc4 : World.cell? w4 ⟨w.heap.size, 4, none⟩ = some (.int .i64 0) := r_4.cell 4
    have rc5 : World.cell? w4 ⟨w.heap.size, 5, none⟩ = some (.int .i64 0) := r_4.cell 5
    have rc6 : World.cell? w4 ⟨w.heap.size, 6, none⟩ = some (.int .i64 0) := r_4.cell 6
    have rf0 : World.frozen? w4 ⟨w.heap.size, 0, none⟩ = false := r_4.frozen 0
    have rf1 : World.frozen? w4 ⟨w.heap.size, 1, none⟩ = false := r_4.frozen 1
    have rf2 : World.frozen? w4 ⟨w.heap.size, 2, none⟩ = false := r_4.frozen 2
    have rf3 : World.frozen? w4 ⟨w.heap.size, 3, none⟩ = false := r_4.frozen 3
    have rf4 : World.frozen? w4 ⟨w.heap.size, 4, none⟩ = false := r_4.frozen 4
    have rf5 : World.frozen? w4 ⟨w.heap.size, 5, none⟩ = false := r_4.frozen 5
    have rf6 : World.frozen? w4 ⟨w.heap.size, 6, none⟩ = false := r_4.frozen 6
    go_wp2_with fail
    have s5 := s4.put (p := ⟨w.heap.size, 0, none⟩) (by show _ < w.heap.size; first | omega | (simp; omega)) (.int .i64 4)
    have WI5 := WI4.put (p := ⟨w.heap.size, 0, none⟩) (by show _ ≤ w.heap.size; first | exact Nat.le_refl _ | omega | (simp; omega)) (.int .i64 4)
    have r_5 := r_4.set 0 (.int .i64 4)
    have s6 := s5.put (p := ⟨w.heap.size, 1, none⟩) (by show _ < w.heap.size; first | omega | (simp; omega)) (.int .i64 0)
    have WI6 := WI5.put (p := ⟨w.heap.size, 1, none⟩) (by show _ ≤ w.heap.size; first | exact Nat.le_refl _ | omega | (simp; omega)) (.int .i64 0)
    have r_6 := r_5.set 1 (.int .i64 0)
    have s7 := s6.put (p := ⟨w.heap.size, 2, none⟩) (by show _ < w.heap.size; first | omega | (simp; omega)) (.int .i64 0)
    have WI7 := WI6.put (p := ⟨w.heap.size, 2, none⟩) (by show _ ≤ w.heap.size; first | exact Nat.le_refl _ | omega | (simp; omega)) (.int .i64 0)
    have r_7 := r_6.set 2 (.int .i64 0)
    have s8 := s7.put (p := ⟨w.heap.size, 3, none⟩) (by show _ < w.heap.size; first | omega | (simp; omega)) (.int .i64 0)
    have WI8 := WI7.put (p := ⟨w.heap.size, 3, none⟩) (by show _ ≤ w.heap.size; first | exact Nat.le_refl _ | omega | (simp; omega)) (.int .i64 0)
    have r_8 := r_7.set 3 (.int .i64 0)
    have s9 := s8.put (p := ⟨w.heap.size, 4, none⟩) (by show _ < w.heap.size; first | omega | (simp; omega)) (.int .i64 0)
    have WI9 := WI8.put (p := ⟨w.heap.size, 4, none⟩) (by show _ ≤ w.heap.size; first | exact Nat.le_refl _ | omega | (simp; omega)) (.int .i64 0)
    have r_9 := r_8.set 4 (.int .i64 0)
    have s10 := s9.put (p := ⟨w.heap.size, 5, none⟩) (by show _ < w.heap.size; first | omega | (simp; omega)) (.int .i64 0)
    have WI10 := WI9.put (p := ⟨w.heap.size, 5, none⟩) (by show _ ≤ w.heap.size; first | exact Nat.le_refl _ | omega | (simp; omega)) (.int .i64 0)
    have r_10 := r_9.set 5 (.int .i64 0)
    have s11 := s10.put (p := ⟨w.heap.size, 6, none⟩) (by show _ < w.heap.size; first | omega | (simp; omega)) (.int .i64 v)
    have WI11 := WI10.put (p := ⟨w.heap.size, 6, none⟩) (by show _ ≤ w.heap.size; first | exact Nat.le_refl _ | omega | (simp; omega)) (.int .i64 v)
    have r_11 := r_10.set 6 (.int .i64 v)
    refine bodyPost_ret (v := .agg #[.int .i64 4, .int .i64 0, .int .i64 0, .int .i64 0, .int .i64 0, .int .i64 0, .int .i64 v]) (by simp [results, Tryz.results39, go_sem, rc0, rc1, rc2, rc3, rc4, rc5, rc6]) rfl ?_
    exact ⟨_, _, _, _, _, _, _, rfl, by rw [rec4, if_pos (pick_in 0 60000 hv4 rfl)], ⟨_, by omega, s11⟩, WI11⟩

set_option maxHeartbeats 4000000 in
theorem l5Bent (w : World) (base g : Nat) (A : Option Addr) (m c k : Nat) (l : List UInt8) (h : Src w base g A m c k l) (hk : k < 800000000) :
    Calls Tryz.prog 34 #[.pointer (some ⟨g, 0, none⟩)] w fun e w' => ∃ a0 a1 a2 a3 a4 a5 a6 : Int, e = .returned (.agg #[.int .i64 a0, .int .i64 a1, .int .i64 a2, .int .i64 a3, .int .i64 a4, .int .i64 a5, .int .i64 a6]) ∧ (∃ k' : Nat, k' ≤ k + 20 ∧ Src w' base g A m c k' l) ∧ Within g (g + 1) w w' := by
  have g0 := h.at_.lt
  have WI0 := Within.refl g (g + 1) w
  have r := At.newAt' (w := w) (t := 27) (cs := #[.int .i64 0, .int .i64 0, .int .i64 0, .int .i64 0, .int .i64 0, .int .i64 0, .int .i64 0]) (show w.heap.size = w.heap.size by first | rfl | simp)
  have s1 := h.alloc (.cells #[.int .i64 0, .int .i64 0, .int .i64 0, .int .i64 0, .int .i64 0, .int .i64 0, .int .i64 0] 27)
  have g1 := s1.at_.lt
  have WI1 := WI0.alloc (.cells #[.int .i64 0, .int .i64 0, .int .i64 0, .int .i64 0, .int .i64 0, .int .i64 0, .int .i64 0] 27)
  have zw1 := WI1.size
  go_enter Tryz.func34, Tryz.ntmps34
  go_wp2_with fail
  refine (l5Draw (w.alloc (.cells #[.int .i64 0, .int .i64 0, .int .i64 0, .int .i64 0, .int .i64 0, .int .i64 0, .int .i64 0] 27)) base g A m c k l s1 (by omega)).mono ?_
  rintro e w2 ⟨a0, a1, a2, a3, a4, a5, a6, rfl, -, ⟨k2, hk2, s2⟩, hw2⟩
  have zs2 : w.heap.size + 1 ≤ w2.heap.size := by have q := hw2.size; first | exact q | (simp; done) | (simp at q; exact q) | (simp at q ⊢; omega)
  have r_2 := r.within hw2 (by first | omega | (simp; omega))
  have WI2 := WI1.trans hw2
  have zw2 := WI2.size
  have g2 := s2.at_.lt
  have x := At.newAt' (w := w2) (t := 27) (cs := #[.int .i64 a0, .int .i64 a1, .int .i64 a2, .int .i64 a3, .int .i64 a4, .int .i64 a5, .int .i64 a6]) (show w2.heap.size = w2.heap.size by first | rfl | simp)
  have ln3_r : w.heap.size < w2.heap.size := by have q := r_2.lt; first | exact q | (simp; done) | (simp at q; exact q) | (simp at q ⊢; omega)
  have hn3_r : ¬ w.heap.size = w2.heap.size := by omega
  have hm3_r : ¬ w2.heap.size = w.heap.size := by omega
  have r_3 := r_2.alloc (.cells #[.int .i64 a0, .int .i64 a1, .int .i64 a2, .int .i64 a3, .int .i64 a4, .int .i64 a5, .int .i64 a6] 27)
  have s3 := s2.alloc (.cells #[.int .i64 a0, .int .i64 a1, .int .i64 a2, .int .i64 a3, .int .i64 a4, .int .i64 a5, .int .i64 a6] 27)
  have g3 := s3.at_.lt
  have WI3 := WI2.alloc (.cells #[.int .i64 a0, .int .i64 a1, .int .i64 a2, .int .i64 a3, .int .i64 a4, .int .i64 a5, .int .i64 a6] 27)
  have zw3 := WI3.size
  go_wp2_with fail
  refine (l1Next (w2.alloc (.cells #[.int .i64 a0, .int .i64 a1, .int .i64 a2, .int .i64 a3, .int .i64 a4, .int .i64 a5, .int .i64 a6] 27)) base g A m c k2 l 12 s3 (by omega) (by omega)).mono ?_
  rintro e w4 ⟨q, rfl, hr4, -, s4, hw4, -⟩
  have zs4 : w2.heap.size + 1 ≤ w4.heap.size := by have q := hw4.size; first | exact q | (simp; done) | (simp at q; exact q) | (simp at q ⊢; omega)
  have r_4 := r_3.within hw4 (by first | omega | (simp; omega))
  have x_4 := x.within hw4 (by first | omega | (simp; omega))
  have WI4 := WI3.trans hw4
  have zw4 := WI4.size
  have g4 := s4.at_.lt
  obtain ⟨hr4a, hr4b⟩ := hr4 (by omega)
  rcases (show q = 0 ∨ q = 1 ∨ q = 2 ∨ q = 3 ∨ 4 ≤ q by omega) with rfl | rfl | rfl | rfl | hq4
  · have r_5 := r_4.alloc (.cells #[.int .i64 0, .int .i64 1, .int .i64 3, .int .i64 5] 2)
    have x_5 := x_4.alloc (.cells #[.int .i64 0, .int .i64 1, .int .i64 3, .int .i64 5] 2)
    have s5 := s4.alloc (.cells #[.int .i64 0, .int .i64 1, .int .i64 3, .int .i64 5] 2)
    have g5 := s5.at_.lt
    have WI5 := WI4.alloc (.cells #[.int .i64 0, .int .i64 1, .int .i64 3, .int .i64 5] 2)
    have zw5 := WI5.size
    go_wp2_with fail
    refine (l1Pick (w4.alloc (.cells #[.int .i64 0, .int .i64 1, .int .i64 3, .int .i64 5] 2)) base g A m c (k2 + 1) l (w4.heap.size) #[.int .i64 0, .int .i64 1, .int .i64 3, .int .i64 5] [0, 1, 3, 5] 4 4 s5 (by omega) (At.newAt' (show w4.heap.size = w4.heap.size by first | rfl | simp)) (by simp [intCells]) (by first | omega | (simp; omega)) rfl (by omega) (by omega)).mono ?_
    rintro e w6 ⟨v, hv6, rfl, s6, hw6, -⟩
    have zs6 : w4.heap.size + 1 ≤ w6.heap.size := by have q := hw6.size; first | exact q | (simp; done) | (simp at q; exact q) | (simp at q ⊢; omega)
    have r_6 := r_5.within hw6 (by first | omega | (simp; omega))
    have x_6 := x_5.within hw6 (by first | omega | (simp; omega))
    have WI6 := WI5.trans hw6
    have zw6 := WI6.size
    have g6 := s6.at_.lt
    have xc0 : World.cell? w6 ⟨w2.heap.size, 0, none⟩ = some (.int .i64 a0) := x_6.cell 0
    have xc1 : World.cell? w6 ⟨w2.heap.size, 1, none⟩ = some (.int .i64 a1) := x_6.cell 1
    have xc2 : World.cell? w6 ⟨w2.heap.size, 2, none⟩ = some (.int .i64 a2) := x_6.cell 2
    have xc3 : World.cell? w6 ⟨w2.heap.size, 3, none⟩ = some (.int .i64 a3) := x_6.cell 3
    have xc4 : World.cell? w6 ⟨w2.heap.size, 4, none⟩ = some (.int .i64 a4) := x_6.cell 4
    have xc5 : World.cell? w6 ⟨w2.heap.size, 5, none⟩ = some (.int .i64 a5) := x_6.cell 5
    have xc6 : World.cell? w6 ⟨w2.heap.size, 6, none⟩ = some (.int .i64 a6) := x_6.cell 6
    have xf0 : World.frozen? w6 ⟨w2.heap.size, 0, none⟩ = false := x_6.frozen 0
    have xf1 : World.frozen? w6 ⟨w2.heap.size, 1, none⟩ = false := x_6.frozen 1
    have xf2 : World.frozen? w6 ⟨w2.heap.size, 2, none⟩ = false := x_6.frozen 2
    have xf3 : World.frozen? w6 ⟨w2.heap.size, 3, none⟩ = false := x_6.frozen 3
    have xf4 : World.frozen? w6 ⟨w2.heap.size, 4, none⟩ = false := x_6.frozen 4
    have xf5 : World.frozen? w6 ⟨w2.heap.size, 5, none⟩ = false := x_6.frozen 5
    have xf6 : World.frozen? w6 ⟨w2.heap.size, 6, none⟩ = false := x_6.frozen 6
    have rc0 : World.cell? w6 ⟨w.heap.size, 0, none⟩ = some (.int .i64 0) := r_6.cell 0
    have rc1 : World.cell? w6 ⟨w.heap.size, 1, none⟩ = some (.int .i64 0) := r_6.cell 1
    have rc2 : World.cell? w6 ⟨w.heap.size, 2, none⟩ = some (.int .i64 0) := r_6.cell 2
    have rc3 : World.cell? w6 ⟨w.heap.size, 3, none⟩ = some (.int .i64 0) := r_6.cell 3
    have rc4 : World.cell? w6 ⟨w.heap.size, 4, none⟩ = some (.int .i64 0) := r_6.cell 4
    have rc5 : World.cell? w6 ⟨w.heap.size, 5, none⟩ = some (.int .i64 0) := r_6.cell 5
    have rc6 : World.cell? w6 ⟨w.heap.size, 6, none⟩ = some (.int .i64 0) := r_6.cell 6
    have rf0 : World.frozen? w6 ⟨w.heap.size, 0, none⟩ = false := r_6.frozen 0
    have rf1 : World.frozen? w6 ⟨w.heap.size, 1, none⟩ = false := r_6.frozen 1
    have rf2 : World.frozen? w6 ⟨w.heap.size, 2, none⟩ = false := r_6.frozen 2
    have rf3 : World.frozen? w6 ⟨w.heap.size, 3, none⟩ = false := r_6.frozen 3
    have rf4 : World.frozen? w6 ⟨w.heap.size, 4, none⟩ = false := r_6.frozen 4
    have rf5 : World.frozen? w6 ⟨w.heap.size, 5, none⟩ = false := r_6.frozen 5
    have rf6 : World.frozen? w6 ⟨w.heap.size, 6, none⟩ = false := r_6.frozen 6
    go_wp2_with fail
    have r_7 := r_6.far (p := ⟨w2.heap.size, 0, none⟩) (by show _ ≠ w2.heap.size; first | omega | (simp; omega)) (.int .i64 v)
    have s7 := s6.put (p := ⟨w2.heap.size, 0, none⟩) (by show _ < w2.heap.size; first | omega | (simp; omega)) (.int .i64 v)
    have WI7 := WI6.put (p := ⟨w2.heap.size, 0, none⟩) (by show _ ≤ w2.heap.size; first | exact Nat.le_refl _ | omega | (simp; omega)) (.int .i64 v)
    have x_7 := x_6.set 0 (.int .i64 v)
    have x_8 := x_7.far (p := ⟨w.heap.size, 0, none⟩) (by show _ ≠ w.heap.size; first | omega | (simp; omega)) (.int .i64 v)
    have s8 := s7.put (p := ⟨w.heap.size, 0, none⟩) (by show _ < w.heap.size; first | omega | (simp; omega)) (.int .i64 v)
    have WI8 := WI7.put (p := ⟨w.heap.size, 0, none⟩) (by show _ ≤ w.heap.size; first | exact Nat.le_refl _ | omega | (simp; omega)) (.int .i64 v)
    have r_8 := r_7.set 0 (.int .i64 v)
    have x_9 := x_8.far (p := ⟨w.heap.size, 1, none⟩) (by show _ ≠ w.heap.size; first | omega | (simp; omega)) (.int .i64 a1)
    have s9 := s8.put (p := ⟨w.heap.size, 1, none⟩) (by show _ < w.heap.size; first | omega | (simp; omega)) (.int .i64 a1)
    have WI9 := WI8.put (p := ⟨w.heap.size, 1, none⟩) (by show _ ≤ w.heap.size; first | exact Nat.le_refl _ | omega | (simp; omega)) (.int .i64 a1)
    have r_9 := r_8.set 1 (.int .i64 a1)
    have x_10 := x_9.far (p := ⟨w.heap.size, 2, none⟩) (by show _ ≠ w.heap.size; first | omega | (simp; omega)) (.int .i64 a2)
    have s10 := s9.put (p := ⟨w.heap.size, 2, none⟩) (by show _ < w.heap.size; first | omega | (simp; omega)) (.int .i64 a2)
    have WI10 := WI9.put (p := ⟨w.heap.size, 2, none⟩) (by show _ ≤ w.heap.size; first | exact Nat.le_refl _ | omega | (simp; omega)) (.int .i64 a2)
    have r_10 := r_9.set 2 (.int .i64 a2)
    have x_11 := x_10.far (p := ⟨w.heap.size, 3, none⟩) (by show _ ≠ w.heap.size; first | omega | (simp; omega)) (.int .i64 a3)
    have s11 := s10.put (p := ⟨w.heap.size, 3, none⟩) (by show _ < w.heap.size; first | omega | (simp; omega)) (.int .i64 a3)
    have WI11 := WI10.put (p := ⟨w.heap.size, 3, none⟩) (by show _ ≤ w.heap.size; first | exact Nat.le_refl _ | omega | (simp; omega)) (.int .i64 a3)
    have r_11 := r_10.set 3 (.int .i64 a3)
    have x_12 := x_11.far (p := ⟨w.heap.size, 4, none⟩) (by show _ ≠ w.heap.size; first | omega | (simp; omega)) (.int .i64 a4)
    have s12 := s11.put (p := ⟨w.heap.size, 4, none⟩) (by show _ < w.heap.size; first | omega | (simp; omega)) (.int .i64 a4)
    have WI12 := WI11.put (p := ⟨w.heap.size, 4, none⟩) (by show _ ≤ w.heap.size; first | exact Nat.le_refl _ | omega | (simp; omega)) (.int .i64 a4)
    have r_12 := r_11.set 4 (.int .i64 a4)
    have x_13 := x_12.far (p := ⟨w.heap.size, 5, none⟩) (by show _ ≠ w.heap.size; first | omega | (simp; omega)) (.int .i64 a5)
    have s13 := s12.put (p := ⟨w.heap.size, 5, none⟩) (by show _ < w.heap.size; first | omega | (simp; omega)) (.int .i64 a5)
    have WI13 := WI12.put (p := ⟨w.heap.size, 5, none⟩) (by show _ ≤ w.heap.size; first | exact Nat.le_refl _ | omega | (simp; omega)) (.int .i64 a5)
    have r_13 := r_12.set 5 (.int .i64 a5)
    have x_14 := x_13.far (p := ⟨w.heap.size, 6, none⟩) (by show _ ≠ w.heap.size; first | omega | (simp; omega)) (.int .i64 a6)
    have s14 := s13.put (p := ⟨w.heap.size, 6, none⟩) (by show _ < w.heap.size; first | omega | (simp; omega)) (.int .i64 a6)
    have WI14 := WI13.put (p := ⟨w.heap.size, 6, none⟩) (by show _ ≤ w.heap.size; first | exact Nat.le_refl _ | omega | (simp; omega)) (.int .i64 a6)
    have r_14 := r_13.set 6 (.int .i64 a6)
    refine bodyPost_ret (v := .agg #[.int .i64 v, .int .i64 a1, .int .i64 a2, .int .i64 a3, .int .i64 a4, .int .i64 a5, .int .i64 a6]) (by simp [results, Tryz.results34, go_sem, rc0, rc1, rc2, rc3, rc4, rc5, rc6, hn3_r, hm3_r]) rfl ?_
    exact ⟨_, _, _, _, _, _, _, rfl, ⟨_, by omega, s14⟩, WI14⟩
  · have r_5 := r_4.alloc (.cells #[.int .i64 (-1), .int .i64 4, .int .i64 1] 2)
    have x_5 := x_4.alloc (.cells #[.int .i64 (-1), .int .i64 4, .int .i64 1] 2)
    have s5 := s4.alloc (.cells #[.int .i64 (-1), .int .i64 4, .int .i64 1] 2)
    have g5 := s5.at_.lt
    have WI5 := WI4.alloc (.cells #[.int .i64 (-1), .int .i64 4, .int .i64 1] 2)
    have zw5 := WI5.size
    go_wp2_with fail
    refine (l1Pick (w4.alloc (.cells #[.int .i64 (-1), .int .i64 4, .int .i64 1] 2)) base g A m c (k2 + 1) l (w4.heap.size) #[.int .i64 (-1), .int .i64 4, .int .i64 1] [(-1), 4, 1] 3 3 s5 (by omega) (At.newAt' (show w4.heap.size = w4.heap.size by first | rfl | simp)) (by simp [intCells]) (by first | omega | (simp; omega)) rfl (by omega) (by omega)).mono ?_
    rintro e w6 ⟨v, hv6, rfl, s6, hw6, -⟩
    have zs6 : w4.heap.size + 1 ≤ w6.heap.size := by have q := hw6.size; first | exact q | (simp; done) | (simp at q; exact q) | (simp at q ⊢; omega)
    have r_6 := r_5.within hw6 (by first | omega | (simp; omega))
    have x_6 := x_5.within hw6 (by first | omega | (simp; omega))
    have WI6 := WI5.trans hw6
    have zw6 := WI6.size
    have g6 := s6.at_.lt
    have xc0 : World.cell? w6 ⟨w2.heap.size, 0, none⟩ = some (.int .i64 a0) := x_6.cell 0
    have xc1 : World.cell? w6 ⟨w2.heap.size, 1, none⟩ = some (.int .i64 a1) := x_6.cell 1
    have xc2 : World.cell? w6 ⟨w2.heap.size, 2, none⟩ = some (.int .i64 a2) := x_6.cell 2
    have xc3 : World.cell? w6 ⟨w2.heap.size, 3, none⟩ = some (.int .i64 a3) := x_6.cell 3
    have xc4 : World.cell? w6 ⟨w2.heap.size, 4, none⟩ = some (.int .i64 a4) := x_6.cell 4
    have xc5 : World.cell? w6 ⟨w2.heap.size, 5, none⟩ = some (.int .i64 a5) := x_6.cell 5
    have xc6 : World.cell? w6 ⟨w2.heap.size, 6, none⟩ = some (.int .i64 a6) := x_6.cell 6
    have xf0 : World.frozen? w6 ⟨w2.heap.size, 0, none⟩ = false := x_6.frozen 0
    have xf1 : World.frozen? w6 ⟨w2.heap.size, 1, none⟩ = false := x_6.frozen 1
    have xf2 : World.frozen? w6 ⟨w2.heap.size, 2, none⟩ = false := x_6.frozen 2
    have xf3 : World.frozen? w6 ⟨w2.heap.size, 3, none⟩ = false := x_6.frozen 3
    have xf4 : World.frozen? w6 ⟨w2.heap.size, 4, none⟩ = false := x_6.frozen 4
    have xf5 : World.frozen? w6 ⟨w2.heap.size, 5, none⟩ = false := x_6.frozen 5
    have xf6 : World.frozen? w6 ⟨w2.heap.size, 6, none⟩ = false := x_6.frozen 6
    have rc0 : World.cell? w6 ⟨w.heap.size, 0, none⟩ = some (.int .i64 0) := r_6.cell 0
    have rc1 : World.cell? w6 ⟨w.heap.size, 1, none⟩ = some (.int .i64 0) := r_6.cell 1
    have rc2 : World.cell? w6 ⟨w.heap.size, 2, none⟩ = some (.int .i64 0) := r_6.cell 2
    have rc3 : World.cell? w6 ⟨w.heap.size, 3, none⟩ = some (.int .i64 0) := r_6.cell 3
    have rc4 : World.cell? w6 ⟨w.heap.size, 4, none⟩ = some (.int .i64 0) := r_6.cell 4
    have rc5 : World.cell? w6 ⟨w.heap.size, 5, none⟩ = some (.int .i64 0) := r_6.cell 5
    have rc6 : World.cell? w6 ⟨w.heap.size, 6, none⟩ = some (.int .i64 0) := r_6.cell 6
    have rf0 : World.frozen? w6 ⟨w.heap.size, 0, none⟩ = false := r_6.frozen 0
    have rf1 : World.frozen? w6 ⟨w.heap.size, 1, none⟩ = false := r_6.frozen 1
    have rf2 : World.frozen? w6 ⟨w.heap.size, 2, none⟩ = false := r_6.frozen 2
    have rf3 : World.frozen? w6 ⟨w.heap.size, 3, none⟩ = false := r_6.frozen 3
    have rf4 : World.frozen? w6 ⟨w.heap.size, 4, none⟩ = false := r_6.frozen 4
    have rf5 : World.frozen? w6 ⟨w.heap.size, 5, none⟩ = false := r_6.frozen 5
    have rf6 : World.frozen? w6 ⟨w.heap.size, 6, none⟩ = false := r_6.frozen 6
    go_wp2_with fail
    have r_7 := r_6.far (p := ⟨w2.heap.size, 1, none⟩) (by show _ ≠ w2.heap.size; first | omega | (simp; omega)) (.int .i64 v)
    have s7 := s6.put (p := ⟨w2.heap.size, 1, none⟩) (by show _ < w2.heap.size; first | omega | (simp; omega)) (.int .i64 v)
    have WI7 := WI6.put (p := ⟨w2.heap.size, 1, none⟩) (by show _ ≤ w2.heap.size; first | exact Nat.le_refl _ | omega | (simp; omega)) (.int .i64 v)
    have x_7 := x_6.set 1 (.int .i64 v)
    have x_8 := x_7.far (p := ⟨w.heap.size, 0, none⟩) (by show _ ≠ w.heap.size; first | omega | (simp; omega)) (.int .i64 a0)
    have s8 := s7.put (p := ⟨w.heap.size, 0, none⟩) (by show _ < w.heap.size; first | omega | (simp; omega)) (.int .i64 a0)
    have WI8 := WI7.put (p := ⟨w.heap.size, 0, none⟩) (by show _ ≤ w.heap.size; first | exact Nat.le_refl _ | omega | (simp; omega)) (.int .i64 a0)
    have r_8 := r_7.set 0 (.int .i64 a0)
    have x_9 := x_8.far (p := ⟨w.heap.size, 1, none⟩) (by show _ ≠ w.heap.size; first | omega | (simp; omega)) (.int .i64 v)
    have s9 := s8.put (p := ⟨w.heap.size, 1, none⟩) (by show _ < w.heap.size; first | omega | (simp; omega)) (.int .i64 v)
    have WI9 := WI8.put (p := ⟨w.heap.size, 1, none⟩) (by show _ ≤ w.heap.size; first | exact Nat.le_refl _ | omega | (simp; omega)) (.int .i64 v)
    have r_9 := r_8.set 1 (.int .i64 v)
    have x_10 := x_9.far (p := ⟨w.heap.size, 2, none⟩) (by show _ ≠ w.heap.size; first | omega | (simp; omega)) (.int .i64 a2)
    have s10 := s9.put (p := ⟨w.heap.size, 2, none⟩) (by show _ < w.heap.size; first | omega | (simp; omega)) (.int .i64 a2)
    have WI10 := WI9.put (p := ⟨w.heap.size, 2, none⟩) (by show _ ≤ w.heap.size; first | exact Nat.le_refl _ | omega | (simp; omega)) (.int .i64 a2)
    have r_10 := r_9.set 2 (.int .i64 a2)
    have x_11 := x_10.far (p := ⟨w.heap.size, 3, none⟩) (by show _ ≠ w.heap.size; first | omega | (simp; omega)) (.int .i64 a3)
    have s11 := s10.put (p := ⟨w.heap.size, 3, none⟩) (by show _ < w.heap.size; first | omega | (simp; omega)) (.int .i64 a3)
    have WI11 := WI10.put (p := ⟨w.heap.size, 3, none⟩) (by show _ ≤ w.heap.size; first | exact Nat.le_refl _ | omega | (simp; omega)) (.int .i64 a3)
    have r_11 := r_10.set 3 (.int .i64 a3)
    have x_12 := x_11.far (p := ⟨w.heap.size, 4, none⟩) (by show _ ≠ w.heap.size; first | omega | (simp; omega)) (.int .i64 a4)
    have s12 := s11.put (p := ⟨w.heap.size, 4, none⟩) (by show _ < w.heap.size; first | omega | (simp; omega)) (.int .i64 a4)
    have WI12 := WI11.put (p := ⟨w.heap.size, 4, none⟩) (by show _ ≤ w.heap.size; first | exact Nat.le_refl _ | omega | (simp; omega)) (.int .i64 a4)
    have r_12 := r_11.set 4 (.int .i64 a4)
    have x_13 := x_12.far (p := ⟨w.heap.size, 5, none⟩) (by show _ ≠ w.heap.size; first | omega | (simp; omega)) (.int .i64 a5)
    have s13 := s12.put (p := ⟨w.heap.size, 5, none⟩) (by show _ < w.heap.size; first | omega | (simp; omega)) (.int .i64 a5)
    have WI13 := WI12.put (p := ⟨w.heap.size, 5, none⟩) (by show _ ≤ w.heap.size; first | exact Nat.le_refl _ | omega | (simp; omega)) (.int .i64 a5)
    have r_13 := r_12.set 5 (.int .i64 a5)
    have x_14 := x_13.far (p := ⟨w.heap.size, 6, none⟩) (by show _ ≠ w.heap.size; first | omega | (simp; omega)) (.int .i64 a6)
    have s14 := s13.put (p := ⟨w.heap.size, 6, none⟩) (by show _ < w.heap.size; first | omega | (simp; omega)) (.int .i64 a6)
    have WI14 := WI13.put (p := ⟨w.heap.size, 6, none⟩) (by show _ ≤ w.heap.size; first | exact Nat.le_refl _ | omega | (simp; omega)) (.int .i64 a6)
    have r_14 := r_13.set 6 (.int .i64 a6)
    refine bodyPost_ret (v := .agg #[.int .i64 a0, .int .i64 v, .int .i64 a2, .int .i64 a3, .int .i64 a4, .int .i64 a5, .int .i64 a6]) (by simp [results, Tryz.results34, go_sem, rc0, rc1, rc2, rc3, rc4, rc5, rc6, hn3_r, hm3_r]) rfl ?_
    exact ⟨_, _, _, _, _, _, _, rfl, ⟨_, by omega, s14⟩, WI14⟩
  · have r_5 := r_4.alloc (.cells #[.int .i64 (-1), .int .i64 10000, .int .i64 60001, .int .i64 1] 2)
    have x_5 := x_4.alloc (.cells #[.int .i64 (-1), .int .i64 10000, .int .i64 60001, .int .i64 1] 2)
    have s5 := s4.alloc (.cells #[.int .i64 (-1), .int .i64 10000, .int .i64 60001, .int .i64 1] 2)
    have g5 := s5.at_.lt
    have WI5 := WI4.alloc (.cells #[.int .i64 (-1), .int .i64 10000, .int .i64 60001, .int .i64 1] 2)
    have zw5 := WI5.size
    go_wp2_with fail
    refine (l1Pick (w4.alloc (.cells #[.int .i64 (-1), .int .i64 10000, .int .i64 60001, .int .i64 1] 2)) base g A m c (k2 + 1) l (w4.heap.size) #[.int .i64 (-1), .int .i64 10000, .int .i64 60001, .int .i64 1] [(-1), 10000, 60001, 1] 4 4 s5 (by omega) (At.newAt' (show w4.heap.size = w4.heap.size by first | rfl | simp)) (by simp [intCells]) (by first | omega | (simp; omega)) rfl (by omega) (by omega)).mono ?_
    rintro e w6 ⟨v, hv6, rfl, s6, hw6, -⟩
    have zs6 : w4.heap.size + 1 ≤ w6.heap.size := by have q := hw6.size; first | exact q | (simp; done) | (simp at q; exact q) | (simp at q ⊢; omega)
    have r_6 := r_5.within hw6 (by first | omega | (simp; omega))
    have x_6 := x_5.within hw6 (by first | omega | (simp; omega))
    have WI6 := WI5.trans hw6
    have zw6 := WI6.size
    have g6 := s6.at_.lt
    have xc0 : World.cell? w6 ⟨w2.heap.size, 0, none⟩ = some (.int .i64 a0) := x_6.cell 0
    have xc1 : World.cell? w6 ⟨w2.heap.size, 1, none⟩ = some (.int .i64 a1) := x_6.cell 1
    have xc2 : World.cell? w6 ⟨w2.heap.size, 2, none⟩ = some (.int .i64 a2) := x_6.cell 2
    have xc3 : World.cell? w6 ⟨w2.heap.size, 3, none⟩ = some (.int .i64 a3) := x_6.cell 3
    have xc4 : World.cell? w6 ⟨w2.heap.size, 4, none⟩ = some (.int .i64 a4) := x_6.cell 4
    have xc5 : World.cell? w6 ⟨w2.heap.size, 5, none⟩ = some (.int .i64 a5) := x_6.cell 5
    have xc6 : World.cell? w6 ⟨w2.heap.size, 6, none⟩ = some (.int .i64 a6) := x_6.cell 6
    have xf0 : World.frozen? w6 ⟨w2.heap.size, 0, none⟩ = false := x_6.frozen 0
    have xf1 : World.frozen? w6 ⟨w2.heap.size, 1, none⟩ = false := x_6.frozen 1
    have xf2 : World.frozen? w6 ⟨w2.heap.size, 2, none⟩ = false := x_6.frozen 2
    have xf3 : World.frozen? w6 ⟨w2.heap.size, 3, none⟩ = false := x_6.frozen 3
    have xf4 : World.frozen? w6 ⟨w2.heap.size, 4, none⟩ = false := x_6.frozen 4
    have xf5 : World.frozen? w6 ⟨w2.heap.size, 5, none⟩ = false := x_6.frozen 5
    have xf6 : World.frozen? w6 ⟨w2.heap.size, 6, none⟩ = false := x_6.frozen 6
    have rc0 : World.cell? w6 ⟨w.heap.size, 0, none⟩ = some (.int .i64 0) := r_6.cell 0
    have rc1 : World.cell? w6 ⟨w.heap.size, 1, none⟩ = some (.int .i64 0) := r_6.cell 1
    have rc2 : World.cell? w6 ⟨w.heap.size, 2, none⟩ = some (.int .i64 0) := r_6.cell 2
    have rc3 : World.cell? w6 ⟨w.heap.size, 3, none⟩ = some (.int .i64 0) := r_6.cell 3
    have rc4 : World.cell? w6 ⟨w.heap.size, 4, none⟩ = some (.int .i64 0) := r_6.cell 4
    have rc5 : World.cell? w6 ⟨w.heap.size, 5, none⟩ = some (.int .i64 0) := r_6.cell 5
    have rc6 : World.cell? w6 ⟨w.heap.size, 6, none⟩ = some (.int .i64 0) := r_6.cell 6
    have rf0 : World.frozen? w6 ⟨w.heap.size, 0, none⟩ = false := r_6.frozen 0
    have rf1 : World.frozen? w6 ⟨w.heap.size, 1, none⟩ = false := r_6.frozen 1
    have rf2 : World.frozen? w6 ⟨w.heap.size, 2, none⟩ = false := r_6.frozen 2
    have rf3 : World.frozen? w6 ⟨w.heap.size, 3, none⟩ = false := r_6.frozen 3
    have rf4 : World.frozen? w6 ⟨w.heap.size, 4, none⟩ = false := r_6.frozen 4
    have rf5 : World.frozen? w6 ⟨w.heap.size, 5, none⟩ = false := r_6.frozen 5
    have rf6 : World.frozen? w6 ⟨w.heap.size, 6, none⟩ = false := r_6.frozen 6
    go_wp2_with fail
    have r_7 := r_6.far (p := ⟨w2.heap.size, 6, none⟩) (by show _ ≠ w2.heap.size; first | omega | (simp; omega)) (.int .i64 v)
    have s7 := s6.put (p := ⟨w2.heap.size, 6, none⟩) (by show _ < w2.heap.size; first | omega | (simp; omega)) (.int .i64 v)
    have WI7 := WI6.put (p := ⟨w2.heap.size, 6, none⟩) (by show _ ≤ w2.heap.size; first | exact Nat.le_refl _ | omega | (simp; omega)) (.int .i64 v)
    have x_7 := x_6.set 6 (.int .i64 v)
    have x_8 := x_7.far (p := ⟨w.heap.size, 0, none⟩) (by show _ ≠ w.heap.size; first | omega | (simp; omega)) (.int .i64 a0)
    have s8 := s7.put (p := ⟨w.heap.size, 0, none⟩) (by show _ < w.heap.size; first | omega | (simp; omega)) (.int .i64 a0)
    have WI8 := WI7.put (p := ⟨w.heap.size, 0, none⟩) (by show _ ≤ w.heap.size; first | exact Nat.le_refl _ | omega | (simp; omega)) (.int .i64 a0)
    have r_8 := r_7.set 0 (.int .i64 a0)
    have x_9 := x_8.far (p := ⟨w.heap.size, 1, none⟩) (by show _ ≠ w.heap.size; first | omega | (simp; omega)) (.int .i64 a1)
    have s9 := s8.put (p := ⟨w.heap.size, 1, none⟩) (by show _ < w.heap.size; first | omega | (simp; omega)) (.int .i64 a1)
    have WI9 := WI8.put (p := ⟨w.heap.size, 1, none⟩) (by show _ ≤ w.heap.size; first | exact Nat.le_refl _ | omega | (simp; omega)) (.int .i64 a1)
    have r_9 := r_8.set 1 (.int .i64 a1)
    have x_10 := x_9.far (p := ⟨w.heap.size, 2, none⟩) (by show _ ≠ w.heap.size; first | omega | (simp; omega)) (.int .i64 a2)
    have s10 := s9.put (p := ⟨w.heap.size, 2, none⟩) (by show _ < w.heap.size; first | omega | (simp; omega)) (.int .i64 a2)
    have WI10 := WI9.put (p := ⟨w.heap.size, 2, none⟩) (by show _ ≤ w.heap.size; first | exact Nat.le_refl _ | omega | (simp; omega)) (.int .i64 a2)
    have r_10 := r_9.set 2 (.int .i64 a2)
    have x_11 := x_10.far (p := ⟨w.heap.size, 3, none⟩) (by show _ ≠ w.heap.size; first | omega | (simp; omega)) (.int .i64 a3)
    have s11 := s10.put (p := ⟨w.heap.size, 3, none⟩) (by show _ < w.heap.size; first | omega | (simp; omega)) (.int .i64 a3)
    have WI11 := WI10.put (p := ⟨w.heap.size, 3, none⟩) (by show _ ≤ w.heap.size; first | exact Nat.le_refl _ | omega | (simp; omega)) (.int .i64 a3)
    have r_11 := r_10.set 3 (.int .i64 a3)
    have x_12 := x_11.far (p := ⟨w.heap.size, 4, none⟩) (by show _ ≠ w.heap.size; first | omega | (simp; omega)) (.int .i64 a4)
    have s12 := s11.put (p := ⟨w.heap.size, 4, none⟩) (by show _ < w.heap.size; first | omega | (simp; omega)) (.int .i64 a4)
    have WI12 := WI11.put (p := ⟨w.heap.size, 4, none⟩) (by show _ ≤ w.heap.size; first | exact Nat.le_refl _ | omega | (simp; omega)) (.int .i64 a4)
    have r_12 := r_11.set 4 (.int .i64 a4)
    have x_13 := x_12.far (p := ⟨w.heap.size, 5, none⟩) (by show _ ≠ w.heap.size; first | omega | (simp; omega)) (.int .i64 a5)
    have s13 := s12.put (p := ⟨w.heap.size, 5, none⟩) (by show _ < w.heap.size; first | omega | (simp; omega)) (.int .i64 a5)
    have WI13 := WI12.put (p := ⟨w.heap.size, 5, none⟩) (by show _ ≤ w.heap.size; first | exact Nat.le_refl _ | omega | (simp; omega)) (.int .i64 a5)
    have r_13 := r_12.set 5 (.int .i64 a5)
    have x_14 := x_13.far (p := ⟨w.heap.size, 6, none⟩) (by show _ ≠ w.heap.size; first | omega | (simp; omega)) (.int .i64 v)
    have s14 := s13.put (p := ⟨w.heap.size, 6, none⟩) (by show _ < w.heap.size; first | omega | (simp; omega)) (.int .i64 v)
    have WI14 := WI13.put (p := ⟨w.heap.size, 6, none⟩) (by show _ ≤ w.heap.size; first | exact Nat.le_refl _ | omega | (simp; omega)) (.int .i64 v)
    have r_14 := r_13.set 6 (.int .i64 v)
    refine bodyPost_ret (v := .agg #[.int .i64 a0, .int .i64 a1, .int .i64 a2, .int .i64 a3, .int .i64 a4, .int .i64 a5, .int .i64 v]) (by simp [results, Tryz.results34, go_sem, rc0, rc1, rc2, rc3, rc4, rc5, rc6, hn3_r, hm3_r]) rfl ?_
    exact ⟨_, _, _, _, _, _, _, rfl, ⟨_, by omega, s14⟩, WI14⟩
  · go_wp2_with fail
    refine (l2Bent w4 base g A m c (k2 + 1) l s4 (by omega)).mono ?_
    rintro e w5 ⟨b0, b1, b2, b3, rfl, ⟨k5, hk5, s5⟩, hw5⟩
    have zs5 : w4.heap.size ≤ w5.heap.size := by have q := hw5.size; first | exact q | (simp; done) | (simp at q; exact q) | (simp at q ⊢; omega)
    have r_5 := r_4.within hw5 (by first | omega | (simp; omega))
    have x_5 := x_4.within hw5 (by first | omega | (simp; omega))
    have WI5 := WI4.trans hw5
    have zw5 := WI5.size
    have g5 := s5.at_.lt
    have xc0 : World.cell? w5 ⟨w2.heap.size, 0, none⟩ = some (.int .i64 a0) := x_5.cell 0
    have xc1 : World.cell? w5 ⟨w2.heap.size, 1, none⟩ = some (.int .i64 a1) := x_5.cell 1
    have xc2 : World.cell? w5 ⟨w2.heap.size, 2, none⟩ = some (.int .i64 a2) := x_5.cell 2
    have xc3 : World.cell? w5 ⟨w2.heap.size, 3, none⟩ = some (.int .i64 a3) := x_5.cell 3
    have xc4 : World.cell? w5 ⟨w2.heap.size, 4, none⟩ = some (.int .i64 a4) := x_5.cell 4
    have xc5 : World.cell? w5 ⟨w2.heap.size, 5, none⟩ = some (.int .i64 a5) := x_5.cell 5
    have xc6 : World.cell? w5 ⟨w2.heap.size, 6, none⟩ = some (.int .i64 a6) := x_5.cell 6
    have xf0 : World.frozen? w5 ⟨w2.heap.size, 0, none⟩ = false := x_5.frozen 0
    have xf1 : World.frozen? w5 ⟨w2.heap.size, 1, none⟩ = false := x_5.frozen 1
    have xf2 : World.frozen? w5 ⟨w2.heap.size, 2, none⟩ = false := x_5.frozen 2
    have xf3 : World.frozen? w5 ⟨w2.heap.size, 3, none⟩ = false := x_5.frozen 3
    have xf4 : World.frozen? w5 ⟨w2.heap.size, 4, none⟩ = false := x_5.frozen 4
    have xf5 : World.frozen? w5 ⟨w2.heap.size, 5, none⟩ = false := x_5.frozen 5
    have xf6 : World.frozen? w5 ⟨w2.heap.size, 6, none⟩ = false := x_5.frozen 6
    have rc0 : World.cell? w5 ⟨w.heap.size, 0, none⟩ = some (.int .i64 0) := r_5.cell 0
    have rc1 : World.cell? w5 ⟨w.heap.size, 1, none⟩ = some (.int .i64 0) := r_5.cell 1
    have rc2 : World.cell? w5 ⟨w.heap.size, 2, none⟩ = some (.int .i64 0) := r_5.cell 2
    have rc3 : World.cell? w5 ⟨w.heap.size, 3, none⟩ = some (.int .i64 0) := r_5.cell 3
    have rc4 : World.cell? w5 ⟨w.heap.size, 4, none⟩ = some (.int .i64 0) := r_5.cell 4
    have rc5 : World.cell? w5 ⟨w.heap.size, 5, none⟩ = some (.int .i64 0) := r_5.cell 5
    have rc6 : World.cell? w5 ⟨w.heap.size, 6, none⟩ = some (.int .i64 0) := r_5.cell 6
    have rf0 : World.frozen? w5 ⟨w.heap.size, 0, none⟩ = false := r_5.frozen 0
    have rf1 : World.frozen? w5 ⟨w.heap.size, 1, none⟩ = false := r_5.frozen 1
    have rf2 : World.frozen? w5 ⟨w.heap.size, 2, none⟩ = false := r_5.frozen 2
    have rf3 : World.frozen? w5 ⟨w.heap.size, 3, none⟩ = false := r_5.frozen 3
    have rf4 : World.frozen? w5 ⟨w.heap.size, 4, none⟩ = false := r_5.frozen 4
    have rf5 : World.frozen? w5 ⟨w.heap.size, 5, none⟩ = false := r_5.frozen 5
    have rf6 : World.frozen? w5 ⟨w.heap.size, 6, none⟩ = false := r_5.frozen 6
    go_wp2_with fail
    have r_6 := r_5.far (p := ⟨w2.heap.size, 2, none⟩) (by show _ ≠ w2.heap.size; first | omega | (simp; omega)) (.int .i64 b0)
    have s6 := s5.put (p := ⟨w2.heap.size, 2, none⟩) (by show _ < w2.heap.size; first | omega | (simp; omega)) (.int .i64 b0)
    have WI6 := WI5.put (p := ⟨w2.heap.size, 2, none⟩) (by show _ ≤ w2.heap.size; first | exact Nat.le_refl _ | omega | (simp; omega)) (.int .i64 b0)
    have x_6 := x_5.set 2 (.int .i64 b0)
    have r_7 := r_6.far (p := ⟨w2.heap.size, 3, none⟩) (by show _ ≠ w2.heap.size; first | omega | (simp; omega)) (.int .i64 b1)
    have s7 := s6.put (p := ⟨w2.heap.size, 3, none⟩) (by show _ < w2.heap.size; first | omega | (simp; omega)) (.int .i64 b1)
    have WI7 := WI6.put (p := ⟨w2.heap.size, 3, none⟩) (by show _ ≤ w2.heap.size; first | exact Nat.le_refl _ | omega | (simp; omega)) (.int .i64 b1)
    have x_7 := x_6.set 3 (.int .i64 b1)
    have r_8 := r_7.far (p := ⟨w2.heap.size, 4, none⟩) (by show _ ≠ w2.heap.size; first | omega | (simp; omega)) (.int .i64 b2)
    have s8 := s7.put (p := ⟨w2.heap.size, 4, none⟩) (by show _ < w2.heap.size; first | omega | (simp; omega)) (.int .i64 b2)
    have WI8 := WI7.put (p := ⟨w2.heap.size, 4, none⟩) (by show _ ≤ w2.heap.size; first | exact Nat.le_refl _ | omega | (simp; omega)) (.int .i64 b2)
    have x_8 := x_7.set 4 (.int .i64 b2)
    have r_9 := r_8.far (p := ⟨w2.heap.size, 5, none⟩) (by show _ ≠ w2.heap.size; first | omega | (simp; omega)) (.int .i64 b3)
    have s9 := s8.put (p := ⟨w2.heap.size, 5, none⟩) (by show _ < w2.heap.size; first | omega | (simp; omega)) (.int .i64 b3)
    have WI9 := WI8.put (p := ⟨w2.heap.size, 5, none⟩) (by show _ ≤ w2.heap.size; first | exact Nat.le_refl _ | omega | (simp; omega)) (.int .i64 b3)
    have x_9 := x_8.set 5 (.int .i64 b3)
    have x_10 := x_9.far (p := ⟨w.heap.size, 0, none⟩) (by show _ ≠ w.heap.size; first | omega | (simp; omega)) (.int .i64 a0)
    have s10 := s9.put (p := ⟨w.heap.size, 0, none⟩) (by show _ < w.heap.size; first | omega | (simp; omega)) (.int .i64 a0)
    have WI10 := WI9.put (p := ⟨w.heap.size, 0, none⟩) (by show _ ≤ w.heap.size; first | exact Nat.le_refl _ | omega | (simp; omega)) (.int .i64 a0)
    have r_10 := r_9.set 0 (.int .i64 a0)
    have x_11 := x_10.far (p := ⟨w.heap.size, 1, none⟩) (by show _ ≠ w.heap.size; first | omega | (simp; omega)) (.int .i64 a1)
    have s11 := s10.put (p := ⟨w.heap.size, 1, none⟩) (by show _ < w.heap.size; first | omega | (simp; omega)) (.int .i64 a1)
    have WI11 := WI10.put (p := ⟨w.heap.size, 1, none⟩) (by show _ ≤ w.heap.size; first | exact Nat.le_refl _ | omega | (simp; omega)) (.int .i64 a1)
    have r_11 := r_10.set 1 (.int .i64 a1)
    have x_12 := x_11.far (p := ⟨w.heap.size, 2, none⟩) (by show _ ≠ w.heap.size; first | omega | (simp; omega)) (.int .i64 b0)
    have s12 := s11.put (p := ⟨w.heap.size, 2, none⟩) (by show _ < w.heap.size; first | omega | (simp; omega)) (.int .i64 b0)
    have WI12 := WI11.put (p := ⟨w.heap.size, 2, none⟩) (by show _ ≤ w.heap.size; first | exact Nat.le_refl _ | omega | (simp; omega)) (.int .i64 b0)
    have r_12 := r_11.set 2 (.int .i64 b0)
    have x_13 := x_12.far (p := ⟨w.heap.size, 3, none⟩) (by show _ ≠ w.heap.size; first | omega | (simp; omega)) (.int .i64 b1)
    have s13 := s12.put (p := ⟨w.heap.size, 3, none⟩) (by show _ < w.heap.size; first | omega | (simp; omega)) (.int .i64 b1)
    have WI13 := WI12.put (p := ⟨w.heap.size, 3, none⟩) (by show _ ≤ w.heap.size; first | exact Nat.le_refl _ | omega | (simp; omega)) (.int .i64 b1)
    have r_13 := r_12.set 3 (.int .i64 b1)
    have x_14 := x_13.far (p := ⟨w.heap.size, 4, none⟩) (by show _ ≠ w.heap.size; first | omega | (simp; omega)) (.int .i64 b2)
    have s14 := s13.put (p := ⟨w.heap.size, 4, none⟩) (by show _ < w.heap.size; first | omega | (simp; omega)) (.int .i64 b2)
    have WI14 := WI13.put (p := ⟨w.heap.size, 4, none⟩) (by show _ ≤ w.heap.size; first | exact Nat.le_refl _ | omega | (simp; omega)) (.int .i64 b2)
    have r_14 := r_13.set 4 (.int .i64 b2)
    have x_15 := x_14.far (p := ⟨w.heap.size, 5, none⟩) (by show _ ≠ w.heap.size; first | omega | (simp; omega)) (.int .i64 b3)
    have s15 := s14.put (p := ⟨w.heap.size, 5, none⟩) (by show _ < w.heap.size; first | omega | (simp; omega)) (.int .i64 b3)
    have WI15 := WI14.put (p := ⟨w.heap.size, 5, none⟩) (by show _ ≤ w.heap.size; first | exact Nat.le_refl _ | omega | (simp; omega)) (.int .i64 b3)
    have r_15 := r_14.set 5 (.int .i64 b3)
    have x_16 := x_15.far (p := ⟨w.heap.size, 6, none⟩) (by show _ ≠ w.heap.size; first | omega | (simp; omega)) (.int .i64 a6)
    have s16 := s15.put (p := ⟨w.heap.size, 6, none⟩) (by show _ < w.heap.size; first | omega | (simp; omega)) (.int .i64 a6)
    have WI16 := WI15.put (p := ⟨w.heap.size, 6, none⟩) (by show _ ≤ w.heap.size; first | exact Nat.le_refl _ | omega | (simp; omega)) (.int .i64 a6)
    have r_16 := r_15.set 6 (.int .i64 a6)
    refine bodyPost_ret (v := .agg #[.int .i64 a0, .int .i64 a1, .int .i64 b0, .int .i64 b1, .int .i64 b2, .int .i64 b3, .int .i64 a6]) (by simp [results, Tryz.results34, go_sem, rc0, rc1, rc2, rc3, rc4, rc5, rc6, hn3_r, hm3_r]) rfl ?_
    exact ⟨_, _, _, _, _, _, _, rfl, ⟨_, by omega, s16⟩, WI16⟩
  · have bq0 : (q == 0) = false := by simp; omega
    have bq1 : (q == 1) = false := by simp; omega
    have bq2 : (q == 2) = false := by simp; omega
    have bq3 : (q == 3) = false := by simp; omega
    have xc0 : World.cell? w4 ⟨w2.heap.size, 0, none⟩ = some (.int .i64 a0) := x_4.cell 0
    have xc1 : World.cell? w4 ⟨w2.heap.size, 1, none⟩ = some (.int .i64 a1) := x_4.cell 1
    have xc2 : World.cell? w4 ⟨w2.heap.size, 2, none⟩ = some (.int .i64 a2) := x_4.cell 2
    have xc3 : World.cell? w4 ⟨w2.heap.size, 3, none⟩ = some (.int .i64 a3) := x_4.cell 3
    have xc4 : World.cell? w4 ⟨w2.heap.size, 4, none⟩ = some (.int .i64 a4) := x_4.cell 4
    have xc5 : World.cell? w4 ⟨w2.heap.size, 5, none⟩ = some (.int .i64 a5) := x_4.cell 5
    have xc6 : World.cell? w4 ⟨w2.heap.size, 6, none⟩ = some (.int .i64 a6) := x_4.cell 6
    have xf0 : World.frozen? w4 ⟨w2.heap.size, 0, none⟩ = false := x_4.frozen 0
    have xf1 : World.frozen? w4 ⟨w2.heap.size, 1, none⟩ = false := x_4.frozen 1
    have xf2 : World.frozen? w4 ⟨w2.heap.size, 2, none⟩ = false := x_4.frozen 2
    have xf3 : World.frozen? w4 ⟨w2.heap.size, 3, none⟩ = false := x_4.frozen 3
    have xf4 : World.frozen? w4 ⟨w2.heap.size, 4, none⟩ = false := x_4.frozen 4
    have xf5 : World.frozen? w4 ⟨w2.heap.size, 5, none⟩ = false := x_4.frozen 5
    have xf6 : World.frozen? w4 ⟨w2.heap.size, 6, none⟩ = false := x_4.frozen 6
    have rc0 : World.cell? w4 ⟨w.heap.size, 0, none⟩ = some (.int .i64 0) := r_4.cell 0
    have rc1 : World.cell? w4 ⟨w.heap.size, 1, none⟩ = some (.int .i64 0) := r_4.cell 1
    have rc2 : World.cell? w4 ⟨w.heap.size, 2, none⟩ = some (.int .i64 0) := r_4.cell 2
    have rc3 : World.cell? w4 ⟨w.heap.size, 3, none⟩ = some (.int .i64 0) := r_4.cell 3
    have rc4 : World.cell? w4 ⟨w.heap.size, 4, none⟩ = some (.int .i64 0) := r_4.cell 4
    have rc5 : World.cell? w4 ⟨w.heap.size, 5, none⟩ = some (.int .i64 0) := r_4.cell 5
    have rc6 : World.cell? w4 ⟨w.heap.size, 6, none⟩ = some (.int .i64 0) := r_4.cell 6
    have rf0 : World.frozen? w4 ⟨w.heap.size, 0, none⟩ = false := r_4.frozen 0
    have rf1 : World.frozen? w4 ⟨w.heap.size, 1, none⟩ = false := r_4.frozen 1
    have rf2 : World.frozen? w4 ⟨w.heap.size, 2, none⟩ = false := r_4.frozen 2
    have rf3 : World.frozen? w4 ⟨w.heap.size, 3, none⟩ = false := r_4.frozen 3
    have rf4 : World.frozen? w4 ⟨w.heap.size, 4, none⟩ = false := r_4.frozen 4
    have rf5 : World.frozen? w4 ⟨w.heap.size, 5, none⟩ = false := r_4.frozen 5
    have rf6 : World.frozen? w4 ⟨w.heap.size, 6, none⟩ = false := r_4.frozen 6
    go_wp2_with fail
    have x_5 := x_4.far (p := ⟨w.heap.size, 0, none⟩) (by show _ ≠ w.heap.size; first | omega | (simp; omega)) (.int .i64 a0)
    have s5 := s4.put (p := ⟨w.heap.size, 0, none⟩) (by show _ < w.heap.size; first | omega | (simp; omega)) (.int .i64 a0)
    have WI5 := WI4.put (p := ⟨w.heap.size, 0, none⟩) (by show _ ≤ w.heap.size; first | exact Nat.le_refl _ | omega | (simp; omega)) (.int .i64 a0)
    have r_5 := r_4.set 0 (.int .i64 a0)
    have x_6 := x_5.far (p := ⟨w.heap.size, 1, none⟩) (by show _ ≠ w.heap.size; first | omega | (simp; omega)) (.int .i64 a1)
    have s6 := s5.put (p := ⟨w.heap.size, 1, none⟩) (by show _ < w.heap.size; first | omega | (simp; omega)) (.int .i64 a1)
    have WI6 := WI5.put (p := ⟨w.heap.size, 1, none⟩) (by show _ ≤ w.heap.size; first | exact Nat.le_refl _ | omega | (simp; omega)) (.int .i64 a1)
    have r_6 := r_5.set 1 (.int .i64 a1)
    have x_7 := x_6.far (p := ⟨w.heap.size, 2, none⟩) (by show _ ≠ w.heap.size; first | omega | (simp; omega)) (.int .i64 a2)
    have s7 := s6.put (p := ⟨w.heap.size, 2, none⟩) (by show _ < w.heap.size; first | omega | (simp; omega)) (.int .i64 a2)
    have WI7 := WI6.put (p := ⟨w.heap.size, 2, none⟩) (by show _ ≤ w.heap.size; first | exact Nat.le_refl _ | omega | (simp; omega)) (.int .i64 a2)
    have r_7 := r_6.set 2 (.int .i64 a2)
    have x_8 := x_7.far (p := ⟨w.heap.size, 3, none⟩) (by show _ ≠ w.heap.size; first | omega | (simp; omega)) (.int .i64 a3)
    have s8 := s7.put (p := ⟨w.heap.size, 3, none⟩) (by show _ < w.heap.size; first | omega | (simp; omega)) (.int .i64 a3)
    have WI8 := WI7.put (p := ⟨w.heap.size, 3, none⟩) (by show _ ≤ w.heap.size; first | exact Nat.le_refl _ | omega | (simp; omega)) (.int .i64 a3)
    have r_8 := r_7.set 3 (.int .i64 a3)
    have x_9 := x_8.far (p := ⟨w.heap.size, 4, none⟩) (by show _ ≠ w.heap.size; first | omega | (simp; omega)) (.int .i64 a4)
    have s9 := s8.put (p := ⟨w.heap.size, 4, none⟩) (by show _ < w.heap.size; first | omega | (simp; omega)) (.int .i64 a4)
    have WI9 := WI8.put (p := ⟨w.heap.size, 4, none⟩) (by show _ ≤ w.heap.size; first | exact Nat.le_refl _ | omega | (simp; omega)) (.int .i64 a4)
    have r_9 := r_8.set 4 (.int .i64 a4)
    have x_10 := x_9.far (p := ⟨w.heap.size, 5, none⟩) (by show _ ≠ w.heap.size; first | omega | (simp; omega)) (.int .i64 a5)
    have s10 := s9.put (p := ⟨w.heap.size, 5, none⟩) (by show _ < w.heap.size; first | omega | (simp; omega)) (.int .i64 a5)
    have WI10 := WI9.put (p := ⟨w.heap.size, 5, none⟩) (by show _ ≤ w.heap.size; first | exact Nat.le_refl _ | omega | (simp; omega)) (.int .i64 a5)
    have r_10 := r_9.set 5 (.int .i64 a5)
    have x_11 := x_10.far (p := ⟨w.heap.size, 6, none⟩) (by show _ ≠ w.heap.size; first | omega | (simp; omega)) (.int .i64 a6)
    have s11 := s10.put (p := ⟨w.heap.size, 6, none⟩) (by show _ < w.heap.size; first | omega | (simp; omega)) (.int .i64 a6)
    have WI11 := WI10.put (p := ⟨w.heap.size, 6, none⟩) (by show _ ≤ w.heap.size; first | exact Nat.le_refl _ | omega | (simp; omega)) (.int .i64 a6)
    have r_11 := r_10.set 6 (.int .i64 a6)
    refine bodyPost_ret (v := .agg #[.int .i64 a0, .int .i64 a1, .int .i64 a2, .int .i64 a3, .int .i64 a4, .int .i64 a5, .int .i64 a6]) (by simp [results, Tryz.results34, go_sem, rc0, rc1, rc2, rc3, rc4, rc5, rc6, hn3_r, hm3_r]) rfl ?_
    exact ⟨_, _, _, _, _, _, _, rfl, ⟨_, by omega, s11⟩, WI11⟩

set_option maxHeartbeats 4000000 in
theorem l5State (w : World) (base g : Nat) (A : Option Addr) (m c k : Nat) (l : List UInt8) (h : Src w base g A m c k l) (hk : k < 500000000) :
    Calls Tryz.prog 45 #[.pointer (some ⟨g, 0, none⟩)] w fun e w' => ∃ (X : Option Addr) (L cx : Nat) (xs : List Smp) (Y : Option Addr) (M cy : Nat) (ys : List Hnt) (u : Int), e = .returned (.agg #[.slice X L cx, .slice Y M cy, .int .i64 u]) ∧ L ≤ 200 ∧ M ≤ 16 ∧ (-1 ≤ u ∧ u ≤ 60001) ∧ Ow eS w' w.heap.size X L cx xs ∧ Ow eH w' w.heap.size Y M cy ys ∧ (∃ k' : Nat, k' ≤ k + 300 ∧ Src w' base g A m c k' l) ∧ Within g (g + 1) w w' := by
  have g0 := h.at_.lt
  have WI0 := Within.refl g (g + 1) w
  have r := At.newAt' (w := w) (t := 39) (cs := #[.slice none 0 0, .slice none 0 0, .int .i64 0]) (show w.heap.size = w.heap.size by first | rfl | simp)
  have s1 := h.alloc (.cells #[.slice none 0 0, .slice none 0 0, .int .i64 0] 39)
  have g1 := s1.at_.lt
  have WI1 := WI0.alloc (.cells #[.slice none 0 0, .slice none 0 0, .int .i64 0] 39)
  have zw1 := WI1.size
  go_enter Tryz.func45, Tryz.ntmps45
  go_wp2_with fail
  refine (l3Draw (w.alloc (.cells #[.slice none 0 0, .slice none 0 0, .int .i64 0] 39)) base g A m c k l s1 (by omega)).mono ?_
  rintro e w2 ⟨k2, X, L, cx, xs, rfl, hL, os, hk2, s2, hw2⟩
  have zs2 : w.heap.size + 1 ≤ w2.heap.size := by have q := hw2.size; first | exact q | (simp; done) | (simp at q; exact q) | (simp at q ⊢; omega)
  have r_2 := r.within hw2 (by first | omega | (simp; omega))
  have WI2 := WI1.trans hw2
  have zw2 := WI2.size
  have g2 := s2.at_.lt
  go_wp2_with fail
  refine (l4Draw w2 base g A m c k2 l s2 (by omega)).mono ?_
  rintro e w3 ⟨k3, Y, M, cy, ys, rfl, hM, oh, hk3, s3, hw3⟩
  have zs3 : w2.heap.size ≤ w3.heap.size := by have q := hw3.size; first | exact q | (simp; done) | (simp at q; exact q) | (simp at q ⊢; omega)
  have r_3 := r_2.within hw3 (by first | omega | (simp; omega))
  have os_3 := os.within hw3 os.lt (.inr g1)
  have WI3 := WI2.trans hw3
  have zw3 := WI3.size
  have g3 := s3.at_.lt
  have r_4 := r_3.alloc (.cells #[.int .i64 0, .int .i64 1, .int .i64 5, .int .i64 60000] 2)
  have os_4 := os_3.alloc (.cells #[.int .i64 0, .int .i64 1, .int .i64 5, .int .i64 60000] 2)
  have oh_4 := oh.alloc (.cells #[.int .i64 0, .int .i64 1, .int .i64 5, .int .i64 60000] 2)
  have s4 := s3.alloc (.cells #[.int .i64 0, .int .i64 1, .int .i64 5, .int .i64 60000] 2)
  have g4 := s4.at_.lt
  have WI4 := WI3.alloc (.cells #[.int .i64 0, .int .i64 1, .int .i64 5, .int .i64 60000] 2)
  have zw4 := WI4.size
  go_wp2_with fail
  refine (l1Pick (w3.alloc (.cells #[.int .i64 0, .int .i64 1, .int .i64 5, .int .i64 60000] 2)) base g A m c k3 l (w3.heap.size) #[.int .i64 0, .int .i64 1, .int .i64 5, .int .i64 60000] [0, 1, 5, 60000] 4 4 s4 (by omega) (At.newAt' (show w3.heap.size = w3.heap.size by first | rfl | simp)) (by simp [intCells]) (by first | omega | (simp; omega)) rfl (by omega) (by omega)).mono ?_
  rintro e w5 ⟨u, hv5, rfl, s5, hw5, -⟩
  have zs5 : w3.heap.size + 1 ≤ w5.heap.size := by have q := hw5.size; first | exact q | (simp; done) | (simp at q; exact q) | (simp at q ⊢; omega)
  have r_5 := r_4.within hw5 (by first | omega | (simp; omega))
  have os_5 := os_4.within hw5 os_4.lt (.inr g1)
  have oh_5 := oh_4.within hw5 oh_4.lt (.inr g2)
  have WI5 := WI4.trans hw5
  have zw5 := WI5.size
  have g5 := s5.at_.lt
  have hu' := pick_bd (-1) 60001 hv5 rfl
  have hL' : L ≤ 200 := by omega
  have hM' : M ≤ 16 := by omega
  have x := At.newAt' (w := w5) (t := 39) (cs := #[.slice X L cx, .slice Y M cy, .int .i64 u]) (show w5.heap.size = w5.heap.size by first | rfl | simp)
  have ln6_r : w.heap.size < w5.heap.size := by have q := r_5.lt; first | exact q | (simp; done) | (simp at q; exact q) | (simp at q ⊢; omega)
  have hn6_r : ¬ w.heap.size = w5.heap.size := by omega
  have hm6_r : ¬ w5.heap.size = w.heap.size := by omega
  have r_6 := r_5.alloc (.cells #[.slice X L cx, .slice Y M cy, .int .i64 u] 39)
  have os_6 := os_5.alloc (.cells #[.slice X L cx, .slice Y M cy, .int .i64 u] 39)
  have oh_6 := oh_5.alloc (.cells #[.slice X L cx, .slice Y M cy, .int .i64 u] 39)
  have s6 := s5.alloc (.cells #[.slice X L cx, .slice Y M cy, .int .i64 u] 39)
  have g6 := s6.at_.lt
  have WI6 := WI5.alloc (.cells #[.slice X L cx, .slice Y M cy, .int .i64 u] 39)
  have zw6 := WI6.size
  go_wp2_with fail
  refine (l1Next (w5.alloc (.cells #[.slice X L cx, .slice Y M cy, .int .i64 u] 39)) base g A m c (k3 + 1) l 14 s6 (by omega) (by omega)).mono ?_
  rintro e w7 ⟨q, rfl, hr7, -, s7, hw7, -⟩
  have zs7 : w5.heap.size + 1 ≤ w7.heap.size := by have q := hw7.size; first | exact q | (simp; done) | (simp at q; exact q) | (simp at q ⊢; omega)
  have r_7 := r_6.within hw7 (by first | omega | (simp; omega))
  have x_7 := x.within hw7 (by first | omega | (simp; omega))
  have os_7 := os_6.within hw7 os_6.lt (.inr g1)
  have oh_7 := oh_6.within hw7 oh_6.lt (.inr g2)
  have WI7 := WI6.trans hw7
  have zw7 := WI7.size
  have g7 := s7.at_.lt
  obtain ⟨hr7a, hr7b⟩ := hr7 (by omega)
  rcases (show q = 0 ∨ q = 1 ∨ q = 2 ∨ 3 ≤ q by omega) with rfl | rfl | rfl | hq3
  · go_wp2_with fail
    refine (l3Bent w7 base g A m c ((k3 + 1) + 1) l s7 (by omega)).mono ?_
    rintro e w8 ⟨k8, X2, L2, cx2, xs2, rfl, hL2, os2, hk8, s8, hw8⟩
    have zs8 : w7.heap.size ≤ w8.heap.size := by have q := hw8.size; first | exact q | (simp; done) | (simp at q; exact q) | (simp at q ⊢; omega)
    have r_8 := r_7.within hw8 (by first | omega | (simp; omega))
    have x_8 := x_7.within hw8 (by first | omega | (simp; omega))
    have os_8 := os_7.within hw8 os_7.lt (.inr g1)
    have oh_8 := oh_7.within hw8 oh_7.lt (.inr g2)
    have WI8 := WI7.trans hw8
    have zw8 := WI8.size
    have g8 := s8.at_.lt
    have xc0 : World.cell? w8 ⟨w5.heap.size, 0, none⟩ = some (.slice X L cx) := x_8.cell 0
    have xc1 : World.cell? w8 ⟨w5.heap.size, 1, none⟩ = some (.slice Y M cy) := x_8.cell 1
    have xc2 : World.cell? w8 ⟨w5.heap.size, 2, none⟩ = some (.int .i64 u) := x_8.cell 2
    have xf0 : World.frozen? w8 ⟨w5.heap.size, 0, none⟩ = false := x_8.frozen 0
    have xf1 : World.frozen? w8 ⟨w5.heap.size, 1, none⟩ = false := x_8.frozen 1
    have xf2 : World.frozen? w8 ⟨w5.heap.size, 2, none⟩ = false := x_8.frozen 2
    have rc0 : World.cell? w8 ⟨w.heap.size, 0, none⟩ = some (.slice none 0 0) := r_8.cell 0
    have rc1 : World.cell? w8 ⟨w.heap.size, 1, none⟩ = some (.slice none 0 0) := r_8.cell 1
    have rc2 : World.cell? w8 ⟨w.heap.size, 2, none⟩ = some (.int .i64 0) := r_8.cell 2
    have rf0 : World.frozen? w8 ⟨w.heap.size, 0, none⟩ = false := r_8.frozen 0
    have rf1 : World.frozen? w8 ⟨w.heap.size, 1, none⟩ = false := r_8.frozen 1
    have rf2 : World.frozen? w8 ⟨w.heap.size, 2, none⟩ = false := r_8.frozen 2
    go_wp2_with fail
    have r_9 := r_8.far (p := ⟨w5.heap.size, 0, none⟩) (by show _ ≠ w5.heap.size; first | omega | (simp; omega)) (.slice X2 L2 cx2)
    have os_9 := os_8.apart (by decide) x_8 0 (.slice X2 L2 cx2)
    have oh_9 := oh_8.apart (by decide) x_8 0 (.slice X2 L2 cx2)
    have os2_9 := os2.apart (by decide) x_8 0 (.slice X2 L2 cx2)
    have s9 := s8.put (p := ⟨w5.heap.size, 0, none⟩) (by show _ < w5.heap.size; first | omega | (simp; omega)) (.slice X2 L2 cx2)
    have WI9 := WI8.put (p := ⟨w5.heap.size, 0, none⟩) (by show _ ≤ w5.heap.size; first | exact Nat.le_refl _ | omega | (simp; omega)) (.slice X2 L2 cx2)
    have x_9 := x_8.set 0 (.slice X2 L2 cx2)
    have x_10 := x_9.far (p := ⟨w.heap.size, 0, none⟩) (by show _ ≠ w.heap.size; first | omega | (simp; omega)) (.slice X2 L2 cx2)
    have os_10 := os_9.apart (by decide) r_9 0 (.slice X2 L2 cx2)
    have oh_10 := oh_9.apart (by decide) r_9 0 (.slice X2 L2 cx2)
    have os2_10 := os2_9.apart (by decide) r_9 0 (.slice X2 L2 cx2)
    have s10 := s9.put (p := ⟨w.heap.size, 0, none⟩) (by show _ < w.heap.size; first | omega | (simp; omega)) (.slice X2 L2 cx2)
    have WI10 := WI9.put (p := ⟨w.heap.size, 0, none⟩) (by show _ ≤ w.heap.size; first | exact Nat.le_refl _ | omega | (simp; omega)) (.slice X2 L2 cx2)
    have r_10 := r_9.set 0 (.slice X2 L2 cx2)
    have x_11 := x_10.far (p := ⟨w.heap.size, 1, none⟩) (by show _ ≠ w.heap.size; first | omega | (simp; omega)) (.slice Y M cy)
    have os_11 := os_10.apart (by decide) r_10 1 (.slice Y M cy)
    have oh_11 := oh_10.apart (by decide) r_10 1 (.slice Y M cy)
    have os2_11 := os2_10.apart (by decide) r_10 1 (.slice Y M cy)
    have s11 := s10.put (p := ⟨w.heap.size, 1, none⟩) (by show _ < w.heap.size; first | omega | (simp; omega)) (.slice Y M cy)
    have WI11 := WI10.put (p := ⟨w.heap.size, 1, none⟩) (by show _ ≤ w.heap.size; first | exact Nat.le_refl _ | omega | (simp; omega)) (.slice Y M cy)
    have r_11 := r_10.set 1 (.slice Y M cy)
    have x_12 := x_11.far (p := ⟨w.heap.size, 2, none⟩) (by show _ ≠ w.heap.size; first | omega | (simp; omega)) (.int .i64 u)
    have os_12 := os_11.apart (by decide) r_11 2 (.int .i64 u)
    have oh_12 := oh_11.apart (by decide) r_11 2 (.int .i64 u)
    have os2_12 := os2_11.apart (by decide) r_11 2 (.int .i64 u)
    have s12 := s11.put (p := ⟨w.heap.size, 2, none⟩) (by show _ < w.heap.size; first | omega | (simp; omega)) (.int .i64 u)
    have WI12 := WI11.put (p := ⟨w.heap.size, 2, none⟩) (by show _ ≤ w.heap.size; first | exact Nat.le_refl _ | omega | (simp; omega)) (.int .i64 u)
    have r_12 := r_11.set 2 (.int .i64 u)
    refine bodyPost_ret (v := .agg #[.slice X2 L2 cx2, .slice Y M cy, .int .i64 u]) (by simp [results, Tryz.results45, go_sem, rc0, rc1, rc2, hn6_r, hm6_r]) rfl ?_
    exact ⟨_, _, _, _, _, _, _, _, _, rfl, hL2, hM', hu', (Ow.from_ (base' := w.heap.size) os2_12 (by first | omega | (simp at *; omega))), (Ow.from_ (base' := w.heap.size) oh_12 (by first | omega | (simp at *; omega))), ⟨_, by omega, s12⟩, WI12⟩
  · go_wp2_with fail
    refine (l4Bent w7 base g A m c ((k3 + 1) + 1) l s7 (by omega)).mono ?_
    rintro e w8 ⟨k8, Y2, M2, cy2, ys2, rfl, hM2, oh2, hk8, s8, hw8⟩
    have zs8 : w7.heap.size ≤ w8.heap.size := by have q := hw8.size; first | exact q | (simp; done) | (simp at q; exact q) | (simp at q ⊢; omega)
    have r_8 := r_7.within hw8 (by first | omega | (simp; omega))
    have x_8 := x_7.within hw8 (by first | omega | (simp; omega))
    have os_8 := os_7.within hw8 os_7.lt (.inr g1)
    have oh_8 := oh_7.within hw8 oh_7.lt (.inr g2)
    have WI8 := WI7.trans hw8
    have zw8 := WI8.size
    have g8 := s8.at_.lt
    have xc0 : World.cell? w8 ⟨w5.heap.size, 0, none⟩ = some (.slice X L cx) := x_8.cell 0
    have xc1 : World.cell? w8 ⟨w5.heap.size, 1, none⟩ = some (.slice Y M cy) := x_8.cell 1
    have xc2 : World.cell? w8 ⟨w5.heap.size, 2, none⟩ = some (.int .i64 u) := x_8.cell 2
    have xf0 : World.frozen? w8 ⟨w5.heap.size, 0, none⟩ = false := x_8.frozen 0
    have xf1 : World.frozen? w8 ⟨w5.heap.size, 1, none⟩ = false := x_8.frozen 1
    have xf2 : World.frozen? w8 ⟨w5.heap.size, 2, none⟩ = false := x_8.frozen 2
    have rc0 : World.cell? w8 ⟨w.heap.size, 0, none⟩ = some (.slice none 0 0) := r_8.cell 0
    have rc1 : World.cell? w8 ⟨w.heap.size, 1, none⟩ = some (.slice none 0 0) := r_8.cell 1
    have rc2 : World.cell? w8 ⟨w.heap.size, 2, none⟩ = some (.int .i64 0) := r_8.cell 2
    have rf0 : World.frozen? w8 ⟨w.heap.size, 0, none⟩ = false := r_8.frozen 0
    have rf1 : World.frozen? w8 ⟨w.heap.size, 1, none⟩ = false := r_8.frozen 1
    have rf2 : World.frozen? w8 ⟨w.heap.size, 2, none⟩ = false := r_8.frozen 2
    go_wp2_with fail
    have r_9 := r_8.far (p := ⟨w5.heap.size, 1, none⟩) (by show _ ≠ w5.heap.size; first | omega | (simp; omega)) (.slice Y2 M2 cy2)
    have os_9 := os_8.apart (by decide) x_8 1 (.slice Y2 M2 cy2)
    have oh_9 := oh_8.apart (by decide) x_8 1 (.slice Y2 M2 cy2)
    have oh2_9 := oh2.apart (by decide) x_8 1 (.slice Y2 M2 cy2)
    have s9 := s8.put (p := ⟨w5.heap.size, 1, none⟩) (by show _ < w5.heap.size; first | omega | (simp; omega)) (.slice Y2 M2 cy2)
    have WI9 := WI8.put (p := ⟨w5.heap.size, 1, none⟩) (by show _ ≤ w5.heap.size; first | exact Nat.le_refl _ | omega | (simp; omega)) (.slice Y2 M2 cy2)
    have x_9 := x_8.set 1 (.slice Y2 M2 cy2)
    have x_10 := x_9.far (p := ⟨w.heap.size, 0, none⟩) (by show _ ≠ w.heap.size; first | omega | (simp; omega)) (.slice X L cx)
    have os_10 := os_9.apart (by decide) r_9 0 (.slice X L cx)
    have oh_10 := oh_9.apart (by decide) r_9 0 (.slice X L cx)
    have oh2_10 := oh2_9.apart (by decide) r_9 0 (.slice X L cx)
    have s10 := s9.put (p := ⟨w.heap.size, 0, none⟩) (by show _ < w.heap.size; first | omega | (simp; omega)) (.slice X L cx)
    have WI10 := WI9.put (p := ⟨w.heap.size, 0, none⟩) (by show _ ≤ w.heap.size; first | exact Nat.le_refl _ | omega | (simp; omega)) (.slice X L cx)
    have r_10 := r_9.set 0 (.slice X L cx)
    have x_11 := x_10.far (p := ⟨w.heap.size, 1, none⟩) (by show _ ≠ w.heap.size; first | omega | (simp; omega)) (.slice Y2 M2 cy2)
    have os_11 := os_10.apart (by decide) r_10 1 (.slice Y2 M2 cy2)
    have oh_11 := oh_10.apart (by decide) r_10 1 (.slice Y2 M2 cy2)
    have oh2_11 := oh2_10.apart (by decide) r_10 1 (.slice Y2 M2 cy2)
    have s11 := s10.put (p := ⟨w.heap.size, 1, none⟩) (by show _ < w.heap.size; first | omega | (simp; omega)) (.slice Y2 M2 cy2)
    have WI11 := WI10.put (p := ⟨w.heap.size, 1, none⟩) (by show _ ≤ w.heap.size; first | exact Nat.le_refl _ | omega | (simp; omega)) (.slice Y2 M2 cy2)
    have r_11 := r_10.set 1 (.slice Y2 M2 cy2)
    have x_12 := x_11.far (p := ⟨w.heap.size, 2, none⟩) (by show _ ≠ w.heap.size; first | omega | (simp; omega)) (.int .i64 u)
    have os_12 := os_11.apart (by decide) r_11 2 (.int .i64 u)
    have oh_12 := oh_11.apart (by decide) r_11 2 (.int .i64 u)
    have oh2_12 := oh2_11.apart (by decide) r_11 2 (.int .i64 u)
    have s12 := s11.put (p := ⟨w.heap.size, 2, none⟩) (by show _ < w.heap.size; first | omega | (simp; omega)) (.int .i64 u)
    have WI12 := WI11.put (p := ⟨w.heap.size, 2, none⟩) (by show _ ≤ w.heap.size; first | exact Nat.le_refl _ | omega | (simp; omega)) (.int .i64 u)
    have r_12 := r_11.set 2 (.int .i64 u)
    refine bodyPost_ret (v := .agg #[.slice X L cx, .slice Y2 M2 cy2, .int .i64 u]) (by simp [results, Tryz.results45, go_sem, rc0, rc1, rc2, hn6_r, hm6_r]) rfl ?_
    exact ⟨_, _, _, _, _, _, _, _, _, rfl, hL', hM2, hu', (Ow.from_ (base' := w.heap.size) os_12 (by first | omega | (simp at *; omega))), (Ow.from_ (base' := w.heap.size) oh2_12 (by first | omega | (simp at *; omega))), ⟨_, by omega, s12⟩, WI12⟩
  · have r_8 := r_7.alloc (.cells #[.int .i64 (-1), .int .i64 60001] 2)
    have x_8 := x_7.alloc (.cells #[.int .i64 (-1), .int .i64 60001] 2)
    have os_8 := os_7.alloc (.cells #[.int .i64 (-1), .int .i64 60001] 2)
    have oh_8 := oh_7.alloc (.cells #[.int .i64 (-1), .int .i64 60001] 2)
    have s8 := s7.alloc (.cells #[.int .i64 (-1), .int .i64 60001] 2)
    have g8 := s8.at_.lt
    have WI8 := WI7.alloc (.cells #[.int .i64 (-1), .int .i64 60001] 2)
    have zw8 := WI8.size
    go_wp2_with fail
    refine (l1Pick (w7.alloc (.cells #[.int .i64 (-1), .int .i64 60001] 2)) base g A m c ((k3 + 1) + 1) l (w7.heap.size) #[.int .i64 (-1), .int .i64 60001] [(-1), 60001] 2 2 s8 (by omega) (At.newAt' (show w7.heap.size = w7.heap.size by first | rfl | simp)) (by simp [intCells]) (by first | omega | (simp; omega)) rfl (by omega) (by omega)).mono ?_
    rintro e w9 ⟨v, hv9, rfl, s9, hw9, -⟩
    have zs9 : w7.heap.size + 1 ≤ w9.heap.size := by have q := hw9.size; first | exact q | (simp; done) | (simp at q; exact q) | (simp at q ⊢; omega)
    have r_9 := r_8.within hw9 (by first | omega | (simp; omega))
    have x_9 := x_8.within hw9 (by first | omega | (simp; omega))
    have os_9 := os_8.within hw9 os_8.lt (.inr g1)
    have oh_9 := oh_8.within hw9 oh_8.lt (.inr g2)
    have WI9 := WI8.trans hw9
    have zw9 := WI9.size
    have g9 := s9.at_.lt
    have hv' := pick_bd (-1) 60001 hv9 rfl
    have xc0 : World.cell? w9 ⟨w5.heap.size, 0, none⟩ = some (.slice X L cx) := x_9.cell 0
    have xc1 : World.cell? w9 ⟨w5.heap.size, 1, none⟩ = some (.slice Y M cy) := x_9.cell 1
    have xc2 : World.cell? w9 ⟨w5.heap.size, 2, none⟩ = some (.int .i64 u) := x_9.cell 2
    have xf0 : World.frozen? w9 ⟨w5.heap.size, 0, none⟩ = false := x_9.frozen 0
    have xf1 : World.frozen? w9 ⟨w5.heap.size, 1, none⟩ = false := x_9.frozen 1
    have xf2 : World.frozen? w9 ⟨w5.heap.size, 2, none⟩ = false := x_9.frozen 2
    have rc0 : World.cell? w9 ⟨w.heap.size, 0, none⟩ = some (.slice none 0 0) := r_9.cell 0
    have rc1 : World.cell? w9 ⟨w.heap.size, 1, none⟩ = some (.slice none 0 0) := r_9.cell 1
    have rc2 : World.cell? w9 ⟨w.heap.size, 2, none⟩ = some (.int .i64 0) := r_9.cell 2
    have rf0 : World.frozen? w9 ⟨w.heap.size, 0, none⟩ = false := r_9.frozen 0
    have rf1 : World.frozen? w9 ⟨w.heap.size, 1, none⟩ = false := r_9.frozen 1
    have rf2 : World.frozen? w9 ⟨w.heap.size, 2, none⟩ = false := r_9.frozen 2
    go_wp2_with fail
    have r_10 := r_9.far (p := ⟨w5.heap.size, 2, none⟩) (by show _ ≠ w5.heap.size; first | omega | (simp; omega)) (.int .i64 v)
    have os_10 := os_9.apart (by decide) x_9 2 (.int .i64 v)
    have oh_10 := oh_9.apart (by decide) x_9 2 (.int .i64 v)
    have s10 := s9.put (p := ⟨w5.heap.size, 2, none⟩) (by show _ < w5.heap.size; first | omega | (simp; omega)) (.int .i64 v)
    have WI10 := WI9.put (p := ⟨w5.heap.size, 2, none⟩) (by show _ ≤ w5.heap.size; first | exact Nat.le_refl _ | omega | (simp; omega)) (.int .i64 v)
    have x_10 := x_9.set 2 (.int .i64 v)
    have x_11 := x_10.far (p := ⟨w.heap.size, 0, none⟩) (by show _ ≠ w.heap.size; first | omega | (simp; omega)) (.slice X L cx)
    have os_11 := os_10.apart (by decide) r_10 0 (.slice X L cx)
    have oh_11 := oh_10.apart (by decide) r_10 0 (.slice X L cx)
    have s11 := s10.put (p := ⟨w.heap.size, 0, none⟩) (by show _ < w.heap.size; first | omega | (simp; omega)) (.slice X L cx)
    have WI11 := WI10.put (p := ⟨w.heap.size, 0, none⟩) (by show _ ≤ w.heap.size; first | exact Nat.le_refl _ | omega | (simp; omega)) (.slice X L cx)
    have r_11 := r_10.set 0 (.slice X L cx)
    have x_12 := x_11.far (p := ⟨w.heap.size, 1, none⟩) (by show _ ≠ w.heap.size; first | omega | (simp; omega)) (.slice Y M cy)
    have os_12 := os_11.apart (by decide) r_11 1 (.slice Y M cy)
    have oh_12 := oh_11.apart (by decide) r_11 1 (.slice Y M cy)
    have s12 := s11.put (p := ⟨w.heap.size, 1, none⟩) (by show _ < w.heap.size; first | omega | (simp; omega)) (.slice Y M cy)
    have WI12 := WI11.put (p := ⟨w.heap.size, 1, none⟩) (by show _ ≤ w.heap.size; first | exact Nat.le_refl _ | omega | (simp; omega)) (.slice Y M cy)
    have r_12 := r_11.set 1 (.slice Y M cy)
    have x_13 := x_12.far (p := ⟨w.heap.size, 2, none⟩) (by show _ ≠ w.heap.size; first | omega | (simp; omega)) (.int .i64 v)
    have os_13 := os_12.apart (by decide) r_12 2 (.int .i64 v)
    have oh_13 := oh_12.apart (by decide) r_12 2 (.int .i64 v)
    have s13 := s12.put (p := ⟨w.heap.size, 2, none⟩) (by show _ < w.heap.size; first | omega | (simp; omega)) (.int .i64 v)
    have WI13 := WI12.put (p := ⟨w.heap.size, 2, none⟩) (by show _ ≤ w.heap.size; first | exact Nat.le_refl _ | omega | (simp; omega)) (.int .i64 v)
    have r_13 := r_12.set 2 (.int .i64 v)
    refine bodyPost_ret (v := .agg #[.slice X L cx, .slice Y M cy, .int .i64 v]) (by simp [results, Tryz.results45, go_sem, rc0, rc1, rc2, hn6_r, hm6_r]) rfl ?_
    exact ⟨_, _, _, _, _, _, _, _, _, rfl, hL', hM', hv', (Ow.from_ (base' := w.heap.size) os_13 (by first | omega | (simp at *; omega))), (Ow.from_ (base' := w.heap.size) oh_13 (by first | omega | (simp at *; omega))), ⟨_, by omega, s13⟩, WI13⟩
  · have bq0 : (q == 0) = false := by simp; omega
    have bq1 : (q == 1) = false := by simp; omega
    have bq2 : (q == 2) = false := by simp; omega
    have xc0 : World.cell? w7 ⟨w5.heap.size, 0, none⟩ = some (.slice X L cx) := x_7.cell 0
    have xc1 : World.cell? w7 ⟨w5.heap.size, 1, none⟩ = some (.slice Y M cy) := x_7.cell 1
    have xc2 : World.cell? w7 ⟨w5.heap.size, 2, none⟩ = some (.int .i64 u) := x_7.cell 2
    have xf0 : World.frozen? w7 ⟨w5.heap.size, 0, none⟩ = false := x_7.frozen 0
    have xf1 : World.frozen? w7 ⟨w5.heap.size, 1, none⟩ = false := x_7.frozen 1
    have xf2 : World.frozen? w7 ⟨w5.heap.size, 2, none⟩ = false := x_7.frozen 2
    have rc0 : World.cell? w7 ⟨w.heap.size, 0, none⟩ = some (.slice none 0 0) := r_7.cell 0
    have rc1 : World.cell? w7 ⟨w.heap.size, 1, none⟩ = some (.slice none 0 0) := r_7.cell 1
    have rc2 : World.cell? w7 ⟨w.heap.size, 2, none⟩ = some (.int .i64 0) := r_7.cell 2
    have rf0 : World.frozen? w7 ⟨w.heap.size, 0, none⟩ = false := r_7.frozen 0
    have rf1 : World.frozen? w7 ⟨w.heap.size, 1, none⟩ = false := r_7.frozen 1
    have rf2 : World.frozen? w7 ⟨w.heap.size, 2, none⟩ = false := r_7.frozen 2
    go_wp2_with fail
    have x_8 := x_7.far (p := ⟨w.heap.size, 0, none⟩) (by show _ ≠ w.heap.size; first | omega | (simp; omega)) (.slice X L cx)
    have os_8 := os_7.apart (by decide) r_7 0 (.slice X L cx)
    have oh_8 := oh_7.apart (by decide) r_7 0 (.slice X L cx)
    have s8 := s7.put (p := ⟨w.heap.size, 0, none⟩) (by show _ < w.heap.size; first | omega | (simp; omega)) (.slice X L cx)
    have WI8 := WI7.put (p := ⟨w.heap.size, 0, none⟩) (by show _ ≤ w.heap.size; first | exact Nat.le_refl _ | omega | (simp; omega)) (.slice X L cx)
    have r_8 := r_7.set 0 (.slice X L cx)
    have x_9 := x_8.far (p := ⟨w.heap.size, 1, none⟩) (by show _ ≠ w.heap.size; first | omega | (simp; omega)) (.slice Y M cy)
    have os_9 := os_8.apart (by decide) r_8 1 (.slice Y M cy)
    have oh_9 := oh_8.apart (by decide) r_8 1 (.slice Y M cy)
    have s9 := s8.put (p := ⟨w.heap.size, 1, none⟩) (by show _ < w.heap.size; first | omega | (simp; omega)) (.slice Y M cy)
    have WI9 := WI8.put (p := ⟨w.heap.size, 1, none⟩) (by show _ ≤ w.heap.size; first | exact Nat.le_refl _ | omega | (simp; omega)) (.slice Y M cy)
    have r_9 := r_8.set 1 (.slice Y M cy)
    have x_10 := x_9.far (p := ⟨w.heap.size, 2, none⟩) (by show _ ≠ w.heap.size; first | omega | (simp; omega)) (.int .i64 u)
    have os_10 := os_9.apart (by decide) r_9 2 (.int .i64 u)
    have oh_10 := oh_9.apart (by decide) r_9 2 (.int .i64 u)
    have s10 := s9.put (p := ⟨w.heap.size, 2, none⟩) (by show _ < w.heap.size; first | omega | (simp; omega)) (.int .i64 u)
    have WI10 := WI9.put (p := ⟨w.heap.size, 2, none⟩) (by show _ ≤ w.heap.size; first | exact Nat.le_refl _ | omega | (simp; omega)) (.int .i64 u)
    have r_10 := r_9.set 2 (.int .i64 u)
    refine bodyPost_ret (v := .agg #[.slice X L cx, .slice Y M cy, .int .i64 u]) (by simp [results, Tryz.results45, go_sem, rc0, rc1, rc2, hn6_r, hm6_r]) rfl ?_
    exact ⟨_, _, _, _, _, _, _, _, _, rfl, hL', hM', hu', (Ow.from_ (base' := w.heap.size) os_10 (by first | omega | (simp at *; omega))), (Ow.from_ (base' := w.heap.size) oh_10 (by first | omega | (simp at *; omega))), ⟨_, by omega, s10⟩, WI10⟩
end Go.Proofs.YtmaillakhhdkfaaGreatDoor
namespace Go.Proofs.YtmaillakhhdkfaaGreatDoor
set_option maxRecDepth 20000
open Go.RowKit

/-- The text of some bytes. -/
def txt (l : List UInt8) : ByteArray := ⟨l.toArray⟩
theorem txt_list (l : List UInt8) : (txt l).toList = l := by simp [txt]
theorem beq_dec (a b : List UInt8) : (a == b) = decide (a = b) := by
  by_cases h : a = b
  · subst h; simp
  · rw [decide_eq_false h, beq_eq_false_iff_ne]
    exact h
theorem txt_beq (a b : List UInt8) : ((txt a).toList == (txt b).toList) = decide (a = b) := by rw [txt_list, txt_list, beq_dec]

theorem conv_bytes {w : World} {hi : Nat} {A : Option Addr} {l : List UInt8} {n c : Nat} (h : Rd eB w hi A l) (hn : l.length = n) :
    (convert 22 9 (.slice A n c)).run Tryz.prog w = .ok (.string (txt l)) w := by
  rw [run_convert_bytes_string w _ _ _ A n c Tryz.underlying22 Tryz.underlying5 Tryz.underlying9]
  have hs : strOfNums (l.map fun b => (b.toNat : Int)) = txt l := by
    have h1 : (strOfNums (l.map fun b => (b.toNat : Int))).data.toList = (txt l).data.toList := by
      rw [strOfNums_data, txt, List.map_map]
      apply List.ext_getElem?
      intro i
      simp only [List.getElem?_map]
      cases l[i]? <;> simp
    have h2 : ∀ a b : ByteArray, a.data.toList = b.data.toList → a = b := by
      intro a b h
      cases a; cases b
      simp only [ByteArray.mk.injEq]
      exact Array.toList_inj.1 h
    exact h2 _ _ h1
  cases A with
  | none =>
    have h0 : l = [] := by
      rcases l with _ | ⟨x, l⟩
      · rfl
      · obtain ⟨g, o, e, _⟩ := h (by simp)
        cases e
    subst h0
    simp [Conv.bytesToString, txt]
    rfl
  | some a =>
    have hl : (loadCells a n).run Tryz.prog w = .ok ((l.map fun b => (b.toNat : Int)).map (Value.int .u8)).toArray w := by
      have h3 := run_loadCells_list (P := Tryz.prog) w a ((l.map fun b => (b.toNat : Int)).map (Value.int .u8)) (fun j v hj => by
        have hjl : j < l.length := by
          have := getElem?_some_lt hj
          simpa using this
        obtain ⟨g, o, x, e, _, hx, hc⟩ := h.byte hjl
        obtain rfl := Option.some.inj e
        rw [addr_add, hc]
        rw [List.getElem?_map, List.getElem?_map, hx] at hj
        simpa using hj)
      simpa [hn] using h3
    rw [run_bytesToString w a n c (l.map fun b => (b.toNat : Int)) hl, foldl_push_bytes, ← hs]
    simp [strOfNums, ByteArray.empty, ByteArray.emptyWithCapacity]
    rfl

set_option maxHeartbeats 400000 in
theorem bytesEqual (A B : Option Addr) (n m c d : Nat) (xs ys : List UInt8) (w : World) (ha : Rd eB w w.heap.size A xs) (hb : Rd eB w w.heap.size B ys) (hx : xs.length = n) (hy : ys.length = m) :
    Calls Tryz.prog 89 #[.slice A n c, .slice B m d] w fun e w' => e = .returned (.bool (decide (xs = ys))) ∧ w = w' := by
  have h1 := conv_bytes (c := c) ha hx
  have h2 := conv_bytes (c := d) hb hy
  have Hb := Lib.hid (txt_beq xs ys)
  clear hx hy
  go_enter Tryz.func89, Tryz.ntmps89
  go_wp2
  go_ret
  exact ⟨by rw [← Hb.out]; rfl, rfl⟩

set_option maxHeartbeats 400000 in
theorem lwSame (A B : Option Addr) (n m c d : Nat) (xs ys : List UInt8) (w : World) (ha : Rd eB w w.heap.size A xs) (hb : Rd eB w w.heap.size B ys) (hx : xs.length = n) (hy : ys.length = m) :
    Calls Tryz.prog 22 #[.slice A n c, .slice B m d] w fun e w' => e = .returned (.bool (decide (xs = ys))) ∧ w = w' := by
  have h1 := conv_bytes (c := c) ha hx
  have h2 := conv_bytes (c := d) hb hy
  have Hb := Lib.hid (txt_beq xs ys)
  clear hx hy
  go_enter Tryz.func22, Tryz.ntmps22
  go_wp2
  go_ret
  exact ⟨by rw [← Hb.out]; rfl, rfl⟩

set_option maxHeartbeats 400000 in
theorem implSameBytes (A B : Option Addr) (n m c d : Nat) (xs ys : List UInt8) (w : World) (ha : Rd eB w w.heap.size A xs) (hb : Rd eB w w.heap.size B ys) (hx : xs.length = n) (hy : ys.length = m) :
    Calls Tryz.prog 44 #[.slice A n c, .slice B m d] w fun e w' => e = .returned (.bool (decide (xs = ys))) ∧ w = w' := by
  have H := Lib.hid (bytesEqual A B n m c d xs ys w ha hb hx hy)
  clear hx hy
  go_enter Tryz.func44, Tryz.ntmps44
  go_wp2_with (go_at_call 89; refine H.out.mono ?_; rintro e w' ⟨rfl, rfl⟩)
  go_ret
  exact ⟨rfl, rfl⟩
end Go.Proofs.YtmaillakhhdkfaaGreatDoor
namespace Go.Proofs.YtmaillakhhdkfaaGreatDoor
set_option maxRecDepth 20000
open Go.RowKit

/-! ### impl -/
end Go.Proofs.YtmaillakhhdkfaaGreatDoor
