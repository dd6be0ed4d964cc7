/-
  Texts of one proof, joined: each has its own namespace.
-/
import Derived.Test.YteiclanlhnccnaaGreatDoorBExApplyRecord5
import Derived.Test.YteiclanlhnccnaaGreatDoorBExApplyRecord0
import Derived.Test.YteiclanlhnccnaaGreatDoorBExApplyRecord3
import Derived.Test.YteiclanlhnccnaaGreatDoorBExApplyRecord6
import Derived.Test.YteiclanlhnccnaaGreatDoorBExApplyRecord4
import Derived.Laws.CopyOwn
/-
  The model's DoneHint.
-/
namespace Go.Proofs.YteiclanlhnccnaaGreatDoor
set_option maxRecDepth 20000
open Go.RowKit
set_option linter.unusedSimpArgs false
set_option linter.unusedVariables false

set_option maxRecDepth 100000 in
set_option maxHeartbeats 4000000 in
theorem specDoneHint (A : Option Addr) (n c : Nat) (l : List Hnt) (p i : Int) (w : World) (ha : Rd eH w w.heap.size A l) (hn : l.length = n) (hc : n ≤ c) :
    Calls Tryz.prog 124 #[.slice A n c, .int .i64 p, .int .i64 i] w (RetHs (doneM l p i) w) := by
  have hB0 : Below w.heap.size w (w.alloc (.cells #[.int .i64 0, .slice none 0 0] 158)) := (Below.refl _ _).alloc (Nat.le_refl _) _
  have r0 := At.new w 158 #[.int .i64 0, .slice none 0 0]
  have ha0 := ha.lift hB0
  have HF := specHintsFault A n c l _ ha0 hn
  by_cases h0 : hintsFaultM l = 0
  rotate_left
  · rw [show (doneM l p i) = (hintsFaultM l, []) from if_pos h0]
    have hne : (hintsFaultM l != 0) = true := by rw [bne_iff_ne]; exact h0
    generalize hintsFaultM l = sf at *
    clear h0
    go_enter Tryz.func124, Tryz.ntmps124
    go_wp2_with fail
    refine (HF).mono ?_
    rintro e w1 ⟨rfl, hb1⟩
    have hB1 := hB0.trans (hb1.mono hB0.size)
    have r1 := r0.below hb1 r0.lt
    have ha1 := ha0.lift hb1
    obtain ⟨c0, c1, _, _⟩ := r1.two
    go_wp2_with fail
    refine bodyPost_ret (v := .agg #[.int .i64 sf, .slice none 0 0]) (by simp [results, Tryz.results124, go_sem, c0, c1]) rfl ?_
    exact ⟨_, _, _, rfl, Ow.nil, (hB1.setCell (by simp) _).setCell (by simp) _⟩
  obtain ⟨h8, hall, hdis⟩ := (hintsFault_iff l).1 h0
  rw [h0] at HF
  have HL := fun W (h1 : Rd eH W W.heap.size A l) => l4Find A n c l p i W h1 hn (by unfold maxLen; omega)
  rcases findHI_or l p i with ⟨hi, hj⟩ | ⟨k, hi, hj, hk⟩
  · rw [hi] at HL
    rw [show (doneM l p i) = (4, []) by unfold doneM; rw [if_neg (by simp [h0]), hj]]
    clear h0 hi hj
    go_enter Tryz.func124, Tryz.ntmps124
    go_wp2_with fail
    refine (HF).mono ?_
    rintro e w1 ⟨rfl, hb1⟩
    have hB1 := hB0.trans (hb1.mono hB0.size)
    have r1 := r0.below hb1 r0.lt
    have ha1 := ha0.lift hb1
    go_wp2_with fail
    refine (HL _ ha1).mono ?_
    rintro e w99 ⟨rfl, rfl⟩
    obtain ⟨c0, c1, _, _⟩ := r1.two
    go_wp2_with fail
    refine bodyPost_ret (v := .agg #[.int .i64 4, .slice none 0 0]) (by simp [results, Tryz.results124, go_sem, c0, c1]) rfl ?_
    exact ⟨_, _, _, rfl, Ow.nil, (hB1.setCell (by simp) _).setCell (by simp) _⟩
  rw [hi] at HL
  rw [show (doneM l p i) = (0, l.take k ++ l.drop (k + 1)) by unfold doneM; rw [if_neg (by simp [h0]), hj]]
  obtain ⟨g, o, rfl, -⟩ := ha0.add hk
  by_cases hcc : c = k + 1
  · subst hcc
    have hX : ∀ W : World, Rd eH W W.heap.size (some ⟨g, o, none⟩) l → Rd eH W W.heap.size (some ⟨g, o, none⟩) (l.drop (k + 1)) := fun W h => by
      rw [List.drop_of_length_le (by omega)]
      exact Rd.nil
    have htl : (l.take k).length = k := by rw [List.length_take]; omega
    have hdl : (l.drop (k + 1)).length = 0 := by rw [List.length_drop]; omega
    have HX := Lib.hid hX
    have Htl := Lib.hid htl
    have Hdl := Lib.hid hdl
    have hk0 : ¬ (k : Int) < 0 := by omega
    have hk1 : (0 : Int) ≤ (k : Int) := by omega
    have hkc : k ≤ (k + 1) := by omega
    have hwr : IntKind.i64.wrap ((k : Int) + 1) = (k : Int) + 1 := IntWalk.i64_in _ (by omega)
    have htn : ((k : Int) + 1).toNat = k + 1 := by omega
    have hm : k + 0 ≤ 8 := by omega
    clear h0 hi hj hX htl hdl
    go_enter Tryz.func124, Tryz.ntmps124
    go_wp2_with fail
    refine (HF).mono ?_
    rintro e w1 ⟨rfl, hb1⟩
    have hB1 := hB0.trans (hb1.mono hB0.size)
    have r1 := r0.below hb1 r0.lt
    have ha1 := ha0.lift hb1
    go_wp2_with fail
    refine (HL _ ha1).mono ?_
    rintro e w99 ⟨rfl, rfl⟩
    go_wp2
    have hbd := hB1.drew
    have rd := r1.drew
    have had := ha1.drewN 1
    have i1 : (k : Int) ≤ (k : Int) + 1 := by omega
    have i2 : (k : Int) + 1 ≤ (n : Int) := by omega
    have i3 : (0 : Int) ≤ (k : Int) + 1 := by omega
    refine wp_region_mix [(0, false), (1, false), (2, false), (4, false), (5, false), (6, false), (7, false), (3, true), (8, true), (9, false), (10, true)] (fun _ => True) (by kernel_rfl) (by kernel_rfl) (fun _ _ _ _ _ h => h) trivial ?_
    simp only [mixOps, List.map_cons, List.map_nil, List.getElem?_cons_succ, List.getElem?_cons_zero, Option.getD_some]
    iterate 7 (
      refine mix_pure (v := ?_) (by rfl) (fun u hu => ?_) ?_
      rotate_left
      · skip
        go_simp
        (with_reducible rfl)
      (try simp only [Act.put, List.setIfInBounds_toArray, List.set_cons_zero, List.set_cons_succ]))
    refine mix_call (by rfl) (fun K hK => ?_)
    go_simp
    refine (l4Copy (some ⟨g, o, none⟩) k _ (l.take k) _ (had.take k) Htl.out (by omega)).mono ?_
    rintro e w3 ⟨A3, c3, rfl, o3, hb3⟩
    have o3 : Ow eH w3 w1.heap.size A3 k c3 (l.take k) := o3
    have hB3 := hbd.trans (hb3.mono hbd.size)
    have r3 := rd.below hb3 rd.lt
    have hX3 := HX.out _ (had.lift hb3)
    have hs3 : w1.heap.size ≤ w3.heap.size := hb3.size
    refine hK _ _ _ (fun _ h => h) trivial ?_
    (try simp only [Act.put, List.setIfInBounds_toArray, List.set_cons_zero, List.set_cons_succ])
    refine mix_call (by rfl) (fun K hK => ?_)
    refine wp_append_ow okH _ (.tmp 25) (.tmp 29) _ rfl w1.heap.size info_hnt Tryz.underlying37 rfl A3 k c3 (l.take k) rfl o3 _ 0 _ _ (l.drop (k + 1)) rfl hX3 Hdl.out (by unfold maxLen; omega) (by omega) hs3 ?_
    intro A5 c5 w5 ow5 hg5 _
    have hB5 := hB3.grown hg5 hB3.size (fun g hg => by have := (o3.lt g hg).1; have := hB1.size; omega)
    have r5 := r3.grown hg5 (fun e => by have := (o3.lt _ e).1; have := r1.lt; omega)
    refine hK _ _ _ (fun _ h => h) trivial ?_
    (try simp only [Act.put, List.setIfInBounds_toArray, List.set_cons_zero, List.set_cons_succ])
    iterate 1 (
      refine mix_pure (v := ?_) (by rfl) (fun u hu => ?_) ?_
      rotate_left
      · skip
        go_simp
        (with_reducible rfl)
      (try simp only [Act.put, List.setIfInBounds_toArray, List.set_cons_zero, List.set_cons_succ]))
    obtain ⟨c0, c1, f0, f1⟩ := r5.two
    refine mix_call (by rfl) (fun K hK => ?_)
    go_simp
    refine hK _ _ _ (fun _ h => h) trivial ?_
    (try simp only [Act.put, List.setIfInBounds_toArray, List.set_cons_zero, List.set_cons_succ])
    refine mix_nil ?_
    go_wp2
    refine bodyPost_ret (v := .agg #[.int .i64 0, .slice A5 (k + 0) c5]) (by simp [results, Tryz.results124, go_sem, c0, c1]) rfl ?_
    exact ⟨_, _, _, rfl, (((ow5.under (p := ⟨w.heap.size, 0, none⟩) r1.lt _).under (p := ⟨w.heap.size, 1, none⟩) r1.lt _).from_ hB1.size), (hB5.setCell (Nat.le_refl _) _).setCell (Nat.le_refl _) _⟩
  · have hX : ∀ W : World, Rd eH W W.heap.size (some ⟨g, o, none⟩) l → Rd eH W W.heap.size (some ⟨g, o + (k + 1) * 7, none⟩) (l.drop (k + 1)) := fun W h => by
      rcases Nat.lt_or_ge (k + 1) l.length with hl | hl
      · obtain ⟨g', o', e, hr⟩ := h.add hl
        obtain ⟨rfl, rfl⟩ : g = g' ∧ o = o' := by simpa using Option.some.inj e
        exact hr
      · rw [List.drop_of_length_le hl]
        exact Rd.nil
    have htl : (l.take k).length = k := by rw [List.length_take]; omega
    have hdl : (l.drop (k + 1)).length = (n - (k + 1)) := by rw [List.length_drop]; omega
    have HX := Lib.hid hX
    have Htl := Lib.hid htl
    have Hdl := Lib.hid hdl
    have hk0 : ¬ (k : Int) < 0 := by omega
    have hk1 : (0 : Int) ≤ (k : Int) := by omega
    have hkc : k ≤ c := by omega
    have hwr : IntKind.i64.wrap ((k : Int) + 1) = (k : Int) + 1 := IntWalk.i64_in _ (by omega)
    have htn : ((k : Int) + 1).toNat = k + 1 := by omega
    have hm : k + (n - (k + 1)) ≤ 8 := by omega
    clear h0 hi hj hX htl hdl
    go_enter Tryz.func124, Tryz.ntmps124
    go_wp2_with fail
    refine (HF).mono ?_
    rintro e w1 ⟨rfl, hb1⟩
    have hB1 := hB0.trans (hb1.mono hB0.size)
    have r1 := r0.below hb1 r0.lt
    have ha1 := ha0.lift hb1
    go_wp2_with fail
    refine (HL _ ha1).mono ?_
    rintro e w99 ⟨rfl, rfl⟩
    go_wp2
    have hbd := hB1.drew
    have rd := r1.drew
    have had := ha1.drewN 1
    have i1 : (k : Int) ≤ (c : Int) := by omega
    have i2 : (k : Int) + 1 ≤ (n : Int) := by omega
    have i3 : (0 : Int) ≤ (k : Int) + 1 := by omega
    refine wp_region_mix [(0, false), (1, false), (2, false), (4, false), (5, false), (6, false), (7, false), (3, true), (8, true), (9, false), (10, true)] (fun _ => True) (by kernel_rfl) (by kernel_rfl) (fun _ _ _ _ _ h => h) trivial ?_
    simp only [mixOps, List.map_cons, List.map_nil, List.getElem?_cons_succ, List.getElem?_cons_zero, Option.getD_some]
    iterate 7 (
      refine mix_pure (v := ?_) (by rfl) (fun u hu => ?_) ?_
      rotate_left
      · skip
        go_simp
        (with_reducible rfl)
      (try simp only [Act.put, List.setIfInBounds_toArray, List.set_cons_zero, List.set_cons_succ]))
    refine mix_call (by rfl) (fun K hK => ?_)
    go_simp
    refine (l4Copy (some ⟨g, o, none⟩) k _ (l.take k) _ (had.take k) Htl.out (by omega)).mono ?_
    rintro e w3 ⟨A3, c3, rfl, o3, hb3⟩
    have o3 : Ow eH w3 w1.heap.size A3 k c3 (l.take k) := o3
    have hB3 := hbd.trans (hb3.mono hbd.size)
    have r3 := rd.below hb3 rd.lt
    have hX3 := HX.out _ (had.lift hb3)
    have hs3 : w1.heap.size ≤ w3.heap.size := hb3.size
    refine hK _ _ _ (fun _ h => h) trivial ?_
    (try simp only [Act.put, List.setIfInBounds_toArray, List.set_cons_zero, List.set_cons_succ])
    refine mix_call (by rfl) (fun K hK => ?_)
    refine wp_append_ow okH _ (.tmp 25) (.tmp 29) _ rfl w1.heap.size info_hnt Tryz.underlying37 rfl A3 k c3 (l.take k) rfl o3 _ (n - (k + 1)) _ _ (l.drop (k + 1)) rfl hX3 Hdl.out (by unfold maxLen; omega) (by omega) hs3 ?_
    intro A5 c5 w5 ow5 hg5 _
    have hB5 := hB3.grown hg5 hB3.size (fun g hg => by have := (o3.lt g hg).1; have := hB1.size; omega)
    have r5 := r3.grown hg5 (fun e => by have := (o3.lt _ e).1; have := r1.lt; omega)
    refine hK _ _ _ (fun _ h => h) trivial ?_
    (try simp only [Act.put, List.setIfInBounds_toArray, List.set_cons_zero, List.set_cons_succ])
    iterate 1 (
      refine mix_pure (v := ?_) (by rfl) (fun u hu => ?_) ?_
      rotate_left
      · skip
        go_simp
        (with_reducible rfl)
      (try simp only [Act.put, List.setIfInBounds_toArray, List.set_cons_zero, List.set_cons_succ]))
    obtain ⟨c0, c1, f0, f1⟩ := r5.two
    refine mix_call (by rfl) (fun K hK => ?_)
    go_simp
    refine hK _ _ _ (fun _ h => h) trivial ?_
    (try simp only [Act.put, List.setIfInBounds_toArray, List.set_cons_zero, List.set_cons_succ])
    refine mix_nil ?_
    go_wp2
    refine bodyPost_ret (v := .agg #[.int .i64 0, .slice A5 (k + (n - (k + 1))) c5]) (by simp [results, Tryz.results124, go_sem, c0, c1]) rfl ?_
    exact ⟨_, _, _, rfl, (((ow5.under (p := ⟨w.heap.size, 0, none⟩) r1.lt _).under (p := ⟨w.heap.size, 1, none⟩) r1.lt _).from_ hB1.size), (hB5.setCell (Nat.le_refl _) _).setCell (Nat.le_refl _) _⟩
end Go.Proofs.YteiclanlhnccnaaGreatDoor
/-
  A region that draws its order, step by step: what may come is asked at each step; two that may come are walked both.
-/
namespace Go.Proofs.YteiclanlhnccnaaGreatDoor
set_option maxRecDepth 20000
open Go.RowKit

section
variable {P : Program} {md : Region.Mode} {Q : Exit → Act → World → Prop} {l : List Oper} {S : World → Prop} {fuel : Nat} {listed : Array Bool} {a : Act} {w : World}

theorem any_start {id : Nat} (S : World → Prop) (hm : P.follows .mixedOrders = true) (hS : S w.drew) (h : S w.drew → wpAnyH P .any l.toArray Q S l.length (Array.replicate l.length false) a w.drew) : (Code.region id l.toArray true).wp P Q a w := by
  refine wp_region_held (S := S) hm ?_
  simpa using h hS
theorem any_pure (k : Nat) {o : Oper} {v : Value} (hoa : l[k]? = some o) (hB : (Region.noSelect l.toArray && ((Region.ready md l.toArray listed).contains k && Region.free md l.toArray listed k)) = true)
    (hQ : ∀ c a (d : Nat) v w, Q (.panic c) (Act.put a (some d) v) w → Q (.panic c) a w) (hw : Region.wanted o (yielded l.toArray a.tmps) = true) (hv : ∀ x, S x → (execOp a.eval o).run P x = .ok (.value v) x) (hS : S w)
    (h : wpAnyH P md l.toArray Q S fuel (listed.setIfInBounds k true) (a.put o.dst v) w) : wpAnyH P md l.toArray Q S (fuel + 1) listed a w := by
  simp only [Bool.and_eq_true] at hB
  obtain ⟨h1, h2, h3⟩ := hB
  refine wpAnyH_take (by simpa using hoa) h1 h3 h2 (fun c a w => ?_) (.inl ⟨hw, hv⟩) hS h
  cases hd : o.dst with
  | none => exact fun h => h
  | some d => exact hQ c a d v w
theorem any_op {k : Nat} {o : Oper} (hoa : l[k]? = some o) (hw : Region.wanted o (yielded l.toArray a.tmps) = true)
    (h : o.wp P a w (fun a' w' => ∃ S' : World → Prop, (∀ x, S' x → S x) ∧ S' w' ∧ wpAnyH P md l.toArray Q S' fuel (listed.setIfInBounds k true) a' w') Q) :
    wpOp P l.toArray Q k (fun a' w' => S w' ∧ wpAnyH P md l.toArray Q S fuel (listed.setIfInBounds k true) a' w') a w := by
  have h1 : wpOp P l.toArray Q k (fun a' w' => ∃ S' : World → Prop, (∀ x, S' x → S x) ∧ S' w' ∧ wpAnyH P md l.toArray Q S' fuel (listed.setIfInBounds k true) a' w') a w := by
    unfold wpOp
    rw [show l.toArray[k]? = some o by simpa using hoa]
    simp only
    rw [if_pos hw]
    exact .inl h
  exact wpOp_mono (fun a' w' ⟨S', h1, h2, h3⟩ => ⟨h1 _ h2, held_mono h1 _ _ _ _ h3⟩) h1
theorem any_one (k : Nat) {o : Oper} (hoa : l[k]? = some o) (hB : (Region.ready md l.toArray listed == [k]) = true) (hw : Region.wanted o (yielded l.toArray a.tmps) = true)
    (h : o.wp P a w (fun a' w' => ∃ S' : World → Prop, (∀ x, S' x → S x) ∧ S' w' ∧ wpAnyH P md l.toArray Q S' fuel (listed.setIfInBounds k true) a' w') Q) : wpAnyH P md l.toArray Q S (fuel + 1) listed a w := by
  refine wpAnyH_all (rs := [k]) (by simpa using hB) (by simp) fun i hi => ?_
  obtain rfl : i = k := by simpa using hi
  exact any_op hoa hw h
theorem any_two (i j : Nat) {o o' : Oper} (hoa : l[i]? = some o) (hob : l[j]? = some o') (hB : (Region.ready md l.toArray listed == [i, j]) = true) (hw : Region.wanted o (yielded l.toArray a.tmps) = true) (hw' : Region.wanted o' (yielded l.toArray a.tmps) = true)
    (h : o.wp P a w (fun a' w' => ∃ S' : World → Prop, (∀ x, S' x → S x) ∧ S' w' ∧ wpAnyH P md l.toArray Q S' fuel (listed.setIfInBounds i true) a' w') Q)
    (h' : o'.wp P a w (fun a' w' => ∃ S' : World → Prop, (∀ x, S' x → S x) ∧ S' w' ∧ wpAnyH P md l.toArray Q S' fuel (listed.setIfInBounds j true) a' w') Q) : wpAnyH P md l.toArray Q S (fuel + 1) listed a w := by
  refine wpAnyH_all (rs := [i, j]) (by simpa using hB) (by simp) fun k hk => ?_
  rcases (show k = i ∨ k = j by simpa using hk) with rfl | rfl
  · exact any_op hoa hw h
  · exact any_op hob hw' h'
theorem any_done (hB : (Region.ready md l.toArray listed).isEmpty = true) (h : Q .normal a w) : wpAnyH P md l.toArray Q S 0 listed a w := wpAnyH_done (by simpa using hB) h 0
theorem At.newAt' {w : World} {g : Nat} {t : TypeId} {cs : Array Value} (h : w.heap.size = g) : At (w.alloc (.cells cs t)) g t cs := by
  subst h
  exact At.new w t cs
/-- Behind a step: what is known from there on. -/
theorem any_next {S' : World → Prop} {Z : (World → Prop) → Prop} (h1 : ∀ x, S' x → S x) (h2 : S' w) (h3 : Z S') : ∃ S' : World → Prop, (∀ x, S' x → S x) ∧ S' w ∧ Z S' := ⟨S', h1, h2, h3⟩
end
end Go.Proofs.YteiclanlhnccnaaGreatDoor
/-
  Two blocks that are known whole; a state copied: the model's.
-/
namespace Go.Proofs.YteiclanlhnccnaaGreatDoor
set_option maxRecDepth 20000
open Go.RowKit
set_option linter.unusedSimpArgs false
set_option linter.unusedVariables false
attribute [local irreducible] mixW

/-- Two blocks that are known whole. -/
def At2 (w : World) (g : Nat) (t : TypeId) (cs : Array Value) (g' : Nat) (t' : TypeId) (cs' : Array Value) : Prop := At w g t cs ∧ At w g' t' cs'
section
variable {w w' : World} {g g' : Nat} {t t' : TypeId} {cs cs' : Array Value}
theorem At2.lt (h : At2 w g t cs g' t' cs') : g < w.heap.size ∧ g' < w.heap.size := ⟨h.1.lt, h.2.lt⟩
theorem At2.drew (h : At2 w g t cs g' t' cs') : At2 w.drew g t cs g' t' cs' := ⟨h.1.drew, h.2.drew⟩
theorem At2.below {B : Nat} (h : At2 w g t cs g' t' cs') (hb : Below B w w') (hl : g < B ∧ g' < B) : At2 w' g t cs g' t' cs' := ⟨h.1.below hb hl.1, h.2.below hb hl.2⟩
theorem At2.alloc (h : At2 w g t cs g' t' cs') (o : Obj) : At2 (w.alloc o) g t cs g' t' cs' := ⟨h.1.alloc o, h.2.alloc o⟩
theorem At2.far (h : At2 w g t cs g' t' cs') {p : Addr} (hp : g ≠ p.block ∧ g' ≠ p.block) (u : Value) : At2 (w.setCell p u) g t cs g' t' cs' := ⟨h.1.far hp.1 u, h.2.far hp.2 u⟩
end
/-- A row of the call's own lies in no block of another type. -/
theorem Ow.apart {α : Type} {E : Enc α} {w : World} {base n c : Nat} {A : Option Addr} {l : List α} {g : Nat} {t : TypeId} {cs : Array Value} (h : Ow E w base A n c l) (hne : E.tid ≠ t) (hx : At w g t cs) (i : Nat) (u : Value) : Ow E (w.setCell ⟨g, i, none⟩ u) base A n c l := by
  refine h.grown (grown_setCell w ⟨g, i, none⟩ u) (fun k hk e => ?_)
  obtain rfl : g = k := by simpa using e
  rcases h.2 with ⟨h0, _⟩ | ⟨g', cap, cur, hv, hb, hgg, rest⟩
  · simp only [Value.slice.injEq] at h0
    rw [h0.1] at hk
    simp at hk
  · simp only [Value.slice.injEq] at hv
    rw [hv.1] at hk
    obtain rfl : g' = g := by simpa using hk
    unfold At at hx
    rw [hx] at hgg
    simp only [Option.some.injEq, Obj.cells.injEq] at hgg
    exact hne hgg.2.1.symm
theorem grown_any {w w' : World} (h : w.grownBy w' none) (r : Option Nat) : w.grownBy w' r := ⟨h.os, h.tape, h.output, h.size, fun k hk _ => h.block k hk (by simp)⟩

set_option maxHeartbeats 4000000 in
theorem l5Copy (g : Nat) (A B : Option Addr) (n c m d : Nat) (l : List Smp) (h : List Hnt) (x : Int) (w : World) (hx : At w g 39 #[.slice A n c, .slice B m d, .int .i64 x]) (ha : Rd eS w w.heap.size A l) (hb : Rd eH w w.heap.size B h) (hn : l.length = n) (hm : h.length = m) (hn1 : n ≤ 1048576) (hm1 : m ≤ 1048576) :
    Calls Tryz.prog 59 #[.pointer (some ⟨g, 0, none⟩)] w fun e w' => ∃ A' c' B' d', e = .returned (.agg #[.slice A' n c', .slice B' m d', .int .i64 x]) ∧ Ow eS w' w.heap.size A' n c' l ∧ Ow eH w' w.heap.size B' m d' h ∧ Below w.heap.size w w' := by
  have hg := hx.lt
  have hB0 : Below w.heap.size w (w.alloc (.cells #[.slice none 0 0, .slice none 0 0, .int .i64 0] 39)).drew := ((Below.refl _ _).alloc (Nat.le_refl _) _).drew
  have x0 : At (w.alloc (.cells #[.slice none 0 0, .slice none 0 0, .int .i64 0] 39)).drew g 39 #[.slice A n c, .slice B m d, .int .i64 x] := (hx.alloc _).drew
  have z0 : At (w.alloc (.cells #[.slice none 0 0, .slice none 0 0, .int .i64 0] 39)).drew w.heap.size 39 #[.slice none 0 0, .slice none 0 0, .int .i64 0] := (At.new w 39 #[.slice none 0 0, .slice none 0 0, .int .i64 0]).drew
  have ha0 := ha.lift hB0
  have hb0 := hb.lift hB0
  go_enter Tryz.func59, Tryz.ntmps59
  go_wp2
  refine wp_region_mix [(0, false), (1, false), (2, false), (3, false), (5, false), (6, false), (7, false), (8, false), (10, false), (11, false), (12, false), (13, false), (4, true), (9, true), (14, false), (15, true)] (fun u => At u g 39 #[.slice A n c, .slice B m d, .int .i64 x]) (by kernel_rfl) (by kernel_rfl) (fun _ _ _ _ _ h => h) x0 ?_
  simp only [mixOps, List.map_cons, List.map_nil, List.getElem?_cons_succ, List.getElem?_cons_zero, Option.getD_some]
  repeat (first
    | (refine mix_skip (by rfl) ?_
       (try simp only [Act.put, List.setIfInBounds_toArray, List.set_cons_zero, List.set_cons_succ]))
    | (refine mix_pure (v := ?_) (by rfl) (fun u hu => ?_) ?_
       rotate_left
       · obtain ⟨_, _, _, _, _, _⟩ := hu.three
         go_simp
         (with_reducible rfl)
       (try simp only [Act.put, List.setIfInBounds_toArray, List.set_cons_zero, List.set_cons_succ])))
  generalize (w.alloc (.cells #[.slice none 0 0, .slice none 0 0, .int .i64 0] 39)).drew = v0 at *
  refine mix_call (by rfl) (fun K hK => ?_)
  go_simp
  refine (l3Copy A n c l _ ha0 hn hn1).mono ?_
  rintro e w1 ⟨A1, c1, rfl, o1, hb1⟩
  have hB1 := hB0.trans (hb1.mono hB0.size)
  have x1 := x0.below hb1 x0.lt
  have z1 := z0.below hb1 z0.lt
  refine hK _ _ (fun u => At u g 39 #[.slice A n c, .slice B m d, .int .i64 x]) (fun _ h => h) x1 ?_
  clear hK K
  (try simp only [Act.put, List.setIfInBounds_toArray, List.set_cons_zero, List.set_cons_succ])
  refine mix_call (by rfl) (fun K hK => ?_)
  go_simp
  refine (l4Copy B m d h _ (hb0.lift hb1) hm hm1).mono ?_
  rintro e w2 ⟨B1, d1, rfl, o2, hb2⟩
  have hB2 := hB1.trans (hb2.mono hB1.size)
  have x2 := x1.below hb2 x1.lt
  have z2 := z1.below hb2 z1.lt
  have lz := z0.lt
  have lz1 := z1.lt
  have oa := o1.below hb2 (Nat.le_refl _)
  refine hK _ _ (fun u => At u g 39 #[.slice A n c, .slice B m d, .int .i64 x]) (fun _ h => h) x2 ?_
  clear hK K
  (try simp only [Act.put, List.setIfInBounds_toArray, List.set_cons_zero, List.set_cons_succ])
  refine mix_pure (v := ?_) (by rfl) (fun u hu => ?_) ?_
  rotate_left
  · go_simp
    (with_reducible rfl)
  (try simp only [Act.put, List.setIfInBounds_toArray, List.set_cons_zero, List.set_cons_succ])
  obtain ⟨p0, p1, p2, f0, f1, f2⟩ := z2.three
  refine mix_call (by rfl) (fun K hK => ?_)
  go_simp
  refine hK _ _ (fun u => At u g 39 #[.slice A n c, .slice B m d, .int .i64 x]) (fun _ h => h) (((x2.far (p := ⟨w.heap.size, 0, none⟩) (by simp; omega) _).far (p := ⟨w.heap.size, 1, none⟩) (by simp; omega) _).far (p := ⟨w.heap.size, 2, none⟩) (by simp; omega) _) ?_
  clear hK K
  (try simp only [Act.put, List.setIfInBounds_toArray, List.set_cons_zero, List.set_cons_succ])
  refine mix_nil ?_
  go_wp2
  refine bodyPost_ret (v := .agg #[.slice A1 n c1, .slice B1 m d1, .int .i64 x]) (by simp [results, Tryz.results59, go_sem, p0, p1, p2]) rfl ?_
  exact ⟨A1, c1, B1, d1, rfl, (((oa.under (p := ⟨w.heap.size, 0, none⟩) lz _).under (p := ⟨w.heap.size, 1, none⟩) lz _).under (p := ⟨w.heap.size, 2, none⟩) lz _).from_ hB0.size, (((o2.under (p := ⟨w.heap.size, 0, none⟩) lz1 _).under (p := ⟨w.heap.size, 1, none⟩) lz1 _).under (p := ⟨w.heap.size, 2, none⟩) lz1 _).from_ hB1.size, ((hB2.setCell (by simp) _).setCell (by simp) _).setCell (by simp) _⟩
end Go.Proofs.YteiclanlhnccnaaGreatDoor
/-
  Bytes in an array's block: marked and read as the law does it.
-/
namespace Go.Proofs.YteiclanlhnccnaaGreatDoor
set_option maxRecDepth 20000
open Go.RowKit

/-- Bytes in a block that is an array of seven. -/
def eA : Enc UInt8 := ⟨199, 1, fun b => [.int .u8 (b.toNat : Int)]⟩
theorem okA : EncOk eA := ⟨fun _ => rfl, fun a u hu => by simp only [eA, List.mem_singleton] at hu; subst hu; rfl, Nat.one_pos⟩
theorem Rd.ofA {w : World} {hi : Nat} {A : Option Addr} {l : List UInt8} (h : Rd eA w hi A l) : Rd eB w hi A l := h

section
variable {w w' : World} {base hi n c : Nat} {A : Option Addr} {l : List UInt8}
theorem Ow.byteAtA {g : Nat} (h : Ow eA w base (some ⟨g, 0, none⟩) n c l) {k : Nat} {x : UInt8} (hk : l[k]? = some x) : w.cell? ⟨g, k, none⟩ = some (.int .u8 (x.toNat : Int)) := by
  have := h.cellAt okA hk (j := 0) (u := .int .u8 (x.toNat : Int)) rfl
  simpa [eA] using this
theorem Ow.byteSetA {g : Nat} (h : Ow eA w base (some ⟨g, 0, none⟩) n c l) {k : Nat} (hk : k < n) (y : UInt8) :
    Ow eA (w.setCell ⟨g, k, none⟩ (.int .u8 (y.toNat : Int))) base (some ⟨g, 0, none⟩) n c (l.set k y) ∧ w.grownBy (w.setCell ⟨g, k, none⟩ (.int .u8 (y.toNat : Int))) (some g) := by
  have hl := h.len okA
  have := h.stored okA (k := k) (j := 0) (a' := y) (u := .int .u8 (y.toNat : Int)) (List.getElem?_eq_getElem (by omega)) Nat.one_pos rfl
  simpa [eA] using this
end

set_option maxHeartbeats 400000 in
theorem markByteSA (A : Option Addr) (n c base : Nat) (l : List UInt8) (k : Nat) (w : World) (ha : Ow eA w base A n c l) (hm : n ≤ 4294967296) (hk : k ≤ 4294967296) :
    Calls Tryz.prog 40 #[.slice A n c, .int .i64 k] w fun e w' => e = .returned (.int .i64 ((k : Int) + n)) ∧ Ow eA w' base A n c (marks k n) ∧ w.grownBy w' (A.map (·.block)) := by
  have Hn := Lib.hid (ha.len okA)
  go_enter Tryz.func40, Tryz.ntmps40
  go_wp2
  go_loopw [1, 5] (fun vk i wr => MarkRel eA (fun i => UInt8.ofNat (k + i)) 1 w base A n c l k vk i wr) (fun _ i _ => n - (intOf i).toNat)
  case atStart => exact markRel_start _ _ _ ha
  case round =>
    obtain ⟨j, hj, rfl, rfl, hown, hgr⟩ := hrel
    rw [show (k : Int) + ((1 : Nat) : Int) * (j : Int) = (k : Int) + (j : Int) by omega]
    by_cases hlt : j < n
    · obtain ⟨g, rfl, hg, _⟩ := hown.form (by omega)
      obtain ⟨a, hz⟩ := markRel_at (fun i => UInt8.ofNat (k + i)) l n j hlt Hn.out
      have cb := hown.byteAtA hz
      have fb := hown.frozenAt j
      clear hz
      obtain ⟨hst, hgr2⟩ := hown.byteSetA hlt (UInt8.ofNat (k + j))
      have Hset := Lib.hid (laid_set (fun i => UInt8.ofNat (k + i)) l n j hlt Hn.out)
      have Hgr := Lib.hid (grown_trans hgr hgr2)
      have Hst := Lib.hid hst
      clear hgr hgr2 hst
      go_wp2
      have hcv : ((k : Int) + (j : Int)) % 256 = ((UInt8.ofNat (k + j)).toNat : Int) := by rw [byte_num]; omega
      rw [hcv]
      exact ⟨⟨j + 1, by omega, by go_num, congrArg _ (by omega), by rw [← Hset.out]; exact Hst.out, Hgr.out⟩, by simp [intOf]; omega⟩
    · have hall := markRel_end hown (by omega) Hn.out
      obtain rfl : n = j := by omega
      clear hown
      go_wp2
      go_ret
      exact ⟨rfl, hall, hgr⟩

theorem markByteS1A (A : Option Addr) (n c base : Nat) (l : List UInt8) (w : World) (ha : Ow eA w base A n c l) (hm : n ≤ 4294967296) :
    Calls Tryz.prog 40 #[.slice A n c, .int .i64 1] w fun e w' => e = .returned (.int .i64 (1 + (n : Int))) ∧ Ow eA w' base A n c (marks 1 n) ∧ w.grownBy w' (A.map (·.block)) :=
  markByteSA A n c base l 1 w ha hm (by omega)

end Go.Proofs.YteiclanlhnccnaaGreatDoor
/-
  A sample's bytes: the program's.
-/
namespace Go.Proofs.YteiclanlhnccnaaGreatDoor
set_option maxRecDepth 20000
open Go.RowKit
set_option linter.unusedSimpArgs false

/-- copy as one step of a region: as 'step_copy_splice'. -/
theorem copy_wp {P : Program} {o : Oper} {a : Act} {w : World} {K : Act → World → Prop} {Q : Exit → Act → World → Prop} (d s : Operand) (dT sT : TypeId)
    (ho : o.op = .call { callee := .builtin .copy, args := #[d, s], argTypes := #[dT, sT] }) (elem : TypeId) (hu : P.underlying dT = some (.slice elem)) (hsz : (P.info? elem).map (·.size) = some 1)
    (dp sp : Option Addr) (dLen dCap sLen sCap : Nat) (hd : a.eval d = .slice dp dLen dCap) (hs : a.eval s = .slice sp sLen sCap)
    (g off : Nat) (cur : List Value) (t : TypeId) (hg : At w g t cur.toArray) (cs : List Value) (hn : cs.length = Nat.min sLen dLen)
    (hpos : 0 < cs.length → dp = some ⟨g, off, none⟩ ∧ ∃ ad, sp = some ad ∧ ∀ j v, cs[j]? = some v → w.cell? (ad.add j) = some v)
    (hfit : off + cs.length ≤ cur.length) (h1 : ∀ v ∈ cs, v.oneCell' = true) (B : Nat) (w0 : World) (hb : Below B w0 w) (hBg : B ≤ g)
    (h : ∀ w', At w' g t (splice cur off cs).toArray → Below B w0 w' → (∀ g', g' ≠ g → w'.heap[g']? = w.heap[g']?) → K (a.put o.dst (goInt cs.length)) w') : o.wp P a w K Q := by
  by_cases h0 : cs.length = 0
  · obtain rfl : cs = [] := List.eq_nil_of_length_eq_zero h0
    have hrun := run_copy_none (P := P) w dT sT o.type elem dp sp dLen dCap sLen sCap hu hsz (by simpa using hn.symm)
    unfold Oper.wp
    simp [execOp, ho, resolve, invoke, builtin, hd, hs, hrun, Result.andThen]
    exact h w (by simpa [splice] using hg) hb (fun _ _ => rfl)
  · obtain ⟨rfl, ad, rfl, hsrc⟩ := hpos (by omega)
    have hrun := run_copy_row (P := P) w dT sT o.type elem g off dLen dCap ad sLen sCap cur.toArray t cs hu hsz hg hn hsrc (by simpa using hfit) h1
    unfold Oper.wp
    simp [execOp, ho, resolve, invoke, builtin, hd, hs, hrun, Result.andThen]
    exact h _ (show _ = _ by simpa [splice] using setRow_heap w g _ _ t _ hg) (below_setRow hb hBg _) (fun g' hne => setRow_other w g g' _ hne)

theorem Rd.src {w : World} {hi g o : Nat} {l : List UInt8} (h : Rd eB w hi (some ⟨g, o, none⟩) l) : ∀ (j : Nat) (v : Value), (eB.row l)[j]? = some v → w.cell? ((⟨g, o, none⟩ : Addr).add j) = some v := by
  intro j v hj
  have hl : j < l.length := by
    have := getElem?_some_lt hj
    rw [okB.row_len] at this
    simpa [eB] using this
  obtain ⟨g', o', e, _, hc⟩ := h (by intro e; subst e; simp at hl)
  obtain ⟨rfl, rfl⟩ : g = g' ∧ o = o' := by simpa using Option.some.inj e
  have h1 := okB.row_at l j 0 l[j] (List.getElem?_eq_getElem hl) Nat.one_pos
  rw [show j * eB.size + 0 = j by simp [eB]] at h1
  rw [h1] at hj
  have := hc j 0 _ v (List.getElem?_eq_getElem hl) hj
  rw [addr_add]
  simpa [eB] using this

theorem cell_same {w w' : World} {g o : Nat} (h : w'.heap[g]? = w.heap[g]?) : w'.cell? ⟨g, o, none⟩ = w.cell? ⟨g, o, none⟩ := by
  unfold World.cell?
  simp only [h]
theorem fldB1' (z : Int) (A : Option Addr) (k c : Nat) (u : World) : (Instr.field 30 (.agg #[.int .i64 z, .slice A k c]) 1).run Tryz.prog u = .ok (.slice A k c) u := by kernel_rfl
theorem u8_size : (Tryz.prog.info? 5).map (·.size) = some 1 := by kernel_rfl

theorem slAt0 (g : Nat) (u : World) : (Instr.sliceAt 199 (.pointer (some ⟨g, 0, none⟩)) (some (.int .i64 0)) (some (.int .i64 1)) none).run Tryz.prog u = .ok (.slice (some ⟨g, 0, none⟩) 1 7) u := by kernel_rfl
theorem slAt1 (g : Nat) (u : World) : (Instr.sliceAt 199 (.pointer (some ⟨g, 0, none⟩)) (some (.int .i64 1)) (some (.int .i64 3)) none).run Tryz.prog u = .ok (.slice (some ⟨g, 1, none⟩) 2 6) u := by kernel_rfl
theorem slAt2 (g : Nat) (u : World) : (Instr.sliceAt 199 (.pointer (some ⟨g, 0, none⟩)) (some (.int .i64 3)) (some (.int .i64 5)) none).run Tryz.prog u = .ok (.slice (some ⟨g, 3, none⟩) 2 4) u := by kernel_rfl
theorem slAt3 (g : Nat) (u : World) : (Instr.sliceAt 199 (.pointer (some ⟨g, 0, none⟩)) (some (.int .i64 5)) (some (.int .i64 7)) none).run Tryz.prog u = .ok (.slice (some ⟨g, 5, none⟩) 2 2) u := by kernel_rfl
theorem slAll (g : Nat) (u : World) : (Instr.sliceAt 199 (.pointer (some ⟨g, 0, none⟩)) none none none).run Tryz.prog u = .ok (.slice (some ⟨g, 0, none⟩) 7 7) u := by kernel_rfl
def encRow (n0 n1 n2 n3 : Nat) : Nat → List Value
  | 0 => [.int .u8 0, .int .u8 0, .int .u8 0, .int .u8 0, .int .u8 0, .int .u8 0, .int .u8 0]
  | 1 => [.int .u8 ((UInt8.ofNat n0).toNat : Int), .int .u8 0, .int .u8 0, .int .u8 0, .int .u8 0, .int .u8 0, .int .u8 0]
  | 2 => [.int .u8 ((UInt8.ofNat n0).toNat : Int), .int .u8 ((UInt8.ofNat n1).toNat : Int), .int .u8 ((UInt8.ofNat (n1 / 256)).toNat : Int), .int .u8 0, .int .u8 0, .int .u8 0, .int .u8 0]
  | 3 => [.int .u8 ((UInt8.ofNat n0).toNat : Int), .int .u8 ((UInt8.ofNat n1).toNat : Int), .int .u8 ((UInt8.ofNat (n1 / 256)).toNat : Int), .int .u8 ((UInt8.ofNat n2).toNat : Int), .int .u8 ((UInt8.ofNat (n2 / 256)).toNat : Int), .int .u8 0, .int .u8 0]
  | _ => [.int .u8 ((UInt8.ofNat n0).toNat : Int), .int .u8 ((UInt8.ofNat n1).toNat : Int), .int .u8 ((UInt8.ofNat (n1 / 256)).toNat : Int), .int .u8 ((UInt8.ofNat n2).toNat : Int), .int .u8 ((UInt8.ofNat (n2 / 256)).toNat : Int), .int .u8 ((UInt8.ofNat n3).toNat : Int), .int .u8 ((UInt8.ofNat (n3 / 256)).toNat : Int)]

/-- A code and bytes that lie in an array's block of the call's own. -/
def RetBA (r : Int × List UInt8) (w : World) (e : Ending) (w' : World) : Prop :=
  ∃ A n c, e = .returned (.agg #[.int .i64 r.1, .slice A n c]) ∧ Ow eA w' w.heap.size A n c r.2 ∧ Below w.heap.size w w'

def EncRel (w : World) (gp gN gR : Nat) (n0 n1 n2 n3 : Nat) (i : Value) (wr : World) : Prop :=
  ∃ k : Nat, k ≤ 4 ∧ i = .int .i64 k ∧ At wr gp 199 (encRow n0 n1 n2 n3 k).toArray ∧ At wr gN 171 #[.int .i64 (n0 : Int), .int .i64 (n1 : Int), .int .i64 (n2 : Int), .int .i64 ((n3 : Int) - 1000)] ∧ At wr gR 30 #[.int .i64 0, .slice none 0 0] ∧ Below w.heap.size w wr

theorem packs {n : Nat} (h : n ≤ 9999) (w : World) : Calls Tryz.prog 45 #[.int .i64 (n : Int), .int .i64 2] w fun e w' => RetBR (0, [UInt8.ofNat n, UInt8.ofNat (n / 256)]) w e w' := by
  have h1 := implPackWord (n : Int) 2 w
  have h2 : packM (n : Int) 2 = (0, packL n 2) := by simpa using packM_nat (m := n) (s := 2) (by omega) (by omega) (by omega)
  rw [h2, pack2] at h1
  exact h1
theorem packs1 {n : Nat} (h : n ≤ 9) (w : World) : Calls Tryz.prog 45 #[.int .i64 (n : Int), .int .i64 1] w fun e w' => RetBR (0, [UInt8.ofNat n]) w e w' := by
  have h1 := implPackWord (n : Int) 1 w
  have h2 : packM (n : Int) 1 = (0, packL n 1) := by simpa using packM_nat (m := n) (s := 1) (by omega) (by omega) (by omega)
  rw [h2, pack1] at h1
  exact h1

set_option maxHeartbeats 4000000 in
theorem implEncodeSample_ok (n0 n1 n2 n3 : Nat) (w : World) (hF : Flds w) (hf : faultM ((n0 : Int), (n1 : Int), (n2 : Int), ((n3 : Int) - 1000)) = 0) (k0 : n0 ≤ 9) (k1 : n1 ≤ 999) (k2 : n2 ≤ 9999) (k3 : n3 ≤ 2000) :
    Calls Tryz.prog 99 #[.agg #[.int .i64 (n0 : Int), .int .i64 (n1 : Int), .int .i64 (n2 : Int), .int .i64 ((n3 : Int) - 1000)]] w fun e w' => RetBA (0, encL n0 n1 n2 n3) w e w' := by
  have hB0 : Below w.heap.size w ((w.alloc (.cells #[.int .i64 (n0 : Int), .int .i64 (n1 : Int), .int .i64 (n2 : Int), .int .i64 ((n3 : Int) - 1000)] 25)).alloc (.cells #[.int .i64 0, .slice none 0 0] 30)) := ((Below.refl _ _).alloc (Nat.le_refl _) _).alloc (by simp) _
  have x0 := (At.new w 25 #[.int .i64 (n0 : Int), .int .i64 (n1 : Int), .int .i64 (n2 : Int), .int .i64 ((n3 : Int) - 1000)]).alloc (.cells #[.int .i64 0, .slice none 0 0] 30)
  have r0 := At.new (w.alloc (.cells #[.int .i64 (n0 : Int), .int .i64 (n1 : Int), .int .i64 (n2 : Int), .int .i64 ((n3 : Int) - 1000)] 25)) 30 #[.int .i64 0, .slice none 0 0]
  rw [show (w.alloc (.cells #[.int .i64 (n0 : Int), .int .i64 (n1 : Int), .int .i64 (n2 : Int), .int .i64 ((n3 : Int) - 1000)] 25)).heap.size = w.heap.size + 1 by simp] at r0
  have hq := implSampleFault (n0 : Int) (n1 : Int) (n2 : Int) ((n3 : Int) - 1000)
  rw [hf] at hq
  clear hf
  go_enter Tryz.func99, Tryz.ntmps99
  go_wp2_with fail
  refine (hq _ (hF.below hB0)).mono ?_
  rintro e w1 ⟨rfl, hb1⟩
  clear hq
  have hB1 := hB0.trans (hb1.mono hB0.size)
  have x1 := x0.below hb1 x0.lt
  have r1 := r0.below hb1 r0.lt
  obtain ⟨y0, y1, y2, y3, _, _, _, _⟩ := x1.four
  have l1 := x1.lt
  have hp := At.new w1 199 #[.int .u8 0, .int .u8 0, .int .u8 0, .int .u8 0, .int .u8 0, .int .u8 0, .int .u8 0]
  have r2 := r1.alloc (.cells #[.int .u8 0, .int .u8 0, .int .u8 0, .int .u8 0, .int .u8 0, .int .u8 0, .int .u8 0] 199)
  have hB2 := hB1.alloc hB1.size (.cells #[.int .u8 0, .int .u8 0, .int .u8 0, .int .u8 0, .int .u8 0, .int .u8 0, .int .u8 0] 199)
  go_wp2_with fail
  refine (numbersOf _ _ _ _ _).mono ?_
  rintro e w3 ⟨rfl, hb3⟩
  have hB3 := hB2.trans (hb3.mono hB2.size)
  have p3 := hp.below hb3 hp.lt
  have r3 := r2.below hb3 r2.lt
  have hz3 := (hF.below hB3).pos
  obtain ⟨c0, c1, c2, c3, c4, c5, c6, c7, c8, c9, c10, c11, c12, c13, c14, c15⟩ := (hF.below hB3).all
  have hN := At.new w3 171 #[.int .i64 (n0 : Int), .int .i64 (n1 : Int), .int .i64 (n2 : Int), .int .i64 ((n3 : Int) - 1000)]
  have p4 := p3.alloc (.cells #[.int .i64 (n0 : Int), .int .i64 (n1 : Int), .int .i64 (n2 : Int), .int .i64 ((n3 : Int) - 1000)] 171)
  have r4 := r3.alloc (.cells #[.int .i64 (n0 : Int), .int .i64 (n1 : Int), .int .i64 (n2 : Int), .int .i64 ((n3 : Int) - 1000)] 171)
  have hB4 := hB3.alloc hB3.size (.cells #[.int .i64 (n0 : Int), .int .i64 (n1 : Int), .int .i64 (n2 : Int), .int .i64 ((n3 : Int) - 1000)] 171)
  go_wp2_with fail
  clear c0 c1 c2 c3 c4 c5 c6 c7 c8 c9 c10 c11 c12 c13 c14 c15 y0 y1 y2 y3
  have Lp : w.heap.size ≤ w1.heap.size := hB1.size
  have Lr := r1.lt
  have Ln := p3.lt
  go_loopw [17] (fun i wr => EncRel w w1.heap.size w3.heap.size (w.heap.size + 1) n0 n1 n2 n3 i wr) (fun i _ => 4 - (intOf i).toNat)
  case atStart => exact ⟨0, by omega, rfl, p4, hN, r4, hB4⟩
  case round =>
    obtain ⟨k, hk, rfl, hP, hN', hR, hbel⟩ := hrel
    have lP := hP.lt
    have lN := hN'.lt
    have lR := hR.lt
    have hsz := hbel.size
    obtain ⟨m0, m1, m2, m3, _, _, _, _⟩ := hN'.four
    rcases (show k = 0 ∨ k = 1 ∨ k = 2 ∨ k = 3 ∨ k = 4 by omega) with rfl | rfl | rfl | rfl | rfl
    · have hidx := fldAt0 wr
      have hsl := slAt0 w1.heap.size
      have hw1 : IntKind.i64.wrap 1 = 1 := by decide
      have hw2 : IntKind.i64.wrap (n0 : Int) = (n0 : Int) := IntWalk.i64_in _ (by omega)
      go_wp2
      refine wp_region_mix [(0, false), (1, false), (2, false), (3, false), (4, false), (5, false), (6, false), (7, false), (8, false), (9, false), (10, false), (11, false), (12, false), (13, false), (14, false), (15, false), (16, true), (17, false), (18, true)] (fun u => u.cell? ⟨w3.heap.size, 0, none⟩ = some (.int .i64 (n0 : Int)) ∧ u.cell? ⟨wr.heap.size, 0, none⟩ = some (.int .i64 0) ∧ u.cell? ⟨wr.heap.size, 1, none⟩ = some (.int .i64 1) ∧ u.cell? ⟨wr.heap.size, 2, none⟩ = some (.int .i64 0)) (by kernel_rfl) (by kernel_rfl) (fun _ _ _ _ _ h => h) (by go_simp) ?_
      simp only [mixOps, List.map_cons, List.map_nil, List.getElem?_cons_succ, List.getElem?_cons_zero, Option.getD_some]
      repeat (first
        | (refine mix_skip (by rfl) ?_
           (try simp only [Act.put, List.setIfInBounds_toArray, List.set_cons_zero, List.set_cons_succ]))
        | (refine mix_pure (v := ?_) (by rfl) (fun u hu => ?_) ?_
           rotate_left
           · obtain ⟨_, _, _, _⟩ := hu
             go_simp
             (with_reducible rfl)
           (try simp only [Act.put, List.setIfInBounds_toArray, List.set_cons_zero, List.set_cons_succ])))
      refine mix_call (by rfl) (fun K hK => ?_)
      go_simp
      refine (packs1 (n := n0) (by omega) _).mono ?_
      rintro e w5 ⟨A5, j5, c5, rfl, o5, hb5⟩
      obtain rfl : 1 = j5 := o5.len okB
      obtain ⟨g5, rfl, gl5, gh5⟩ := o5.form (by omega)
      have fB5 := fldB1' 0 (some ⟨g5, 0, none⟩) 1 c5
      refine hK _ _ _ (fun _ h => h) ⟨(hb5.cell (p := ⟨w3.heap.size, 0, none⟩) (by simp; omega)).trans (by go_simp), (hb5.cell (p := ⟨wr.heap.size, 0, none⟩) (by simp)).trans (by go_simp), (hb5.cell (p := ⟨wr.heap.size, 1, none⟩) (by simp)).trans (by go_simp), (hb5.cell (p := ⟨wr.heap.size, 2, none⟩) (by simp)).trans (by go_simp)⟩ ?_
      (try simp only [Act.put, List.setIfInBounds_toArray, List.set_cons_zero, List.set_cons_succ])
      refine mix_pure (v := ?_) (by rfl) (fun u hu => ?_) ?_
      rotate_left
      · go_simp
        (with_reducible rfl)
      (try simp only [Act.put, List.setIfInBounds_toArray, List.set_cons_zero, List.set_cons_succ])
      have F5 := (hbel.alloc hbel.size (.cells #[.int .i64 0, .int .i64 1, .int .i64 0, .int .i64 9] 174)).drew
      have hB5 := F5.trans (hb5.mono F5.size)
      have P5 := ((hP.alloc (.cells #[.int .i64 0, .int .i64 1, .int .i64 0, .int .i64 9] 174)).drew).below hb5 (by simp; omega)
      have N5 := ((hN'.alloc (.cells #[.int .i64 0, .int .i64 1, .int .i64 0, .int .i64 9] 174)).drew).below hb5 (by simp; omega)
      have R5 := ((hR.alloc (.cells #[.int .i64 0, .int .i64 1, .int .i64 0, .int .i64 9] 174)).drew).below hb5 (by simp; omega)
      have L5 : wr.heap.size < w5.heap.size := by have := hb5.size; simp at this; omega
      have S0 : w5.cell? ⟨wr.heap.size, 0, none⟩ = some (.int .i64 0) := (hb5.cell (p := ⟨wr.heap.size, 0, none⟩) (by simp)).trans (by go_simp)
      have S1 : w5.cell? ⟨wr.heap.size, 1, none⟩ = some (.int .i64 1) := (hb5.cell (p := ⟨wr.heap.size, 1, none⟩) (by simp)).trans (by go_simp)
      have S2 : w5.cell? ⟨wr.heap.size, 2, none⟩ = some (.int .i64 0) := (hb5.cell (p := ⟨wr.heap.size, 2, none⟩) (by simp)).trans (by go_simp)
      refine mix_call (by rfl) (fun K hK => ?_)
      refine copy_wp (.tmp 28) (.tmp 38) 22 22 rfl 5 Tryz.underlying22 u8_size _ _ _ _ _ _ rfl rfl w1.heap.size 0 (encRow n0 n1 n2 n3 0) 199 P5 (eB.row [UInt8.ofNat n0]) rfl (fun _ => ⟨rfl, _, rfl, Rd.src (o5.rd okB)⟩) (by show 0 + 1 ≤ 7; omega) (okB.row_one _) w.heap.size w hB5 Lp ?_
      intro w6 P6 hB6 hoth
      have N6 : At w6 w3.heap.size 171 #[.int .i64 (n0 : Int), .int .i64 (n1 : Int), .int .i64 (n2 : Int), .int .i64 ((n3 : Int) - 1000)] := (hoth _ (by omega)).trans N5
      have R6 : At w6 (w.heap.size + 1) 30 #[.int .i64 0, .slice none 0 0] := (hoth _ (by omega)).trans R5
      refine hK _ _ _ (fun _ h => h) ⟨(N6.cell 0).trans rfl, (cell_same (hoth _ (by omega))).trans S0, (cell_same (hoth _ (by omega))).trans S1, (cell_same (hoth _ (by omega))).trans S2⟩ ?_
      (try simp only [Act.put, List.setIfInBounds_toArray, List.set_cons_zero, List.set_cons_succ])
      refine mix_nil ?_
      go_wp2
      exact ⟨⟨0 + 1, by omega, by go_num, P6, N6, R6, hB6⟩, by simp [intOf]⟩
    · have hidx := fldAt1 wr
      have hsl := slAt1 w1.heap.size
      have hw1 : IntKind.i64.wrap 3 = 3 := by decide
      have hw2 : IntKind.i64.wrap (n1 : Int) = (n1 : Int) := IntWalk.i64_in _ (by omega)
      go_wp2
      refine wp_region_mix [(0, false), (1, false), (2, false), (3, false), (4, false), (5, false), (6, false), (7, false), (8, false), (9, false), (10, false), (11, false), (12, false), (13, false), (14, false), (15, false), (16, true), (17, false), (18, true)] (fun u => u.cell? ⟨w3.heap.size, 1, none⟩ = some (.int .i64 (n1 : Int)) ∧ u.cell? ⟨wr.heap.size, 0, none⟩ = some (.int .i64 1) ∧ u.cell? ⟨wr.heap.size, 1, none⟩ = some (.int .i64 2) ∧ u.cell? ⟨wr.heap.size, 2, none⟩ = some (.int .i64 0)) (by kernel_rfl) (by kernel_rfl) (fun _ _ _ _ _ h => h) (by go_simp) ?_
      simp only [mixOps, List.map_cons, List.map_nil, List.getElem?_cons_succ, List.getElem?_cons_zero, Option.getD_some]
      repeat (first
        | (refine mix_skip (by rfl) ?_
           (try simp only [Act.put, List.setIfInBounds_toArray, List.set_cons_zero, List.set_cons_succ]))
        | (refine mix_pure (v := ?_) (by rfl) (fun u hu => ?_) ?_
           rotate_left
           · obtain ⟨_, _, _, _⟩ := hu
             go_simp
             (with_reducible rfl)
           (try simp only [Act.put, List.setIfInBounds_toArray, List.set_cons_zero, List.set_cons_succ])))
      refine mix_call (by rfl) (fun K hK => ?_)
      go_simp
      refine (packs (n := n1) (by omega) _).mono ?_
      rintro e w5 ⟨A5, j5, c5, rfl, o5, hb5⟩
      obtain rfl : 2 = j5 := o5.len okB
      obtain ⟨g5, rfl, gl5, gh5⟩ := o5.form (by omega)
      have fB5 := fldB1' 0 (some ⟨g5, 0, none⟩) 2 c5
      refine hK _ _ _ (fun _ h => h) ⟨(hb5.cell (p := ⟨w3.heap.size, 1, none⟩) (by simp; omega)).trans (by go_simp), (hb5.cell (p := ⟨wr.heap.size, 0, none⟩) (by simp)).trans (by go_simp), (hb5.cell (p := ⟨wr.heap.size, 1, none⟩) (by simp)).trans (by go_simp), (hb5.cell (p := ⟨wr.heap.size, 2, none⟩) (by simp)).trans (by go_simp)⟩ ?_
      (try simp only [Act.put, List.setIfInBounds_toArray, List.set_cons_zero, List.set_cons_succ])
      refine mix_pure (v := ?_) (by rfl) (fun u hu => ?_) ?_
      rotate_left
      · go_simp
        (with_reducible rfl)
      (try simp only [Act.put, List.setIfInBounds_toArray, List.set_cons_zero, List.set_cons_succ])
      have F5 := (hbel.alloc hbel.size (.cells #[.int .i64 1, .int .i64 2, .int .i64 0, .int .i64 999] 174)).drew
      have hB5 := F5.trans (hb5.mono F5.size)
      have P5 := ((hP.alloc (.cells #[.int .i64 1, .int .i64 2, .int .i64 0, .int .i64 999] 174)).drew).below hb5 (by simp; omega)
      have N5 := ((hN'.alloc (.cells #[.int .i64 1, .int .i64 2, .int .i64 0, .int .i64 999] 174)).drew).below hb5 (by simp; omega)
      have R5 := ((hR.alloc (.cells #[.int .i64 1, .int .i64 2, .int .i64 0, .int .i64 999] 174)).drew).below hb5 (by simp; omega)
      have L5 : wr.heap.size < w5.heap.size := by have := hb5.size; simp at this; omega
      have S0 : w5.cell? ⟨wr.heap.size, 0, none⟩ = some (.int .i64 1) := (hb5.cell (p := ⟨wr.heap.size, 0, none⟩) (by simp)).trans (by go_simp)
      have S1 : w5.cell? ⟨wr.heap.size, 1, none⟩ = some (.int .i64 2) := (hb5.cell (p := ⟨wr.heap.size, 1, none⟩) (by simp)).trans (by go_simp)
      have S2 : w5.cell? ⟨wr.heap.size, 2, none⟩ = some (.int .i64 0) := (hb5.cell (p := ⟨wr.heap.size, 2, none⟩) (by simp)).trans (by go_simp)
      refine mix_call (by rfl) (fun K hK => ?_)
      refine copy_wp (.tmp 28) (.tmp 38) 22 22 rfl 5 Tryz.underlying22 u8_size _ _ _ _ _ _ rfl rfl w1.heap.size 1 (encRow n0 n1 n2 n3 1) 199 P5 (eB.row [UInt8.ofNat n1, UInt8.ofNat (n1 / 256)]) rfl (fun _ => ⟨rfl, _, rfl, Rd.src (o5.rd okB)⟩) (by show 1 + 2 ≤ 7; omega) (okB.row_one _) w.heap.size w hB5 Lp ?_
      intro w6 P6 hB6 hoth
      have N6 : At w6 w3.heap.size 171 #[.int .i64 (n0 : Int), .int .i64 (n1 : Int), .int .i64 (n2 : Int), .int .i64 ((n3 : Int) - 1000)] := (hoth _ (by omega)).trans N5
      have R6 : At w6 (w.heap.size + 1) 30 #[.int .i64 0, .slice none 0 0] := (hoth _ (by omega)).trans R5
      refine hK _ _ _ (fun _ h => h) ⟨(N6.cell 1).trans rfl, (cell_same (hoth _ (by omega))).trans S0, (cell_same (hoth _ (by omega))).trans S1, (cell_same (hoth _ (by omega))).trans S2⟩ ?_
      (try simp only [Act.put, List.setIfInBounds_toArray, List.set_cons_zero, List.set_cons_succ])
      refine mix_nil ?_
      go_wp2
      exact ⟨⟨1 + 1, by omega, by go_num, P6, N6, R6, hB6⟩, by simp [intOf]⟩
    · have hidx := fldAt2 wr
      have hsl := slAt2 w1.heap.size
      have hw1 : IntKind.i64.wrap 5 = 5 := by decide
      have hw2 : IntKind.i64.wrap (n2 : Int) = (n2 : Int) := IntWalk.i64_in _ (by omega)
      go_wp2
      refine wp_region_mix [(0, false), (1, false), (2, false), (3, false), (4, false), (5, false), (6, false), (7, false), (8, false), (9, false), (10, false), (11, false), (12, false), (13, false), (14, false), (15, false), (16, true), (17, false), (18, true)] (fun u => u.cell? ⟨w3.heap.size, 2, none⟩ = some (.int .i64 (n2 : Int)) ∧ u.cell? ⟨wr.heap.size, 0, none⟩ = some (.int .i64 3) ∧ u.cell? ⟨wr.heap.size, 1, none⟩ = some (.int .i64 2) ∧ u.cell? ⟨wr.heap.size, 2, none⟩ = some (.int .i64 0)) (by kernel_rfl) (by kernel_rfl) (fun _ _ _ _ _ h => h) (by go_simp) ?_
      simp only [mixOps, List.map_cons, List.map_nil, List.getElem?_cons_succ, List.getElem?_cons_zero, Option.getD_some]
      repeat (first
        | (refine mix_skip (by rfl) ?_
           (try simp only [Act.put, List.setIfInBounds_toArray, List.set_cons_zero, List.set_cons_succ]))
        | (refine mix_pure (v := ?_) (by rfl) (fun u hu => ?_) ?_
           rotate_left
           · obtain ⟨_, _, _, _⟩ := hu
             go_simp
             (with_reducible rfl)
           (try simp only [Act.put, List.setIfInBounds_toArray, List.set_cons_zero, List.set_cons_succ])))
      refine mix_call (by rfl) (fun K hK => ?_)
      go_simp
      refine (packs (n := n2) (by omega) _).mono ?_
      rintro e w5 ⟨A5, j5, c5, rfl, o5, hb5⟩
      obtain rfl : 2 = j5 := o5.len okB
      obtain ⟨g5, rfl, gl5, gh5⟩ := o5.form (by omega)
      have fB5 := fldB1' 0 (some ⟨g5, 0, none⟩) 2 c5
      refine hK _ _ _ (fun _ h => h) ⟨(hb5.cell (p := ⟨w3.heap.size, 2, none⟩) (by simp; omega)).trans (by go_simp), (hb5.cell (p := ⟨wr.heap.size, 0, none⟩) (by simp)).trans (by go_simp), (hb5.cell (p := ⟨wr.heap.size, 1, none⟩) (by simp)).trans (by go_simp), (hb5.cell (p := ⟨wr.heap.size, 2, none⟩) (by simp)).trans (by go_simp)⟩ ?_
      (try simp only [Act.put, List.setIfInBounds_toArray, List.set_cons_zero, List.set_cons_succ])
      refine mix_pure (v := ?_) (by rfl) (fun u hu => ?_) ?_
      rotate_left
      · go_simp
        (with_reducible rfl)
      (try simp only [Act.put, List.setIfInBounds_toArray, List.set_cons_zero, List.set_cons_succ])
      have F5 := (hbel.alloc hbel.size (.cells #[.int .i64 3, .int .i64 2, .int .i64 0, .int .i64 9999] 174)).drew
      have hB5 := F5.trans (hb5.mono F5.size)
      have P5 := ((hP.alloc (.cells #[.int .i64 3, .int .i64 2, .int .i64 0, .int .i64 9999] 174)).drew).below hb5 (by simp; omega)
      have N5 := ((hN'.alloc (.cells #[.int .i64 3, .int .i64 2, .int .i64 0, .int .i64 9999] 174)).drew).below hb5 (by simp; omega)
      have R5 := ((hR.alloc (.cells #[.int .i64 3, .int .i64 2, .int .i64 0, .int .i64 9999] 174)).drew).below hb5 (by simp; omega)
      have L5 : wr.heap.size < w5.heap.size := by have := hb5.size; simp at this; omega
      have S0 : w5.cell? ⟨wr.heap.size, 0, none⟩ = some (.int .i64 3) := (hb5.cell (p := ⟨wr.heap.size, 0, none⟩) (by simp)).trans (by go_simp)
      have S1 : w5.cell? ⟨wr.heap.size, 1, none⟩ = some (.int .i64 2) := (hb5.cell (p := ⟨wr.heap.size, 1, none⟩) (by simp)).trans (by go_simp)
      have S2 : w5.cell? ⟨wr.heap.size, 2, none⟩ = some (.int .i64 0) := (hb5.cell (p := ⟨wr.heap.size, 2, none⟩) (by simp)).trans (by go_simp)
      refine mix_call (by rfl) (fun K hK => ?_)
      refine copy_wp (.tmp 28) (.tmp 38) 22 22 rfl 5 Tryz.underlying22 u8_size _ _ _ _ _ _ rfl rfl w1.heap.size 3 (encRow n0 n1 n2 n3 2) 199 P5 (eB.row [UInt8.ofNat n2, UInt8.ofNat (n2 / 256)]) rfl (fun _ => ⟨rfl, _, rfl, Rd.src (o5.rd okB)⟩) (by show 3 + 2 ≤ 7; omega) (okB.row_one _) w.heap.size w hB5 Lp ?_
      intro w6 P6 hB6 hoth
      have N6 : At w6 w3.heap.size 171 #[.int .i64 (n0 : Int), .int .i64 (n1 : Int), .int .i64 (n2 : Int), .int .i64 ((n3 : Int) - 1000)] := (hoth _ (by omega)).trans N5
      have R6 : At w6 (w.heap.size + 1) 30 #[.int .i64 0, .slice none 0 0] := (hoth _ (by omega)).trans R5
      refine hK _ _ _ (fun _ h => h) ⟨(N6.cell 2).trans rfl, (cell_same (hoth _ (by omega))).trans S0, (cell_same (hoth _ (by omega))).trans S1, (cell_same (hoth _ (by omega))).trans S2⟩ ?_
      (try simp only [Act.put, List.setIfInBounds_toArray, List.set_cons_zero, List.set_cons_succ])
      refine mix_nil ?_
      go_wp2
      exact ⟨⟨2 + 1, by omega, by go_num, P6, N6, R6, hB6⟩, by simp [intOf]⟩
    · have hidx := fldAt3 wr
      have hsl := slAt3 w1.heap.size
      have hw1 : IntKind.i64.wrap 7 = 7 := by decide
      have hw2 : IntKind.i64.wrap (n3 : Int) = (n3 : Int) := IntWalk.i64_in _ (by omega)
      go_wp2
      refine wp_region_mix [(0, false), (1, false), (2, false), (3, false), (4, false), (5, false), (6, false), (7, false), (8, false), (9, false), (10, false), (11, false), (12, false), (13, false), (14, false), (15, false), (16, true), (17, false), (18, true)] (fun u => u.cell? ⟨w3.heap.size, 3, none⟩ = some (.int .i64 ((n3 : Int) - 1000)) ∧ u.cell? ⟨wr.heap.size, 0, none⟩ = some (.int .i64 5) ∧ u.cell? ⟨wr.heap.size, 1, none⟩ = some (.int .i64 2) ∧ u.cell? ⟨wr.heap.size, 2, none⟩ = some (.int .i64 (-1000))) (by kernel_rfl) (by kernel_rfl) (fun _ _ _ _ _ h => h) (by go_simp) ?_
      simp only [mixOps, List.map_cons, List.map_nil, List.getElem?_cons_succ, List.getElem?_cons_zero, Option.getD_some]
      repeat (first
        | (refine mix_skip (by rfl) ?_
           (try simp only [Act.put, List.setIfInBounds_toArray, List.set_cons_zero, List.set_cons_succ]))
        | (refine mix_pure (v := ?_) (by rfl) (fun u hu => ?_) ?_
           rotate_left
           · obtain ⟨_, _, _, _⟩ := hu
             go_simp
             (with_reducible rfl)
           (try simp only [Act.put, List.setIfInBounds_toArray, List.set_cons_zero, List.set_cons_succ])))
      refine mix_call (by rfl) (fun K hK => ?_)
      go_simp
      refine (packs (n := n3) (by omega) _).mono ?_
      rintro e w5 ⟨A5, j5, c5, rfl, o5, hb5⟩
      obtain rfl : 2 = j5 := o5.len okB
      obtain ⟨g5, rfl, gl5, gh5⟩ := o5.form (by omega)
      have fB5 := fldB1' 0 (some ⟨g5, 0, none⟩) 2 c5
      refine hK _ _ _ (fun _ h => h) ⟨(hb5.cell (p := ⟨w3.heap.size, 3, none⟩) (by simp; omega)).trans (by go_simp), (hb5.cell (p := ⟨wr.heap.size, 0, none⟩) (by simp)).trans (by go_simp), (hb5.cell (p := ⟨wr.heap.size, 1, none⟩) (by simp)).trans (by go_simp), (hb5.cell (p := ⟨wr.heap.size, 2, none⟩) (by simp)).trans (by go_simp)⟩ ?_
      (try simp only [Act.put, List.setIfInBounds_toArray, List.set_cons_zero, List.set_cons_succ])
      refine mix_pure (v := ?_) (by rfl) (fun u hu => ?_) ?_
      rotate_left
      · go_simp
        (with_reducible rfl)
      (try simp only [Act.put, List.setIfInBounds_toArray, List.set_cons_zero, List.set_cons_succ])
      have F5 := (hbel.alloc hbel.size (.cells #[.int .i64 5, .int .i64 2, .int .i64 (-1000), .int .i64 1000] 174)).drew
      have hB5 := F5.trans (hb5.mono F5.size)
      have P5 := ((hP.alloc (.cells #[.int .i64 5, .int .i64 2, .int .i64 (-1000), .int .i64 1000] 174)).drew).below hb5 (by simp; omega)
      have N5 := ((hN'.alloc (.cells #[.int .i64 5, .int .i64 2, .int .i64 (-1000), .int .i64 1000] 174)).drew).below hb5 (by simp; omega)
      have R5 := ((hR.alloc (.cells #[.int .i64 5, .int .i64 2, .int .i64 (-1000), .int .i64 1000] 174)).drew).below hb5 (by simp; omega)
      have L5 : wr.heap.size < w5.heap.size := by have := hb5.size; simp at this; omega
      have S0 : w5.cell? ⟨wr.heap.size, 0, none⟩ = some (.int .i64 5) := (hb5.cell (p := ⟨wr.heap.size, 0, none⟩) (by simp)).trans (by go_simp)
      have S1 : w5.cell? ⟨wr.heap.size, 1, none⟩ = some (.int .i64 2) := (hb5.cell (p := ⟨wr.heap.size, 1, none⟩) (by simp)).trans (by go_simp)
      have S2 : w5.cell? ⟨wr.heap.size, 2, none⟩ = some (.int .i64 (-1000)) := (hb5.cell (p := ⟨wr.heap.size, 2, none⟩) (by simp)).trans (by go_simp)
      refine mix_call (by rfl) (fun K hK => ?_)
      refine copy_wp (.tmp 28) (.tmp 38) 22 22 rfl 5 Tryz.underlying22 u8_size _ _ _ _ _ _ rfl rfl w1.heap.size 5 (encRow n0 n1 n2 n3 3) 199 P5 (eB.row [UInt8.ofNat n3, UInt8.ofNat (n3 / 256)]) rfl (fun _ => ⟨rfl, _, rfl, Rd.src (o5.rd okB)⟩) (by show 5 + 2 ≤ 7; omega) (okB.row_one _) w.heap.size w hB5 Lp ?_
      intro w6 P6 hB6 hoth
      have N6 : At w6 w3.heap.size 171 #[.int .i64 (n0 : Int), .int .i64 (n1 : Int), .int .i64 (n2 : Int), .int .i64 ((n3 : Int) - 1000)] := (hoth _ (by omega)).trans N5
      have R6 : At w6 (w.heap.size + 1) 30 #[.int .i64 0, .slice none 0 0] := (hoth _ (by omega)).trans R5
      refine hK _ _ _ (fun _ h => h) ⟨(N6.cell 3).trans rfl, (cell_same (hoth _ (by omega))).trans S0, (cell_same (hoth _ (by omega))).trans S1, (cell_same (hoth _ (by omega))).trans S2⟩ ?_
      (try simp only [Act.put, List.setIfInBounds_toArray, List.set_cons_zero, List.set_cons_succ])
      refine mix_nil ?_
      go_wp2
      exact ⟨⟨3 + 1, by omega, by go_num, P6, N6, R6, hB6⟩, by simp [intOf]⟩
    · have hsl := slAll w1.heap.size
      obtain ⟨q0, q1, f0, f1⟩ := hR.two
      have L0 : ¬ w.heap.size + 1 = w1.heap.size := by omega
      go_wp2
      refine bodyPost_ret (v := .agg #[.int .i64 0, .slice (some ⟨w1.heap.size, 0, none⟩) 7 7]) (by simp [results, Tryz.results99, go_sem, q0, q1]) rfl ?_
      refine ⟨_, 7, 7, rfl, ?_, (hbel.setCell (by simp) _).setCell (by simp) _⟩
      have P7 := (hP.far (p := ⟨w.heap.size + 1, 0, none⟩) (fun e => L0 e.symm) (.int .i64 0)).far (p := ⟨w.heap.size + 1, 1, none⟩) (fun e => L0 e.symm) (.slice (some ⟨w1.heap.size, 0, none⟩) 7 7)
      rw [encL_eq]
      exact ⟨rfl, .inr ⟨_, 7, _, rfl, Lp, P7, by omega, by unfold maxLen; omega, rfl, rfl⟩⟩

/-- A code and bytes that lie in an array's block. -/
theorem implEncodeSample (a0 a1 a2 a3 : Int) (w : World) (hF : Flds w) :
    Calls Tryz.prog 99 #[.agg #[.int .i64 a0, .int .i64 a1, .int .i64 a2, .int .i64 a3]] w fun e w' => RetBA (encodeM (a0, a1, a2, a3)) w e w' := by
  rcases faultM_or (a0, a1, a2, a3) with h | h
  · obtain ⟨n0, n1, n2, n3, rfl, rfl, rfl, rfl, k0, k1, k2, k3⟩ := faultM_nat h
    rw [encodeM_nat h]
    exact implEncodeSample_ok n0 n1 n2 n3 w hF h k0 k1 k2 k3
  · have hB0 : Below w.heap.size w ((w.alloc (.cells #[.int .i64 a0, .int .i64 a1, .int .i64 a2, .int .i64 a3] 25)).alloc (.cells #[.int .i64 0, .slice none 0 0] 30)) := ((Below.refl _ _).alloc (Nat.le_refl _) _).alloc (by simp) _
    have r0 := At.new (w.alloc (.cells #[.int .i64 a0, .int .i64 a1, .int .i64 a2, .int .i64 a3] 25)) 30 #[.int .i64 0, .slice none 0 0]
    rw [show (w.alloc (.cells #[.int .i64 a0, .int .i64 a1, .int .i64 a2, .int .i64 a3] 25)).heap.size = w.heap.size + 1 by simp] at r0
    have hq := implSampleFault a0 a1 a2 a3 _ (hF.below hB0)
    rw [h] at hq
    rw [encodeM_no h]
    clear h
    go_enter Tryz.func99, Tryz.ntmps99
    go_wp2_with fail
    refine hq.mono ?_
    rintro e w1 ⟨rfl, hb1⟩
    have hB1 := hB0.trans (hb1.mono hB0.size)
    have r1 := r0.below hb1 r0.lt
    obtain ⟨c0, c1, f0, f1⟩ := r1.two
    go_wp2_with fail
    refine bodyPost_ret (v := .agg #[.int .i64 3, .slice none 0 0]) (by simp [results, Tryz.results99, go_sem, c0, c1]) rfl ?_
    exact ⟨none, 0, 0, rfl, Ow.nil, (hB1.setCell (by simp) _).setCell (by simp) _⟩
end Go.Proofs.YteiclanlhnccnaaGreatDoor
