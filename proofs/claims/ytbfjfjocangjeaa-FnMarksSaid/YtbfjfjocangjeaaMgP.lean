/-
  The program's merging of rows of marks.
-/
import Derived.Test.YtbfjfjocangjeaaMgS
import Derived.Test.YtbfjfjocangjeaaMbQ
import Derived.Test.YtbfjfjocangjeaaConcatM
namespace Go.Proofs.Ytbfjfjocangjeaa
set_option maxRecDepth 20000
open Go.RowKit
set_option linter.unusedSimpArgs false
set_option linter.unusedVariables false
attribute [local irreducible] mixW

theorem S2Mk.far {w : World} {g q : Nat} {a0 a1 : Int} (h : S2Mk w g q a0 a1) {p : Addr} (hp : g ≠ p.block) (u : Value) : S2Mk (w.setCell p u) g q a0 a1 :=
  ⟨(World.cell?_of_block (a := ⟨g, q, none⟩) (w := w) (Below.heap_setCell w p u g hp)).trans h.1, (World.cell?_of_block (a := ⟨g, q + 1, none⟩) (w := w) (Below.heap_setCell w p u g hp)).trans h.2⟩

set_option maxHeartbeats 2000000 in
theorem mergeOne (g2 g3 k n m c d : Nat) (A B : Option Addr) (a b : List Mrk) (x0 x1 y0 y1 : Int) (w : World) (z2 : At w g2 46 #[.slice A n c]) (z3 : At w g3 46 #[.slice B m d])
    (ha : Rd eMk w w.heap.size A a) (hb : Rd eMk w w.heap.size B b) (hk : k < n) (hkm : k < m) (hx : a[k]? = some (x0, x1)) (hy : b[k]? = some (y0, y1)) :
    Calls Try.prog 85 #[.int .i64 (k : Int), .pointer (some ⟨g2, 0, none⟩), .pointer (some ⟨g3, 0, none⟩)] w fun e w' => e = .returned (.agg #[.int .i64 (maxM (x0, x1) (y0, y1)).1, .int .i64 (maxM (x0, x1) (y0, y1)).2]) ∧ Below w.heap.size w w' := by
  obtain ⟨g, o, a0, a1, rfl, hg, hxk, ca⟩ := ha.mrk (k := k) (getElem?_some_lt hx)
  obtain ⟨g', o', b0, b1, rfl, hg', hyk, cb⟩ := hb.mrk (k := k) (getElem?_some_lt hy)
  obtain ⟨rfl, rfl⟩ : a0 = x0 ∧ a1 = x1 := by simpa using Option.some.inj (hxk.symm.trans hx)
  obtain ⟨rfl, rfl⟩ : b0 = y0 ∧ b1 = y1 := by simpa using Option.some.inj (hyk.symm.trans hy)
  clear hxk hyk hx hy ha hb
  have hal := (Below.refl w.heap.size w).alloc (Nat.le_refl _) (.cells #[.int .i64 0, .int .i64 0] 25)
  have i5 : (k : Int) < (n : Int) := by omega
  have i6 : (k : Int) < (m : Int) := by omega
  have l2 := z2.lt
  have l3 := z3.lt
  have r0 := (At.new w 25 #[.int .i64 0, .int .i64 0]).drew
  have z20 := (z2.alloc (.cells #[.int .i64 0, .int .i64 0] 25)).drew
  have z30 := (z3.alloc (.cells #[.int .i64 0, .int .i64 0] 25)).drew
  have ca0 := (ca.below hal hg).drew
  have cb0 := (cb.below hal hg').drew
  have hB0 := hal.drew
  go_enter Try.func85, Try.ntmps85
  go_wp2
  refine wp_region_mix [(0, false), (1, false), (2, false), (3, false), (4, false), (5, false), (6, false), (7, false), (8, true), (9, true)] (fun u => At u g2 46 #[.slice (some ⟨g, o, none⟩) n c] ∧ At u g3 46 #[.slice (some ⟨g', o', none⟩) m d] ∧ S2Mk u g (o + k * 2) a0 a1 ∧ S2Mk u g' (o' + k * 2) b0 b1) (by kernel_rfl) (by kernel_rfl) (fun _ _ _ _ _ h => h) ⟨z20, z30, ca0, cb0⟩ ?_
  simp only [mixOps, List.map_cons, List.map_nil, List.getElem?_cons_succ, List.getElem?_cons_zero, Option.getD_some]
  iterate 8
    refine mix_pure (v := ?_) (by rfl) (fun u hu => ?_) ?_
    rotate_left
    · obtain ⟨hu1, hu2, ⟨_, _⟩, _, _⟩ := hu
      have _ := hu1.cell 0
      have _ := hu2.cell 0
      go_simp
      (with_reducible rfl)
    (try simp only [Act.put, List.setIfInBounds_toArray, List.set_cons_zero, List.set_cons_succ])
  refine mix_call (by rfl) (fun K hK => ?_)
  go_simp
  refine (strongerMark a0 a1 b0 b1 _).mono ?_
  rintro e w1 ⟨rfl, hb1⟩
  have r1 := r0.below hb1 r0.lt
  have z21 := z20.below hb1 z20.lt
  have z31 := z30.below hb1 z30.lt
  have ca1 := ca0.below hb1 (Nat.lt_of_lt_of_le hg hB0.size)
  have cb1 := cb0.below hb1 (Nat.lt_of_lt_of_le hg' hB0.size)
  have hB1 := hB0.trans (hb1.mono hB0.size)
  refine hK _ _ _ (fun _ h => h) ⟨z21, z31, ca1, cb1⟩ ?_
  (try simp only [Act.put, List.setIfInBounds_toArray, List.set_cons_zero, List.set_cons_succ])
  refine mix_call (by rfl) (fun K hK => ?_)
  obtain ⟨q0, q1, qf0, qf1⟩ := r1.two
  go_simp
  refine hK _ _ _ (fun _ h => h) ⟨(z21.far (by show g2 ≠ w.heap.size; omega) _).far (by show g2 ≠ w.heap.size; omega) _, (z31.far (by show g3 ≠ w.heap.size; omega) _).far (by show g3 ≠ w.heap.size; omega) _, (ca1.far (by show g ≠ w.heap.size; omega) _).far (by show g ≠ w.heap.size; omega) _, (cb1.far (by show g' ≠ w.heap.size; omega) _).far (by show g' ≠ w.heap.size; omega) _⟩ ?_
  (try simp only [Act.put, List.setIfInBounds_toArray, List.set_cons_zero, List.set_cons_succ])
  refine mix_nil ?_
  go_wp2
  refine bodyPost_ret (v := .agg #[.int .i64 (maxM (a0, a1) (b0, b1)).1, .int .i64 (maxM (a0, a1) (b0, b1)).2]) (by simp [results, Try.results85, go_sem, q0, q1]) rfl ?_
  refine ⟨rfl, ?_⟩
  repeat (refine Below.setCell ?_ (by simp) _)
  exact hB1

def TellRel (w : World) (a b : List Mrk) (n : Nat) (o i : Value) (wr : World) : Prop :=
  ∃ (k : Nat) (A : Option Addr) (c : Nat), k ≤ n ∧ i = .int .i64 k ∧ o = .slice A k c ∧ Ow eMk wr w.heap.size A k c (mergeF (a.take k) (b.take k)) ∧ Below w.heap.size w wr

set_option maxHeartbeats 2000000 in
theorem tellMarks (g2 g3 n c d : Nat) (A B : Option Addr) (a b : List Mrk) (w : World) (z2 : At w g2 46 #[.slice A n c]) (z3 : At w g3 46 #[.slice B n d])
    (ha : Rd eMk w w.heap.size A a) (hb : Rd eMk w w.heap.size B b) (hn : a.length = n) (hm : b.length = n) (h4 : n ≤ 4) :
    Calls Try.prog 84 #[.int .i64 (n : Int), .func (.func 85) #[] #[.pointer (some ⟨g2, 0, none⟩), .pointer (some ⟨g3, 0, none⟩)]] w fun e w' => ∃ A' c', e = .returned (.slice A' n c') ∧ Ow eMk w' w.heap.size A' n c' (mergeF a b) ∧ Below w.heap.size w w' := by
  have Hn := Lib.hid hn
  have Hm := Lib.hid hm
  clear hn hm
  go_enter Try.func84, Try.ntmps84
  go_wp2
  go_loopw [5, 8] (fun o i wr => TellRel w a b n o i wr) (fun _ i _ => n - (intOf i).toNat)
  case atStart => exact ⟨0, none, 0, Nat.zero_le _, rfl, rfl, by simpa [mergeF] using Ow.nil, Below.refl _ _⟩
  case round =>
    obtain ⟨k, A1, c1, hk, rfl, rfl, ow1, hbel⟩ := hrel
    by_cases hlt : k < n
    · obtain ⟨x0, x1, hxk⟩ : ∃ x0 x1, a[k]? = some (x0, x1) := ⟨(a[k]'(by rw [Hn.out]; exact hlt)).1, (a[k]'(by rw [Hn.out]; exact hlt)).2, List.getElem?_eq_getElem _⟩
      obtain ⟨y0, y1, hyk⟩ : ∃ y0 y1, b[k]? = some (y0, y1) := ⟨(b[k]'(by rw [Hm.out]; exact hlt)).1, (b[k]'(by rw [Hm.out]; exact hlt)).2, List.getElem?_eq_getElem _⟩
      have Hq := Lib.hid (mergeF_next hxk hyk)
      have CL := mergeOne g2 g3 k n n c d A B a b x0 x1 y0 y1 wr (z2.below hbel z2.lt) (z3.below hbel z3.lt) (ha.lift hbel) (hb.lift hbel) hlt hlt hxk hyk
      clear hxk hyk
      rcases hmx : maxM (x0, x1) (y0, y1) with ⟨m0, m1⟩
      rw [hmx] at Hq
      simp only [hmx] at CL
      have i5 : (k : Int) < (n : Int) := by omega
      go_wp2_with (first
        | (go_at_call 85; refine CL.mono ?_; rintro e w1 ⟨rfl, hb1⟩; have hB1 := hbel.trans (hb1.mono hbel.size); have ow2 := ow1.below hb1 (Nat.le_refl _))
        | (at_builtin; refine wpList_append_ow okMk _ rfl (.tmp 11) (.tmp 15) _ rfl w.heap.size info_mrk Try.underlying46 rfl A1 k c1 _ rfl (ow2.alloc _) _ 1 1 _ [(m0, m1)] rfl ((ow_mrk _ m0 m1).rd okMk) rfl (by unfold maxLen; omega) (by omega) (by have := hB1.size; simp at this ⊢; omega) ?_; intro A5 c5 w5 ow5 hg5 _; have hB5 := (hB1.alloc hB1.size _).grown hg5 (hB1.alloc hB1.size _).size (fun g hg => by have := (ow1.lt g hg).1; omega)))
      refine ⟨⟨k + 1, A5, c5, by omega, by go_num, rfl, by rw [Hq.out]; exact ow5, hB5⟩, by simp [intOf]; omega⟩
    · obtain rfl : k = n := by omega
      have hq : mergeF (a.take k) (b.take k) = mergeF a b := by rw [List.take_of_length_le (by rw [Hn.out]; exact Nat.le_refl _), List.take_of_length_le (by rw [Hm.out]; exact Nat.le_refl _)]
      rw [hq] at ow1
      clear hq
      go_wp2
      go_ret
      exact ⟨A1, c1, rfl, ow1, hbel⟩
theorem marks_app (a b : List Mrk) : marksFaultM (a ++ b) = if marksFaultM a ≠ 0 then marksFaultM a else marksFaultM b := by
  induction a with
  | nil => simp [marksFaultM]
  | cons x r ih =>
    simp only [List.cons_append, marksFaultM]
    by_cases h : markFaultM x = 0
    · simp [h, ih]
    · simp [h]

def MfRel (wC : World) (xs : List Mrk) (n : Nat) (i : Value) (wr : World) : Prop :=
  ∃ k : Nat, k ≤ n ∧ i = .int .i64 k ∧ marksFaultM xs = marksFaultM (xs.drop k) ∧ Below wC.heap.size wC wr

set_option maxRecDepth 100000 in
set_option maxHeartbeats 2000000 in
theorem implMergeMarks (A B : Option Addr) (n m c d : Nat) (a b : List Mrk) (w : World) (ha : Rd eMk w w.heap.size A a) (hb : Rd eMk w w.heap.size B b) (hn : a.length = n) (hm : b.length = m) :
    Calls Try.prog 36 #[.slice A n c, .slice B m d] w fun e w' => RetMk (mergeMkM a b) w e w' := by
  unfold RetMk
  have Hn := Lib.hid hn
  have Hm := Lib.hid hm
  have hB0 : Below w.heap.size w (((w.alloc (.cells #[.slice A n c] 46)).alloc (.cells #[.slice B m d] 46)).alloc (.cells #[.int .i64 0, .slice none 0 0] 50)) := (((Below.refl _ _).alloc (Nat.le_refl _) _).alloc (by simp) _).alloc (by simp; omega) _
  have x0 : At (((w.alloc (.cells #[.slice A n c] 46)).alloc (.cells #[.slice B m d] 46)).alloc (.cells #[.int .i64 0, .slice none 0 0] 50)) w.heap.size 46 #[.slice A n c] := ((At.new w 46 #[.slice A n c]).alloc _).alloc _
  have y0 : At (((w.alloc (.cells #[.slice A n c] 46)).alloc (.cells #[.slice B m d] 46)).alloc (.cells #[.int .i64 0, .slice none 0 0] 50)) (w.heap.size + 1) 46 #[.slice B m d] := by
    have := (At.new (w.alloc (.cells #[.slice A n c] 46)) 46 #[.slice B m d]).alloc (.cells #[.int .i64 0, .slice none 0 0] 50)
    simpa using this
  have z0 : At (((w.alloc (.cells #[.slice A n c] 46)).alloc (.cells #[.slice B m d] 46)).alloc (.cells #[.int .i64 0, .slice none 0 0] 50)) (w.heap.size + 2) 50 #[.int .i64 0, .slice none 0 0] := by
    have := At.new ((w.alloc (.cells #[.slice A n c] 46)).alloc (.cells #[.slice B m d] 46)) 50 #[.int .i64 0, .slice none 0 0]
    simpa using this
  by_cases hbig : 4 < n ∨ n ≠ m
  · have Hr := Lib.hid (show mergeMkM a b = (2, []) by unfold mergeMkM; rw [if_pos (by rw [hn, hm]; omega)])
    clear hn hm
    by_cases h1 : 4 < n
    · have i1 : (4 : Int) < (n : Int) := by omega
      clear hbig
      go_enter Try.func36, Try.ntmps36
      go_wp2
      refine bodyPost_ret (v := .agg #[.int .i64 2, .slice none 0 0]) (by simp [results, Try.results36, go_sem]) rfl ?_
      exact ⟨none, 0, 0, by rw [Hr.out], by rw [Hr.out]; exact Ow.nil, ((((Below.refl w.heap.size w).alloc (Nat.le_refl _) _).alloc (by simp) _).alloc (by simp; omega) _)⟩
    · have i1 : ¬ (4 : Int) < (n : Int) := by omega
      have i3 : ((n : Int) != (m : Int)) = true := by rw [bne_iff_ne]; omega
      clear hbig
      go_enter Try.func36, Try.ntmps36
      go_wp2
      refine bodyPost_ret (v := .agg #[.int .i64 2, .slice none 0 0]) (by simp [results, Try.results36, go_sem]) rfl ?_
      exact ⟨none, 0, 0, by rw [Hr.out], by rw [Hr.out]; exact Ow.nil, ((((Below.refl w.heap.size w).alloc (Nat.le_refl _) _).alloc (by simp) _).alloc (by simp; omega) _)⟩
  obtain ⟨h1, h3⟩ : n ≤ 4 ∧ n = m := by omega
  subst h3
  clear hbig
  have hnb : ¬ (4 < a.length ∨ 4 < b.length ∨ a.length ≠ b.length) := by rw [hn, hm]; omega
  have i1 : ¬ (4 : Int) < (n : Int) := by omega
  have i3 : ((n : Int) != (n : Int)) = false := by simp
  have Hr : Hid (mergeMkM a b = if marksFaultM (a ++ b) ≠ 0 then (marksFaultM (a ++ b), []) else (0, mergeF a b)) := Lib.hid (by
    unfold mergeMkM
    rw [if_neg hnb, marks_app]
    by_cases f1 : marksFaultM a = 0
    · simp [f1]
    · simp [f1])
  have HL := Lib.hid (show (a ++ b).length = n + n by rw [List.length_append, hn, hm])
  clear hn hm hnb
  have ha0 := ha.lift hB0
  have hb0 := hb.lift hB0
  have hs0 : (((w.alloc (.cells #[.slice A n c] 46)).alloc (.cells #[.slice B n d] 46)).alloc (.cells #[.int .i64 0, .slice none 0 0] 50)).heap.size = w.heap.size + 1 + 1 + 1 := by simp
  have gg : At ((((w.alloc (.cells #[.slice A n c] 46)).alloc (.cells #[.slice B n d] 46)).alloc (.cells #[.int .i64 0, .slice none 0 0] 50)).alloc (.cells #[.slice A n c, .slice B n d] 46)) (w.heap.size + 1 + 1 + 1) 46 #[.slice A n c, .slice B n d] := by
    have := At.new (((w.alloc (.cells #[.slice A n c] 46)).alloc (.cells #[.slice B n d] 46)).alloc (.cells #[.int .i64 0, .slice none 0 0] 50)) 46 #[.slice A n c, .slice B n d]
    rw [hs0] at this
    exact this
  have hal : Below (((w.alloc (.cells #[.slice A n c] 46)).alloc (.cells #[.slice B n d] 46)).alloc (.cells #[.int .i64 0, .slice none 0 0] 50)).heap.size (((w.alloc (.cells #[.slice A n c] 46)).alloc (.cells #[.slice B n d] 46)).alloc (.cells #[.int .i64 0, .slice none 0 0] 50)) ((((w.alloc (.cells #[.slice A n c] 46)).alloc (.cells #[.slice B n d] 46)).alloc (.cells #[.int .i64 0, .slice none 0 0] 50)).alloc (.cells #[.slice A n c, .slice B n d] 46)) := (Below.refl _ _).alloc (Nat.le_refl _) _
  have hB1 := hB0.alloc hB0.size (.cells #[.slice A n c, .slice B n d] 46)
  have CC := concatM (w.heap.size + 1 + 1 + 1) 2 2 [(A, n, c, a), (B, n, d, b)] ((((w.alloc (.cells #[.slice A n c] 46)).alloc (.cells #[.slice B n d] 46)).alloc (.cells #[.int .i64 0, .slice none 0 0] 50)).alloc (.cells #[.slice A n c, .slice B n d] 46)) (fun i r hr => by
    match i, hr with
    | 0, hr =>
      obtain rfl : (A, n, c, a) = r := by simpa using hr
      exact ⟨gg.cell 0, ha0.lift hal, Hn.out, by show n ≤ 1000; omega⟩
    | 1, hr =>
      obtain rfl : (B, n, d, b) = r := by simpa using hr
      exact ⟨gg.cell 1, hb0.lift hal, Hm.out, by show n ≤ 1000; omega⟩
    | i + 2, hr => simp at hr) (by simp) rfl (by omega)
  rw [show flatM [(A, n, c, a), (B, n, d, b)] = a ++ b by simp [flatM]] at CC
  have x1 := x0.alloc (.cells #[.slice A n c, .slice B n d] 46)
  have y1 := y0.alloc (.cells #[.slice A n c, .slice B n d] 46)
  have z1 := z0.alloc (.cells #[.slice A n c, .slice B n d] 46)
  clear x0 y0 z0 ha0 hb0 hB0 gg hal hs0
  go_enter Try.func36, Try.ntmps36
  go_wp2_with fail
  refine CC.mono ?_
  rintro e wC ⟨A5, L, c5, rfl, ow5, hbC⟩
  have hL : L = n + n := by rw [← HL.out]; exact (ow5.len okMk).symm
  subst hL
  have xC := x1.below hbC x1.lt
  have yC := y1.below hbC y1.lt
  have zC := z1.below hbC z1.lt
  have hBC := hB1.trans (hbC.mono hB1.size)
  have rd5 := ow5.rd okMk
  clear CC x1 y1 z1 hB1 hbC ow5
  go_wp2
  go_loopw [24] (fun i wr => MfRel wC (a ++ b) (n + n) i wr) (fun i _ => n + n - (intOf i).toNat)
  case atStart => exact ⟨0, Nat.zero_le _, by go_num, rfl, Below.refl _ _⟩
  case round =>
    obtain ⟨k, hk, rfl, hal, hbel⟩ := hrel
    have Hal := Lib.hid hal
    clear hal
    by_cases hlt : k < n + n
    · obtain ⟨g, o, a0, a1, rfl, hg, hxk, c0, c1⟩ := (rd5.below hbel (Nat.le_refl _)).mrk (k := k) (by rw [HL.out]; exact hlt)
      have Hd := Lib.hid (marks_drop hxk)
      clear hxk
      have i5 : (k : Int) < (n : Int) + (n : Int) := by omega
      have hl1 := hbel.alloc hbel.size (.cells #[.int .i64 a0, .int .i64 a1] 25)
      by_cases h1 : markFaultM (a0, a1) = 0
      · have d1 : (markFaultM (a0, a1) != 0) = false := by rw [h1]; rfl
        have Hx := Lib.hid (show marksFaultM (a ++ b) = marksFaultM ((a ++ b).drop (k + 1)) by rw [Hal.out, Hd.out, if_neg (by simpa using h1)])
        clear h1
        go_wp2_with fail
        refine (implMarkFault a0 a1 _).mono ?_
        rintro e w1 ⟨rfl, hb1⟩
        have hB1 := hl1.trans (hb1.mono hl1.size)
        clear c0 c1
        go_wp2
        exact ⟨⟨k + 1, by omega, by go_num, Hx.out, hB1⟩, by simp [intOf]; omega⟩
      · have d1 : (markFaultM (a0, a1) != 0) = true := by rw [bne_iff_ne]; exact h1
        have Hx := Lib.hid (show mergeMkM a b = (markFaultM (a0, a1), []) by rw [Hr.out, Hal.out, Hd.out, if_pos h1, if_pos h1])
        clear h1
        go_wp2_with fail
        refine (implMarkFault a0 a1 _).mono ?_
        rintro e w1 ⟨rfl, hb1⟩
        have hB1 := hl1.trans (hb1.mono hl1.size)
        clear c0 c1
        obtain ⟨p0, p1, pf0, pf1⟩ := (zC.below hB1 zC.lt).two
        go_wp2
        refine bodyPost_ret (v := .agg #[.int .i64 (markFaultM (a0, a1)), .slice none 0 0]) (by simp [results, Try.results36, go_sem, p0, p1]) rfl ?_
        refine ⟨none, 0, 0, by rw [Hx.out], by rw [Hx.out]; exact Ow.nil, ?_⟩
        repeat (refine Below.setCell ?_ (by simp <;> omega) _)
        exact hBC.trans (hB1.mono hBC.size)
    · have Hx := Lib.hid (show mergeMkM a b = (0, mergeF a b) by rw [Hr.out, Hal.out, List.drop_eq_nil_of_le (by rw [HL.out]; omega)]; rfl)
      have x2 := xC.below hbel xC.lt
      have y2 := yC.below hbel yC.lt
      have z2 := zC.below hbel zC.lt
      have hB2 := hBC.trans (hbel.mono hBC.size)
      have TM := tellMarks w.heap.size (w.heap.size + 1) n c d A B a b wr x2 y2 (ha.lift hB2) (hb.lift hB2) Hn.out Hm.out h1
      obtain ⟨p0, pf0⟩ : wr.cell? ⟨w.heap.size, 0, none⟩ = some (.slice A n c) ∧ wr.frozen? ⟨w.heap.size, 0, none⟩ = false := ⟨x2.cell 0, x2.frozen 0⟩
      go_wp2_with fail
      refine TM.mono ?_
      rintro e w3 ⟨A6, c6, rfl, ow6, hb3⟩
      have z3 := z2.below hb3 z2.lt
      have hB3 := hB2.trans (hb3.mono hB2.size)
      obtain ⟨q0, q1, qf0, qf1⟩ := z3.two
      go_wp2
      refine bodyPost_ret (v := .agg #[.int .i64 0, .slice A6 n c6]) (by simp [results, Try.results36, go_sem, q0, q1]) rfl ?_
      refine ⟨A6, n, c6, by rw [Hx.out], ?_, ?_⟩
      · rw [Hx.out]
        exact ((ow6.from_ hB2.size).apartMk (by decide) z3 0 _).apartMk (by decide) (z3.set 0 _) 1 _
      · repeat (refine Below.setCell ?_ (by simp <;> omega) _)
        exact hB3
end Go.Proofs.Ytbfjfjocangjeaa
