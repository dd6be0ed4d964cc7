/-
  The model's merging of rows of marks.
-/
import Derived.Test.YtbfjfjocangjeaaMrkS
import Derived.Test.YtbfjfjocangjeaaMrksRes
import Derived.Test.YtbfjfjocangjeaaMix
namespace Go.Proofs.Ytbfjfjocangjeaa
set_option maxRecDepth 20000
open Go.RowKit
set_option linter.unusedSimpArgs false
set_option linter.unusedVariables false
attribute [local irreducible] mixW

/-- A row of the call's own lies in no block of another type. -/
theorem Ow.neBlkMk {α : Type} {E : Enc α} {w : World} {base n c : Nat} {A : Option Addr} {l : List α} {g : Nat} {t : TypeId} {cs : Array Value} (h : Ow E w base A n c l) (hne : E.tid ≠ t) (hx : At w g t cs) : ∀ k, A.map (·.block) = some k → (some g : Option Nat) ≠ some k := by
  intro k hk e
  obtain rfl : g = k := by simpa using e
  rcases h.2 with ⟨h0, _⟩ | ⟨g', cap, cur, hv, hb, hgg, rest⟩
  · simp only [Value.slice.injEq] at h0
    rw [h0.1] at hk
    simp at hk
  · simp only [Value.slice.injEq] at hv
    rw [hv.1] at hk
    obtain rfl : g' = g := by simpa using hk
    unfold At at hx
    rw [hx] at hgg
    simp only [Option.some.injEq, Obj.cells.injEq] at hgg
    exact hne hgg.2.1.symm
theorem Ow.apartMk {α : Type} {E : Enc α} {w : World} {base n c : Nat} {A : Option Addr} {l : List α} {g : Nat} {t : TypeId} {cs : Array Value} (h : Ow E w base A n c l) (hne : E.tid ≠ t) (hx : At w g t cs) (i : Nat) (u : Value) : Ow E (w.setCell ⟨g, i, none⟩ u) base A n c l :=
  h.grown (grown_setCell w ⟨g, i, none⟩ u) (fun k hk => by have := h.neBlkMk hne hx k hk; simpa using this)
/-- A block of another type is left alone where a row of the call's own grows. -/
theorem At.rowGrew {α : Type} {E : Enc α} {w w' : World} {base n c g : Nat} {A : Option Addr} {l : List α} {t : TypeId} {cs : Array Value} (hx : At w g t cs) (h : Ow E w base A n c l) (hne : E.tid ≠ t) (hg : w.grownBy w' (A.map (·.block))) : At w' g t cs :=
  hx.grown hg (fun e => h.neBlkMk hne hx g e rfl)
/-- A row is left alone by what is stored in a block that was laid behind it. -/
theorem Ow.behind {α : Type} {E : Enc α} {w : World} {base n c g : Nat} {A : Option Addr} {l : List α} (h : Ow E w base A n c l) (hb : ∀ k, A.map (·.block) = some k → k < g) (i : Nat) (u : Value) : Ow E (w.setCell ⟨g, i, none⟩ u) base A n c l :=
  h.grown (grown_setCell w ⟨g, i, none⟩ u) (fun k hk e => by have := hb k hk; simp at e; omega)

theorem mergeF_next : ∀ {a b : List Mrk} {k : Nat} {x y : Mrk}, a[k]? = some x → b[k]? = some y → mergeF (a.take (k + 1)) (b.take (k + 1)) = mergeF (a.take k) (b.take k) ++ [maxM x y]
  | [], _, _, _, _, h, _ => by simp at h
  | _ :: _, [], _, _, _, _, h => by simp at h
  | p :: a, q :: b, 0, x, y, h, h' => by
    obtain rfl : p = x := by simpa using h
    obtain rfl : q = y := by simpa using h'
    simp [mergeF]
  | p :: a, q :: b, k + 1, x, y, h, h' => by
    have := mergeF_next (a := a) (b := b) (k := k) (x := x) (y := y) (by simpa using h) (by simpa using h')
    simp only [List.take_succ_cons, mergeF, List.cons_append, this]

theorem ow_mrk (w : World) (a0 a1 : Int) : Ow eMk (w.alloc (.cells #[.int .i64 a0, .int .i64 a1] 25)) w.heap.size (some ⟨w.heap.size, 0, none⟩) 1 1 [(a0, a1)] :=
  Ow.lit w [(a0, a1)] #[.int .i64 a0, .int .i64 a1] 1 (Nat.le_refl _) (by unfold maxLen; omega) rfl rfl

def MgRel (w : World) (a b : List Mrk) (n g4 g7 : Nat) (i : Value) (wr : World) : Prop :=
  ∃ (k : Nat) (A : Option Addr) (c : Nat), k ≤ n ∧ i = .int .i64 k ∧ At wr g4 50 #[.int .i64 0, .slice none 0 0] ∧ At wr g7 50 #[.int .i64 0, .slice A k c] ∧ Ow eMk wr w.heap.size A k c (mergeF (a.take k) (b.take k)) ∧ Below w.heap.size w wr

set_option maxRecDepth 100000 in
set_option maxHeartbeats 2000000 in
theorem specMergeMarks (A B : Option Addr) (n m c d : Nat) (a b : List Mrk) (w : World) (ha : Rd eMk w w.heap.size A a) (hb : Rd eMk w w.heap.size B b) (hn : a.length = n) (hm : b.length = m) :
    Calls Try.prog 37 #[.slice A n c, .slice B m d] w fun e w' => RetMk (mergeMkM a b) w e w' := by
  unfold RetMk
  have Hn := Lib.hid hn
  have Hm := Lib.hid hm
  have hB0 := (Below.refl w.heap.size w).alloc (Nat.le_refl _) (.cells #[.int .i64 0, .slice none 0 0] 50)
  have x0 := At.new w 50 #[.int .i64 0, .slice none 0 0]
  by_cases hbig : 4 < n ∨ 4 < m ∨ n ≠ m
  · have Hr := Lib.hid (show mergeMkM a b = (2, []) by unfold mergeMkM; rw [if_pos (by rw [hn, hm]; exact hbig)])
    clear hn hm
    by_cases h1 : 4 < n
    · have i1 : (4 : Int) < (n : Int) := by omega
      clear hbig
      go_enter Try.func37, Try.ntmps37
      go_wp2
      refine bodyPost_ret (v := .agg #[.int .i64 2, .slice none 0 0]) (by simp [results, Try.results37, go_sem]) rfl ?_
      exact ⟨none, 0, 0, by rw [Hr.out], by rw [Hr.out]; exact Ow.nil, (Below.refl w.heap.size w).alloc (Nat.le_refl _) _⟩
    · have i1 : ¬ (4 : Int) < (n : Int) := by omega
      by_cases h2 : 4 < m
      · have i2 : (4 : Int) < (m : Int) := by omega
        clear hbig
        go_enter Try.func37, Try.ntmps37
        go_wp2
        refine bodyPost_ret (v := .agg #[.int .i64 2, .slice none 0 0]) (by simp [results, Try.results37, go_sem]) rfl ?_
        exact ⟨none, 0, 0, by rw [Hr.out], by rw [Hr.out]; exact Ow.nil, (Below.refl w.heap.size w).alloc (Nat.le_refl _) _⟩
      · have i2 : ¬ (4 : Int) < (m : Int) := by omega
        have i3 : ((n : Int) != (m : Int)) = true := by rw [bne_iff_ne]; omega
        clear hbig
        go_enter Try.func37, Try.ntmps37
        go_wp2
        refine bodyPost_ret (v := .agg #[.int .i64 2, .slice none 0 0]) (by simp [results, Try.results37, go_sem]) rfl ?_
        exact ⟨none, 0, 0, by rw [Hr.out], by rw [Hr.out]; exact Ow.nil, (Below.refl w.heap.size w).alloc (Nat.le_refl _) _⟩
  obtain ⟨h1, h2, h3⟩ : n ≤ 4 ∧ m ≤ 4 ∧ n = m := by omega
  subst h3
  clear hbig h2
  have hnb : ¬ (4 < a.length ∨ 4 < b.length ∨ a.length ≠ b.length) := by rw [hn, hm]; omega
  have i1 : ¬ (4 : Int) < (n : Int) := by omega
  have i3 : ((n : Int) != (n : Int)) = false := by simp
  clear hn hm
  have ha0 := ha.lift hB0
  have hb0 := hb.lift hB0
  by_cases f1 : marksFaultM a = 0
  rotate_left
  · have d1 : (marksFaultM a != 0) = true := by rw [bne_iff_ne]; exact f1
    have Hr := Lib.hid (show mergeMkM a b = (marksFaultM a, []) by unfold mergeMkM; rw [if_neg hnb, if_pos f1])
    clear hnb f1
    go_enter Try.func37, Try.ntmps37
    go_wp2_with fail
    refine (specL7Marks A n c a _ ha0 Hn.out (by omega)).mono ?_
    rintro e w1 ⟨rfl, hb1⟩
    have x1 := x0.below hb1 x0.lt
    have hB1 := hB0.trans (hb1.mono hB0.size)
    obtain ⟨p0, p1, pf0, pf1⟩ := x1.two
    go_wp2
    refine bodyPost_ret (v := .agg #[.int .i64 (marksFaultM a), .slice none 0 0]) (by simp [results, Try.results37, go_sem, p0, p1]) rfl ?_
    refine ⟨none, 0, 0, by rw [Hr.out], by rw [Hr.out]; exact Ow.nil, ?_⟩
    repeat (refine Below.setCell ?_ (by simp) _)
    exact hB1
  have d1 : (marksFaultM a != 0) = false := by rw [f1]; rfl
  by_cases f2 : marksFaultM b = 0
  rotate_left
  · have d2 : (marksFaultM b != 0) = true := by rw [bne_iff_ne]; exact f2
    have Hr := Lib.hid (show mergeMkM a b = (marksFaultM b, []) by unfold mergeMkM; rw [if_neg hnb, if_neg (by simpa using f1), if_pos f2])
    clear hnb f1 f2
    go_enter Try.func37, Try.ntmps37
    go_wp2_with fail
    refine (specL7Marks A n c a _ ha0 Hn.out (by omega)).mono ?_
    rintro e w1 ⟨rfl, hb1⟩
    have x1 := x0.below hb1 x0.lt
    have hB1 := hB0.trans (hb1.mono hB0.size)
    go_wp2_with fail
    refine (specL7Marks B n d b _ (hb0.lift hb1) Hm.out (by omega)).mono ?_
    rintro e w2 ⟨rfl, hb2⟩
    have x2 := x1.below hb2 x1.lt
    have hB2 := hB1.trans (hb2.mono hB1.size)
    obtain ⟨p0, p1, pf0, pf1⟩ := x2.two
    go_wp2
    refine bodyPost_ret (v := .agg #[.int .i64 (marksFaultM b), .slice none 0 0]) (by simp [results, Try.results37, go_sem, p0, p1]) rfl ?_
    refine ⟨none, 0, 0, by rw [Hr.out], by rw [Hr.out]; exact Ow.nil, ?_⟩
    repeat (refine Below.setCell ?_ (by simp) _)
    exact hB2
  have d2 : (marksFaultM b != 0) = false := by rw [f2]; rfl
  have Hr := Lib.hid (show mergeMkM a b = (0, mergeF a b) by unfold mergeMkM; rw [if_neg hnb, if_neg (by simpa using f1), if_neg (by simpa using f2)])
  clear hnb f1 f2
  go_enter Try.func37, Try.ntmps37
  go_wp2_with fail
  refine (specL7Marks A n c a _ ha0 Hn.out (by omega)).mono ?_
  rintro e w1 ⟨rfl, hb1⟩
  have x1 := x0.below hb1 x0.lt
  have hB1 := hB0.trans (hb1.mono hB0.size)
  go_wp2_with fail
  refine (specL7Marks B n d b _ (hb0.lift hb1) Hm.out (by omega)).mono ?_
  rintro e w2 ⟨rfl, hb2⟩
  have x2 := x1.below hb2 x1.lt
  have hB2 := hB1.trans (hb2.mono hB1.size)
  have y3 := At.new w2 50 #[.int .i64 0, .slice none 0 0]
  have x3 := x2.alloc (.cells #[.int .i64 0, .slice none 0 0] 50)
  have hB3 := hB2.alloc hB2.size (.cells #[.int .i64 0, .slice none 0 0] 50)
  have Hg7 := Lib.hid hB2.size
  have Hg47 := Lib.hid x2.lt
  have HaL := ha
  have HbL := hb
  clear ha0 hb0 x0 x1 hB0 hB1 hb1 hb2 x2 hB2
  go_wp2
  generalize w2.heap.size = g7 at *
  go_loopw [8] (fun i wr => MgRel w a b n w.heap.size g7 i wr) (fun i _ => n - (intOf i).toNat)
  case atStart => exact ⟨0, none, 0, Nat.zero_le _, rfl, x3, y3, by simpa [mergeF] using Ow.nil, hB3⟩
  case round =>
    clear x3 y3 hB3
    obtain ⟨k, A1, c1, hk, rfl, z4, z7, ow1, hbel⟩ := hrel
    by_cases hlt : k < n
    · obtain ⟨g, o, a0, a1, rfl, hg, hxk, ca⟩ := (ha.below hbel (Nat.le_refl _)).mrk (k := k) (by rw [Hn.out]; exact hlt)
      obtain ⟨g', o', b0, b1, rfl, hg', hyk, cb⟩ := (hb.below hbel (Nat.le_refl _)).mrk (k := k) (by rw [Hm.out]; exact hlt)
      have Hq := Lib.hid (mergeF_next hxk hyk)
      clear hxk hyk
      have hlo := ow1.len okMk
      have i5 : (k : Int) < (n : Int) := by omega
      have hgg := Hg7.out
      have hgl := Hg47.out
      have z7l := z7.lt
      have z4l := z4.lt
      have hbl := (Below.refl wr.heap.size wr).alloc (Nat.le_refl _) (.cells #[.int .i64 a0, .int .i64 a1] 25)
      have hg2 : g' < wr.heap.size := Nat.lt_of_lt_of_le hg' hbel.size
      have X9 := (At.new wr 25 #[.int .i64 a0, .int .i64 a1]).drew
      have cb9 := (cb.below hbl hg2).drew
      have hB9 := (hbel.alloc hbel.size (.cells #[.int .i64 a0, .int .i64 a1] 25)).drew
      have z79 := (z7.alloc (.cells #[.int .i64 a0, .int .i64 a1] 25)).drew
      have z49 := (z4.alloc (.cells #[.int .i64 a0, .int .i64 a1] 25)).drew
      have ow9 := (ow1.alloc (.cells #[.int .i64 a0, .int .i64 a1] 25)).drewN 1
      obtain ⟨c0, c1'⟩ := ca
      go_wp2
      refine wp_region_mix [(0, false), (1, false), (2, false), (3, false), (4, false), (5, true)] (fun u => S2Mk u g' (o' + k * 2) b0 b1 ∧ At u wr.heap.size 25 #[.int .i64 a0, .int .i64 a1]) (by kernel_rfl) (by kernel_rfl) (fun _ _ _ _ _ h => h) ⟨cb9, X9⟩ ?_
      simp only [mixOps, List.map_cons, List.map_nil, List.getElem?_cons_succ, List.getElem?_cons_zero, Option.getD_some]
      iterate 5
        refine mix_pure (v := ?_) (by rfl) (fun u hu => ?_) ?_
        rotate_left
        · obtain ⟨⟨_, _⟩, hu2⟩ := hu
          obtain ⟨_, _⟩ := hu2.twoC
          go_simp
          (with_reducible rfl)
        (try simp only [Act.put, List.setIfInBounds_toArray, List.set_cons_zero, List.set_cons_succ])
      refine mix_call (by rfl) (fun K hK => ?_)
      go_simp
      refine (specIsStronger b0 b1 a0 a1 _).mono ?_
      rintro e w3 ⟨rfl, hb3⟩
      have X3 := X9.below hb3 X9.lt
      have cb3 := cb9.below hb3 (Nat.lt_of_lt_of_le hg2 (by simp))
      have hB3 := hB9.trans (hb3.mono hB9.size)
      have z73 := z79.below hb3 z79.lt
      have z43 := z49.below hb3 z49.lt
      have ow3 := ow9.below hb3 (Nat.le_refl _)
      refine hK _ _ _ (fun _ h => h) ⟨cb3, X3⟩ ?_
      (try simp only [Act.put, List.setIfInBounds_toArray, List.set_cons_zero, List.set_cons_succ])
      refine mix_nil ?_
      clear c0 c1'
      obtain ⟨m0, m1, mf0, mf1⟩ := X3.two
      obtain ⟨s0, s1, sf0, sf1⟩ := z73.two
      rcases hs : strongM (b0, b1) (a0, a1)
      · have Hx := Lib.hid (show maxM (a0, a1) (b0, b1) = (a0, a1) by unfold maxM; rw [hs]; rfl)
        clear hs
        go_wp2_with (at_builtin; refine wpList_append_ow okMk _ rfl (.tmp 60) (.tmp 62) _ rfl w.heap.size info_mrk Try.underlying46 rfl A1 k c1 _ rfl (ow3.alloc _) _ 1 1 _ [(a0, a1)] rfl ((ow_mrk _ a0 a1).rd okMk) rfl (by unfold maxLen; omega) (by omega) (by have := hB3.size; simp at this ⊢; omega) ?_; intro A5 c5 w5 ow5 hg5 _; have hB5 := (hB3.alloc hB3.size _).grown hg5 (hB3.alloc hB3.size _).size (fun g hg => by have := (ow1.lt g hg).1; omega); have z75 := (z73.alloc _).rowGrew (ow3.alloc _) (by decide) hg5; have z45 := (z43.alloc _).rowGrew (ow3.alloc _) (by decide) hg5; obtain ⟨k70, k71, kf70, kf71⟩ := z75.two)
        refine ⟨⟨k + 1, A5, c5, by omega, by go_num, z45.far (by show w.heap.size ≠ g7; omega) _, by simpa using z75.set 1 (.slice A5 (k + 1) c5), ?_, hB5.setCell (by show w.heap.size ≤ g7; omega) _⟩, by simp [intOf]; omega⟩
        rw [Hq.out, Hx.out]
        exact ow5.apartMk (by decide) z75 1 _
      · have Hx := Lib.hid (show maxM (a0, a1) (b0, b1) = (b0, b1) by unfold maxM; rw [hs]; rfl)
        clear hs
        obtain ⟨t0, t1⟩ := cb3
        have X4 : At ((w3.setCell ⟨wr.heap.size, 0, none⟩ (.int .i64 b0)).setCell ⟨wr.heap.size, 1, none⟩ (.int .i64 b1)) wr.heap.size 25 #[.int .i64 b0, .int .i64 b1] := by simpa using (X3.set 0 (.int .i64 b0)).set 1 (.int .i64 b1)
        have z74 := (z73.far (p := ⟨wr.heap.size, 0, none⟩) (by show g7 ≠ wr.heap.size; omega) (.int .i64 b0)).far (p := ⟨wr.heap.size, 1, none⟩) (by show g7 ≠ wr.heap.size; omega) (.int .i64 b1)
        have z44 := (z43.far (p := ⟨wr.heap.size, 0, none⟩) (by show w.heap.size ≠ wr.heap.size; omega) (.int .i64 b0)).far (p := ⟨wr.heap.size, 1, none⟩) (by show w.heap.size ≠ wr.heap.size; omega) (.int .i64 b1)
        have ow4 := (ow3.behind (g := wr.heap.size) (fun k hk => (ow1.lt k hk).2) 0 (.int .i64 b0)).behind (g := wr.heap.size) (fun k hk => (ow1.lt k hk).2) 1 (.int .i64 b1)
        have hB4 := (hB3.setCell (p := ⟨wr.heap.size, 0, none⟩) hbel.size (.int .i64 b0)).setCell (p := ⟨wr.heap.size, 1, none⟩) hbel.size (.int .i64 b1)
        have mk4 : Ow eMk (((w3.setCell ⟨wr.heap.size, 0, none⟩ (.int .i64 b0)).setCell ⟨wr.heap.size, 1, none⟩ (.int .i64 b1)).alloc (.cells #[.int .i64 b0, .int .i64 b1] 25)) w3.heap.size (some ⟨w3.heap.size, 0, none⟩) 1 1 [(b0, b1)] := by
          have := ow_mrk ((w3.setCell ⟨wr.heap.size, 0, none⟩ (.int .i64 b0)).setCell ⟨wr.heap.size, 1, none⟩ (.int .i64 b1)) b0 b1
          simpa using this
        obtain ⟨n0, n1, nf0, nf1⟩ := X4.two
        obtain ⟨r0, r1, rf0, rf1⟩ := z74.two
        go_wp2_with (at_builtin; refine wpList_append_ow okMk _ rfl (.tmp 60) (.tmp 62) _ rfl w.heap.size info_mrk Try.underlying46 rfl A1 k c1 _ rfl (ow4.alloc _) _ 1 1 _ [(b0, b1)] rfl (mk4.rd okMk) rfl (by unfold maxLen; omega) (by omega) (by have := hB4.size; simp at this ⊢; omega) ?_; intro A5 c5 w5 ow5 hg5 _; have hB5 := (hB4.alloc hB4.size _).grown hg5 (hB4.alloc hB4.size _).size (fun g hg => by have := (ow1.lt g hg).1; omega); have z75 := (z74.alloc _).rowGrew (ow4.alloc _) (by decide) hg5; have z45 := (z44.alloc _).rowGrew (ow4.alloc _) (by decide) hg5; obtain ⟨k70, k71, kf70, kf71⟩ := z75.two)
        refine ⟨⟨k + 1, A5, c5, by omega, by go_num, z45.far (by show w.heap.size ≠ g7; omega) _, by simpa using z75.set 1 (.slice A5 (k + 1) c5), ?_, hB5.setCell (by show w.heap.size ≤ g7; omega) _⟩, by simp [intOf]; omega⟩
        rw [Hq.out, Hx.out]
        exact ow5.apartMk (by decide) z75 1 _
    · obtain rfl : k = n := by omega
      obtain ⟨p0, p1, pf0, pf1⟩ := z4.two
      obtain ⟨q0, q1, qf0, qf1⟩ := z7.two
      have hgg := Hg7.out
      have hgl := Hg47.out
      go_wp2
      refine bodyPost_ret (v := .agg #[.int .i64 0, .slice A1 k c1]) (by simp [results, Try.results37, go_sem, p0, p1]) rfl ?_
      refine ⟨A1, k, c1, by rw [Hr.out], ?_, ?_⟩
      · rw [Hr.out]
        rw [List.take_of_length_le (by rw [Hn.out]; exact Nat.le_refl _), List.take_of_length_le (by rw [Hm.out]; exact Nat.le_refl _)] at ow1
        exact (ow1.apartMk (by decide) z4 0 _).apartMk (by decide) (z4.set 0 _) 1 _
      · repeat (refine Below.setCell ?_ (by simp) _)
        exact hbel
end Go.Proofs.Ytbfjfjocangjeaa
