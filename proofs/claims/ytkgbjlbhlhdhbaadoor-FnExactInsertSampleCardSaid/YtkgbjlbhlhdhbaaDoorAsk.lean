/-
  What is asked for of a store: the program's iterator over it, and QueryStore.
-/
import Derived.Test.YtkgbjlbhlhdhbaaDoorSeq
import Derived.Test.YtkgbjlbhlhdhbaaDoorStoreP
import Derived.Test.YtkgbjlbhlhdhbaaDoorQuery
import Derived.Test.YtkgbjlbhlhdhbaaDoorAny
namespace Go.Proofs.YtkgbjlbhlhdhbaaDoor
set_option maxRecDepth 20000
open Go.RowKit Go.Shelf
set_option linter.unusedSimpArgs false
set_option linter.unusedVariables false

attribute [local go_sem] Oper.semAt_some

theorem abides_below {β : Type} {B : Nat} {J : β → World → Prop} (h : AbidesFrom B J) {x : β} {W W' : World} (hJ : J x W) (hb : Below W.heap.size W W') : J x W' := h x W W' none hJ (grown_below hb (Nat.le_refl _)) (fun r e => by cases e)
theorem want_no {s f t a0 a1 a2 a3 : Int} (h : ¬ a0 = s) : wantM s f t (a0, a1, a2, a3) = false := by simp [wantM, h]
theorem want_is {f t a0 a1 a2 a3 : Int} : wantM a0 f t (a0, a1, a2, a3) = inB (a1, f, t) := by simp [wantM]
theorem query_miss {l : List Smp} {k : Nat} {a : Smp} {s f t : Int} (h : l[k]? = some a) (hw : wantM s f t a = false) : queryM (l.take (k + 1)) s f t = queryM (l.take k) s f t := by
  rw [query_next s f t h, hw]
  simp
theorem query_hit {l : List Smp} {k : Nat} {a : Smp} {s f t : Int} (h : l[k]? = some a) (hw : wantM s f t a = true) : queryM (l.take (k + 1)) s f t = queryM (l.take k) s f t ++ [a] := by
  rw [query_next s f t h, hw]
  simp
theorem query_len (l : List Smp) (k : Nat) (s f t : Int) : (queryM (l.take k) s f t).length ≤ k := by
  unfold queryM
  refine Nat.le_trans (List.length_filter_le _ _) ?_
  rw [List.length_take]
  omega

set_option maxRecDepth 100000 in
set_option maxHeartbeats 4000000 in
theorem asked_in (n : Nat) (hn : 1 ≤ n) (l b1 b2 b3 b4 nB m c : Nat) (A : Option Addr) (q : List Smp) (s f t : Int) (J Jx : List Smp → World → Prop)
    (hY : ∀ pre x W, J pre W → pre.length < m → YieldAt Fence.wide (n - 1) Tryd.prog l (encS x) W fun e W' =>
      (e = .returned (.bool true) ∧ J (pre ++ [x]) W' ∧ Kp2 nB W W') ∨ (e = .returned (.bool false) ∧ Jx (pre ++ [x]) W'))
    (W : World) (hJ : AbidesFrom W.heap.size J) (h1 : W.cell? ⟨b1, 0, none⟩ = some (.slice A m c)) (h2 : W.cell? ⟨b2, 0, none⟩ = some (.int .i64 s)) (h3 : W.cell? ⟨b3, 0, none⟩ = some (.int .i64 f)) (h4 : W.cell? ⟨b4, 0, none⟩ = some (.int .i64 t))
    (l1 : b1 < nB) (l2 : b2 < nB) (l3 : b3 < nB) (l4 : b4 < nB) (hnB : nB ≤ W.heap.size) (ha : Rd eS W nB A q) (hm : q.length = m) (hmm : m ≤ 1000) (h0 : J [] W) :
    CallsIn Fence.wide n Tryd.prog 72 #[.func (.yield l) #[] #[], .pointer (some ⟨b1, 0, none⟩), .pointer (some ⟨b2, 0, none⟩), .pointer (some ⟨b3, 0, none⟩), .pointer (some ⟨b4, 0, none⟩)] W fun e W' => (∃ v, e = .returned v) ∧
      ((∃ xs, xs = queryM q s f t ∧ J xs W') ∨ (∃ pre, True ∧ Jx pre W')) := by
  have hro : Fence.wide.round = none := rfl
  have hT : Fence.wide.fn 72 := trivial
  have hT2 : Fence.wide.fn 47 := trivial
  have Hm := Lib.hid hm
  clear hm
  refine callsIn_of_wp Tryd.func72 rfl hT ?_ hro
  simp only [Tryd.ntmps72, List.size_toArray, List.length_cons, List.length_nil, Nat.reduceAdd, Nat.reduceSub, Array.replicate_succ, Array.replicate_zero, List.push_toArray, List.append_toArray, List.nil_append, List.cons_append]
  gi_wp2
  gi_loopw [10] (fun i wr => ∃ k : Nat, k ≤ m ∧ i = .int .i64 k ∧ J (queryM (q.take k) s f t) wr ∧ Below nB W wr) (fun i _ => m - (intOf i).toNat)
  case atStart => exact ⟨0, Nat.zero_le _, rfl, h0, Below.refl _ _⟩
  case round =>
    obtain ⟨k, hk, rfl, hJk, hbel⟩ := hrel
    by_cases hlt : k < m
    · obtain ⟨g, o, a0, a1, a2, a3, rfl, hg, hx, c0, c1, c2, c3⟩ := (ha.below hbel (Nat.le_refl _)).smp (k := k) (by rw [Hm.out]; exact hlt)
      have hwr : nB ≤ wr.heap.size := Nat.le_trans hnB hbel.size
      have m2 : b2 < wr.heap.size := by omega
      have m3 : b3 < wr.heap.size := by omega
      have m4 : b4 < wr.heap.size := by omega
      have d1 := (hbel.cell (p := ⟨b1, 0, none⟩) l1).trans h1
      have d2 := (hbel.cell (p := ⟨b2, 0, none⟩) l2).trans h2
      have d3 := (hbel.cell (p := ⟨b3, 0, none⟩) l3).trans h3
      have d4 := (hbel.cell (p := ⟨b4, 0, none⟩) l4).trans h4
      have hbA := hbel.alloc hwr (.cells #[.int .i64 a0, .int .i64 a1, .int .i64 a2, .int .i64 a3] 26)
      have hJA := abides_below hJ hJk ((Below.refl wr.heap.size wr).alloc (Nat.le_refl _) (.cells #[.int .i64 a0, .int .i64 a1, .int .i64 a2, .int .i64 a3] 26))
      have atX := At.new wr 26 #[.int .i64 a0, .int .i64 a1, .int .i64 a2, .int .i64 a3]
      by_cases hs : a0 = s
      · subst hs
        have hbB := hbA.alloc (Nat.le_trans hwr (by simp)) (.cells #[.int .i64 a1, .int .i64 f, .int .i64 t] 70)
        have hJB := abides_below hJ hJA ((Below.refl (wr.alloc (.cells #[.int .i64 a0, .int .i64 a1, .int .i64 a2, .int .i64 a3] 26)).heap.size _).alloc (Nat.le_refl _) (.cells #[.int .i64 a1, .int .i64 f, .int .i64 t] 70))
        have atXB := atX.alloc (.cells #[.int .i64 a1, .int .i64 f, .int .i64 t] 70)
        have hq := areWithin_any (wr.heap.size + 1) 1 1 [(a1, f, t)] ((wr.alloc (.cells #[.int .i64 a0, .int .i64 a1, .int .i64 a2, .int .i64 a3] 26)).alloc (.cells #[.int .i64 a1, .int .i64 f, .int .i64 t] 70)) (bnds_one (by simp)) (by simp) rfl (by omega)
        rcases hw : inB (a1, f, t)
        · have e1 : [(a1, f, t)].all inB = false := by simp [hw]
          rw [e1] at hq
          have Hw := Lib.hid (query_miss (s := a0) (f := f) (t := t) hx (by rw [want_is, hw]))
          clear hx hw e1
          gi_wp2_with fail
          refine (callsIn_wide.2 hq).mono ?_
          rintro e w1 ⟨rfl, hb1⟩
          have hJ1 := abides_below hJ hJB hb1
          have hB1 := hbB.trans (hb1.mono (Nat.le_trans hwr (by simp; omega)))
          gi_wp2
          refine ⟨fun _ h => (by cases h), ?_⟩
          gi_wp2
          exact ⟨⟨k + 1, by omega, by go_num, by rw [Hw.out]; exact hJ1, hB1⟩, by simp [intOf]; omega⟩
        · have e1 : [(a1, f, t)].all inB = true := by simp [hw]
          rw [e1] at hq
          have Hw := Lib.hid (query_hit (s := a0) (f := f) (t := t) hx (by rw [want_is, hw]))
          have hlen := query_len q k a0 f t
          clear hx hw e1
          gi_wp2_with fail
          refine (callsIn_wide.2 hq).mono ?_
          rintro e w1 ⟨rfl, hb1⟩
          have hJ1 := abides_below hJ hJB hb1
          have hB1 := hbB.trans (hb1.mono (Nat.le_trans hwr (by simp; omega)))
          obtain ⟨x0, x1, x2, x3, _⟩ := (atXB.below hb1 atXB.lt).four
          obtain ⟨fn, tmps, assign, body, hy, hR⟩ := hY _ (a0, a1, a2, a3) w1 hJ1 (by omega)
          dsimp only [encS] at hy
          gi_wp2
          refine hR.mono ?_
          rintro e W3 (⟨rfl, hJ3, hk3⟩ | ⟨rfl, hJx3⟩)
          · have hB3 := hB1.trans hk3.2
            gi_wp2
            exact ⟨⟨k + 1, by omega, by go_num, by rw [Hw.out]; exact hJ3, hB3⟩, by simp [intOf]; omega⟩
          · gi_wp2
            refine bodyPost_ret (results_none rfl _ _ _) rfl ?_
            exact ⟨⟨_, rfl⟩, .inr ⟨_, trivial, hJx3⟩⟩
      · have he : (a0 == s) = false := by simpa using hs
        have Hw := Lib.hid (query_miss (s := s) (f := f) (t := t) hx (want_no hs))
        clear hx hs
        gi_wp2
        refine ⟨fun _ h => (by cases h), ?_⟩
        gi_wp2
        exact ⟨⟨k + 1, by omega, by go_num, by rw [Hw.out]; exact hJA, hbA⟩, by simp [intOf]; omega⟩
    · obtain rfl : m = k := by omega
      have Hq := Lib.hid hJk
      clear hJk
      gi_wp2
      go_end0
      refine ⟨⟨_, rfl⟩, .inl ⟨_, rfl, ?_⟩⟩
      have := Hq.out
      rwa [List.take_of_length_le (by rw [Hm.out]; exact Nat.le_refl _)] at this
/-- askedSamples: its arguments are boxed; the function value captures the boxes. -/
theorem askedSamples (A : Option Addr) (m c : Nat) (s f t : Int) (w : World) :
    Calls Tryd.prog 49 #[.slice A m c, .int .i64 s, .int .i64 f, .int .i64 t] w fun e w' =>
      e = .returned (.func (.func 72) #[] #[.pointer (some ⟨w.heap.size, 0, none⟩), .pointer (some ⟨w.heap.size + 1, 0, none⟩), .pointer (some ⟨w.heap.size + 1 + 1, 0, none⟩), .pointer (some ⟨w.heap.size + 1 + 1 + 1, 0, none⟩)]) ∧
      w' = (((w.alloc (.cells #[.slice A m c] 24)).alloc (.cells #[.int .i64 s] 2)).alloc (.cells #[.int .i64 f] 2)).alloc (.cells #[.int .i64 t] 2) := by
  go_enter Tryd.func49, Tryd.ntmps49
  go_wp2
  go_ret
  exact ⟨rfl, rfl⟩

theorem asked_stops (n : Nat) (hn : 1 ≤ n) (A : Option Addr) (m c : Nat) (q : List Smp) (s f t : Int) (w : World) (ha : Rd eS w w.heap.size A q) (hm : q.length = m) (hmm : m ≤ 1000) (b : Nat) (hb : b = w.heap.size) :
    SeqStopsK Fence.wide n Tryd.prog 72 #[.pointer (some ⟨b, 0, none⟩), .pointer (some ⟨b + 1, 0, none⟩), .pointer (some ⟨b + 1 + 1, 0, none⟩), .pointer (some ⟨b + 1 + 1 + 1, 0, none⟩)] encS (Kp2 (b + 4)) (fun xs => xs = queryM q s f t) (fun _ => True) m
      ((((w.alloc (.cells #[.slice A m c] 24)).alloc (.cells #[.int .i64 s] 2)).alloc (.cells #[.int .i64 f] 2)).alloc (.cells #[.int .i64 t] 2)) := fun l J Jx W hW hJ hJx hY h0 => by
  have s1 : (w.alloc (.cells #[.slice A m c] 24)).heap.size = b + 1 := by simp [hb]
  have s2 : ((w.alloc (.cells #[.slice A m c] 24)).alloc (.cells #[.int .i64 s] 2)).heap.size = b + 1 + 1 := by simp [hb]
  have s3 : (((w.alloc (.cells #[.slice A m c] 24)).alloc (.cells #[.int .i64 s] 2)).alloc (.cells #[.int .i64 f] 2)).heap.size = b + 1 + 1 + 1 := by simp [hb]
  have hs4 : ((((w.alloc (.cells #[.slice A m c] 24)).alloc (.cells #[.int .i64 s] 2)).alloc (.cells #[.int .i64 f] 2)).alloc (.cells #[.int .i64 t] 2)).heap.size = b + 4 := by simp [hb]
  have hs : b + 4 ≤ W.heap.size := hs4 ▸ hW.size
  have e1 := ((((At.new w 24 #[.slice A m c]).alloc (.cells #[.int .i64 s] 2)).alloc (.cells #[.int .i64 f] 2)).alloc (.cells #[.int .i64 t] 2)).below hW (by rw [hs4]; omega)
  have e2 := (((At.newAt' (t := 2) (cs := #[.int .i64 s]) s1).alloc (.cells #[.int .i64 f] 2)).alloc (.cells #[.int .i64 t] 2)).below hW (by rw [hs4]; omega)
  have e3 := ((At.newAt' (t := 2) (cs := #[.int .i64 f]) s2).alloc (.cells #[.int .i64 t] 2)).below hW (by rw [hs4]; omega)
  have e4 := (At.newAt' (t := 2) (cs := #[.int .i64 t]) s3).below hW (by rw [hs4]; omega)
  have hBw : Below w.heap.size w ((((w.alloc (.cells #[.slice A m c] 24)).alloc (.cells #[.int .i64 s] 2)).alloc (.cells #[.int .i64 f] 2)).alloc (.cells #[.int .i64 t] 2)) :=
    ((((Below.refl _ _).alloc (Nat.le_refl _) _).alloc (by simp) _).alloc (by simp; omega) _).alloc (by simp; omega) _
  have haW : Rd eS W (b + 4) A q := (ha.below (hBw.trans (hW.mono (by rw [hs4]; omega))) (Nat.le_refl _)).more (by omega)
  rw [← hb] at e1
  exact asked_in n hn l b (b + 1) (b + 1 + 1) (b + 1 + 1 + 1) (b + 4) m c A q s f t J Jx hY W hJ (e1.cell 0) (e2.cell 0) (e3.cell 0) (e4.cell 0) (by omega) (by omega) (by omega) (by omega) hs haW hm hmm h0

set_option maxRecDepth 100000 in
set_option maxHeartbeats 2000000 in
theorem implQueryStore (A : Option Addr) (n c : Nat) (l : List Smp) (s f t : Int) (w : World) (ha : Rd eS w w.heap.size A l) (hn : l.length = n) (hF : Flds w) :
    Calls Tryd.prog 14 #[.slice A n c, .int .i64 s, .int .i64 f, .int .i64 t] w fun e w' => RetSs (queryStoreM l s f t) w e w' := by
  have hB0 : Below w.heap.size w (w.alloc (.cells #[.int .i64 0, .slice none 0 0] 35)) := (Below.refl _ _).alloc (Nat.le_refl _) _
  have r0 := At.new w 35 #[.int .i64 0, .slice none 0 0]
  have ha0 := ha.lift hB0
  have HF := implStoreFault A n c l _ ha0 hn (hF.below hB0)
  by_cases h0 : storeFaultM l = 0
  rotate_left
  · rw [show queryStoreM l s f t = (storeFaultM l, []) from if_pos h0]
    have hne : (storeFaultM l != 0) = true := by rw [bne_iff_ne]; exact h0
    generalize storeFaultM l = sf at *
    clear h0
    go_enter Tryd.func14, Tryd.ntmps14
    go_wp2_with fail
    refine (HF).mono ?_
    rintro e w1 ⟨rfl, hb1⟩
    have hB1 := hB0.trans (hb1.mono hB0.size)
    have r1 := r0.below hb1 r0.lt
    have ha1 := ha0.lift hb1
    obtain ⟨c0, c1, _, _⟩ := r1.two
    go_wp2_with fail
    refine bodyPost_ret (v := .agg #[.int .i64 sf, .slice none 0 0]) (by simp [results, Tryd.results14, go_sem, c0, c1]) rfl ?_
    exact ⟨_, _, _, rfl, Ow.nil, (hB1.setCell (Nat.le_refl _) _).setCell (Nat.le_refl _) _⟩
  have hsmall : n ≤ 160 := by
    rcases Nat.lt_or_ge 160 n with h | h
    · rw [storeFault_many (by omega)] at h0
      cases h0
    · exact h
  rw [h0] at HF
  have hbd : ∀ W : World, Calls Tryd.prog 47 #[.slice (some ⟨W.heap.size, 0, none⟩) 1 1] (W.alloc (.cells #[.int .i64 s, .int .i64 0, .int .i64 9] 70)) fun e w' => e = .returned (.bool ([(s, 0, 9)].all inB)) ∧ Below (W.alloc (.cells #[.int .i64 s, .int .i64 0, .int .i64 9] 70)).heap.size (W.alloc (.cells #[.int .i64 s, .int .i64 0, .int .i64 9] 70)) w' :=
    fun W => areWithin_any W.heap.size 1 1 [(s, 0, 9)] _ (bnds_one rfl) (by simp) rfl (by omega)
  rcases hin : inB (s, 0, 9)
  · rw [show queryStoreM l s f t = (3, []) by unfold queryStoreM; rw [if_neg (by simp [h0]), if_pos hin]]
    have e1 : [(s, (0 : Int), (9 : Int))].all inB = false := by simp [hin]
    rw [e1] at hbd
    clear h0 e1 hin
    go_enter Tryd.func14, Tryd.ntmps14
    go_wp2_with fail
    refine (HF).mono ?_
    rintro e w1 ⟨rfl, hb1⟩
    have hB1 := hB0.trans (hb1.mono hB0.size)
    have r1 := r0.below hb1 r0.lt
    go_wp2_with fail
    refine (hbd _).mono ?_
    rintro e w2 ⟨rfl, hb2⟩
    have hB1a := hB1.alloc hB1.size (.cells #[.int .i64 s, .int .i64 0, .int .i64 9] 70)
    have hB2 := hB1a.trans (hb2.mono hB1a.size)
    have r2 := (r1.alloc (.cells #[.int .i64 s, .int .i64 0, .int .i64 9] 70)).below hb2 (r1.alloc _).lt
    obtain ⟨c0, c1, _, _⟩ := r2.two
    go_wp2_with fail
    refine bodyPost_ret (v := .agg #[.int .i64 3, .slice none 0 0]) (by simp [results, Tryd.results14, go_sem, c0, c1]) rfl ?_
    exact ⟨_, _, _, rfl, Ow.nil, (hB2.setCell (Nat.le_refl _) _).setCell (Nat.le_refl _) _⟩
  · rw [show queryStoreM l s f t = (0, queryM l s f t) by unfold queryStoreM; rw [if_neg (by simp [h0]), if_neg (by simp [hin])]]
    have e1 : [(s, (0 : Int), (9 : Int))].all inB = true := by simp [hin]
    rw [e1] at hbd
    clear h0 e1 hin
    go_enter Tryd.func14, Tryd.ntmps14
    go_wp2_with fail
    refine (HF).mono ?_
    rintro e w1 ⟨rfl, hb1⟩
    have hB1 := hB0.trans (hb1.mono hB0.size)
    have r1 := r0.below hb1 r0.lt
    have ha1 := ha0.lift hb1
    go_wp2_with fail
    refine (hbd _).mono ?_
    rintro e w2 ⟨rfl, hb2⟩
    have hB1a := hB1.alloc hB1.size (.cells #[.int .i64 s, .int .i64 0, .int .i64 9] 70)
    have hB2 := hB1a.trans (hb2.mono hB1a.size)
    have r2 := (r1.alloc (.cells #[.int .i64 s, .int .i64 0, .int .i64 9] 70)).below hb2 (r1.alloc _).lt
    have ha2 := (ha1.lift ((Below.refl w1.heap.size w1).alloc (Nat.le_refl _) (.cells #[.int .i64 s, .int .i64 0, .int .i64 9] 70))).lift hb2
    go_wp2_with fail
    refine (askedSamples A n c s f t _).mono ?_
    rintro e w3 ⟨rfl, hw3⟩
    have hst := asked_stops 3 (by omega) A n c l s f t w2 ha2 hn (by omega) w2.heap.size rfl
    have hbl : Below w2.heap.size w2 w3 := by
      rw [hw3]
      exact ((((Below.refl _ _).alloc (Nat.le_refl _) _).alloc (by simp) _).alloc (by simp; omega) _).alloc (by simp; omega) _
    have hs3 : w3.heap.size = w2.heap.size + 4 := by rw [hw3]; simp
    rw [← hw3] at hst
    clear hw3
    have hB3 := hB2.trans (hbl.mono hB2.size)
    have r3 := r2.below hbl r2.lt
    go_wp2_with fail
    refine (collectSeq 4 (by omega) _ _ (enters_of Tryd.func72 (by kernel_rfl) rfl) _ _ n (by omega) (w2.heap.size + 4) w3 (by omega) hst).mono ?_
    rintro e w4 ⟨A4, c4, xs, rfl, hxs, ow4, hb4⟩
    subst hxs
    have hB4 := hB3.trans (hb4.mono hB3.size)
    have r4 := r3.below hb4 r3.lt
    obtain ⟨c0, c1, _, _⟩ := r4.two
    have hl3 := r3.lt
    go_wp2_with fail
    refine bodyPost_ret (v := .agg #[.int .i64 0, .slice A4 (queryM l s f t).length c4]) (by simp [results, Tryd.results14, go_sem, c0, c1]) rfl ?_
    exact ⟨_, _, _, rfl, (((ow4.under (p := ⟨w.heap.size, 0, none⟩) hl3 _).under (p := ⟨w.heap.size, 1, none⟩) hl3 _).from_ hB3.size), (hB4.setCell (Nat.le_refl _) _).setCell (Nat.le_refl _) _⟩

theorem hiQueryStore : ∀ (A0 : Option Addr) (m0 e0 : Nat) (q0 : List Smp) (s : Int) (f : Int) (t : Int) (W : World), Rd eS W W.heap.size A0 q0 → q0.length = m0 → m0 ≤ 1048576 → Flds W → Calls Tryd.prog 14 #[.slice A0 m0 e0, .int .i64 s, .int .i64 f, .int .i64 t] W (RetSs (queryStoreM q0 s f t) W) :=
  fun A0 m0 e0 q0 s f t W ha hn _ hF => implQueryStore A0 m0 e0 q0 s f t W ha hn hF
end Go.Proofs.YtkgbjlbhlhdhbaaDoor
