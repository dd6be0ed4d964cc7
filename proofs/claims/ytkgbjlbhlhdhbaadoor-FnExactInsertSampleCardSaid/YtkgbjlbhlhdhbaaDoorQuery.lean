/-
  What is asked for of a store, and two merged: the model's.
-/
import Derived.Test.YtkgbjlbhlhdhbaaDoorStoreI
namespace Go.Proofs.YtkgbjlbhlhdhbaaDoor
set_option maxRecDepth 20000
open Go.RowKit
set_option linter.unusedSimpArgs false

def wantM (s f t : Int) (x : Smp) : Bool := decide (x.1 = s) && inB (x.2.1, f, t)
def queryM (l : List Smp) (s f t : Int) : List Smp := l.filter (wantM s f t)
theorem query_next {l : List Smp} {k : Nat} {a : Smp} (s f t : Int) (h : l[k]? = some a) : queryM (l.take (k + 1)) s f t = queryM (l.take k) s f t ++ (if wantM s f t a then [a] else []) := by
  unfold queryM
  rw [take_next h, List.filter_append]
  congr 1
  simp [List.filter_cons]
/-- What QueryStore answers. -/
def queryStoreM (l : List Smp) (s f t : Int) : Int × List Smp := if storeFaultM l ≠ 0 then (storeFaultM l, []) else if inB (s, 0, 9) = false then (3, []) else (0, queryM l s f t)

def QueryRel (w : World) (l : List Smp) (s f t : Int) (n : Nat) (o i : Value) (wr : World) : Prop :=
  ∃ (k : Nat) (A : Option Addr) (L c : Nat), k ≤ n ∧ i = .int .i64 k ∧ o = .slice A L c ∧ L ≤ k ∧ Ow eS wr w.heap.size A L c (queryM (l.take k) s f t) ∧ Below w.heap.size w wr

set_option maxHeartbeats 4000000 in
theorem l3Query (A : Option Addr) (n c : Nat) (l : List Smp) (s f t : Int) (w : World) (ha : Rd eS w w.heap.size A l) (hn : l.length = n) (hm : n ≤ 1048576) :
    Calls Tryd.prog 59 #[.slice A n c, .int .i64 s, .int .i64 f, .int .i64 t] w fun e w' => ∃ A' L c', e = .returned (.slice A' L c') ∧ L ≤ n ∧ Ow eS w' w.heap.size A' L c' (queryM l s f t) ∧ Below w.heap.size w w' := by
  have Hn := Lib.hid hn
  clear hn
  have B1 := (Below.refl w.heap.size w).alloc (Nat.le_refl _) (.cells #[] 26)
  have o1 : Ow eS (w.alloc (.cells #[] 26)) w.heap.size (some ⟨w.heap.size, 0, none⟩) 0 0 [] := Ow.lit w [] #[] 0 (Nat.le_refl _) (by unfold maxLen; omega) rfl rfl
  go_enter Tryd.func59, Tryd.ntmps59
  go_wp2
  go_loopw [9, 10] (fun o i wr => QueryRel w l s f t n o i wr) (fun _ i _ => n - (intOf i).toNat)
  case atStart => exact ⟨0, _, 0, 0, Nat.zero_le _, rfl, rfl, Nat.le_refl _, by simpa [queryM] using o1, B1⟩
  case round =>
    obtain ⟨k, A1, L1, c1, hk, rfl, rfl, hL, ow1, hbel⟩ := hrel
    by_cases hlt : k < n
    · obtain ⟨g, o, a0, a1, a2, a3, rfl, hg, hx, ca⟩ := (ha.below hbel (Nat.le_refl _)).smp (k := k) (by rw [Hn.out]; exact hlt)
      have Hq := Lib.hid (query_next s f t hx)
      clear hx
      have hlo := ow1.len okS
      obtain ⟨_, _, _, _⟩ := ca
      by_cases hs : a0 = s
      · subst hs
        have he : (a0 == a0) = true := by simp
        rcases hin : inB (a1, f, t)
        · have Hw := Lib.hid (show wantM a0 f t (a0, a1, a2, a3) = false by simp [wantM, hin])
          go_wp2_with (go_at_call 58; refine (l1In_any _ _ _ _).mono ?_; rintro e w1 ⟨rfl, rfl⟩)
          refine ⟨⟨k + 1, A1, L1, c1, by omega, by go_num, rfl, by omega, ?_, hbel⟩, by simp [intOf]; omega⟩
          rw [Hq.out, Hw.out]
          simpa using ow1
        · have Hw := Lib.hid (show wantM a0 f t (a0, a1, a2, a3) = true by simp [wantM, hin])
          go_wp2_with (first
            | (go_at_call 58; refine (l1In_any _ _ _ _).mono ?_; rintro e w1 ⟨rfl, rfl⟩)
            | (at_builtin; refine wpList_append_ow okS _ rfl (.tmp 35) (.tmp 40) _ rfl w.heap.size info_smp Tryd.underlying24 rfl A1 L1 c1 _ rfl (ow1.alloc _) _ 1 1 _ [(a0, a1, a2, a3)] rfl ((ow_smp _ a0 a1 a2 a3).rd okS) rfl (by unfold maxLen; omega) (by omega) (by have := hbel.size; simp; omega) ?_; intro A5 c5 w5 ow5 hg5 _; have hB5 := (hbel.alloc hbel.size _).grown hg5 (hbel.alloc hbel.size _).size (fun g hg => by have := (ow1.lt g hg).1; omega)))
          refine ⟨⟨k + 1, A5, L1 + 1, c5, by omega, by go_num, rfl, by omega, ?_, hB5⟩, by simp [intOf]; omega⟩
          rw [Hq.out, Hw.out]
          exact ow5
      · have he : (a0 == s) = false := by simpa using hs
        have Hw := Lib.hid (show wantM s f t (a0, a1, a2, a3) = false by simp [wantM, hs])
        clear hs
        go_wp2
        refine ⟨⟨k + 1, A1, L1, c1, by omega, by go_num, rfl, by omega, ?_, hbel⟩, by simp [intOf]; omega⟩
        rw [Hq.out, Hw.out]
        simpa using ow1
    · obtain rfl : n = k := by omega
      rw [show l.take n = l from List.take_of_length_le (by rw [Hn.out]; exact Nat.le_refl _)] at ow1
      go_wp2
      go_ret
      exact ⟨A1, L1, c1, rfl, hL, ow1, hbel⟩

set_option maxRecDepth 100000 in
set_option maxHeartbeats 2000000 in
theorem specQueryStore (A : Option Addr) (n c : Nat) (l : List Smp) (s f t : Int) (w : World) (ha : Rd eS w w.heap.size A l) (hn : l.length = n) (hm : n ≤ 1048576) :
    Calls Tryd.prog 20 #[.slice A n c, .int .i64 s, .int .i64 f, .int .i64 t] w fun e w' => RetSs (queryStoreM l s f t) w e w' := by
  have hB0 : Below w.heap.size w (w.alloc (.cells #[.int .i64 0, .slice none 0 0] 35)) := (Below.refl _ _).alloc (Nat.le_refl _) _
  have r0 := At.new w 35 #[.int .i64 0, .slice none 0 0]
  have ha0 := ha.lift hB0
  have HF := specStoreFault A n c l _ ha0 hn
  by_cases h0 : storeFaultM l = 0
  rotate_left
  · rw [show queryStoreM l s f t = (storeFaultM l, []) from if_pos h0]
    have hne : (storeFaultM l != 0) = true := by rw [bne_iff_ne]; exact h0
    generalize storeFaultM l = sf at *
    clear h0
    go_enter Tryd.func20, Tryd.ntmps20
    go_wp2_with fail
    refine (HF).mono ?_
    rintro e w1 ⟨rfl, hb1⟩
    have hB1 := hB0.trans (hb1.mono hB0.size)
    have r1 := r0.below hb1 r0.lt
    have ha1 := ha0.lift hb1
    obtain ⟨c0, c1, _, _⟩ := r1.two
    go_wp2_with fail
    refine bodyPost_ret (v := .agg #[.int .i64 sf, .slice none 0 0]) (by simp [results, Tryd.results20, go_sem, c0, c1]) rfl ?_
    exact ⟨_, _, _, rfl, Ow.nil, (hB1.setCell (Nat.le_refl _) _).setCell (Nat.le_refl _) _⟩
  rw [h0] at HF
  rcases hin : inB (s, 0, 9)
  · rw [show queryStoreM l s f t = (3, []) by unfold queryStoreM; rw [if_neg (by simp [h0]), if_pos hin]]
    clear h0
    go_enter Tryd.func20, Tryd.ntmps20
    go_wp2_with fail
    refine (HF).mono ?_
    rintro e w1 ⟨rfl, hb1⟩
    have hB1 := hB0.trans (hb1.mono hB0.size)
    have r1 := r0.below hb1 r0.lt
    have ha1 := ha0.lift hb1
    go_wp2_with fail
    refine (l1In_any s 0 9 _).mono ?_
    rintro e w99 ⟨rfl, rfl⟩
    obtain ⟨c0, c1, _, _⟩ := r1.two
    go_wp2_with fail
    refine bodyPost_ret (v := .agg #[.int .i64 3, .slice none 0 0]) (by simp [results, Tryd.results20, go_sem, c0, c1]) rfl ?_
    exact ⟨_, _, _, rfl, Ow.nil, (hB1.setCell (Nat.le_refl _) _).setCell (Nat.le_refl _) _⟩
  · rw [show queryStoreM l s f t = (0, queryM l s f t) by unfold queryStoreM; rw [if_neg (by simp [h0]), if_neg (by simp [hin])]]
    clear h0
    go_enter Tryd.func20, Tryd.ntmps20
    go_wp2_with fail
    refine (HF).mono ?_
    rintro e w1 ⟨rfl, hb1⟩
    have hB1 := hB0.trans (hb1.mono hB0.size)
    have r1 := r0.below hb1 r0.lt
    have ha1 := ha0.lift hb1
    go_wp2_with fail
    refine (l1In_any s 0 9 _).mono ?_
    rintro e w99 ⟨rfl, rfl⟩
    go_wp2_with fail
    refine (l3Query A n c l s f t _ ha1 hn hm).mono ?_
    rintro e w2 ⟨A4, L4, c4, rfl, -, ow4, hb2⟩
    have hB2 := hB1.trans (hb2.mono hB1.size)
    have r2 := r1.below hb2 r1.lt
    have ha2 := ha1.lift hb2
    obtain ⟨c0, c1, _, _⟩ := r2.two
    go_wp2_with fail
    refine bodyPost_ret (v := .agg #[.int .i64 0, .slice A4 L4 c4]) (by simp [results, Tryd.results20, go_sem, c0, c1]) rfl ?_
    exact ⟨_, _, _, rfl, (((ow4.under (p := ⟨w.heap.size, 0, none⟩) r1.lt _).under (p := ⟨w.heap.size, 1, none⟩) r1.lt _).from_ hB1.size), (hB2.setCell (Nat.le_refl _) _).setCell (Nat.le_refl _) _⟩

def mergeStep (a : List Smp) (out : List Smp) (x : Smp) : List Smp := if findI a x < 0 then insM out x else out
def mergeM (a b : List Smp) : List Smp := b.foldl (mergeStep a) a
theorem merge_next {b : List Smp} {k : Nat} {x : Smp} (a : List Smp) (h : b[k]? = some x) : (b.take (k + 1)).foldl (mergeStep a) a = mergeStep a ((b.take k).foldl (mergeStep a) a) x := by
  rw [take_next h, List.foldl_append]
  rfl
/-- What MergeLists answers. -/
def mergeListsM (a b : List Smp) : Int × List Smp := if storeFaultM a ≠ 0 then (storeFaultM a, []) else if storeFaultM b ≠ 0 then (storeFaultM b, []) else if 160 < (mergeM a b).length then (7, []) else (0, mergeM a b)
def MergeRel (w : World) (a b : List Smp) (n m : Nat) (o i : Value) (wr : World) : Prop :=
  ∃ (k : Nat) (A : Option Addr) (L c : Nat), k ≤ m ∧ i = .int .i64 k ∧ o = .slice A L c ∧ L ≤ n + k ∧ Ow eS wr w.heap.size A L c ((b.take k).foldl (mergeStep a) a) ∧ Below w.heap.size w wr

set_option maxHeartbeats 4000000 in
theorem l3Merge (A B : Option Addr) (n m c d : Nat) (a b : List Smp) (w : World) (ha : Rd eS w w.heap.size A a) (hb : Rd eS w w.heap.size B b) (hn : a.length = n) (hm : b.length = m) (hnm : n ≤ 400000) (hmm : m ≤ 400000) :
    Calls Tryd.prog 67 #[.slice A n c, .slice B m d] w fun e w' => ∃ A' L c', e = .returned (.slice A' L c') ∧ L ≤ n + m ∧ Ow eS w' w.heap.size A' L c' (mergeM a b) ∧ Below w.heap.size w w' := by
  have Hn := Lib.hid hn
  have Hm := Lib.hid hm
  clear hm
  go_enter Tryd.func67, Tryd.ntmps67
  go_wp2_with fail
  refine (l3Copy A n c a _ ha hn (by omega)).mono ?_
  rintro e w1 ⟨A0, c0, rfl, ow0, hB0⟩
  clear hn
  go_wp2_with fail
  go_loopw [5, 6] (fun o i wr => MergeRel w a b n m o i wr) (fun _ i _ => m - (intOf i).toNat)
  case atStart => exact ⟨0, _, n, _, Nat.zero_le _, rfl, rfl, Nat.le_refl _, by simpa using ow0, hB0⟩
  case round =>
    obtain ⟨k, A1, L1, c1, hk, rfl, rfl, hL, ow1, hbel⟩ := hrel
    by_cases hlt : k < m
    · obtain ⟨g, o, x0, x1, x2, x3, rfl, hg, hx, ca⟩ := (hb.below hbel (Nat.le_refl _)).smp (k := k) (by rw [Hm.out]; exact hlt)
      have Hq := Lib.hid (merge_next a hx)
      have Hx := Lib.hid hx
      have hlo := ow1.len okS
      clear hx
      have hfi := l3Find A n c a g (o + k * 4) x0 x1 x2 x3 wr ((ha.below hbel (Nat.le_refl _)).more hbel.size) Hn.out (by unfold maxLen; omega) ca (Nat.lt_of_lt_of_le hg hbel.size)
      rcases findI_or a (x0, x1, x2, x3) with hi | ⟨j, hi, _⟩
      · have Hs := Lib.hid (show mergeStep a ((b.take k).foldl (mergeStep a) a) (x0, x1, x2, x3) = insM ((b.take k).foldl (mergeStep a) a) (x0, x1, x2, x3) by unfold mergeStep; rw [if_pos (by rw [hi]; omega)])
        rw [hi] at hfi
        clear hi
        go_wp2_with fail
        refine hfi.mono ?_
        rintro e w2 ⟨rfl, hb2⟩
        have hB2 := hbel.trans (hb2.mono hbel.size)
        have ow2 := ow1.below hb2 (Nat.le_refl _)
        obtain ⟨_, _, _, _⟩ := (hb.below hB2 (Nat.le_refl _)).smp_is Hx.out
        go_wp2_with fail
        refine (l3Insert A1 L1 c1 _ x0 x1 x2 x3 _ (ow2.rd okS) (ow2.len okS) (by omega)).mono ?_
        rintro e w3 ⟨A3, c3, rfl, ow3, hb3⟩
        have hB3 := hB2.trans (hb3.mono hB2.size)
        go_wp2
        refine ⟨⟨k + 1, A3, L1 + 1, c3, by omega, by go_num, rfl, by omega, ?_, hB3⟩, by simp [intOf]; omega⟩
        rw [Hq.out, Hs.out]
        exact ow3.from_ hB2.size
      · have Hs := Lib.hid (show mergeStep a ((b.take k).foldl (mergeStep a) a) (x0, x1, x2, x3) = (b.take k).foldl (mergeStep a) a by unfold mergeStep; rw [if_neg (by rw [hi]; omega)])
        rw [hi] at hfi
        clear hi
        have hj : ¬ (j : Int) < 0 := by omega
        go_wp2_with fail
        refine hfi.mono ?_
        rintro e w2 ⟨rfl, hb2⟩
        have hB2 := hbel.trans (hb2.mono hbel.size)
        have ow2 := ow1.below hb2 (Nat.le_refl _)
        go_wp2
        refine ⟨⟨k + 1, A1, L1, c1, by omega, by go_num, rfl, by omega, ?_, hB2⟩, by simp [intOf]; omega⟩
        rw [Hq.out, Hs.out]
        exact ow2
    · obtain rfl : m = k := by omega
      rw [show b.take m = b from List.take_of_length_le (by rw [Hm.out]; exact Nat.le_refl _)] at ow1
      go_wp2
      go_ret
      exact ⟨A1, L1, c1, rfl, hL, ow1, hbel⟩

set_option maxRecDepth 100000 in
set_option maxHeartbeats 2000000 in
theorem specMergeLists (A B : Option Addr) (n m c d : Nat) (a b : List Smp) (w : World) (ha : Rd eS w w.heap.size A a) (hb : Rd eS w w.heap.size B b) (hn : a.length = n) (hm : b.length = m) :
    Calls Tryd.prog 27 #[.slice A n c, .slice B m d] w fun e w' => RetSs (mergeListsM a b) w e w' := by
  have hB0 : Below w.heap.size w (w.alloc (.cells #[.int .i64 0, .slice none 0 0] 35)) := (Below.refl _ _).alloc (Nat.le_refl _) _
  have r0 := At.new w 35 #[.int .i64 0, .slice none 0 0]
  have ha0 := ha.lift hB0
  have hx0 := hb.lift hB0
  have HF := specStoreFault A n c a _ ha0 hn
  have HG := fun W h => specStoreFault B m d b W h hm
  by_cases h0 : storeFaultM a = 0
  rotate_left
  · rw [show mergeListsM a b = (storeFaultM a, []) from if_pos h0]
    have hne : (storeFaultM a != 0) = true := by rw [bne_iff_ne]; exact h0
    generalize storeFaultM a = sf at *
    clear h0
    go_enter Tryd.func27, Tryd.ntmps27
    go_wp2_with fail
    refine (HF).mono ?_
    rintro e w1 ⟨rfl, hb1⟩
    have hB1 := hB0.trans (hb1.mono hB0.size)
    have r1 := r0.below hb1 r0.lt
    have ha1 := ha0.lift hb1
    have hx1 := hx0.lift hb1
    obtain ⟨c0, c1, _, _⟩ := r1.two
    go_wp2_with fail
    refine bodyPost_ret (v := .agg #[.int .i64 sf, .slice none 0 0]) (by simp [results, Tryd.results27, go_sem, c0, c1]) rfl ?_
    exact ⟨_, _, _, rfl, Ow.nil, (hB1.setCell (Nat.le_refl _) _).setCell (Nat.le_refl _) _⟩
  have n160 := storeFault_zero h0
  rw [h0] at HF
  by_cases h1 : storeFaultM b = 0
  rotate_left
  · rw [show mergeListsM a b = (storeFaultM b, []) by unfold mergeListsM; rw [if_neg (by simp [h0]), if_pos h1]]
    have hne : (storeFaultM b != 0) = true := by rw [bne_iff_ne]; exact h1
    generalize storeFaultM b = sf at *
    clear h0 h1
    go_enter Tryd.func27, Tryd.ntmps27
    go_wp2_with fail
    refine (HF).mono ?_
    rintro e w1 ⟨rfl, hb1⟩
    have hB1 := hB0.trans (hb1.mono hB0.size)
    have r1 := r0.below hb1 r0.lt
    have ha1 := ha0.lift hb1
    have hx1 := hx0.lift hb1
    go_wp2_with fail
    refine (HG _ hx1).mono ?_
    rintro e w2 ⟨rfl, hb2⟩
    have hB2 := hB1.trans (hb2.mono hB1.size)
    have r2 := r1.below hb2 r1.lt
    have ha2 := ha1.lift hb2
    have hx2 := hx1.lift hb2
    obtain ⟨c0, c1, _, _⟩ := r2.two
    go_wp2_with fail
    refine bodyPost_ret (v := .agg #[.int .i64 sf, .slice none 0 0]) (by simp [results, Tryd.results27, go_sem, c0, c1]) rfl ?_
    exact ⟨_, _, _, rfl, Ow.nil, (hB2.setCell (Nat.le_refl _) _).setCell (Nat.le_refl _) _⟩
  have m160 := storeFault_zero h1
  rw [h1] at HG
  have HM := fun W h2 h3 => l3Merge A B n m c d a b W h2 h3 hn hm (by omega) (by omega)
  by_cases hf : 160 < (mergeM a b).length
  · rw [show mergeListsM a b = (7, []) by unfold mergeListsM; rw [if_neg (by simp [h0]), if_neg (by simp [h1]), if_pos hf]]
    clear h0 h1
    go_enter Tryd.func27, Tryd.ntmps27
    go_wp2_with fail
    refine (HF).mono ?_
    rintro e w1 ⟨rfl, hb1⟩
    have hB1 := hB0.trans (hb1.mono hB0.size)
    have r1 := r0.below hb1 r0.lt
    have ha1 := ha0.lift hb1
    have hx1 := hx0.lift hb1
    go_wp2_with fail
    refine (HG _ hx1).mono ?_
    rintro e w2 ⟨rfl, hb2⟩
    have hB2 := hB1.trans (hb2.mono hB1.size)
    have r2 := r1.below hb2 r1.lt
    have ha2 := ha1.lift hb2
    have hx2 := hx1.lift hb2
    go_wp2_with fail
    refine (HM _ ha2 hx2).mono ?_
    rintro e w3 ⟨A4, L4, c4, rfl, -, ow4, hb3⟩
    have hB3 := hB2.trans (hb3.mono hB2.size)
    have r3 := r2.below hb3 r2.lt
    have ha3 := ha2.lift hb3
    have hx3 := hx2.lift hb3
    have hl4 := ow4.len okS
    have hbig : (160 : Int) < (L4 : Int) := by omega
    obtain ⟨c0, c1, _, _⟩ := r3.two
    go_wp2_with fail
    refine bodyPost_ret (v := .agg #[.int .i64 7, .slice none 0 0]) (by simp [results, Tryd.results27, go_sem, c0, c1]) rfl ?_
    exact ⟨_, _, _, rfl, Ow.nil, (hB3.setCell (Nat.le_refl _) _).setCell (Nat.le_refl _) _⟩
  · rw [show mergeListsM a b = (0, mergeM a b) by unfold mergeListsM; rw [if_neg (by simp [h0]), if_neg (by simp [h1]), if_neg hf]]
    clear h0 h1
    go_enter Tryd.func27, Tryd.ntmps27
    go_wp2_with fail
    refine (HF).mono ?_
    rintro e w1 ⟨rfl, hb1⟩
    have hB1 := hB0.trans (hb1.mono hB0.size)
    have r1 := r0.below hb1 r0.lt
    have ha1 := ha0.lift hb1
    have hx1 := hx0.lift hb1
    go_wp2_with fail
    refine (HG _ hx1).mono ?_
    rintro e w2 ⟨rfl, hb2⟩
    have hB2 := hB1.trans (hb2.mono hB1.size)
    have r2 := r1.below hb2 r1.lt
    have ha2 := ha1.lift hb2
    have hx2 := hx1.lift hb2
    go_wp2_with fail
    refine (HM _ ha2 hx2).mono ?_
    rintro e w3 ⟨A4, L4, c4, rfl, -, ow4, hb3⟩
    have hB3 := hB2.trans (hb3.mono hB2.size)
    have r3 := r2.below hb3 r2.lt
    have ha3 := ha2.lift hb3
    have hx3 := hx2.lift hb3
    have hl4 := ow4.len okS
    have hbig : ¬ (160 : Int) < (L4 : Int) := by omega
    obtain ⟨c0, c1, _, _⟩ := r3.two
    go_wp2_with fail
    refine bodyPost_ret (v := .agg #[.int .i64 0, .slice A4 L4 c4]) (by simp [results, Tryd.results27, go_sem, c0, c1]) rfl ?_
    exact ⟨_, _, _, rfl, (((ow4.under (p := ⟨w.heap.size, 0, none⟩) r2.lt _).under (p := ⟨w.heap.size, 1, none⟩) r2.lt _).from_ hB2.size), (hB3.setCell (Nat.le_refl _) _).setCell (Nat.le_refl _) _⟩

theorem queryStore_le (l : List Smp) (s f t : Int) : (queryStoreM l s f t).2.length ≤ l.length := by
  unfold queryStoreM queryM
  repeat (first | split | exact Nat.zero_le _ | exact List.length_filter_le _ _)
theorem mergeLists_le (a b : List Smp) : (mergeListsM a b).2.length ≤ 160 := by
  unfold mergeListsM
  repeat (first | split | exact Nat.zero_le _ | (simp only; omega))
end Go.Proofs.YtkgbjlbhlhdhbaaDoor
