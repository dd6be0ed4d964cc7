/-
  Texts of one proof, joined: each has its own namespace.
-/
import Derived.Test.YtkgbjlbhlhdhbaaDoorBFnMerges7
import Derived.Test.YtkgbjlbhlhdhbaaDoorBFnMerges4
import Derived.Test.YtkgbjlbhlhdhbaaDoorBFnMerges5
/-
  The program's MergeLists and InsertSample.
-/
namespace Go.Proofs.YtkgbjlbhlhdhbaaDoor
set_option maxRecDepth 20000
open Go.RowKit Go.Shelf
set_option linter.unusedSimpArgs false
set_option linter.unusedVariables false

theorem valuesOf (b : Nat) (w : World) :
    Calls Tryd.prog 65 #[.map (some b)] w fun e w' =>
      e = .returned (.func (.func 78) #[] #[.pointer (some ⟨w.heap.size, 0, none⟩)]) ∧ w' = w.alloc (.cells #[.map (some b)] 76) := by
  go_enter Tryd.func65, Tryd.ntmps65
  go_wp2
  go_ret
  exact ⟨rfl, rfl⟩

theorem values_stops (n : Nat) (hn : 1 ≤ n) (b Bm n0 : Nat) (L : List Smp) (w : World) (hs : SMap w b L) (hm : At w Bm 76 #[.map (some b)]) :
    SeqStopsK Fence.wide n Tryd.prog 78 #[.pointer (some ⟨Bm, 0, none⟩)] encS (Kp2 n0) (fun xs => xs.Perm L) (fun _ => True) L.length w := fun l J Jx W hW hJ hJx hY h0 =>
  values_in n hn l Bm b n0 L J Jx hY W hJ ((hm.below hW hm.lt).cell 0) (hs.below hW hs.lt) h0

set_option maxHeartbeats 1000000 in
theorem sortedFunc (b Bm : Nat) (L : List Smp) (w : World) (hs : SMap w b L) (hm : At w Bm 76 #[.map (some b)]) (hL : L.length ≤ 1000) :
    Calls Tryd.prog 64 #[.func (.func 78) #[] #[.pointer (some ⟨Bm, 0, none⟩)], .func (.func 66) #[] #[]] w fun e w' =>
      ∃ A n c ys, e = .returned (.slice A n c) ∧ ys.Perm L ∧ (ys.Pairwise fun x y => aheadM y x = false) ∧ Ow eS w' w.heap.size A n c ys ∧ Below w.heap.size w w' := by
  have hC := collectSeq 4 (by omega) _ _ (enters_of Tryd.func78 (by kernel_rfl) rfl) _ _ L.length hL w.heap.size w (Nat.le_refl _) (values_stops 3 (by omega) b Bm w.heap.size L w hs hm)
  clear hs hm
  go_enter Tryd.func64, Tryd.ntmps64
  go_wp2_with fail
  refine hC.mono ?_
  rintro e w1 ⟨A, c, xs, rfl, hp, ow, hb⟩
  have hS := sortSmp A xs.length c w.heap.size xs w1 ow (by rw [hp.length_eq]; exact hL)
  go_wp2_with fail
  refine hS.mono ?_
  rintro e w2 ⟨rfl, ys, hp2, hpw, ow2, hb2⟩
  have hB2 := hb.trans hb2
  have Hp := Lib.hid (hp2.trans hp)
  clear hC hS hp hp2
  go_wp2
  go_ret
  exact ⟨A, xs.length, c, ys, rfl, Hp.out, hpw, ow2, hB2⟩

theorem flat_two (A B : Option Addr) (n m c d : Nat) (l k : List Smp) : flat [(A, n, c, l), (B, m, d, k)] = l ++ k := by simp [flat]
theorem rows_two {w : World} {T : Nat} {A B : Option Addr} {n m c d : Nat} {l k : List Smp} (ha : Rd eS w w.heap.size A l) (hb : Rd eS w w.heap.size B k) (hn : l.length = n) (hm : k.length = m) (h1 : n ≤ 1000) (h2 : m ≤ 1000) : Rows4 (w.alloc (.cells #[.slice A n c, .slice B m d] T)) w.heap.size [(A, n, c, l), (B, m, d, k)] := fun i r hr => by
  have hB := (Below.refl w.heap.size w).alloc (Nat.le_refl _) (.cells #[.slice A n c, .slice B m d] T)
  match i, hr with
  | 0, hr =>
    obtain rfl : (A, n, c, l) = r := by simpa using hr
    exact ⟨(At.new w T _).cell 0, ha.lift hB, hn, h1⟩
  | 1, hr =>
    obtain rfl : (B, m, d, k) = r := by simpa using hr
    exact ⟨(At.new w T _).cell 1, hb.lift hB, hm, h2⟩
  | i + 2, hr => simp at hr

set_option maxHeartbeats 400000 in
theorem cmpOr64 (g n c : Nat) (l : List Int) (w : World) (hl : Ints w g l) (hn : l.length = n) (hm : n ≤ 1000) :
    Calls Tryd.prog 63 #[.slice (some ⟨g, 0, none⟩) n c] w fun e w' => e = .returned (.int .i64 (orM l)) ∧ w' = w := by
  have Hn := Lib.hid hn
  clear hn
  go_enter Tryd.func63, Tryd.ntmps63
  go_wp2
  go_loopw [8] (fun i wr => OrRel w l n i wr) (fun i _ => n - (intOf i).toNat)
  case atStart => exact ⟨0, Nat.zero_le _, rfl, rfl, rfl⟩
  case round =>
    obtain ⟨k, hk, rfl, hd, rfl⟩ := hrel
    have Hd := Lib.hid hd
    clear hd
    by_cases hlt : k < n
    · have hkl : k < l.length := by rw [Hn.out]; exact hlt
      obtain ⟨x, hx⟩ : ∃ x, l[k]? = some x := ⟨l[k], List.getElem?_eq_getElem hkl⟩
      have hc := hl k x hx
      have Ho := Lib.hid (show orM (l.drop k) = if x = 0 then orM (l.drop (k + 1)) else x by
        rw [List.drop_eq_getElem_cons hkl, orM_cons]
        rw [List.getElem?_eq_getElem hkl] at hx
        rw [Option.some.inj hx])
      clear hx
      by_cases h0 : x = 0
      · subst h0
        go_wp2
        refine ⟨⟨k + 1, by omega, by go_num, ?_, rfl⟩, by simp [intOf]; omega⟩
        have := Ho.out
        rw [if_pos rfl] at this
        rw [← this]
        exact Hd.out
      · have hne : (x != 0) = true := by simpa using h0
        have Hx := Lib.hid (show orM l = x by rw [← Hd.out, Ho.out, if_neg h0])
        clear h0
        go_wp2
        go_ret
        exact ⟨by rw [Hx.out]; rfl, rfl⟩
    · obtain rfl : k = n := by omega
      have Hf := Lib.hid (show orM l = 0 by rw [← Hd.out, List.drop_eq_nil_of_le (Nat.le_of_eq Hn.out)]; rfl)
      go_wp2
      go_ret
      exact ⟨by rw [Hf.out]; rfl, rfl⟩

theorem or_two (x y : Int) : orM [x, y] = if x ≠ 0 then x else y := by
  rw [orM_cons, orM_cons, orM_nil]
  by_cases h : x = 0 <;> by_cases k : y = 0 <;> simp [h, k]
theorem ints_two {w : World} {t : TypeId} {x y : Int} : Ints (w.alloc (.cells #[.int .i64 x, .int .i64 y] t)) w.heap.size [x, y] := by
  have h := At.new w t #[.int .i64 x, .int .i64 y]
  intro k u hk
  match k, hk with
  | 0, hk => obtain rfl : x = u := by simpa using hk
             exact h.cell 0
  | 1, hk => obtain rfl : y = u := by simpa using hk
             exact h.cell 1
  | k + 2, hk => simp at hk
theorem storeFault_small {l : List Smp} (h : storeFaultM l = 0) : l.length ≤ 160 := ((storeFault_iff l).1 h).1
theorem mergeLists_fault {a b : List Smp} (h : orM [storeFaultM a, storeFaultM b] ≠ 0) : mergeListsM a b = (orM [storeFaultM a, storeFaultM b], []) := by
  rw [or_two] at h ⊢
  unfold mergeListsM
  by_cases h1 : storeFaultM a = 0
  · rw [if_neg (by simp [h1])] at h
    rw [if_neg (by simp [h1]), if_pos h, if_neg (by simp [h1])]
  · rw [if_pos h1, if_pos h1]
theorem byKey_len (l : List Smp) : (byKeyM l).length ≤ l.length := by
  have step : ∀ (l acc : List Smp), (l.foldl keyStep acc).length ≤ acc.length + l.length := by
    intro l
    induction l with
    | nil => intro acc; simp
    | cons x l ih =>
      intro acc
      rw [List.foldl_cons]
      have h1 := ih (keyStep acc x)
      have h2 : (keyStep acc x).length ≤ acc.length + 1 := by
        unfold keyStep
        split
        · omega
        · simp
      rw [List.length_cons]
      omega
  have := step l []
  simpa [byKeyM] using this
theorem same_self (x : Smp) : sameKeyM x x = true := (same_iff x x).2 ⟨rfl, rfl, rfl⟩
theorem apart_nodup {l : List Smp} (h : Apart l) : l.Nodup := h.imp fun {a b} k e => by
  subst e
  rw [same_self] at k
  cases k
theorem merge_perm {a b : List Smp} (ha : storeFaultM a = 0) (hb : storeFaultM b = 0) : (mergeM a b).Perm (byKeyM (a ++ b)) := by
  obtain ⟨_, _, sa⟩ := (storeFault_iff a).1 ha
  obtain ⟨_, _, sb⟩ := (storeFault_iff b).1 hb
  refine (List.perm_ext_iff_of_nodup (asc_nodup (merge_asc ha hb)) (apart_nodup (byKey_apart _))).2 fun y => ?_
  rw [mem_both sa sb]
  unfold mergeM
  rw [mem_mergeFold]
theorem or_none {a b : List Smp} (h : orM [storeFaultM a, storeFaultM b] = 0) : storeFaultM a = 0 ∧ storeFaultM b = 0 := by
  rw [or_two] at h
  by_cases h1 : storeFaultM a = 0
  · rw [if_neg (by simp [h1])] at h
    exact ⟨h1, h⟩
  · rw [if_pos h1] at h
    exact absurd h h1

set_option maxRecDepth 100000 in
set_option maxHeartbeats 4000000 in
theorem implMergeLists (A B : Option Addr) (n m c d : Nat) (a b : List Smp) (w : World) (ha : Rd eS w w.heap.size A a) (hb : Rd eS w w.heap.size B b) (hn : a.length = n) (hm : b.length = m) (hF : Flds w) :
    Calls Tryd.prog 26 #[.slice A n c, .slice B m d] w (RetSs (mergeListsM a b) w) := by
  have hB0 : Below w.heap.size w (w.alloc (.cells #[.int .i64 0, .slice none 0 0] 35)) := (Below.refl _ _).alloc (Nat.le_refl _) _
  have r0 := At.new w 35 #[.int .i64 0, .slice none 0 0]
  have ha0 := ha.lift hB0
  have hb0 := hb.lift hB0
  have hF0 := hF.below hB0
  have HFa := implStoreFault A n c a _ ha0 hn hF0
  obtain ⟨fa, hfa⟩ : ∃ fa, storeFaultM a = fa := ⟨_, rfl⟩
  obtain ⟨fb, hfb⟩ : ∃ fb, storeFaultM b = fb := ⟨_, rfl⟩
  rw [hfa] at HFa
  by_cases h0 : orM [fa, fb] = 0
  rotate_left
  · have hres := mergeLists_fault (a := a) (b := b) (by rw [hfa, hfb]; exact h0)
    rw [hfa, hfb] at hres
    rw [hres]
    have hne : (orM [fa, fb] != 0) = true := by rw [bne_iff_ne]; exact h0
    clear hres
    go_enter Tryd.func26, Tryd.ntmps26
    go_wp2_with fail
    refine (HFa).mono ?_
    rintro e w1 ⟨rfl, hb1⟩
    have hB1 := hB0.trans (hb1.mono hB0.size)
    have r1 := r0.below hb1 r0.lt
    have hb1' := hb0.lift hb1
    have HFb := implStoreFault B m d b _ hb1' hm (hF0.below hb1)
    rw [hfb] at HFb
    go_wp2_with fail
    refine (HFb).mono ?_
    rintro e w2 ⟨rfl, hb2⟩
    have hB2 := hB1.trans (hb2.mono hB1.size)
    have r2 := r1.below hb2 r1.lt
    go_wp2_with fail
    refine (cmpOr64 w2.heap.size 2 2 [fa, fb] _ ints_two rfl (by omega)).mono ?_
    rintro e w3 ⟨rfl, rfl⟩
    have hB3 := hB2.alloc hB2.size (.cells #[.int .i64 fa, .int .i64 fb] 2)
    have r3 := r2.alloc (.cells #[.int .i64 fa, .int .i64 fb] 2)
    obtain ⟨c0, c1, _, _⟩ := r3.two
    generalize orM [fa, fb] = sf at *
    go_wp2_with fail
    refine bodyPost_ret (v := .agg #[.int .i64 sf, .slice none 0 0]) (by simp [results, Tryd.results26, go_sem, c0, c1]) rfl ?_
    exact ⟨_, _, _, rfl, Ow.nil, (hB3.setCell (Nat.le_refl _) _).setCell (Nat.le_refl _) _⟩
  obtain ⟨ea, eb⟩ := or_none (a := a) (b := b) (by rw [hfa, hfb]; exact h0)
  have hn160 := storeFault_small ea
  have hm160 := storeFault_small eb
  have hMP := merge_perm ea eb
  have Hres := Lib.hid (show mergeListsM a b = if 160 < (byKeyM (a ++ b)).length then (7, []) else (0, mergeM a b) by
    unfold mergeListsM
    rw [if_neg (by simp [ea]), if_neg (by simp [eb]), hMP.length_eq])
  have hbig : (byKeyM (a ++ b)).length ≤ 1000 := by
    have := byKey_len (a ++ b)
    rw [List.length_append] at this
    omega
  have Hms := Lib.hid (fun (ys : List Smp) (hp : ys.Perm (byKeyM (a ++ b))) hs => merge_is ea eb hp hs)
  rw [hfa] at ea
  rw [hfb] at eb
  subst ea
  subst eb
  rw [hn] at hn160
  rw [hm] at hm160
  clear h0 hMP
  go_enter Tryd.func26, Tryd.ntmps26
  go_wp2_with fail
  refine (HFa).mono ?_
  rintro e w1 ⟨rfl, hb1⟩
  have hB1 := hB0.trans (hb1.mono hB0.size)
  have r1 := r0.below hb1 r0.lt
  have hA1 := ha0.lift hb1
  have hb1' := hb0.lift hb1
  have HFb := implStoreFault B m d b _ hb1' hm (hF0.below hb1)
  rw [hfb] at HFb
  go_wp2_with fail
  refine (HFb).mono ?_
  rintro e w2 ⟨rfl, hb2⟩
  have hB2 := hB1.trans (hb2.mono hB1.size)
  have r2 := r1.below hb2 r1.lt
  have hl3 := (Below.refl w2.heap.size w2).alloc (Nat.le_refl _) (.cells #[.int .i64 0, .int .i64 0] 2)
  have hA3 := (hA1.lift hb2).lift hl3
  have hb3' := (hb1'.lift hb2).lift hl3
  have hO : orM [0, 0] = 0 := rfl
  have hcm := cmpOr64 w2.heap.size 2 2 [0, 0] (w2.alloc (.cells #[.int .i64 0, .int .i64 0] 2)) ints_two rfl (by omega)
  rw [hO] at hcm
  go_wp2_with fail
  refine (hcm).mono ?_
  rintro e w3 ⟨rfl, hw3⟩
  have hB3 := hB2.alloc hB2.size (.cells #[.int .i64 0, .int .i64 0] 2)
  have r3 := r2.alloc (.cells #[.int .i64 0, .int .i64 0] 2)
  rw [← hw3] at hB3 r3 hA3 hb3'
  clear hw3 hl3 hcm hO
  have hR := rows_two (T := 24) (c := c) (d := d) hA3 hb3' hn hm (by omega) (by omega)
  have hB4 := hB3.alloc hB3.size (.cells #[.slice A n c, .slice B m d] 24)
  have r4 := r3.alloc (.cells #[.slice A n c, .slice B m d] 24)
  have hby := byKeyS w3.heap.size 2 2 [(A, n, c, a), (B, m, d, b)] (w3.alloc (.cells #[.slice A n c, .slice B m d] 24)) hR (by simp) rfl (by omega)
  rw [flat_two] at hby
  clear hR
  go_wp2_with fail
  refine (hby).mono ?_
  rintro e w5 ⟨bm, rfl, hcb, hs5, hb5⟩
  have hB5 := hB4.trans (hb5.mono hB4.size)
  have r5 := r4.below hb5 r4.lt
  have hlen := fun ty => hs5.len ty
  obtain ⟨L, hL⟩ : ∃ L, byKeyM (a ++ b) = L := ⟨_, rfl⟩
  rw [hL] at hs5 hlen Hres hbig Hms
  clear hL hby
  by_cases hbg : 160 < L.length
  · have Hbg := Lib.hid hbg
    have hi : (160 : Int) < (L.length : Int) := by omega
    obtain ⟨c0, c1, _, _⟩ := r5.two
    clear hbg
    go_wp2_with fail
    refine bodyPost_ret (v := .agg #[.int .i64 7, .slice none 0 0]) (by simp [results, Tryd.results26, go_sem, c0, c1]) rfl ?_
    rw [Hres.out, if_pos Hbg.out]
    exact ⟨_, _, _, rfl, Ow.nil, (hB5.setCell (Nat.le_refl _) _).setCell (Nat.le_refl _) _⟩
  · have Hbg := Lib.hid hbg
    have hi : (L.length : Int) ≤ 160 := by omega
    clear hbg
    go_wp2_with fail
    refine (valuesOf bm _).mono ?_
    rintro e w6 ⟨rfl, hw6⟩
    have hl6 := (Below.refl w5.heap.size w5).alloc (Nat.le_refl _) (.cells #[.map (some bm)] 76)
    have hm6 := At.new w5 76 #[.map (some bm)]
    have hs6 := hs5.alloc (.cells #[.map (some bm)] 76)
    rw [← hw6] at hl6 hm6 hs6
    have hB6 := hB5.trans (hl6.mono hB5.size)
    have r6 := r5.below hl6 r5.lt
    clear hw6
    go_wp2_with fail
    refine (sortedFunc bm w5.heap.size L w6 hs6 hm6 hbig).mono ?_
    rintro e w7 ⟨A7, n7, c7, ys, rfl, hp, hpw, ow7, hb7⟩
    obtain rfl := Hms.out ys hp hpw
    have hB7 := hB6.trans (hb7.mono hB6.size)
    have r7 := r6.below hb7 r6.lt
    have hl7 := r6.lt
    obtain ⟨c0, c1, _, _⟩ := r7.two
    clear hp hpw
    go_wp2_with fail
    refine bodyPost_ret (v := .agg #[.int .i64 0, .slice A7 n7 c7]) (by simp [results, Tryd.results26, go_sem, c0, c1]) rfl ?_
    rw [Hres.out, if_neg Hbg.out]
    exact ⟨_, _, _, rfl, (((ow7.under (p := ⟨w.heap.size, 0, none⟩) hl7 _).under (p := ⟨w.heap.size, 1, none⟩) hl7 _).from_ hB6.size), (hB7.setCell (Nat.le_refl _) _).setCell (Nat.le_refl _) _⟩

theorem hiMergeLists : ∀ (A0 : Option Addr) (m0 e0 : Nat) (q0 : List Smp) (A1 : Option Addr) (m1 e1 : Nat) (q1 : List Smp)  (W : World), Rd eS W W.heap.size A0 q0 → q0.length = m0 → m0 ≤ 1048576 → Rd eS W W.heap.size A1 q1 → q1.length = m1 → m1 ≤ 1048576 → Flds W → Calls Tryd.prog 26 #[.slice A0 m0 e0, .slice A1 m1 e1] W (RetSs (mergeListsM q0 q1) W) :=
  fun A0 m0 e0 q0 A1 m1 e1 q1 W ha hn _ hb hm _ hF => implMergeLists A0 A1 m0 m1 e0 e1 q0 q1 W ha hb hn hm hF
end Go.Proofs.YtkgbjlbhlhdhbaaDoor
/-
  The law of what is merged: the walk.
-/
namespace Go.Proofs.YtkgbjlbhlhdhbaaDoor
set_option maxRecDepth 20000
open Go.RowKit
set_option linter.unusedSimpArgs false
set_option linter.unusedVariables false

theorem lwBig_no (A : Option Addr) (n c : Nat) (w : World) (h : ¬ 1048576 < n) :
    Calls Tryd.prog 10 #[.slice A n c] w fun e w' => e = .returned (.bool false) ∧ w = w' := by
  have hd : decide ((1048576 : Int) < (n : Int)) = false := decide_eq_false (by omega)
  go_enter Tryd.func10, Tryd.ntmps10
  go_wp2
  go_ret
  exact ⟨rfl, rfl⟩
theorem undrew {w w' : World} {k : Nat} (h : Below (w.drewN k).heap.size (w.drewN k) w') : Below w.heap.size w w' := ⟨h.os, h.tape, h.output, h.size, h.block⟩
theorem fldS0 (z : Int) (A : Option Addr) (k c : Nat) (u : World) : (Instr.field 35 (.agg #[.int .i64 z, .slice A k c]) 0).run Tryd.prog u = .ok (.int .i64 z) u := by kernel_rfl
theorem fldS1 (z : Int) (A : Option Addr) (k c : Nat) (u : World) : (Instr.field 35 (.agg #[.int .i64 z, .slice A k c]) 1).run Tryd.prog u = .ok (.slice A k c) u := by kernel_rfl
theorem fldF0 (z a b c d : Int) (u : World) : (Instr.field 38 (.agg #[.int .i64 z, .int .i64 a, .int .i64 b, .int .i64 c, .int .i64 d]) 0).run Tryd.prog u = .ok (.int .i64 z) u := by kernel_rfl
theorem merge_fault_nil {a b ml : List Smp} {mc : Int} (h : mergeListsM a b = (mc, ml)) (hc : mc ≠ 0) : ml = [] := by
  unfold mergeListsM at h
  split at h
  · exact (Prod.mk.inj h).2.symm
  · split at h
    · exact (Prod.mk.inj h).2.symm
    · split at h
      · exact (Prod.mk.inj h).2.symm
      · exact absurd (Prod.mk.inj h).1.symm hc
theorem merge_small {a b ml : List Smp} {mc : Int} (h : mergeListsM a b = (mc, ml)) : ml.length ≤ 160 := by
  have := mergeLists_le a b
  rw [h] at this
  exact this
theorem lookM_code {m : List Smp} {x : Smp} {z a b c d : Int} (h : lookM m x = (z, a, b, c, d)) (k : (lookM m x).1 = 0) : z = 0 := by
  rw [h] at k
  exact k

set_option maxRecDepth 100000 in
set_option maxHeartbeats 16000000 in
theorem fnMerges_walk (X : Option Addr) (n c : Nat) (l : List UInt8) (w : World) (ha : Rd eB w w.heap.size X l) (hn : l.length = n) (hF : Flds w) :
    Calls Tryd.prog 4 #[.slice X n c] w fun e w' => e = .returned (.bool true) ∧ Below w.heap.size w w' := by
  have Hn := Lib.hid hn
  clear hn
  by_cases hbig : 1048576 < n
  · go_enter Tryd.func4, Tryd.ntmps4
    go_wp2
    go_ret
    exact ⟨rfl, Below.refl _ _⟩
  have hm : n ≤ 1048576 := by omega
  go_enter Tryd.func4, Tryd.ntmps4
  go_wp2_with fail
  refine (lwBig_no X n c w hbig).mono ?_
  rintro e w0 ⟨rfl, rfl⟩
  clear hbig
  go_wp2_with fail
  refine (drawMergeLists X n c l _ ha Hn.out hm).mono ?_
  rintro e w1 ⟨A, B, na, nb, ca, cb, a, b, rfl, hna, hnb, oa, ob, hB1⟩
  have hF1 := hF.below hB1
  have Ha := Lib.hid (oa.len okS)
  have Hb := Lib.hid (ob.len okS)
  have ra := oa.rd okS
  have rb := ob.rd okS
  clear oa ob ha hF
  go_wp2_with fail
  refine (implMergeLists A B na nb ca cb a b _ ra rb Ha.out Hb.out hF1).mono ?_
  rintro e w2 ⟨Am, nm, cm, rfl, om, hb2⟩
  obtain ⟨⟨mc, ml⟩, hM⟩ : ∃ r, mergeListsM a b = r := ⟨_, rfl⟩
  rw [hM] at om
  simp only [hM]
  have HM := Lib.hid hM
  have Hm := Lib.hid (om.len okS)
  have rm := om.rd okS
  have hm160 := merge_small hM
  rw [Hm.out] at hm160
  have hl3 : Below w2.heap.size w2 (w2.alloc (.cells #[.int .i64 mc, .slice Am nm cm] 35)) := (Below.refl _ _).alloc (Nat.le_refl _) _
  have am := At.new w2 35 #[.int .i64 mc, .slice Am nm cm]
  have hB2 := hB1.trans (hb2.mono hB1.size)
  have hB3 := hB2.trans (hl3.mono hB2.size)
  have ra3 := (ra.lift hb2).lift hl3
  have rb3 := (rb.lift hb2).lift hl3
  have rm3 := rm.lift hl3
  have hF3 := (hF1.below hb2).below hl3
  have SM := fun W h1 h2 => specMergeLists A B na nb ca cb a b W h1 h2 Ha.out Hb.out
  rw [hM] at SM
  have SM := Lib.hid SM
  clear hM om hb2 hl3 ra rb rm hF1 hB1 hB2
  skip
  go_wp2_with fail
  have F0 := fldS0
  have F1 := fldS1
  refine wp_region_mix [(0, false), (1, false), (2, false), (3, false), (4, true), (5, false), (6, false), (7, false), (8, false), (9, false), (10, false), (11, false), (12, true), (13, false), (14, true), (15, false), (16, false)] (fun u => At u (w2.heap.size) 35 #[.int .i64 mc, .slice Am nm cm]) (by kernel_rfl) (by kernel_rfl) (fun _ _ _ _ _ h => h) am.drew ?_
  simp only [mixOps, List.map_cons, List.map_nil, List.getElem?_cons_succ, List.getElem?_cons_zero, Option.getD_some]
  repeat (first
    | (refine mix_skip (by rfl) ?_
       (try simp only [Act.put, List.setIfInBounds_toArray, List.set_cons_zero, List.set_cons_succ]))
    | (refine mix_pure (v := ?_) (by rfl) (fun u hu => ?_) ?_
       rotate_left
       · obtain ⟨_, _, _, _⟩ := At.two hu
         go_simp
         (with_reducible rfl)
       (try simp only [Act.put, List.setIfInBounds_toArray, List.set_cons_zero, List.set_cons_succ])))
  refine mix_call (by rfl) (fun K hK => ?_)
  go_simp
  refine (SM.out _ (ra3.drewN 1) (rb3.drewN 1)).mono ?_
  rintro e w4 ⟨As, ns, cs, rfl, -, hb4⟩
  have hb4 := undrew hb4
  have hB4 := hB3.trans (hb4.mono hB3.size)
  have am4 := am.below hb4 am.lt
  have ra4 := ra3.lift hb4
  have rb4 := rb3.lift hb4
  have rm4 := rm3.lift hb4
  have hF4 := hF3.below hb4
  clear hb4 am ra3 rb3 rm3 hF3 hB3
  refine hK _ _ (fun u => At u (w2.heap.size) 35 #[.int .i64 mc, .slice Am nm cm]) (fun _ h => h) am4 ?_
  clear hK K
  (try simp only [Act.put, List.setIfInBounds_toArray, List.set_cons_zero, List.set_cons_succ])
  repeat (first
    | (refine mix_skip (by rfl) ?_
       (try simp only [Act.put, List.setIfInBounds_toArray, List.set_cons_zero, List.set_cons_succ]))
    | (refine mix_pure (v := ?_) (by rfl) (fun u hu => ?_) ?_
       rotate_left
       · obtain ⟨_, _, _, _⟩ := At.two hu
         go_simp
         (with_reducible rfl)
       (try simp only [Act.put, List.setIfInBounds_toArray, List.set_cons_zero, List.set_cons_succ])))
  refine mix_call (by rfl) (fun K hK => ?_)
  go_simp
  refine (SM.out _ ra4 rb4).mono ?_
  rintro e w5 ⟨As', ns', cs', rfl, os, hb5⟩
  have hB5 := hB4.trans (hb5.mono hB4.size)
  have am5 := am4.below hb5 am4.lt
  have ra5 := ra4.lift hb5
  have rb5 := rb4.lift hb5
  have rm5 := rm4.lift hb5
  have hF5 := hF4.below hb5
  have rs5 := os.rd okS
  have hns := os.len okS
  clear hb5 am4 ra4 rb4 rm4 hF4 hB4 os SM
  refine hK _ _ (fun u => At u (w2.heap.size) 35 #[.int .i64 mc, .slice Am nm cm]) (fun _ h => h) am5 ?_
  clear hK K
  (try simp only [Act.put, List.setIfInBounds_toArray, List.set_cons_zero, List.set_cons_succ])
  repeat (first
    | (refine mix_skip (by rfl) ?_
       (try simp only [Act.put, List.setIfInBounds_toArray, List.set_cons_zero, List.set_cons_succ]))
    | (refine mix_pure (v := ?_) (by rfl) (fun u hu => ?_) ?_
       rotate_left
       · obtain ⟨_, _, _, _⟩ := At.two hu
         go_simp
         (with_reducible rfl)
       (try simp only [Act.put, List.setIfInBounds_toArray, List.set_cons_zero, List.set_cons_succ])))
  refine mix_call (by rfl) (fun K hK => ?_)
  go_simp
  refine (implSameSamples Am As' nm ns' cm cs' ml ml _ rm5 rs5 Hm.out hns (by unfold maxLen; omega)).mono ?_
  rintro e w6 ⟨rfl, hb6⟩
  have hB6 := hB5.trans (hb6.mono hB5.size)
  have am6 := am5.below hb6 am5.lt
  have ra6 := ra5.lift hb6
  have rb6 := rb5.lift hb6
  have rm6 := rm5.lift hb6
  have hF6 := hF5.below hb6
  clear hb6 am5 ra5 rb5 rm5 hF5 hB5 rs5 hns
  rw [show decide (ml = ml) = true from decide_eq_true rfl]
  refine hK _ _ (fun u => At u (w2.heap.size) 35 #[.int .i64 mc, .slice Am nm cm]) (fun _ h => h) am6 ?_
  clear hK K
  (try simp only [Act.put, List.setIfInBounds_toArray, List.set_cons_zero, List.set_cons_succ])
  repeat (first
    | (refine mix_skip (by rfl) ?_
       (try simp only [Act.put, List.setIfInBounds_toArray, List.set_cons_zero, List.set_cons_succ]))
    | (refine mix_pure (v := ?_) (by rfl) (fun u hu => ?_) ?_
       rotate_left
       · obtain ⟨_, _, _, _⟩ := At.two hu
         go_simp
         (with_reducible rfl)
       (try simp only [Act.put, List.setIfInBounds_toArray, List.set_cons_zero, List.set_cons_succ])))
  refine mix_nil ?_
  clear F0 F1
  obtain ⟨m0, m1, _, _⟩ := am6.two
  by_cases hc : mc = 0
  rotate_left
  · have hne : (mc != 0) = true := by rw [bne_iff_ne]; exact hc
    have hnil := merge_fault_nil HM.out hc
    obtain rfl : nm = 0 := by rw [← Hm.out, hnil]; rfl
    clear hc hnil
    go_wp2
    go_ret
    exact ⟨rfl, hB6⟩
  subst hc
  obtain ⟨hsf, hin, hfi, hmb, hma⟩ := merge_said HM.out
  have Hsf := Lib.hid hsf
  have Hin := Lib.hid hin
  have Hfi := Lib.hid hfi
  have Hmb := Lib.hid hmb
  have Hma := Lib.hid hma
  clear hsf hin hfi hmb hma
  go_wp2
  go_loopw [6] (fun i wr => ∃ k : Nat, k ≤ na ∧ i = .int .i64 k ∧ Below w6.heap.size w6 wr) (fun i _ => na - (intOf i).toNat)
  case atStart => exact ⟨0, Nat.zero_le _, rfl, Below.refl _ _⟩
  case round =>
    obtain ⟨k, hk, rfl, hbel⟩ := hrel
    have amr := am6.below hbel am6.lt
    have rmr := rm6.lift hbel
    obtain ⟨p0, p1, _, _⟩ := amr.two
    by_cases hlt : k < na
    · obtain ⟨g, o, a0, a1, a2, a3, rfl, hg, hx, cx⟩ := (ra6.below hbel (Nat.le_refl _)).smp (k := k) (by rw [Ha.out]; exact hlt)
      have hmem := Hin.out _ (List.mem_of_getElem? hx)
      have hd : decide ((a0, a1, a2, a3) ∈ ml) = true := decide_eq_true hmem
      have HL := fun W h => lwHas Am nm cm ml a0 a1 a2 a3 W h Hm.out (by unfold maxLen; omega)
      rw [hd] at HL
      clear hmem hd hx
      go_wp2_with fail
      refine wp_region_mix [(0, false), (1, false), (2, false), (3, false), (4, false), (5, false), (6, true), (7, false)] (fun u => (At u (w2.heap.size) 35 #[.int .i64 0, .slice Am nm cm]) ∧ S4 u g (o + k * 4) a0 a1 a2 a3) (by kernel_rfl) (by kernel_rfl) (fun _ _ _ _ _ h => h) ⟨amr.drew, cx.drew⟩ ?_
      simp only [mixOps, List.map_cons, List.map_nil, List.getElem?_cons_succ, List.getElem?_cons_zero, Option.getD_some]
      repeat (first
        | (refine mix_skip (by rfl) ?_
           (try simp only [Act.put, List.setIfInBounds_toArray, List.set_cons_zero, List.set_cons_succ]))
        | (refine mix_pure (v := ?_) (by rfl) (fun u hu => ?_) ?_
           rotate_left
           · obtain ⟨y0, _, _, _, _⟩ := hu
             obtain ⟨_, _, _, _⟩ := y0.two
             go_simp
             (with_reducible rfl)
           (try simp only [Act.put, List.setIfInBounds_toArray, List.set_cons_zero, List.set_cons_succ])))
      refine mix_call (by rfl) (fun K hK => ?_)
      go_simp
      refine (HL _ (rmr.drewN 1)).mono ?_
      rintro e w7 ⟨rfl, hb7⟩
      have hb7 := undrew hb7
      have hB7 := hbel.trans (hb7.mono hbel.size)
      have am7 := amr.below hb7 amr.lt
      have cx7 := cx.below hb7 (Nat.lt_of_lt_of_le hg hbel.size)
      refine hK _ _ (fun u => (At u (w2.heap.size) 35 #[.int .i64 0, .slice Am nm cm]) ∧ S4 u g (o + k * 4) a0 a1 a2 a3) (fun _ h => h) ⟨am7, cx7⟩ ?_
      clear hK K
      (try simp only [Act.put, List.setIfInBounds_toArray, List.set_cons_zero, List.set_cons_succ])
      repeat (first
        | (refine mix_skip (by rfl) ?_
           (try simp only [Act.put, List.setIfInBounds_toArray, List.set_cons_zero, List.set_cons_succ]))
        | (refine mix_pure (v := ?_) (by rfl) (fun u hu => ?_) ?_
           rotate_left
           · obtain ⟨y0, _, _, _, _⟩ := hu
             obtain ⟨_, _, _, _⟩ := y0.two
             go_simp
             (with_reducible rfl)
           (try simp only [Act.put, List.setIfInBounds_toArray, List.set_cons_zero, List.set_cons_succ])))
      refine mix_nil ?_
      go_wp2
      exact ⟨⟨k + 1, by omega, by go_num, hB7⟩, by simp [intOf]; omega⟩
    · obtain rfl : k = na := by omega
      have hB7 := hB6.trans (hbel.mono hB6.size)
      have ra7 := ra6.lift hbel
      have rb7 := rb6.lift hbel
      have hF7 := hF6.below hbel
      clear hbel am6 ra6 rb6 rm6 hF6 hB6 hk hlt m0 m1
      skip
      go_wp2
      skip
      go_loopw [7] (fun i wz => ∃ j : Nat, j ≤ nb ∧ i = .int .i64 j ∧ Below wr.heap.size wr wz) (fun i _ => nb - (intOf i).toNat)
      case atStart => exact ⟨0, Nat.zero_le _, rfl, Below.refl _ _⟩
      case round =>
        obtain ⟨j, hj, rfl, hbel⟩ := hrel
        have ams := amr.below hbel amr.lt
        have rms := rmr.lift hbel
        have hF8 := hF7.below hbel
        obtain ⟨p0, p1, _, _⟩ := ams.two
        by_cases hlt : j < nb
        · obtain ⟨g, o, b0, b1, b2, b3, rfl, hg, hx, cx⟩ := (rb7.below hbel (Nat.le_refl _)).smp (k := j) (by rw [Hb.out]; exact hlt)
          have hc0 := find_said (x := (b0, b1, b2, b3)) Hsf.out (by have := Hfi.out _ (List.mem_of_getElem? hx); omega)
          obtain ⟨z, f0, f1, f2, f3, hlk⟩ : ∃ z f0 f1 f2 f3, lookM ml (b0, b1, b2, b3) = (z, f0, f1, f2, f3) := ⟨_, _, _, _, _, rfl⟩
          obtain rfl := lookM_code hlk hc0
          have FS := fun W h1 h2 => implFindSample Am nm cm ml b0 b1 b2 b3 W h1 Hm.out h2
          rw [hlk] at FS
          have F0 := fldF0
          clear hc0 hlk hx
          go_wp2_with fail
          refine wp_region_mix [(0, false), (1, false), (2, false), (3, false), (4, false), (5, false), (6, true), (7, false), (8, false)] (fun u => (At u (w2.heap.size) 35 #[.int .i64 0, .slice Am nm cm]) ∧ S4 u g (o + j * 4) b0 b1 b2 b3) (by kernel_rfl) (by kernel_rfl) (fun _ _ _ _ _ h => h) ⟨ams.drew, cx.drew⟩ ?_
          simp only [mixOps, List.map_cons, List.map_nil, List.getElem?_cons_succ, List.getElem?_cons_zero, Option.getD_some]
          repeat (first
            | (refine mix_skip (by rfl) ?_
               (try simp only [Act.put, List.setIfInBounds_toArray, List.set_cons_zero, List.set_cons_succ]))
            | (refine mix_pure (v := ?_) (by rfl) (fun u hu => ?_) ?_
               rotate_left
               · obtain ⟨y0, _, _, _, _⟩ := hu
                 obtain ⟨_, _, _, _⟩ := y0.two
                 go_simp
                 (with_reducible rfl)
               (try simp only [Act.put, List.setIfInBounds_toArray, List.set_cons_zero, List.set_cons_succ])))
          refine mix_call (by rfl) (fun K hK => ?_)
          go_simp
          refine (FS _ (rms.drewN 1) hF8).mono ?_
          rintro e w9 ⟨rfl, hb9⟩
          have hb9 := undrew hb9
          have hB9 := hbel.trans (hb9.mono hbel.size)
          have am9 := ams.below hb9 ams.lt
          have cx9 := cx.below hb9 (Nat.lt_of_lt_of_le hg hbel.size)
          refine hK _ _ (fun u => (At u (w2.heap.size) 35 #[.int .i64 0, .slice Am nm cm]) ∧ S4 u g (o + j * 4) b0 b1 b2 b3) (fun _ h => h) ⟨am9, cx9⟩ ?_
          clear hK K
          (try simp only [Act.put, List.setIfInBounds_toArray, List.set_cons_zero, List.set_cons_succ])
          repeat (first
            | (refine mix_skip (by rfl) ?_
               (try simp only [Act.put, List.setIfInBounds_toArray, List.set_cons_zero, List.set_cons_succ]))
            | (refine mix_pure (v := ?_) (by rfl) (fun u hu => ?_) ?_
               rotate_left
               · obtain ⟨y0, _, _, _, _⟩ := hu
                 obtain ⟨_, _, _, _⟩ := y0.two
                 go_simp
                 (with_reducible rfl)
               (try simp only [Act.put, List.setIfInBounds_toArray, List.set_cons_zero, List.set_cons_succ])))
          refine mix_nil ?_
          go_wp2
          exact ⟨⟨j + 1, by omega, by go_num, hB9⟩, by simp [intOf]; omega⟩
        · obtain rfl : j = nb := by omega
          have hB8 := hB7.trans (hbel.mono hB7.size)
          have ra8 := ra7.lift hbel
          have rb8 := rb7.lift hbel
          clear hbel amr ra7 rb7 rmr hF7 hB7 hj hlt
          have HSF := fun W h1 h2 => implStoreFault Am nm cm ml W h1 Hm.out h2
          rw [Hsf.out] at HSF
          have HMB := fun W h1 h2 h3 => implMergeLists Am B nm j cm cb ml b W h1 h2 Hm.out Hb.out h3
          rw [Hmb.out] at HMB
          have HMA := fun W h1 h2 h3 => implMergeLists Am A nm k cm ca ml a W h1 h2 Hm.out Ha.out h3
          rw [Hma.out] at HMA
          have F1 := fldS1
          go_wp2_with fail
          refine wp_region_mix [(0, false), (1, false), (2, true), (3, false), (4, false), (5, false), (6, false), (7, false), (10, false), (11, false), (8, true), (9, false), (12, true), (13, false), (14, false), (15, false), (16, false), (17, false), (20, false), (21, false), (18, true), (19, false), (22, true), (23, false), (24, false)] (fun u => At u (w2.heap.size) 35 #[.int .i64 0, .slice Am nm cm]) (by kernel_rfl) (by kernel_rfl) (fun _ _ _ _ _ h => h) ams.drew ?_
          simp only [mixOps, List.map_cons, List.map_nil, List.getElem?_cons_succ, List.getElem?_cons_zero, Option.getD_some]
          repeat (first
            | (refine mix_skip (by rfl) ?_
               (try simp only [Act.put, List.setIfInBounds_toArray, List.set_cons_zero, List.set_cons_succ]))
            | (refine mix_pure (v := ?_) (by rfl) (fun u hu => ?_) ?_
               rotate_left
               · obtain ⟨_, _, _, _⟩ := At.two hu
                 go_simp
                 (with_reducible rfl)
               (try simp only [Act.put, List.setIfInBounds_toArray, List.set_cons_zero, List.set_cons_succ])))
          refine mix_call (by rfl) (fun K hK => ?_)
          go_simp
          refine (HSF _ (rms.drewN 1) hF8).mono ?_
          rintro e w9 ⟨rfl, hb9⟩
          have hb9 := undrew hb9
          have hB9 := hB8.trans (hb9.mono hB8.size)
          have am9 := ams.below hb9 ams.lt
          have ra9 := ra8.lift hb9
          have rb9 := rb8.lift hb9
          have rm9 := rms.lift hb9
          have hF9 := hF8.below hb9
          refine hK _ _ (fun u => At u (w2.heap.size) 35 #[.int .i64 0, .slice Am nm cm]) (fun _ h => h) am9 ?_
          clear hK K
          (try simp only [Act.put, List.setIfInBounds_toArray, List.set_cons_zero, List.set_cons_succ])
          repeat (first
            | (refine mix_skip (by rfl) ?_
               (try simp only [Act.put, List.setIfInBounds_toArray, List.set_cons_zero, List.set_cons_succ]))
            | (refine mix_pure (v := ?_) (by rfl) (fun u hu => ?_) ?_
               rotate_left
               · obtain ⟨_, _, _, _⟩ := At.two hu
                 go_simp
                 (with_reducible rfl)
               (try simp only [Act.put, List.setIfInBounds_toArray, List.set_cons_zero, List.set_cons_succ])))
          refine mix_call (by rfl) (fun K hK => ?_)
          go_simp
          refine (HMB _ rm9 rb9 hF9).mono ?_
          rintro e w10 ⟨Ap, np, cp, rfl, op, hb10⟩
          have hB10 := hB9.trans (hb10.mono hB9.size)
          have am10 := am9.below hb10 am9.lt
          have ra10 := ra9.lift hb10
          have rb10 := rb9.lift hb10
          have rm10 := rm9.lift hb10
          have hF10 := hF9.below hb10
          have rp := op.rd okS
          have lp := op.len okS
          refine hK _ _ (fun u => At u (w2.heap.size) 35 #[.int .i64 0, .slice Am nm cm]) (fun _ h => h) am10 ?_
          clear hK K
          (try simp only [Act.put, List.setIfInBounds_toArray, List.set_cons_zero, List.set_cons_succ])
          repeat (first
            | (refine mix_skip (by rfl) ?_
               (try simp only [Act.put, List.setIfInBounds_toArray, List.set_cons_zero, List.set_cons_succ]))
            | (refine mix_pure (v := ?_) (by rfl) (fun u hu => ?_) ?_
               rotate_left
               · obtain ⟨_, _, _, _⟩ := At.two hu
                 go_simp
                 (with_reducible rfl)
               (try simp only [Act.put, List.setIfInBounds_toArray, List.set_cons_zero, List.set_cons_succ])))
          refine mix_call (by rfl) (fun K hK => ?_)
          go_simp
          refine (implSameSamples Ap Am np nm cp cm ml ml _ rp rm10 lp Hm.out (by have := Hm.out; unfold maxLen; dsimp only at lp; omega)).mono ?_
          rintro e w11 ⟨rfl, hb11⟩
          have hB11 := hB10.trans (hb11.mono hB10.size)
          have am11 := am10.below hb11 am10.lt
          have ra11 := ra10.lift hb11
          have rb11 := rb10.lift hb11
          have rm11 := rm10.lift hb11
          have hF11 := hF10.below hb11
          rw [show decide (ml = ml) = true from decide_eq_true rfl]
          refine hK _ _ (fun u => At u (w2.heap.size) 35 #[.int .i64 0, .slice Am nm cm]) (fun _ h => h) am11 ?_
          clear hK K
          (try simp only [Act.put, List.setIfInBounds_toArray, List.set_cons_zero, List.set_cons_succ])
          repeat (first
            | (refine mix_skip (by rfl) ?_
               (try simp only [Act.put, List.setIfInBounds_toArray, List.set_cons_zero, List.set_cons_succ]))
            | (refine mix_pure (v := ?_) (by rfl) (fun u hu => ?_) ?_
               rotate_left
               · obtain ⟨_, _, _, _⟩ := At.two hu
                 go_simp
                 (with_reducible rfl)
               (try simp only [Act.put, List.setIfInBounds_toArray, List.set_cons_zero, List.set_cons_succ])))
          refine mix_call (by rfl) (fun K hK => ?_)
          go_simp
          refine (HMA _ rm11 ra11 hF11).mono ?_
          rintro e w12 ⟨Aq, nq, cq, rfl, oq, hb12⟩
          have hB12 := hB11.trans (hb12.mono hB11.size)
          have am12 := am11.below hb12 am11.lt
          have ra12 := ra11.lift hb12
          have rb12 := rb11.lift hb12
          have rm12 := rm11.lift hb12
          have hF12 := hF11.below hb12
          have rq := oq.rd okS
          have lq := oq.len okS
          refine hK _ _ (fun u => At u (w2.heap.size) 35 #[.int .i64 0, .slice Am nm cm]) (fun _ h => h) am12 ?_
          clear hK K
          (try simp only [Act.put, List.setIfInBounds_toArray, List.set_cons_zero, List.set_cons_succ])
          repeat (first
            | (refine mix_skip (by rfl) ?_
               (try simp only [Act.put, List.setIfInBounds_toArray, List.set_cons_zero, List.set_cons_succ]))
            | (refine mix_pure (v := ?_) (by rfl) (fun u hu => ?_) ?_
               rotate_left
               · obtain ⟨_, _, _, _⟩ := At.two hu
                 go_simp
                 (with_reducible rfl)
               (try simp only [Act.put, List.setIfInBounds_toArray, List.set_cons_zero, List.set_cons_succ])))
          refine mix_call (by rfl) (fun K hK => ?_)
          go_simp
          refine (implSameSamples Aq Am nq nm cq cm ml ml _ rq rm12 lq Hm.out (by have := Hm.out; unfold maxLen; dsimp only at lq; omega)).mono ?_
          rintro e w13 ⟨rfl, hb13⟩
          have hB13 := hB12.trans (hb13.mono hB12.size)
          have am13 := am12.below hb13 am12.lt
          have ra13 := ra12.lift hb13
          have rb13 := rb12.lift hb13
          have rm13 := rm12.lift hb13
          have hF13 := hF12.below hb13
          rw [show decide (ml = ml) = true from decide_eq_true rfl]
          refine hK _ _ (fun u => At u (w2.heap.size) 35 #[.int .i64 0, .slice Am nm cm]) (fun _ h => h) am13 ?_
          clear hK K
          (try simp only [Act.put, List.setIfInBounds_toArray, List.set_cons_zero, List.set_cons_succ])
          repeat (first
            | (refine mix_skip (by rfl) ?_
               (try simp only [Act.put, List.setIfInBounds_toArray, List.set_cons_zero, List.set_cons_succ]))
            | (refine mix_pure (v := ?_) (by rfl) (fun u hu => ?_) ?_
               rotate_left
               · obtain ⟨_, _, _, _⟩ := At.two hu
                 go_simp
                 (with_reducible rfl)
               (try simp only [Act.put, List.setIfInBounds_toArray, List.set_cons_zero, List.set_cons_succ])))
          refine mix_nil ?_
          go_wp2
          go_ret
          exact ⟨rfl, hB13⟩
end Go.Proofs.YtkgbjlbhlhdhbaaDoor
