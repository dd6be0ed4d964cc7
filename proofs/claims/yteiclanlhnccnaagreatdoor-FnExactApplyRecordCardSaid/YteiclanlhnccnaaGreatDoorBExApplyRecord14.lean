/-
  Texts of one proof, joined: each has its own namespace.
-/
import Derived.Test.YteiclanlhnccnaaGreatDoorBExApplyRecord13
import Derived.Test.YteiclanlhnccnaaGreatDoorBExApplyRecord7
import Derived.Test.YteiclanlhnccnaaGreatDoorBExApplyRecord3
import Derived.Maps.Own
import Derived.Test.YteiclanlhnccnaaGreatDoorBExApplyRecord1
import Derived.Test.YteiclanlhnccnaaGreatDoorBExApplyRecord0
/-
  The program's MergeLists and InsertSample.
-/
namespace Go.Proofs.YteiclanlhnccnaaGreatDoor
set_option maxRecDepth 20000
open Go.RowKit Go.Shelf
set_option linter.unusedSimpArgs false
set_option linter.unusedVariables false

theorem valuesOf (b : Nat) (w : World) :
    Calls Tryz.prog 164 #[.map (some b)] w fun e w' =>
      e = .returned (.func (.func 174) #[] #[.pointer (some ⟨w.heap.size, 0, none⟩)]) ∧ w' = w.alloc (.cells #[.map (some b)] 233) := by
  go_enter Tryz.func164, Tryz.ntmps164
  go_wp2
  go_ret
  exact ⟨rfl, rfl⟩

theorem values_stops (n : Nat) (hn : 1 ≤ n) (b Bm n0 : Nat) (L : List Smp) (w : World) (hs : SMap w b L) (hm : At w Bm 233 #[.map (some b)]) :
    SeqStopsK Fence.wide n Tryz.prog 174 #[.pointer (some ⟨Bm, 0, none⟩)] encS (Kp2 n0) (fun xs => xs.Perm L) (fun _ => True) L.length w := fun l J Jx W hW hJ hJx hY h0 =>
  values_in n hn l Bm b n0 L J Jx hY W hJ ((hm.below hW hm.lt).cell 0) (hs.below hW hs.lt) h0

set_option maxHeartbeats 1000000 in
theorem sortedFunc (b Bm : Nat) (L : List Smp) (w : World) (hs : SMap w b L) (hm : At w Bm 233 #[.map (some b)]) (hL : L.length ≤ 1000) :
    Calls Tryz.prog 163 #[.func (.func 174) #[] #[.pointer (some ⟨Bm, 0, none⟩)], .func (.func 165) #[] #[]] w fun e w' =>
      ∃ A n c ys, e = .returned (.slice A n c) ∧ ys.Perm L ∧ (ys.Pairwise fun x y => aheadM y x = false) ∧ Ow eS w' w.heap.size A n c ys ∧ Below w.heap.size w w' := by
  have hC := collectSeq 4 (by omega) _ _ (enters_of Tryz.func174 (by kernel_rfl) rfl) _ _ L.length hL w.heap.size w (Nat.le_refl _) (values_stops 3 (by omega) b Bm w.heap.size L w hs hm)
  clear hs hm
  go_enter Tryz.func163, Tryz.ntmps163
  go_wp2_with fail
  refine hC.mono ?_
  rintro e w1 ⟨A, c, xs, rfl, hp, ow, hb⟩
  have hS := sortSmp A xs.length c w.heap.size xs w1 ow (by rw [hp.length_eq]; exact hL)
  go_wp2_with fail
  refine hS.mono ?_
  rintro e w2 ⟨rfl, ys, hp2, hpw, ow2, hb2⟩
  have hB2 := hb.trans hb2
  have Hp := Lib.hid (hp2.trans hp)
  clear hC hS hp hp2
  go_wp2
  go_ret
  exact ⟨A, xs.length, c, ys, rfl, Hp.out, hpw, ow2, hB2⟩

theorem flat_two (A B : Option Addr) (n m c d : Nat) (l k : List Smp) : flat [(A, n, c, l), (B, m, d, k)] = l ++ k := by simp [flat]
theorem rows_two {w : World} {T : Nat} {A B : Option Addr} {n m c d : Nat} {l k : List Smp} (ha : Rd eS w w.heap.size A l) (hb : Rd eS w w.heap.size B k) (hn : l.length = n) (hm : k.length = m) (h1 : n ≤ 1000) (h2 : m ≤ 1000) : Rows4 (w.alloc (.cells #[.slice A n c, .slice B m d] T)) w.heap.size [(A, n, c, l), (B, m, d, k)] := fun i r hr => by
  have hB := (Below.refl w.heap.size w).alloc (Nat.le_refl _) (.cells #[.slice A n c, .slice B m d] T)
  match i, hr with
  | 0, hr =>
    obtain rfl : (A, n, c, l) = r := by simpa using hr
    exact ⟨(At.new w T _).cell 0, ha.lift hB, hn, h1⟩
  | 1, hr =>
    obtain rfl : (B, m, d, k) = r := by simpa using hr
    exact ⟨(At.new w T _).cell 1, hb.lift hB, hm, h2⟩
  | i + 2, hr => simp at hr

set_option maxHeartbeats 400000 in
theorem cmpOr64 (g n c : Nat) (l : List Int) (w : World) (hl : Ints w g l) (hn : l.length = n) (hm : n ≤ 1000) :
    Calls Tryz.prog 56 #[.slice (some ⟨g, 0, none⟩) n c] w fun e w' => e = .returned (.int .i64 (orM l)) ∧ w' = w := by
  have Hn := Lib.hid hn
  clear hn
  go_enter Tryz.func56, Tryz.ntmps56
  go_wp2
  go_loopw [8] (fun i wr => OrRel w l n i wr) (fun i _ => n - (intOf i).toNat)
  case atStart => exact ⟨0, Nat.zero_le _, rfl, rfl, rfl⟩
  case round =>
    obtain ⟨k, hk, rfl, hd, rfl⟩ := hrel
    have Hd := Lib.hid hd
    clear hd
    by_cases hlt : k < n
    · have hkl : k < l.length := by rw [Hn.out]; exact hlt
      obtain ⟨x, hx⟩ : ∃ x, l[k]? = some x := ⟨l[k], List.getElem?_eq_getElem hkl⟩
      have hc := hl k x hx
      have Ho := Lib.hid (show orM (l.drop k) = if x = 0 then orM (l.drop (k + 1)) else x by
        rw [List.drop_eq_getElem_cons hkl, orM_cons]
        rw [List.getElem?_eq_getElem hkl] at hx
        rw [Option.some.inj hx])
      clear hx
      by_cases h0 : x = 0
      · subst h0
        go_wp2
        refine ⟨⟨k + 1, by omega, by go_num, ?_, rfl⟩, by simp [intOf]; omega⟩
        have := Ho.out
        rw [if_pos rfl] at this
        rw [← this]
        exact Hd.out
      · have hne : (x != 0) = true := by simpa using h0
        have Hx := Lib.hid (show orM l = x by rw [← Hd.out, Ho.out, if_neg h0])
        clear h0
        go_wp2
        go_ret
        exact ⟨by rw [Hx.out]; rfl, rfl⟩
    · obtain rfl : k = n := by omega
      have Hf := Lib.hid (show orM l = 0 by rw [← Hd.out, List.drop_eq_nil_of_le (Nat.le_of_eq Hn.out)]; rfl)
      go_wp2
      go_ret
      exact ⟨by rw [Hf.out]; rfl, rfl⟩

theorem or_two (x y : Int) : orM [x, y] = if x ≠ 0 then x else y := by
  rw [orM_cons, orM_cons, orM_nil]
  by_cases h : x = 0 <;> by_cases k : y = 0 <;> simp [h, k]
theorem ints_two {w : World} {t : TypeId} {x y : Int} : Ints (w.alloc (.cells #[.int .i64 x, .int .i64 y] t)) w.heap.size [x, y] := by
  have h := At.new w t #[.int .i64 x, .int .i64 y]
  intro k u hk
  match k, hk with
  | 0, hk => obtain rfl : x = u := by simpa using hk
             exact h.cell 0
  | 1, hk => obtain rfl : y = u := by simpa using hk
             exact h.cell 1
  | k + 2, hk => simp at hk
theorem storeFault_small {l : List Smp} (h : storeFaultM l = 0) : l.length ≤ 160 := ((storeFault_iff l).1 h).1
theorem mergeLists_fault {a b : List Smp} (h : orM [storeFaultM a, storeFaultM b] ≠ 0) : mergeListsM a b = (orM [storeFaultM a, storeFaultM b], []) := by
  rw [or_two] at h ⊢
  unfold mergeListsM
  by_cases h1 : storeFaultM a = 0
  · rw [if_neg (by simp [h1])] at h
    rw [if_neg (by simp [h1]), if_pos h, if_neg (by simp [h1])]
  · rw [if_pos h1, if_pos h1]
theorem byKey_len (l : List Smp) : (byKeyM l).length ≤ l.length := by
  have step : ∀ (l acc : List Smp), (l.foldl keyStep acc).length ≤ acc.length + l.length := by
    intro l
    induction l with
    | nil => intro acc; simp
    | cons x l ih =>
      intro acc
      rw [List.foldl_cons]
      have h1 := ih (keyStep acc x)
      have h2 : (keyStep acc x).length ≤ acc.length + 1 := by
        unfold keyStep
        split
        · omega
        · simp
      rw [List.length_cons]
      omega
  have := step l []
  simpa [byKeyM] using this
theorem same_self (x : Smp) : sameKeyM x x = true := (same_iff x x).2 ⟨rfl, rfl, rfl⟩
theorem apart_nodup {l : List Smp} (h : Apart l) : l.Nodup := h.imp fun {a b} k e => by
  subst e
  rw [same_self] at k
  cases k
theorem merge_perm {a b : List Smp} (ha : storeFaultM a = 0) (hb : storeFaultM b = 0) : (mergeM a b).Perm (byKeyM (a ++ b)) := by
  obtain ⟨_, _, sa⟩ := (storeFault_iff a).1 ha
  obtain ⟨_, _, sb⟩ := (storeFault_iff b).1 hb
  refine (List.perm_ext_iff_of_nodup (asc_nodup (merge_asc ha hb)) (apart_nodup (byKey_apart _))).2 fun y => ?_
  rw [mem_both sa sb]
  unfold mergeM
  rw [mem_mergeFold]
theorem or_none {a b : List Smp} (h : orM [storeFaultM a, storeFaultM b] = 0) : storeFaultM a = 0 ∧ storeFaultM b = 0 := by
  rw [or_two] at h
  by_cases h1 : storeFaultM a = 0
  · rw [if_neg (by simp [h1])] at h
    exact ⟨h1, h⟩
  · rw [if_pos h1] at h
    exact absurd h h1

set_option maxRecDepth 100000 in
set_option maxHeartbeats 4000000 in
theorem implMergeLists (A B : Option Addr) (n m c d : Nat) (a b : List Smp) (w : World) (ha : Rd eS w w.heap.size A a) (hb : Rd eS w w.heap.size B b) (hn : a.length = n) (hm : b.length = m) (hF : Flds w) :
    Calls Tryz.prog 147 #[.slice A n c, .slice B m d] w (RetSs (mergeListsM a b) w) := by
  have hB0 : Below w.heap.size w (w.alloc (.cells #[.int .i64 0, .slice none 0 0] 204)) := (Below.refl _ _).alloc (Nat.le_refl _) _
  have r0 := At.new w 204 #[.int .i64 0, .slice none 0 0]
  have ha0 := ha.lift hB0
  have hb0 := hb.lift hB0
  have hF0 := hF.below hB0
  have HFa := implStoreFault A n c a _ ha0 hn hF0
  obtain ⟨fa, hfa⟩ : ∃ fa, storeFaultM a = fa := ⟨_, rfl⟩
  obtain ⟨fb, hfb⟩ : ∃ fb, storeFaultM b = fb := ⟨_, rfl⟩
  rw [hfa] at HFa
  by_cases h0 : orM [fa, fb] = 0
  rotate_left
  · have hres := mergeLists_fault (a := a) (b := b) (by rw [hfa, hfb]; exact h0)
    rw [hfa, hfb] at hres
    rw [hres]
    have hne : (orM [fa, fb] != 0) = true := by rw [bne_iff_ne]; exact h0
    clear hres
    go_enter Tryz.func147, Tryz.ntmps147
    go_wp2_with fail
    refine (HFa).mono ?_
    rintro e w1 ⟨rfl, hb1⟩
    have hB1 := hB0.trans (hb1.mono hB0.size)
    have r1 := r0.below hb1 r0.lt
    have hb1' := hb0.lift hb1
    have HFb := implStoreFault B m d b _ hb1' hm (hF0.below hb1)
    rw [hfb] at HFb
    go_wp2_with fail
    refine (HFb).mono ?_
    rintro e w2 ⟨rfl, hb2⟩
    have hB2 := hB1.trans (hb2.mono hB1.size)
    have r2 := r1.below hb2 r1.lt
    go_wp2_with fail
    refine (cmpOr64 w2.heap.size 2 2 [fa, fb] _ ints_two rfl (by omega)).mono ?_
    rintro e w3 ⟨rfl, rfl⟩
    have hB3 := hB2.alloc hB2.size (.cells #[.int .i64 fa, .int .i64 fb] 2)
    have r3 := r2.alloc (.cells #[.int .i64 fa, .int .i64 fb] 2)
    obtain ⟨c0, c1, _, _⟩ := r3.two
    generalize orM [fa, fb] = sf at *
    go_wp2_with fail
    refine bodyPost_ret (v := .agg #[.int .i64 sf, .slice none 0 0]) (by simp [results, Tryz.results147, go_sem, c0, c1]) rfl ?_
    exact ⟨_, _, _, rfl, Ow.nil, (hB3.setCell (Nat.le_refl _) _).setCell (Nat.le_refl _) _⟩
  obtain ⟨ea, eb⟩ := or_none (a := a) (b := b) (by rw [hfa, hfb]; exact h0)
  have hn160 := storeFault_small ea
  have hm160 := storeFault_small eb
  have hMP := merge_perm ea eb
  have Hres := Lib.hid (show mergeListsM a b = if 160 < (byKeyM (a ++ b)).length then (7, []) else (0, mergeM a b) by
    unfold mergeListsM
    rw [if_neg (by simp [ea]), if_neg (by simp [eb]), hMP.length_eq])
  have hbig : (byKeyM (a ++ b)).length ≤ 1000 := by
    have := byKey_len (a ++ b)
    rw [List.length_append] at this
    omega
  have Hms := Lib.hid (fun (ys : List Smp) (hp : ys.Perm (byKeyM (a ++ b))) hs => merge_is ea eb hp hs)
  rw [hfa] at ea
  rw [hfb] at eb
  subst ea
  subst eb
  rw [hn] at hn160
  rw [hm] at hm160
  clear h0 hMP
  go_enter Tryz.func147, Tryz.ntmps147
  go_wp2_with fail
  refine (HFa).mono ?_
  rintro e w1 ⟨rfl, hb1⟩
  have hB1 := hB0.trans (hb1.mono hB0.size)
  have r1 := r0.below hb1 r0.lt
  have hA1 := ha0.lift hb1
  have hb1' := hb0.lift hb1
  have HFb := implStoreFault B m d b _ hb1' hm (hF0.below hb1)
  rw [hfb] at HFb
  go_wp2_with fail
  refine (HFb).mono ?_
  rintro e w2 ⟨rfl, hb2⟩
  have hB2 := hB1.trans (hb2.mono hB1.size)
  have r2 := r1.below hb2 r1.lt
  have hl3 := (Below.refl w2.heap.size w2).alloc (Nat.le_refl _) (.cells #[.int .i64 0, .int .i64 0] 2)
  have hA3 := (hA1.lift hb2).lift hl3
  have hb3' := (hb1'.lift hb2).lift hl3
  have hO : orM [0, 0] = 0 := rfl
  have hcm := cmpOr64 w2.heap.size 2 2 [0, 0] (w2.alloc (.cells #[.int .i64 0, .int .i64 0] 2)) ints_two rfl (by omega)
  rw [hO] at hcm
  go_wp2_with fail
  refine (hcm).mono ?_
  rintro e w3 ⟨rfl, hw3⟩
  have hB3 := hB2.alloc hB2.size (.cells #[.int .i64 0, .int .i64 0] 2)
  have r3 := r2.alloc (.cells #[.int .i64 0, .int .i64 0] 2)
  rw [← hw3] at hB3 r3 hA3 hb3'
  clear hw3 hl3 hcm hO
  have hR := rows_two (T := 36) (c := c) (d := d) hA3 hb3' hn hm (by omega) (by omega)
  have hB4 := hB3.alloc hB3.size (.cells #[.slice A n c, .slice B m d] 36)
  have r4 := r3.alloc (.cells #[.slice A n c, .slice B m d] 36)
  have hby := byKeyS w3.heap.size 2 2 [(A, n, c, a), (B, m, d, b)] (w3.alloc (.cells #[.slice A n c, .slice B m d] 36)) hR (by simp) rfl (by omega)
  rw [flat_two] at hby
  clear hR
  go_wp2_with fail
  refine (hby).mono ?_
  rintro e w5 ⟨bm, rfl, hcb, hs5, hb5⟩
  have hB5 := hB4.trans (hb5.mono hB4.size)
  have r5 := r4.below hb5 r4.lt
  have hlen := fun ty => hs5.len ty
  obtain ⟨L, hL⟩ : ∃ L, byKeyM (a ++ b) = L := ⟨_, rfl⟩
  rw [hL] at hs5 hlen Hres hbig Hms
  clear hL hby
  by_cases hbg : 160 < L.length
  · have Hbg := Lib.hid hbg
    have hi : (160 : Int) < (L.length : Int) := by omega
    obtain ⟨c0, c1, _, _⟩ := r5.two
    clear hbg
    go_wp2_with fail
    refine bodyPost_ret (v := .agg #[.int .i64 7, .slice none 0 0]) (by simp [results, Tryz.results147, go_sem, c0, c1]) rfl ?_
    rw [Hres.out, if_pos Hbg.out]
    exact ⟨_, _, _, rfl, Ow.nil, (hB5.setCell (Nat.le_refl _) _).setCell (Nat.le_refl _) _⟩
  · have Hbg := Lib.hid hbg
    have hi : (L.length : Int) ≤ 160 := by omega
    clear hbg
    go_wp2_with fail
    refine (valuesOf bm _).mono ?_
    rintro e w6 ⟨rfl, hw6⟩
    have hl6 := (Below.refl w5.heap.size w5).alloc (Nat.le_refl _) (.cells #[.map (some bm)] 233)
    have hm6 := At.new w5 233 #[.map (some bm)]
    have hs6 := hs5.alloc (.cells #[.map (some bm)] 233)
    rw [← hw6] at hl6 hm6 hs6
    have hB6 := hB5.trans (hl6.mono hB5.size)
    have r6 := r5.below hl6 r5.lt
    clear hw6
    go_wp2_with fail
    refine (sortedFunc bm w5.heap.size L w6 hs6 hm6 hbig).mono ?_
    rintro e w7 ⟨A7, n7, c7, ys, rfl, hp, hpw, ow7, hb7⟩
    obtain rfl := Hms.out ys hp hpw
    have hB7 := hB6.trans (hb7.mono hB6.size)
    have r7 := r6.below hb7 r6.lt
    have hl7 := r6.lt
    obtain ⟨c0, c1, _, _⟩ := r7.two
    clear hp hpw
    go_wp2_with fail
    refine bodyPost_ret (v := .agg #[.int .i64 0, .slice A7 n7 c7]) (by simp [results, Tryz.results147, go_sem, c0, c1]) rfl ?_
    rw [Hres.out, if_neg Hbg.out]
    exact ⟨_, _, _, rfl, (((ow7.under (p := ⟨w.heap.size, 0, none⟩) hl7 _).under (p := ⟨w.heap.size, 1, none⟩) hl7 _).from_ hB6.size), (hB7.setCell (Nat.le_refl _) _).setCell (Nat.le_refl _) _⟩

theorem hiMergeLists : ∀ (A0 : Option Addr) (m0 e0 : Nat) (q0 : List Smp) (A1 : Option Addr) (m1 e1 : Nat) (q1 : List Smp)  (W : World), Rd eS W W.heap.size A0 q0 → q0.length = m0 → m0 ≤ 1048576 → Rd eS W W.heap.size A1 q1 → q1.length = m1 → m1 ≤ 1048576 → Flds W → Calls Tryz.prog 147 #[.slice A0 m0 e0, .slice A1 m1 e1] W (RetSs (mergeListsM q0 q1) W) :=
  fun A0 m0 e0 q0 A1 m1 e1 q1 W ha hn _ hb hm _ hF => implMergeLists A0 A1 m0 m1 e0 e1 q0 q1 W ha hb hn hm hF
end Go.Proofs.YteiclanlhnccnaaGreatDoor
/-
  The program's InsertSample: both merged.
-/
namespace Go.Proofs.YteiclanlhnccnaaGreatDoor
set_option maxRecDepth 20000
open Go.RowKit Go.Shelf
set_option linter.unusedSimpArgs false
set_option linter.unusedVariables false

theorem fault_one (x : Smp) : storeFaultM [x] = faultM x := by
  have hr : risesM [x] = true := risesM_yes (n := 1) rfl (fun j hj => absurd hj (by omega))
  rcases faultM_or x with h | h
  · rw [h]
    unfold storeFaultM
    rw [if_neg (by simp), if_neg (by simp [rightM, h]), if_neg (by simp [hr])]
  · rw [h]
    unfold storeFaultM
    rw [if_neg (by simp), if_pos (by simp [rightM, h])]
theorem insert_is (l : List Smp) (x : Smp) : insertM l x = if (mergeListsM l [x]).1 ≠ 0 then ((mergeListsM l [x]).1, false, []) else (0, decide (l.length < (mergeListsM l [x]).2.length), (mergeListsM l [x]).2) := by
  unfold insertM
  by_cases h0 : storeFaultM l = 0
  · rw [if_neg (by simp [h0])]
    by_cases h1 : faultM x = 0
    · rw [if_neg (by simp [h1])]
      have hl := storeFault_small h0
      by_cases h2 : findI l x < 0
      · have hm : mergeM l [x] = insM l x := by simp [mergeM, mergeStep, h2]
        rw [if_neg (by omega)]
        by_cases h3 : 160 ≤ l.length
        · have e : mergeListsM l [x] = (7, []) := by
            unfold mergeListsM
            rw [if_neg (by simp [h0]), if_neg (by rw [fault_one]; simp [h1]), hm, insM_len, if_pos (by omega)]
          rw [e, if_pos h3, if_pos (by simp)]
        · have e : mergeListsM l [x] = (0, insM l x) := by
            unfold mergeListsM
            rw [if_neg (by simp [h0]), if_neg (by rw [fault_one]; simp [h1]), hm, insM_len, if_neg (by omega)]
          rw [e, if_neg h3, if_neg (by simp)]
          simp [insM_len]
      · have hm : mergeM l [x] = l := by simp [mergeM, mergeStep, h2]
        have e : mergeListsM l [x] = (0, l) := by
          unfold mergeListsM
          rw [if_neg (by simp [h0]), if_neg (by rw [fault_one]; simp [h1]), hm, if_neg (by omega)]
        rw [if_pos (by omega), e, if_neg (by simp)]
        simp
    · have e : mergeListsM l [x] = (faultM x, []) := by
        unfold mergeListsM
        rw [if_neg (by simp [h0]), fault_one, if_pos h1]
      rw [if_pos h1, e, if_pos h1]
  · have e : mergeListsM l [x] = (storeFaultM l, []) := by
      unfold mergeListsM
      rw [if_pos h0]
    rw [if_pos h0, e, if_pos h0]

set_option maxRecDepth 100000 in
set_option maxHeartbeats 4000000 in
theorem implInsertSample (A : Option Addr) (n c : Nat) (l : List Smp) (x0 x1 x2 x3 : Int) (w : World) (ha : Rd eS w w.heap.size A l) (hn : l.length = n) (hnm : n ≤ 1048576) (hF : Flds w) :
    Calls Tryz.prog 108 #[.slice A n c, .agg #[.int .i64 x0, .int .i64 x1, .int .i64 x2, .int .i64 x3]] w (RetSt (insertM l (x0, x1, x2, x3)) w) := by
  have hB0a := (Below.refl w.heap.size w).alloc (Nat.le_refl _) (.cells #[.int .i64 x0, .int .i64 x1, .int .i64 x2, .int .i64 x3] 25)
  have hB0 := hB0a.alloc hB0a.size (.cells #[.int .i64 0, .bool false, .slice none 0 0] 155)
  have r0 := At.newAt' (t := 155) (cs := #[.int .i64 0, .bool false, .slice none 0 0]) (show (w.alloc (.cells #[.int .i64 x0, .int .i64 x1, .int .i64 x2, .int .i64 x3] 25)).heap.size = w.heap.size + 1 by simp)
  obtain ⟨w0, hw0⟩ : ∃ w0, (w.alloc (.cells #[.int .i64 x0, .int .i64 x1, .int .i64 x2, .int .i64 x3] 25)).alloc (.cells #[.int .i64 0, .bool false, .slice none 0 0] 155) = w0 := ⟨_, rfl⟩
  have hl1 := (Below.refl w0.heap.size w0).alloc (Nat.le_refl _) (.cells #[.int .i64 x0, .int .i64 x1, .int .i64 x2, .int .i64 x3] 25)
  have hs0 : w0.heap.size = w.heap.size + 1 + 1 := by rw [← hw0]; simp
  rw [hw0] at hB0 r0
  have hB1 := hB0.trans (hl1.mono hB0.size)
  have r1 := r0.below hl1 r0.lt
  have hM := implMergeLists A (some ⟨w0.heap.size, 0, none⟩) n 1 c 1 l [(x0, x1, x2, x3)] _ ((ha.lift hB0).lift hl1) ((rd_lit okS w0 25 [(x0, x1, x2, x3)] #[.int .i64 x0, .int .i64 x1, .int .i64 x2, .int .i64 x3] rfl).more (by simp)) hn rfl (hF.below hB1)
  have Hins := Lib.hid (insert_is l (x0, x1, x2, x3))
  obtain ⟨⟨mc, ml⟩, hmr⟩ : ∃ r, mergeListsM l [(x0, x1, x2, x3)] = r := ⟨_, rfl⟩
  have hml := mergeLists_le l [(x0, x1, x2, x3)]
  rw [hmr] at hM Hins hml
  simp only at hml
  have Hn := Lib.hid hn
  rw [hs0] at hM
  rw [← hw0] at hM
  rw [← hw0] at hl1 hB0 hB1 r1
  clear hmr hn hw0 r0 hs0 ha hF hB0a
  go_enter Tryz.func108, Tryz.ntmps108
  go_wp2_with fail
  refine (hM).mono ?_
  rintro e w2 ⟨A2, n2, c2, rfl, ow2, hb2⟩
  have hB2 := hB1.trans (hb2.mono hB1.size)
  have r2 := r1.below hb2 r1.lt
  have hl2 := Ow.len okS ow2
  have hB3 := hB2.alloc hB2.size (.cells #[.int .i64 mc, .slice A2 n2 c2] 204)
  have r3 := r2.alloc (.cells #[.int .i64 mc, .slice A2 n2 c2] 204)
  have ow3 := ow2.alloc (.cells #[.int .i64 mc, .slice A2 n2 c2] 204)
  have m3 := At.new w2 204 #[.int .i64 mc, .slice A2 n2 c2]
  obtain ⟨c0, c1, cc2, _⟩ := r3.three
  obtain ⟨d0, d1, _, _⟩ := m3.two
  have hlt := r1.lt
  have Hl2 := Lib.hid hl2
  clear hM hl2
  by_cases h0 : mc = 0
  · subst h0
    have h00 : ((0 : Int) != 0) = false := rfl
    by_cases hgt : n < n2
    · have hi : (n : Int) < (n2 : Int) := by omega
      have Hg := Lib.hid (show insertM l (x0, x1, x2, x3) = (0, true, ml) by rw [Hins.out, if_neg (by simp)]; simp only [Hl2.out, Hn.out, hgt, decide_true])
      clear hgt
      go_wp2_with fail
      refine bodyPost_ret (v := .agg #[.int .i64 0, .bool true, .slice A2 n2 c2]) (by simp [results, Tryz.results108, go_sem, c0, c1, cc2]) rfl ?_
      rw [Hg.out]
      exact ⟨_, _, _, rfl, ((((ow3.under (p := ⟨w.heap.size + 1, 0, none⟩) hlt _).under (p := ⟨w.heap.size + 1, 1, none⟩) hlt _).under (p := ⟨w.heap.size + 1, 2, none⟩) hlt _).from_ hB1.size), ((hB3.setCell (p := ⟨w.heap.size + 1, 0, none⟩) (Nat.le_succ _) _).setCell (p := ⟨w.heap.size + 1, 1, none⟩) (Nat.le_succ _) _).setCell (p := ⟨w.heap.size + 1, 2, none⟩) (Nat.le_succ _) _⟩
    · have hi : (n2 : Int) ≤ (n : Int) := by omega
      have hle : n2 ≤ n := by omega
      have Hg := Lib.hid (show insertM l (x0, x1, x2, x3) = (0, false, ml) by rw [Hins.out, if_neg (by simp)]; rw [show decide (l.length < ml.length) = false from decide_eq_false (by rw [Hl2.out, Hn.out]; exact hgt)])
      clear hgt
      go_wp2_with fail
      refine bodyPost_ret (v := .agg #[.int .i64 0, .bool false, .slice A2 n2 c2]) (by simp [results, Tryz.results108, go_sem, c0, c1, cc2, hle]) rfl ?_
      rw [Hg.out]
      exact ⟨_, _, _, rfl, ((((ow3.under (p := ⟨w.heap.size + 1, 0, none⟩) hlt _).under (p := ⟨w.heap.size + 1, 1, none⟩) hlt _).under (p := ⟨w.heap.size + 1, 2, none⟩) hlt _).from_ hB1.size), ((hB3.setCell (p := ⟨w.heap.size + 1, 0, none⟩) (Nat.le_succ _) _).setCell (p := ⟨w.heap.size + 1, 1, none⟩) (Nat.le_succ _) _).setCell (p := ⟨w.heap.size + 1, 2, none⟩) (Nat.le_succ _) _⟩
  · have hne : (mc != 0) = true := by rw [bne_iff_ne]; exact h0
    have Hg := Lib.hid (show insertM l (x0, x1, x2, x3) = (mc, false, []) by rw [Hins.out, if_pos h0])
    clear h0
    go_wp2_with fail
    refine bodyPost_ret (v := .agg #[.int .i64 mc, .bool false, .slice none 0 0]) (by simp [results, Tryz.results108, go_sem, c0, c1, cc2]) rfl ?_
    rw [Hg.out]
    exact ⟨_, _, _, rfl, Ow.nil, ((hB3.setCell (p := ⟨w.heap.size + 1, 0, none⟩) (Nat.le_succ _) _).setCell (p := ⟨w.heap.size + 1, 1, none⟩) (Nat.le_succ _) _).setCell (p := ⟨w.heap.size + 1, 2, none⟩) (Nat.le_succ _) _⟩

theorem hiInsertSample : ∀ (A : Option Addr) (n c : Nat) (l : List Smp) (x0 x1 x2 x3 : Int) (W : World), Rd eS W W.heap.size A l → l.length = n → n ≤ 1048576 → Flds W → Calls Tryz.prog 108 #[.slice A n c, .agg #[.int .i64 x0, .int .i64 x1, .int .i64 x2, .int .i64 x3]] W (RetSt (insertM l (x0, x1, x2, x3)) W) :=
  fun A n c l x0 x1 x2 x3 W ha hn hm hF => implInsertSample A n c l x0 x1 x2 x3 W ha hn hm hF
end Go.Proofs.YteiclanlhnccnaaGreatDoor
/-
  A map of queued hints by their keys, as it lies in memory: asked, filled, thinned, counted.
-/
namespace Go.Proofs.YteiclanlhnccnaaGreatDoor
set_option maxRecDepth 20000
open Go.RowKit
open Go.ChangeMaps (setBlock heap_setBlock_same heap_setBlock_other)
set_option linter.unusedSimpArgs false
set_option linter.unusedVariables false

abbrev keyH (h : Hnt) : Value := .agg #[.int .i64 h.1, .int .i64 (idH h)]
abbrev qdV (x : Qd) : Value := .agg #[.int .i64 x.1, .int .i64 x.2.1, .int .i64 x.2.2.1.1, .int .i64 x.2.2.1.2.1, .int .i64 x.2.2.1.2.2.1, .int .i64 x.2.2.1.2.2.2, .int .i64 x.2.2.2.1, .int .i64 x.2.2.2.2]

theorem keyEqualH (x y : Hnt) (w : World) : (Op.equal 181 (keyH x) (keyH y)).run Tryz.prog w = .ok (sameH x y) w := by
  show (Op.equalIn 10000 181 (keyH x) (keyH y)).run Tryz.prog w = _
  unfold sameH
  go_simp
  by_cases h0 : x.1 = y.1 <;> by_cases h1 : idH x = idH y <;> simp [h0, h1]
theorem keyChecksH (e : Bool) (x : Hnt) (w : World) : (Instr.checkKey e 10000 181 (keyH x)).run Tryz.prog w = .ok () w := by kernel_rfl
theorem zeroQ (w : World) : (zeroValue 243).run Tryz.prog w = .ok (qdV (0, zeroH)) w := by kernel_rfl
theorem keyStaysH (x : Hnt) (w : World) : (Instr.keyThatStays (keyH x) (keyH x)).run Tryz.prog w = .ok (keyH x) w := by
  have h : Instr.sameBits 10000 (keyH x) (keyH x) = true := by
    show Instr.sameBits (9998 + 1 + 1) _ _ = true
    simp [Instr.sameBits]
  unfold Instr.keyThatStays
  rw [h]
  rfl
theorem key_of_same {x y : Hnt} (h : sameH x y = true) : keyH y = keyH x := by
  obtain ⟨h1, h2⟩ := (sameH_iff x y).1 h
  show Value.agg #[.int .i64 y.1, .int .i64 (idH y)] = Value.agg #[.int .i64 x.1, .int .i64 (idH x)]
  rw [h1, h2]

theorem findAskH (y : Hnt) (w : World) : ∀ (L : List Qd) (es : List MapEntry) (i : Nat), es.map (fun e => (e.key, e.val)) = L.map (fun x => (keyH x.2, qdV x)) →
    (firstQ L y = none ∧ (Instr.findAsking 181 (keyH y) es i).run Tryz.prog w = .ok none w) ∨
    ∃ (j : Nat) (a : Qd), L[j]? = some a ∧ firstQ L y = some a ∧ sameH y a.2 = true ∧ (∀ k b, k < j → L[k]? = some b → sameH y b.2 = false) ∧ (Instr.findAsking 181 (keyH y) es i).run Tryz.prog w = .ok (some (i + j, qdV a)) w
  | [], es, i, h => by
    obtain rfl : es = [] := by simpa using h
    exact .inl ⟨rfl, by simp [Instr.findAsking]⟩
  | x :: L, es, i, h => by
    match es, h with
    | e :: es, h =>
      simp only [List.map_cons, List.cons.injEq, Prod.mk.injEq] at h
      obtain ⟨⟨hk, hv⟩, h⟩ := h
      have he : (Op.equal 181 (keyH y) e.key).run Tryz.prog w = .ok (sameH y x.2) w := by rw [hk]; exact keyEqualH y x.2 w
      rcases hs : sameH y x.2
      · have e2 : firstQ (x :: L) y = firstQ L y := by unfold firstQ; rw [List.find?_cons, hs]
        rcases findAskH y w L es (i + 1) h with ⟨h1, h2⟩ | ⟨j, a, h1, h2, h3, h4, h5⟩
        · exact .inl ⟨by rw [e2, h1], by simp [Instr.findAsking, he, hs, h2, Result.andThen]⟩
        · refine .inr ⟨j + 1, a, by simpa using h1, by rw [e2, h2], h3, fun k b hk hb => ?_, ?_⟩
          · match k, hb with
            | 0, hb => obtain rfl : x = b := by simpa using hb
                       exact hs
            | k + 1, hb => exact h4 k b (by omega) (by simpa using hb)
          · simp [Instr.findAsking, he, hs, h5, Result.andThen]
            omega
      · exact .inr ⟨0, x, rfl, by unfold firstQ; rw [List.find?_cons, hs], hs, fun k b hk => absurd hk (by omega), by simp [Instr.findAsking, he, hs, Result.andThen, hv]⟩

theorem findKeyH (y : Hnt) (w : World) (L : List Qd) (es : List MapEntry) (h : es.map (fun e => (e.key, e.val)) = L.map (fun x => (keyH x.2, qdV x))) :
    (firstQ L y = none ∧ (Instr.findKey 181 (keyH y) es).run Tryz.prog w = .ok none w) ∨
    ∃ (j : Nat) (a : Qd), L[j]? = some a ∧ firstQ L y = some a ∧ sameH y a.2 = true ∧ (∀ k b, k < j → L[k]? = some b → sameH y b.2 = false) ∧ (Instr.findKey 181 (keyH y) es).run Tryz.prog w = .ok (some (j, qdV a)) w := by
  match es, h with
  | [], h =>
    obtain rfl : L = [] := by simpa using h
    exact .inl ⟨rfl, by simp [Instr.findKey, run_underlying Tryz.underlying181, Instr.findNow, Result.andThen]⟩
  | e :: es, h =>
    rcases findAskH y w L (e :: es) 0 h with ⟨h1, h2⟩ | ⟨j, a, h1, h2, h3, h4, h5⟩
    · refine .inl ⟨h1, ?_⟩
      simp only [Instr.findKey, Sem.run_bind, run_underlying Tryz.underlying181, Result.andThen]
      exact h2
    · refine .inr ⟨j, a, h1, h2, h3, h4, ?_⟩
      simp only [Instr.findKey, Sem.run_bind, run_underlying Tryz.underlying181, Result.andThen]
      rw [Nat.zero_add] at h5
      exact h5

theorem erase_map {α β : Type} (f : α → β) : ∀ (l : List α) (j : Nat), (l.eraseIdx j).map f = (l.map f).eraseIdx j
  | [], _ => rfl
  | _ :: _, 0 => rfl
  | x :: l, j + 1 => by
    simp only [List.eraseIdx_cons_succ, List.map_cons]
    rw [erase_map f l j]
theorem setQ_at {x : Qd} : ∀ {L : List Qd} {j : Nat} {a : Qd}, L[j]? = some a → sameH x.2 a.2 = true → (∀ k b, k < j → L[k]? = some b → sameH x.2 b.2 = false) → setQ x L = L.set j x ∧ eraseQ x.2 L = L.eraseIdx j
  | [], j, a, h, _, _ => by simp at h
  | y :: L, 0, a, h, hs, _ => by
    obtain rfl : y = a := by simpa using h
    rw [setQ, eraseQ, hs]
    simp
  | y :: L, j + 1, a, h, hs, hal => by
    have h0 := hal 0 y (by omega) rfl
    obtain ⟨h1, h2⟩ := setQ_at (x := x) (L := L) (j := j) (by simpa using h) hs (fun k b hk hb => hal (k + 1) b (by omega) (by simpa using hb))
    rw [setQ, eraseQ, h0]
    simp [h1, h2]
theorem setQ_new {x : Qd} : ∀ {L : List Qd}, firstQ L x.2 = none → setQ x L = L ++ [x] ∧ eraseQ x.2 L = L
  | [], _ => ⟨rfl, rfl⟩
  | y :: L, h => by
    unfold firstQ at h
    rw [List.find?_cons] at h
    rcases hs : sameH x.2 y.2
    · rw [hs] at h
      obtain ⟨h1, h2⟩ := setQ_new (x := x) (L := L) h
      rw [setQ, eraseQ, hs]
      simp [h1, h2]
    · rw [hs] at h
      cases h

/-- Block b is a map that holds these queued hints by their keys, the eldest first. -/
def QMap (w : World) (b : Nat) (L : List Qd) : Prop :=
  ∃ es clock, w.heap[b]? = some (.map es clock) ∧ es.toList.map (fun e => (e.key, e.val)) = L.map (fun x => (keyH x.2, qdV x)) ∧ (∀ e ∈ es.toList, e.born < clock) ∧ (es.toList.map (·.born)).Nodup

section
variable {w w' : World} {b : Nat} {L : List Qd}
theorem QMap.lt (h : QMap w b L) : b < w.heap.size := by
  obtain ⟨es, clock, hb, _⟩ := h
  exact (Array.getElem?_eq_some_iff.1 hb).1
theorem QMap.kept {row : Option Nat} (h : QMap w b L) (hg : w.grownBy w' row) (hne : some b ≠ row) : QMap w' b L := by
  have hlt := h.lt
  obtain ⟨es, clock, hb, r⟩ := h
  exact ⟨es, clock, (hg.block b hlt hne).trans hb, r⟩
theorem QMap.below {B : Nat} (h : QMap w b L) (hb : Below B w w') (hB : b < B) : QMap w' b L := by
  obtain ⟨es, clock, h1, r⟩ := h
  exact ⟨es, clock, (hb.block b hB).trans h1, r⟩
theorem QMap.alloc (h : QMap w b L) (o : Obj) : QMap (w.alloc o) b L := h.kept (World.grownBy_alloc w o none) (by simp)
theorem QMap.drew (h : QMap w b L) : QMap w.drew b L := h
theorem QMap.made (w : World) : QMap (w.alloc (.map #[] 0)) w.heap.size [] := ⟨#[], 0, heap_alloc_new w _, rfl, by simp, by simp⟩
theorem QMap.size (h : QMap w b L) : ∃ es clock, w.heap[b]? = some (.map es clock) ∧ es.size = L.length := by
  obtain ⟨es, clock, hb, hm, _⟩ := h
  refine ⟨es, clock, hb, ?_⟩
  have := congrArg List.length hm
  simpa using this
theorem QMap.len (h : QMap w b L) (ty : TypeId) : (Builtin.len_ #[216] ty #[.map (some b)]).run Tryz.prog w = .ok (.int .i64 (L.length : Int)) w := by
  obtain ⟨es, clock, hb, hs⟩ := h.size
  rw [← hs]
  simp [Builtin.len_, run_underlying Tryz.underlying216, MapKept.run_getObj_map hb, Result.andThen]
  try rfl
theorem QMap.look (h : QMap w b L) (y : Hnt) : (Instr.lookup 216 (.map (some b)) (keyH y) true).run Tryz.prog w = .ok (.tuple #[qdV ((firstQ L y).getD (0, zeroH)), .bool (firstQ L y).isSome]) w := by
  obtain ⟨es, clock, hb, hm, _⟩ := h
  rcases findKeyH y w L es.toList hm with ⟨hf, h1⟩ | ⟨j, a, _, hf, _, _, h1⟩
  · rw [hf]
    simp [Instr.lookup, run_underlying Tryz.underlying216, MapKept.run_getObj_map hb, keyChecksH, h1, zeroQ, Result.andThen]
  · rw [hf]
    simp [Instr.lookup, run_underlying Tryz.underlying216, MapKept.run_getObj_map hb, keyChecksH, h1, Result.andThen]
theorem QMap.put (h : QMap w b L) (x : Qd) : ∃ w', (Instr.mapUpdate 216 (.map (some b)) (keyH x.2) (qdV x)).run Tryz.prog w = .ok () w' ∧ QMap w' b (setQ x L) ∧ w.grownBy w' (some b) := by
  obtain ⟨es, clock, hb, hm, hc, hd⟩ := h
  rcases findKeyH x.2 w L es.toList hm with ⟨hf, h1⟩ | ⟨j, a, hj, hf, hs, hal, h1⟩
  · rw [(setQ_new hf).1]
    refine ⟨setBlock w b (.map (es.push ⟨keyH x.2, qdV x, clock⟩) (clock + 1)), ?_, ⟨_, _, heap_setBlock_same hb _, ?_, ?_, ?_⟩, ⟨rfl, rfl, rfl, by simp [setBlock], fun i _ hi => heap_setBlock_other hb _ (fun e => hi (by rw [e]))⟩⟩
    · simp [Instr.mapUpdate, run_underlying Tryz.underlying216, MapKept.run_getObj_map hb, keyChecksH, h1, MapKept.run_setObj_map _ hb, Result.andThen, setBlock]
    · simp [hm]
    · intro e he
      simp only [Array.toList_push, List.mem_append, List.mem_singleton] at he
      rcases he with he | rfl
      · have := hc e he
        omega
      · simp
    · rw [Array.toList_push, List.map_append, List.nodup_append]
      refine ⟨hd, by simp, fun a ha c hc' => ?_⟩
      obtain ⟨e, he, rfl⟩ := List.mem_map.1 ha
      obtain rfl : c = clock := by simpa using hc'
      have := hc e he
      omega
  · rw [(setQ_at hj hs hal).1]
    have hjm : (es.toList.map (fun e => (e.key, e.val)))[j]? = some (keyH a.2, qdV a) := by rw [hm, List.getElem?_map, hj]; rfl
    rw [List.getElem?_map] at hjm
    obtain ⟨e0, he0, hkv⟩ := Option.map_eq_some_iff.1 hjm
    simp only [Prod.mk.injEq] at hkv
    have hkey : e0.key = keyH x.2 := by rw [hkv.1]; exact key_of_same hs
    have hje : es[j]? = some e0 := by simpa using he0
    have hlist : (es.modify j (fun e' => { e' with key := keyH x.2, val := qdV x })).toList = es.toList.set j { e0 with key := keyH x.2, val := qdV x } := by
      rw [Array.toList_modify]
      apply List.ext_getElem?
      intro i
      rw [List.getElem?_modify, List.getElem?_set]
      by_cases hi : j = i
      · subst hi
        have : j < es.toList.length := getElem?_some_lt he0
        have h2 : j < es.size := by simpa using this
        have h3 : es[j] = e0 := Option.some.inj ((Array.getElem?_eq_getElem h2).symm.trans hje)
        simp [h2, h3]
      · simp [hi]
    refine ⟨setBlock w b (.map (es.modify j (fun e' => { e' with key := keyH x.2, val := qdV x })) clock), ?_, ⟨_, _, heap_setBlock_same hb _, ?_, ?_, ?_⟩, ⟨rfl, rfl, rfl, by simp [setBlock], fun i _ hi => heap_setBlock_other hb _ (fun e => hi (by rw [e]))⟩⟩
    · simp [Instr.mapUpdate, run_underlying Tryz.underlying216, MapKept.run_getObj_map hb, keyChecksH, h1, hje, hkey, keyStaysH, MapKept.run_setObj_map _ hb, Result.andThen, setBlock]
    · rw [hlist, List.map_set, hm, List.map_set]
    · intro e he
      rw [hlist] at he
      rcases List.mem_or_eq_of_mem_set he with h | rfl
      · exact hc e h
      · exact hc e0 (List.mem_of_getElem? he0)
    · rw [hlist, List.map_set]
      have : (es.toList.map (·.born)).set j e0.born = es.toList.map (·.born) := by
        apply List.ext_getElem?
        intro i
        rw [List.getElem?_set]
        by_cases hi : j = i
        · subst hi
          have : j < es.toList.length := getElem?_some_lt he0
          have h2 : j < es.size := by simpa using this
          have h3 : es[j] = e0 := Option.some.inj ((Array.getElem?_eq_getElem h2).symm.trans hje)
          simp [h2, h3]
        · simp [hi]
      rw [this]
      exact hd
theorem QMap.drop (h : QMap w b L) (y : Hnt) (ty : TypeId) : ∃ w', (Builtin.delete_ #[216, 181] ty #[.map (some b), keyH y]).run Tryz.prog w = .ok (.tuple #[]) w' ∧ QMap w' b (eraseQ y L) ∧ w.grownBy w' (some b) := by
  obtain ⟨es, clock, hb, hm, hc, hd⟩ := h
  rcases findKeyH y w L es.toList hm with ⟨hf, h1⟩ | ⟨j, a, hj, hf, hs, hal, h1⟩
  · rw [(setQ_new (x := (0, y)) hf).2]
    refine ⟨setBlock w b (.map es clock), ?_, ⟨_, _, heap_setBlock_same hb _, hm, hc, hd⟩, ⟨rfl, rfl, rfl, by simp [setBlock], fun i _ hi => heap_setBlock_other hb _ (fun e => hi (by rw [e]))⟩⟩
    simp [Builtin.delete_, run_underlying Tryz.underlying216, MapKept.run_getObj_map hb, keyChecksH, h1, MapKept.run_setObj_map _ hb, Result.andThen, setBlock]
  · rw [(setQ_at (x := (0, y)) hj hs hal).2]
    have hjl : j < es.size := by
      have h1 := getElem?_some_lt hj
      have h2 := congrArg List.length hm
      simp at h2
      omega
    have hsub : (es.eraseIdxIfInBounds j).toList = es.toList.eraseIdx j := by
      unfold Array.eraseIdxIfInBounds
      rw [dif_pos hjl]
      simp
    have hmap : ∀ {β : Type} (f : MapEntry → β), (es.toList.eraseIdx j).map f = (es.toList.map f).eraseIdx j := fun f => erase_map f _ _
    refine ⟨setBlock w b (.map (es.eraseIdxIfInBounds j) clock), ?_, ⟨_, _, heap_setBlock_same hb _, ?_, ?_, ?_⟩, ⟨rfl, rfl, rfl, by simp [setBlock], fun i _ hi => heap_setBlock_other hb _ (fun e => hi (by rw [e]))⟩⟩
    · simp [Builtin.delete_, run_underlying Tryz.underlying216, MapKept.run_getObj_map hb, keyChecksH, h1, MapKept.run_setObj_map _ hb, Result.andThen, setBlock]
    · rw [hsub, hmap, hm, ← erase_map]
    · intro e he
      rw [hsub] at he
      exact hc e ((List.eraseIdx_sublist _ _).subset he)
    · rw [hsub, hmap]
      exact hd.sublist (List.eraseIdx_sublist _ _)
end
end Go.Proofs.YteiclanlhnccnaaGreatDoor
/-
  What is looked for, put, taken away and laid anew in the queue of a list, of the pure answers.
-/
namespace Go.Proofs.YteiclanlhnccnaaGreatDoor
set_option maxRecDepth 20000
open Go.RowKit
set_option linter.unusedSimpArgs false
set_option linter.unusedVariables false

theorem find_congr {p q : Nat → Bool} : ∀ {l : List Nat}, (∀ x ∈ l, p x = q x) → l.find? p = l.find? q
  | [], _ => rfl
  | x :: l, h => by
    rw [List.find?_cons, List.find?_cons, h x (by simp), find_congr (fun y hy => h y (by simp [hy]))]
theorem zip_at {l : List Hnt} {k : Nat} {a : Hnt} (h : l[k]? = some a) : (zipQ l)[k]? = some ((k : Int), a) := by
  have hk := getElem?_some_lt h
  unfold zipQ
  rw [List.getElem?_map, List.getElem?_range hk, Option.map_some, h]
  rfl
theorem first_zip (l : List Hnt) (h : Hnt) : firstQ (zipQ l) h = (findH l h.1 (idH h)).map fun (k : Nat) => ((k : Int), (l[k]?).getD zeroH) := by
  unfold firstQ zipQ findH
  rw [List.find?_map]
  congr 1
  refine find_congr fun i hi => ?_
  have hi' := List.mem_range.1 hi
  rw [hitH_at (List.getElem?_eq_getElem hi')]
  simp only [Function.comp_def, List.getElem?_eq_getElem hi', Option.getD_some]
  show sameH h l[i] = _
  rw [sameH_comm]
  rfl
theorem zip_hit {l : List Hnt} {p i : Int} {k : Nat} (hk : findH l p i = some k) {h : Hnt} (h1 : h.1 = p) (h2 : idH h = i) : ∃ a, l[k]? = some a ∧ (zipQ l)[k]? = some ((k : Int), a) ∧ sameH h a = true ∧ ∀ j b, j < k → (zipQ l)[j]? = some b → sameH h b.2 = false := by
  obtain ⟨hlt, hh, hal⟩ := findH_is hk
  have ha : l[k]? = some l[k] := List.getElem?_eq_getElem hlt
  refine ⟨l[k], ha, zip_at ha, ?_, fun j b hj hb => ?_⟩
  · rw [hitH_at ha, ← h1, ← h2] at hh
    rw [sameH_comm]
    exact hh
  · have hjl : j < l.length := by omega
    have e := zip_at (List.getElem?_eq_getElem hjl)
    rw [e] at hb
    obtain rfl := Option.some.inj hb
    have := hal j hj
    rw [hitH_at (List.getElem?_eq_getElem hjl), ← h1, ← h2] at this
    rw [sameH_comm]
    exact this
theorem add_zip {l : List Hnt} {h : Hnt} (hf : findH l h.1 (idH h) = none) : putQ (l.length : Int) h (zipQ l) = zipQ (l ++ [h]) := by
  rw [putQ_new, zipQ_append]
  rw [first_zip, hf]
  rfl
theorem erase_zip {l : List Hnt} {p i : Int} {k : Nat} (hk : findH l p i = some k) {h : Hnt} (h1 : h.1 = p) (h2 : idH h = i) : (eraseQ h (zipQ l)).map Prod.snd = l.take k ++ l.drop (k + 1) ∧ Rises (eraseQ h (zipQ l)) := by
  obtain ⟨a, ha, hz, hs, hal⟩ := zip_hit hk h1 h2
  have e := (setQ_at (x := (0, h)) hz hs hal).2
  simp only at e
  rw [e]
  refine ⟨?_, (rises_zip l).sublist (List.eraseIdx_sublist _ _)⟩
  rw [erase_map, zipQ_snd, List.eraseIdx_eq_take_drop_succ]
theorem set_zip {l : List Hnt} {p i : Int} {k : Nat} (hk : findH l p i = some k) {h : Hnt} (h1 : h.1 = p) (h2 : idH h = i) (t : Int) : (putQ t h (zipQ l)).map Prod.snd = l.set k h ∧ Rises (putQ t h (zipQ l)) := by
  obtain ⟨a, ha, hz, hs, hal⟩ := zip_hit hk h1 h2
  have hfirst : firstQ (zipQ l) h = some ((k : Int), a) := by
    rw [first_zip, h1, h2, hk, Option.map_some, ha]
    rfl
  have hturn : turnQ t h (zipQ l) = (k : Int) := by
    unfold turnQ
    rw [hfirst]
  rw [putQ_set, hturn, (setQ_at (x := ((k : Int), h)) hz hs hal).1]
  refine ⟨?_, ?_⟩
  · rw [List.map_set, zipQ_snd]
  · have e : ∀ L : List Qd, Rises L ↔ (L.map Prod.fst).Pairwise (· < ·) := fun L => by unfold Rises; rw [List.pairwise_map]
    rw [e, List.map_set]
    have hset : ((zipQ l).map Prod.fst).set k (k : Int) = (zipQ l).map Prod.fst := by
      apply List.ext_getElem?
      intro j
      rw [List.getElem?_set]
      by_cases hj : k = j
      · subst hj
        have : k < ((zipQ l).map Prod.fst).length := by rw [List.length_map]; exact getElem?_some_lt hz
        rw [if_pos rfl, if_pos this, List.getElem?_map, hz]
        rfl
      · rw [if_neg hj]
    rw [hset, ← e]
    exact rises_zip l
theorem queue_zip {l : List Hnt} (h : hintsFaultM l = 0) : queueM l = zipQ l := (queue_all l).1 ((hintsFault_iff l).1 h).2.2
end Go.Proofs.YteiclanlhnccnaaGreatDoor
/-
  The program's fault of one hint.
-/
namespace Go.Proofs.YteiclanlhnccnaaGreatDoor
set_option maxRecDepth 20000
open Go.RowKit
set_option linter.unusedSimpArgs false
set_option linter.unusedVariables false

theorem bnds_three {w : World} {t : TypeId} {x lo hi x' lo' hi' x'' lo'' hi'' : Int} {g : Nat} (hg : w.heap.size = g) : Bnds (w.alloc (.cells #[.int .i64 x, .int .i64 lo, .int .i64 hi, .int .i64 x', .int .i64 lo', .int .i64 hi', .int .i64 x'', .int .i64 lo'', .int .i64 hi''] t)) g [(x, lo, hi), (x', lo', hi'), (x'', lo'', hi'')] := by
  subst hg
  intro k b hk
  match k, hk with
  | 0, hk =>
    obtain rfl : (x, lo, hi) = b := by simpa using hk
    refine ⟨?_, ?_, ?_⟩ <;> (rw [cell_of_row _ _ _ _ _ _ (heap_alloc_new w _)]; rfl)
  | 1, hk =>
    obtain rfl : (x', lo', hi') = b := by simpa using hk
    refine ⟨?_, ?_, ?_⟩ <;> (rw [cell_of_row _ _ _ _ _ _ (heap_alloc_new w _)]; rfl)
  | 2, hk =>
    obtain rfl : (x'', lo'', hi'') = b := by simpa using hk
    refine ⟨?_, ?_, ?_⟩ <;> (rw [cell_of_row _ _ _ _ _ _ (heap_alloc_new w _)]; rfl)
  | k + 3, hk => simp at hk

set_option maxHeartbeats 1000000 in
theorem implHintFault (a0 a1 a2 a3 a4 a5 a6 : Int) (w : World) (hF : Flds w) :
    Calls Tryz.prog 70 #[.agg #[.int .i64 a0, .int .i64 a1, .int .i64 a2, .int .i64 a3, .int .i64 a4, .int .i64 a5, .int .i64 a6]] w fun e w' => e = .returned (.int .i64 (hfaultM (a0, (a1, a2, a3, a4), a5, a6))) ∧ Below w.heap.size w w' := by
  have hB0 : Below w.heap.size w (w.alloc (.cells #[.int .i64 a0, .int .i64 a1, .int .i64 a2, .int .i64 a3, .int .i64 a4, .int .i64 a5, .int .i64 a6] 89)) := (Below.refl _ _).alloc (Nat.le_refl _) _
  have x0 := At.new w 89 #[.int .i64 a0, .int .i64 a1, .int .i64 a2, .int .i64 a3, .int .i64 a4, .int .i64 a5, .int .i64 a6]
  have HS := implSampleFault a1 a2 a3 a4 _ (hF.below hB0)
  rcases faultM_or (a1, a2, a3, a4) with hf | hf
  rotate_left
  · rw [hf] at HS
    have Hr := Lib.hid (hfault_smp (h := (a0, (a1, a2, a3, a4), a5, a6)) hf)
    clear hf
    go_enter Tryz.func70, Tryz.ntmps70
    go_wp2_with fail
    refine HS.mono ?_
    rintro e w1 ⟨rfl, hb1⟩
    have hB1 := hB0.trans (hb1.mono hB0.size)
    go_wp2
    go_ret
    exact ⟨by rw [Hr.out]; rfl, hB1⟩
  rw [hf] at HS
  obtain ⟨r, hr⟩ : ∃ r, rangeH (a0, (a1, a2, a3, a4), a5, a6) = r := ⟨_, rfl⟩
  have Hb := Lib.hid (show ([(a0, 0, 3), (a5, 0, 4), (a6, 0, 200000)] : List (Int × Int × Int)).all inB = r by rw [← hr]; simp [rangeH])
  have Hr := Lib.hid (show hfaultM (a0, (a1, a2, a3, a4), a5, a6) = if r then 0 else 3 by
    cases r
    · exact hfault_no hf hr
    · exact hfault_yes hf hr)
  clear hf hr
  go_enter Tryz.func70, Tryz.ntmps70
  go_wp2_with fail
  refine HS.mono ?_
  rintro e w1 ⟨rfl, hb1⟩
  have hB1 := hB0.trans (hb1.mono hB0.size)
  obtain ⟨c0, c1, c2, c3, c4, c5, c6⟩ := (x0.below hb1 x0.lt).seven
  go_wp2_with fail
  refine (areWithin_any _ 3 _ [(a0, 0, 3), (a5, 0, 4), (a6, 0, 200000)] _ (bnds_three (by simp)) (by simp) rfl (by simp)).mono ?_
  rintro e w2 ⟨rfl, hb2⟩
  have hBa := hB1.alloc hB1.size (.cells #[.int .i64 a0, .int .i64 0, .int .i64 3, .int .i64 a5, .int .i64 0, .int .i64 4, .int .i64 a6, .int .i64 0, .int .i64 200000] 113)
  have hB2 := hBa.trans (hb2.mono hBa.size)
  rw [Hb.out]
  cases r
  · go_wp2
    go_ret
    exact ⟨by rw [Hr.out]; rfl, hB2⟩
  · go_wp2
    go_ret
    exact ⟨by rw [Hr.out]; rfl, hB2⟩
end Go.Proofs.YteiclanlhnccnaaGreatDoor
/-
  Queued hints that come out of an iterator, collected (as Seq, at queued hints).
-/
namespace Go.Proofs.YteiclanlhnccnaaGreatDoor
set_option maxRecDepth 20000
open Go.RowKit Go.Shelf
set_option linter.unusedSimpArgs false
set_option linter.unusedVariables false

attribute [local go_sem] Oper.semAt_some

def qdCells (x : Qd) : List Value := [.int .i64 x.1, .int .i64 x.2.1, .int .i64 x.2.2.1.1, .int .i64 x.2.2.1.2.1, .int .i64 x.2.2.1.2.2.1, .int .i64 x.2.2.1.2.2.2, .int .i64 x.2.2.2.1, .int .i64 x.2.2.2.2]
/-- Queued hints. -/
def eQ : Enc Qd := ⟨243, 8, qdCells⟩
theorem okQ : EncOk eQ := ⟨fun _ => rfl, fun a u hu => by simp only [eQ, qdCells, List.mem_cons, List.not_mem_nil, or_false] at hu; rcases hu with rfl | rfl | rfl | rfl | rfl | rfl | rfl | rfl <;> rfl, by decide⟩
theorem info_qd : (Tryz.prog.info? 243).map (fun i => (i.zero, i.size, i.bytes)) = some (some (.agg #[.int .i64 0, .int .i64 0, .int .i64 0, .int .i64 0, .int .i64 0, .int .i64 0, .int .i64 0, .int .i64 0]), 8, 64) := by kernel_rfl
theorem At.eight {w : World} {g : Nat} {t : TypeId} {a b c d e f h i : Value} (k : At w g t #[a, b, c, d, e, f, h, i]) : w.cell? ⟨g, 0, none⟩ = some a ∧ w.cell? ⟨g, 1, none⟩ = some b ∧ w.cell? ⟨g, 2, none⟩ = some c ∧ w.cell? ⟨g, 3, none⟩ = some d ∧ w.cell? ⟨g, 4, none⟩ = some e ∧ w.cell? ⟨g, 5, none⟩ = some f ∧ w.cell? ⟨g, 6, none⟩ = some h ∧ w.cell? ⟨g, 7, none⟩ = some i :=
  ⟨k.cell 0, k.cell 1, k.cell 2, k.cell 3, k.cell 4, k.cell 5, k.cell 6, k.cell 7⟩
def encQ (x : Qd) : Array Value := #[qdV x]
abbrev qdArr (x : Qd) : Array Value := #[.int .i64 x.1, .int .i64 x.2.1, .int .i64 x.2.2.1.1, .int .i64 x.2.2.1.2.1, .int .i64 x.2.2.1.2.2.1, .int .i64 x.2.2.1.2.2.2, .int .i64 x.2.2.2.1, .int .i64 x.2.2.2.2]
theorem abides_belowQ {β : Type} {B : Nat} {J : β → World → Prop} (h : AbidesFrom B J) {x : β} {W W' : World} (hJ : J x W) (hb : Below W.heap.size W W') : J x W' := h x W W' none hJ (grown_below hb (Nat.le_refl _)) (fun r e => by cases e)

/-- Between two rounds: the box holds a row of the call's own: what has come. -/
def GathQ (n₀ B N : Nat) (pre : List Qd) (W : World) : Prop :=
  ∃ A c, At W B 245 #[.slice A pre.length c] ∧ Ow eQ W (n₀ + 1) A pre.length c pre ∧ pre.length ≤ N
theorem GathQ.own (n₀ B N : Nat) : Own (GathQ n₀ B N) := fun s X Y row ⟨A, c, h1, h2, h3⟩ hg hr => ⟨A, c, h1.keptBy hg hr, h2.keptBy hg hr, h3⟩

set_option maxRecDepth 100000 in
set_option maxHeartbeats 2000000 in
theorem appendSeqQ (n : Nat) (hn : 3 ≤ n) (gf : Nat) (lb : Array Value) (eg : ∀ args w, (callFunc gf args).run Tryz.prog w = .ok (.enter gf args) w) (S Sp : List Qd → Prop) (N : Nat) (hN : N ≤ 1000) (n0 : Nat) (w : World) (hn0 : n0 ≤ w.heap.size)
    (hseq : SeqStopsK Fence.wide (n - 1) Tryz.prog gf lb encQ (Kp2 n0) S Sp N w) :
    CallsIn Fence.wide n Tryz.prog 183 #[.slice none 0 0, .func (.func gf) #[] lb] w fun e W' =>
      ∃ A c xs, e = .returned (.slice A xs.length c) ∧ S xs ∧ Ow eQ W' w.heap.size A xs.length c xs ∧ Below w.heap.size w W' := by
  have hro : Fence.wide.round = none := rfl
  have h1 : 1 ≤ n := by omega
  have hT : Fence.wide.fn 183 := trivial
  refine callsIn_of_wp_marks Tryz.func183 rfl hT ?_ hro
  simp only [Tryz.ntmps183, List.size_toArray, List.length_cons, List.length_nil, Nat.reduceAdd, Nat.reduceSub, Array.replicate_succ, Array.replicate_zero, List.push_toArray, List.append_toArray, List.nil_append, List.cons_append]
  gi_wp2
  have bO := At.new w 245 #[.slice none 0 0]
  have hB0 := (Below.refl w.heap.size w).alloc (Nat.le_refl _) (.cells #[.slice none 0 0] 245)
  obtain ⟨W0, hW0⟩ : ∃ W0, w.alloc (.cells #[.slice none 0 0] 245) = W0 := ⟨_, rfl⟩
  have hsz : W0.heap.size = w.heap.size + 1 := by rw [← hW0]; simp
  rw [hW0] at bO hB0 ⊢
  clear hW0
  refine wpIn_rangeFunc_ownH hro h1 (gf := gf) (lb := lb) rfl trivial eg hseq Kp2.t (Kp2.b (by omega)) hB0 (fun _ => rfl)
    (fun pre W => GathQ w.heap.size w.heap.size N pre W ∧ Below w.heap.size w W)
    (fun _ _ _ => False)
    (OwnFrom.and (Own.from (GathQ.own _ _ _) _) (ownFrom_below (Nat.le_refl _) (by omega)))
    (fun _ _ _ _ _ hs _ _ => hs)
    ⟨⟨none, 0, bO, Ow.nil, Nat.zero_le _⟩, hB0⟩
    (fun x a' W => ∃ Bx, w.heap.size < Bx ∧ At W Bx 243 (qdArr x) ∧ a' = { tmps := #[.slice none 0 0, .func (.func gf) #[] lb, .pointer (some ⟨w.heap.size, 0, none⟩), undef, .slice none 0 0, .pointer (some ⟨Bx, 0, none⟩), .func (.func gf) #[] lb, .agg (qdArr x), undef, undef, undef, undef, undef], defers := [] })
    (fun x a' _ X Y row hs hg hr => by obtain ⟨Bx, h1, h2, h3⟩ := hs; exact ⟨Bx, h1, h2.keptBy hg (fun r e => (hr r e).2), h3⟩)
    ?assign ?body ?done ?stop
  case assign =>
    rintro l pre x W K ⟨⟨A, c, hA, hO, hN1⟩, hB⟩ hK
    have hsW := hB.size
    dsimp only [encQ]
    gi_wp2
    exact hK _ _ ((KeepsOthers.alloc _ _).from _) ⟨KeepsWalks.alloc _ _, (Below.refl _ W).alloc (by omega) _⟩ ⟨⟨A, c, hA.alloc _, hO.alloc _, hN1⟩, hB.alloc hB.size _⟩ ⟨W.heap.size, hA.lt, At.new W _ _, rfl⟩
  case body =>
    rintro l pre x a' W hl ⟨r, hr⟩ ⟨⟨A, c, hA, hO, hN1⟩, hB⟩ ⟨Bx, hBx, bX, rfl⟩ hlt
    have hsW := hB.size
    have cA := hA.cell 0
    obtain ⟨cx0, cx1, cx2, cx3, cx4, cx5, cx6, cx7⟩ := bX.eight
    gi_wp2_with (gi_at_builtin; refine wpListIn_append_ow okQ _ rfl _ _ 245 rfl (w.heap.size + 1) info_qd Tryz.underlying245 rfl A pre.length c pre rfl (hO.alloc _) (some ⟨W.heap.size, 0, none⟩) 1 1 (W.heap.size + 1) [x] rfl (rd_lit okQ W 243 [x] _ rfl) rfl (by unfold maxLen; omega) (by omega) (by simp; omega) ?_; intro A' c' w1 hO1 hg1 hA1; have hAa := hA.alloc (.cells (qdArr x) 243); have hA2 := hAa.grown hg1 (fun e => by have := (hO.lt _ e).1; omega); have cA2 := hA2.cell 0; have fA2 := hA2.frozen 0)
    have hgB : Below w.heap.size w w1 := (hB.alloc hB.size _).grown hg1 (by simp; omega) (fun k e => by have := (hO.lt k e).1; omega)
    have hlt' : ∀ g, A'.map (·.block) = some g → w.heap.size + 1 ≤ g := fun g e => (hO1.lt g e).1
    have hK : KeepsOthers W (w1.setCell ⟨w.heap.size, 0, none⟩ (.slice A' (pre.length + 1) c')) :=
      ((KeepsOthers.alloc W _).trans (KeepsOthers.of_grownBy hg1 fun j o ej hj => (hO.alloc _).cellsAt ej hj)).trans (KeepsOthers.setCell _ _ _)
    refine ⟨hK.from _, ⟨hK.walks, ?_⟩, ⟨A', c', ?_, ?_, ?_⟩, ?_⟩
    · exact (((Below.refl n0 W).alloc (by omega) _).grown hg1 (by simp; omega) (fun k e => by have := (hO.lt k e).1; omega)).setCell (p := ⟨w.heap.size, 0, none⟩) hn0 _
    · have := hA2.set 0 (.slice A' (pre.length + 1) c')
      simpa using this
    · have := hO1.under (p := ⟨w.heap.size, 0, none⟩) (by simp) (.slice A' (pre.length + 1) c')
      simpa using this
    · simp
      omega
    · exact hgB.setCell (p := ⟨w.heap.size, 0, none⟩) (Nat.le_refl _) _
  case done =>
    rintro D ys W hD hS ⟨⟨A, c, hA, hO, hN1⟩, hB⟩ hK
    have cA := hA.cell 0
    gi_wp2
    refine ⟨by simp, .inl ⟨_, _, rfl, run_takeDeferred hK, ?_⟩⟩
    exact ⟨_, results_tmp rfl _ _ _, A, c, ys, rfl, hS, (hO.keptBy (grownBy_putObj' W D _) (fun r e => by cases e; exact ⟨_, hK, rfl⟩)).from_ (by omega), hB.trans (belowK_b (w := w) (Nat.le_refl _) W D _ _ (by omega) hK rfl rfl)⟩
  case stop =>
    rintro D c pre W _ _ h _
    exact h.elim

/-- slices.Collect over whatever such iterator. -/
theorem collectSeqQ (n : Nat) (hn : 3 ≤ n) (gf : Nat) (lb : Array Value) (eg : ∀ args w, (callFunc gf args).run Tryz.prog w = .ok (.enter gf args) w) (S Sp : List Qd → Prop) (N : Nat) (hN : N ≤ 1000) (n0 : Nat) (w : World) (hn0 : n0 ≤ w.heap.size)
    (hseq : SeqStopsK Fence.wide (n - 1) Tryz.prog gf lb encQ (Kp2 n0) S Sp N w) :
    Calls Tryz.prog 176 #[.func (.func gf) #[] lb] w fun e W' =>
      ∃ A c xs, e = .returned (.slice A xs.length c) ∧ S xs ∧ Ow eQ W' w.heap.size A xs.length c xs ∧ Below w.heap.size w W' := by
  have hq := callsIn_wide.1 (appendSeqQ n hn gf lb eg S Sp N hN n0 w hn0 hseq)
  clear hseq
  go_enter Tryz.func176, Tryz.ntmps176
  go_wp2_with (go_at_call 183; refine hq.mono ?_; rintro e w1 ⟨A, c, xs, rfl, hS, hO, hB⟩)
  go_ret
  exact ⟨A, c, xs, rfl, hS, hO, hB⟩
end Go.Proofs.YteiclanlhnccnaaGreatDoor
