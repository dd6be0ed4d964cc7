/-
  Texts of one proof, joined: each has its own namespace.
-/
import Derived.Test.YtmaillakhhdkfaaGreatDoorBFnRecovers13
import Derived.Test.YtmaillakhhdkfaaGreatDoorBFnRecovers17
import Derived.Test.YtmaillakhhdkfaaGreatDoorBFnRecovers18
import Derived.Deep.DeepCutAuto
/-
  A record put to a state: the program's.
-/
namespace Go.Proofs.YtmaillakhhdkfaaGreatDoor
set_option maxRecDepth 20000
open Go.RowKit
set_option linter.unusedSimpArgs false
set_option linter.unusedVariables false
attribute [local irreducible] mixW

theorem or_pair (a b : Int) : orM [a, b] = if a ≠ 0 then a else b := by
  unfold orM
  by_cases h1 : a = 0
  · by_cases h2 : b = 0 <;> simp [h1, h2]
  · simp [h1]
theorem apply_or {s : Sta} {r : Rcd} (h : orM [stateFaultM s, recFaultM r] ≠ 0) : applyM s r = (orM [stateFaultM s, recFaultM r], zeroSta) := by
  rw [or_pair] at h ⊢
  unfold applyM
  by_cases h1 : stateFaultM s = 0
  · have e : (if stateFaultM s ≠ 0 then stateFaultM s else recFaultM r) = recFaultM r := if_neg (by simp [h1])
    rw [e] at h ⊢
    rw [if_neg (show ¬ stateFaultM s ≠ 0 by simp [h1]), if_pos h]
  · have e : (if stateFaultM s ≠ 0 then stateFaultM s else recFaultM r) = stateFaultM s := if_pos h1
    rw [e, if_pos h1]
theorem apply_none {s : Sta} {r : Rcd} (h : orM [stateFaultM s, recFaultM r] = 0) : stateFaultM s = 0 ∧ recFaultM r = 0 := by
  rw [or_pair] at h
  by_cases h1 : stateFaultM s = 0
  · rw [if_neg (by simp [h1])] at h
    exact ⟨h1, h⟩
  · rw [if_pos h1] at h
    exact absurd h h1
set_option maxHeartbeats 8000000 in
theorem implApplyRecord (A B : Option Addr) (n c m d : Nat) (l : List Smp) (h : List Hnt) (x a0 a1 a2 a3 a4 a5 a6 : Int) (w : World) (ha : Rd eS w w.heap.size A l) (hb : Rd eH w w.heap.size B h) (hn : l.length = n) (hm : h.length = m) (hF : Flds w) :
    Calls Tryz.prog 12 #[.agg #[.slice A n c, .slice B m d, .int .i64 x], .agg #[.int .i64 a0, .int .i64 a1, .int .i64 a2, .int .i64 a3, .int .i64 a4, .int .i64 a5, .int .i64 a6]] w (RetSta (applyM (l, h, x) (a0, a1, (a2, a3, a4, a5), a6)) w) := by
  have hB0 : Below w.heap.size w (((w.alloc (.cells #[.slice A n c, .slice B m d, .int .i64 x] 39)).alloc (.cells #[.int .i64 a0, .int .i64 a1, .int .i64 a2, .int .i64 a3, .int .i64 a4, .int .i64 a5, .int .i64 a6] 27)).alloc (.cells #[.int .i64 0, .slice none 0 0, .slice none 0 0, .int .i64 0] 43)) := (((Below.refl _ _).alloc (Nat.le_refl _) _).alloc (by simp) _).alloc (by simp; omega) _
  have sx := ((At.new w 39 #[.slice A n c, .slice B m d, .int .i64 x]).alloc (.cells #[.int .i64 a0, .int .i64 a1, .int .i64 a2, .int .i64 a3, .int .i64 a4, .int .i64 a5, .int .i64 a6] 27)).alloc (.cells #[.int .i64 0, .slice none 0 0, .slice none 0 0, .int .i64 0] 43)
  have rx : At (((w.alloc (.cells #[.slice A n c, .slice B m d, .int .i64 x] 39)).alloc (.cells #[.int .i64 a0, .int .i64 a1, .int .i64 a2, .int .i64 a3, .int .i64 a4, .int .i64 a5, .int .i64 a6] 27)).alloc (.cells #[.int .i64 0, .slice none 0 0, .slice none 0 0, .int .i64 0] 43)) (w.heap.size + 1) 27 #[.int .i64 a0, .int .i64 a1, .int .i64 a2, .int .i64 a3, .int .i64 a4, .int .i64 a5, .int .i64 a6] := by
    have := (At.new (w.alloc (.cells #[.slice A n c, .slice B m d, .int .i64 x] 39)) 27 #[.int .i64 a0, .int .i64 a1, .int .i64 a2, .int .i64 a3, .int .i64 a4, .int .i64 a5, .int .i64 a6]).alloc (.cells #[.int .i64 0, .slice none 0 0, .slice none 0 0, .int .i64 0] 43)
    simpa using this
  have zx : At (((w.alloc (.cells #[.slice A n c, .slice B m d, .int .i64 x] 39)).alloc (.cells #[.int .i64 a0, .int .i64 a1, .int .i64 a2, .int .i64 a3, .int .i64 a4, .int .i64 a5, .int .i64 a6] 27)).alloc (.cells #[.int .i64 0, .slice none 0 0, .slice none 0 0, .int .i64 0] 43)) (w.heap.size + 2) 43 #[.int .i64 0, .slice none 0 0, .slice none 0 0, .int .i64 0] := by
    have := At.new ((w.alloc (.cells #[.slice A n c, .slice B m d, .int .i64 x] 39)).alloc (.cells #[.int .i64 a0, .int .i64 a1, .int .i64 a2, .int .i64 a3, .int .i64 a4, .int .i64 a5, .int .i64 a6] 27)) 43 #[.int .i64 0, .slice none 0 0, .slice none 0 0, .int .i64 0]
    simpa using this
  have hBd := hB0.drew
  have s0 : At2 (((w.alloc (.cells #[.slice A n c, .slice B m d, .int .i64 x] 39)).alloc (.cells #[.int .i64 a0, .int .i64 a1, .int .i64 a2, .int .i64 a3, .int .i64 a4, .int .i64 a5, .int .i64 a6] 27)).alloc (.cells #[.int .i64 0, .slice none 0 0, .slice none 0 0, .int .i64 0] 43)).drew w.heap.size 39 #[.slice A n c, .slice B m d, .int .i64 x] (w.heap.size + 1) 27 #[.int .i64 a0, .int .i64 a1, .int .i64 a2, .int .i64 a3, .int .i64 a4, .int .i64 a5, .int .i64 a6] := ⟨sx.drew, rx.drew⟩
  have z0 : At (((w.alloc (.cells #[.slice A n c, .slice B m d, .int .i64 x] 39)).alloc (.cells #[.int .i64 a0, .int .i64 a1, .int .i64 a2, .int .i64 a3, .int .i64 a4, .int .i64 a5, .int .i64 a6] 27)).alloc (.cells #[.int .i64 0, .slice none 0 0, .slice none 0 0, .int .i64 0] 43)).drew (w.heap.size + 2) 43 #[.int .i64 0, .slice none 0 0, .slice none 0 0, .int .i64 0] := zx.drew
  have ha0 := ha.lift hBd
  have hb0 := hb.lift hBd
  have hF0 := hF.below hBd
  have Hn := Lib.hid hn
  have Hm := Lib.hid hm
  have SF := fun W h1 h2 h3 => implStateFault A B n c m d l h x W h1 h2 hn hm h3
  have RF := fun W h3 => implRecordFault a0 a1 a2 a3 a4 a5 a6 W h3
  have Hyes := Lib.hid (apply_or (s := (l, h, x)) (r := (a0, a1, (a2, a3, a4, a5), a6)))
  have Hno := Lib.hid (apply_none (s := (l, h, x)) (r := (a0, a1, (a2, a3, a4, a5), a6)))
  have Hright := Lib.hid (apply_right (s := (l, h, x)) (r := (a0, a1, (a2, a3, a4, a5), a6)))
  have Hf0 : recFaultM (a0, a1, (a2, a3, a4, a5), a6) = 0 → recFormM (a0, a1, (a2, a3, a4, a5), a6) = true := fun q => by
    rcases hf : recFormM (a0, a1, (a2, a3, a4, a5), a6)
    · rw [recFault_form hf] at q; cases q
    · rfl
  have Hbig : stateFaultM (l, h, x) = 0 → n ≤ 1000 ∧ m ≤ 1000 := fun q => by
    obtain ⟨q1, q2, -⟩ := (stateFault_iff (l, h, x)).1 q
    have h1 := ((storeFault_iff l).1 q1).1
    have h2 := ((hintsFault_iff h).1 q2).1
    rw [hn] at h1
    rw [hm] at h2
    omega
  have Hbig := Lib.hid Hbig
  have Hf0 := Lib.hid Hf0
  generalize hsf : stateFaultM (l, h, x) = sf at *
  generalize hrf : recFaultM (a0, a1, (a2, a3, a4, a5), a6) = rf at *
  clear hn hm ha hb hF hsf hrf hB0 sx rx zx
  go_enter Tryz.func12, Tryz.ntmps12
  go_wp2
  refine wp_region_mix [(0, false), (2, false), (1, true), (3, true), (4, true), (5, true), (6, false)] (fun u => At2 u w.heap.size 39 #[.slice A n c, .slice B m d, .int .i64 x] (w.heap.size + 1) 27 #[.int .i64 a0, .int .i64 a1, .int .i64 a2, .int .i64 a3, .int .i64 a4, .int .i64 a5, .int .i64 a6]) (by kernel_rfl) (by kernel_rfl) (fun _ _ _ _ _ h => h) s0 ?_
  simp only [mixOps, List.map_cons, List.map_nil, List.getElem?_cons_succ, List.getElem?_cons_zero, Option.getD_some]
  repeat (first
    | (refine mix_skip (by rfl) ?_
       (try simp only [Act.put, List.setIfInBounds_toArray, List.set_cons_zero, List.set_cons_succ]))
    | (refine mix_pure (v := ?_) (by rfl) (fun u hu => ?_) ?_
       rotate_left
       · (obtain ⟨hu1, hu2⟩ := hu; obtain ⟨_, _, _, _, _, _⟩ := At.three hu1; obtain ⟨_, _, _, _, _, _, _⟩ := At.seven hu2)
         go_simp
         (with_reducible rfl)
       (try simp only [Act.put, List.setIfInBounds_toArray, List.set_cons_zero, List.set_cons_succ])))
  generalize (((w.alloc (.cells #[.slice A n c, .slice B m d, .int .i64 x] 39)).alloc (.cells #[.int .i64 a0, .int .i64 a1, .int .i64 a2, .int .i64 a3, .int .i64 a4, .int .i64 a5, .int .i64 a6] 27)).alloc (.cells #[.int .i64 0, .slice none 0 0, .slice none 0 0, .int .i64 0] 43)).drew = v0 at *
  refine mix_call (by rfl) (fun K hK => ?_)
  go_simp
  refine (SF _ ha0 hb0 hF0).mono ?_
  rintro e w1 ⟨rfl, hb1⟩
  have hB1 := hBd.trans (hb1.mono hBd.size)
  have s1 := s0.below hb1 s0.lt
  have z1 := z0.below hb1 z0.lt
  have ha1 := ha0.lift hb1
  have hb_1 := hb0.lift hb1
  have hF1 := hF0.below hb1
  refine hK _ _ (fun u => At2 u w.heap.size 39 #[.slice A n c, .slice B m d, .int .i64 x] (w.heap.size + 1) 27 #[.int .i64 a0, .int .i64 a1, .int .i64 a2, .int .i64 a3, .int .i64 a4, .int .i64 a5, .int .i64 a6]) (fun _ h => h) s1 ?_
  clear hK K
  (try simp only [Act.put, List.setIfInBounds_toArray, List.set_cons_zero, List.set_cons_succ])
  refine mix_call (by rfl) (fun K hK => ?_)
  go_simp
  refine (RF _ hF1).mono ?_
  rintro e w2 ⟨rfl, hb2⟩
  have hB2 := hB1.trans (hb2.mono hB1.size)
  have s2 := s1.below hb2 s1.lt
  have z2 := z1.below hb2 z1.lt
  have ha2 := ha1.lift hb2
  have hb_2 := hb_1.lift hb2
  have hF2 := hF1.below hb2
  refine hK _ _ (fun u => At2 u w.heap.size 39 #[.slice A n c, .slice B m d, .int .i64 x] (w.heap.size + 1) 27 #[.int .i64 a0, .int .i64 a1, .int .i64 a2, .int .i64 a3, .int .i64 a4, .int .i64 a5, .int .i64 a6]) (fun _ h => h) s2 ?_
  clear hK K
  (try simp only [Act.put, List.setIfInBounds_toArray, List.set_cons_zero, List.set_cons_succ])
  refine mix_call (by rfl) (fun K hK => ?_)
  go_simp
  have al3 := (Below.refl w2.heap.size w2).alloc (Nat.le_refl _) (.cells #[.int .i64 sf, .int .i64 rf] 2)
  have ii := At.new w2 2 #[.int .i64 sf, .int .i64 rf]
  have hB3 := hB2.alloc hB2.size (.cells #[.int .i64 sf, .int .i64 rf] 2)
  have s3 := s2.alloc (.cells #[.int .i64 sf, .int .i64 rf] 2)
  have z3 := z2.alloc (.cells #[.int .i64 sf, .int .i64 rf] 2)
  have ha3 := ha2.lift al3
  have hb_3 := hb_2.lift al3
  have hF3 := hF2.below al3
  have CO := cmpOr64S w2.heap.size 2 2 [sf, rf] _ (Ints.of_at ii) rfl (by omega)
  refine hK _ _ (fun u => At2 u w.heap.size 39 #[.slice A n c, .slice B m d, .int .i64 x] (w.heap.size + 1) 27 #[.int .i64 a0, .int .i64 a1, .int .i64 a2, .int .i64 a3, .int .i64 a4, .int .i64 a5, .int .i64 a6]) (fun _ h => h) s3 ?_
  clear hK K al3
  (try simp only [Act.put, List.setIfInBounds_toArray, List.set_cons_zero, List.set_cons_succ])
  refine mix_call (by rfl) (fun K hK => ?_)
  go_simp
  refine CO.mono ?_
  rintro e w' ⟨rfl, rfl⟩
  refine hK _ _ (fun u => At2 u w.heap.size 39 #[.slice A n c, .slice B m d, .int .i64 x] (w.heap.size + 1) 27 #[.int .i64 a0, .int .i64 a1, .int .i64 a2, .int .i64 a3, .int .i64 a4, .int .i64 a5, .int .i64 a6]) (fun _ h => h) s3 ?_
  clear hK K CO ii
  (try simp only [Act.put, List.setIfInBounds_toArray, List.set_cons_zero, List.set_cons_succ])
  refine mix_pure (v := ?_) (by rfl) (fun u hu => ?_) ?_
  rotate_left
  · go_simp
    (with_reducible rfl)
  (try simp only [Act.put, List.setIfInBounds_toArray, List.set_cons_zero, List.set_cons_succ])
  refine mix_nil ?_
  generalize (w2.alloc (.cells #[.int .i64 sf, .int .i64 rf] 2)) = v3 at *
  have lz3 := z3.lt
  generalize hor : orM [sf, rf] = fo at *
  by_cases hfo : fo = 0
  rotate_left
  · have hne : (fo != 0) = true := by rw [bne_iff_ne]; exact hfo
    have Hr := Lib.hid (Hyes.out hfo)
    obtain ⟨zc0, zc1, zc2, zc3, zf0, zf1, zf2, zf3⟩ := z3.four
    clear hfo
    go_wp2
    refine bodyPost_ret (v := .agg #[.int .i64 fo, .slice none 0 0, .slice none 0 0, .int .i64 0]) (by simp [results, Tryz.results12, go_sem, zc0, zc1, zc2, zc3]) rfl ?_
    rw [Hr.out]
    exact retSta_zero ((((hB3.setCell (by simp; omega) _).setCell (by simp; omega) _).setCell (by simp; omega) _).setCell (by simp; omega) _)
  subst hfo
  obtain ⟨e1, e2⟩ := Hno.out rfl
  have hbg := Hbig.out e1
  have hn3 := hbg.1
  have hm3 := hbg.2
  have hform := Lib.hid (Hf0.out e2)
  have Hr := Lib.hid (Hright.out e1 e2)
  clear Hno Hyes Hright Hbig Hf0 e1 e2 hor hbg
  rcases hq : stepR (l, h, x) (a0, a1, (a2, a3, a4, a5), a6) with ⟨tc, tl, th, tx⟩
  rw [hq] at Hr
  have AE := fun base A B n c m d W o1 o2 hbase hn1 hFW => applyEntry base A B n c m d l h x a0 a1 a2 a3 a4 a5 a6 W o1 o2 hbase hn1 hFW hform.out
  rw [hq] at AE
  clear hq
  by_cases htc : tc = 0
  · subst htc
    have AE0 : ∀ (base : Nat) (A B : Option Addr) (n c m d : Nat) (W : World), Ow eS W base A n c l → Ow eH W base B m d h → base ≤ W.heap.size → n ≤ 1048576 → Flds W → Calls Tryz.prog 48 #[.agg #[.slice A n c, .slice B m d, .int .i64 x], entV (a0, a1, (a2, a3, a4, a5), a6)] W fun e W' => ∃ A n c B m d, e = .returned (.tuple #[.agg #[.slice A n c, .slice B m d, .int .i64 tx], .int .i64 0]) ∧ Ow eS W' base A n c tl ∧ Ow eH W' base B m d th ∧ Below W.heap.size W W' := fun base A B n c m d W o1 o2 hbase hn1 hFW => (AE base A B n c m d W o1 o2 hbase hn1 hFW).mono fun e W' ⟨A', n', c', B', m', d', y, he, hi, hb⟩ => by
      obtain ⟨p1, p2, p3⟩ := hi rfl
      exact ⟨A', n', c', B', m', d', by rw [he]; show Ending.returned (.tuple #[.agg #[.slice A' n' c', .slice B' m' d', .int .i64 y], .int .i64 0]) = _; rw [show y = tx from p3], p1, p2, hb⟩
    clear AE
    go_upto_region 4 with fail
    go_cut [6, 7] (fun s t wx => ∃ gx A5 n5 c5 B5 m5 d5, s = .pointer (some ⟨gx, 0, none⟩) ∧ t = .int .i64 0 ∧ At wx gx 39 #[.slice A5 n5 c5, .slice B5 m5 d5, .int .i64 tx] ∧ Ow eS wx v3.heap.size A5 n5 c5 tl ∧ Ow eH wx v3.heap.size B5 m5 d5 th ∧ Below v3.heap.size v3 wx)
    case first =>
      refine any_start (fun u => At2 u w.heap.size 39 #[.slice A n c, .slice B m d, .int .i64 x] (w.heap.size + 1) 27 #[.int .i64 a0, .int .i64 a1, .int .i64 a2, .int .i64 a3, .int .i64 a4, .int .i64 a5, .int .i64 a6]) (by kernel_rfl) s3.drew (fun _ => ?_)
      have bxd := s3.drew
      have hBd := (Below.refl v3.heap.size v3).drew
      have ha3d : _ := ha3.lift ((Below.refl _ _).drew)
      have hb_3d : _ := hb_3.lift ((Below.refl _ _).drew)
      have hF3d := hF3.below ((Below.refl _ _).drew)
      refine any_pure (v := ?_) 0 rfl (by kernel_rfl) (fun _ _ _ _ _ h => h) (by rfl) (fun u hu => ?_) bxd ?_
      rotate_left
      · (obtain ⟨hu1, hu2⟩ := hu; obtain ⟨_, _, _, _, _, _⟩ := At.three hu1; obtain ⟨_, _, _, _, _, _, _⟩ := At.seven hu2)
        go_simp
        (with_reducible rfl)
      (try simp only [Act.put, List.setIfInBounds_toArray, List.set_cons_zero, List.set_cons_succ])
      refine any_pure (v := ?_) 2 rfl (by kernel_rfl) (fun _ _ _ _ _ h => h) (by rfl) (fun u hu => ?_) bxd ?_
      rotate_left
      · (obtain ⟨hu1, hu2⟩ := hu; obtain ⟨_, _, _, _, _, _⟩ := At.three hu1; obtain ⟨_, _, _, _, _, _, _⟩ := At.seven hu2)
        go_simp
        (with_reducible rfl)
      (try simp only [Act.put, List.setIfInBounds_toArray, List.set_cons_zero, List.set_cons_succ])
      refine any_two 1 8 rfl rfl (by kernel_rfl) (by rfl) (by rfl) ?_ ?_
      · go_simp
        refine (copyState A B n c m d l h x _ ha3d hb_3d Hn.out Hm.out hn3 hm3).mono ?_
        rintro e w101 ⟨A101, c101, B101, d101, rfl, ca101, cb101, hb101⟩
        have hB101 := hBd.trans (hb101.mono hBd.size)
        have bx101 := bxd.below hb101 bxd.lt
        have ha3_101 := ha3d.lift hb101
        have hb_3_101 := hb_3d.lift hb101
        have hF3_101 := hF3d.below hb101
        refine ⟨(fun u => At2 u w.heap.size 39 #[.slice A n c, .slice B m d, .int .i64 x] (w.heap.size + 1) 27 #[.int .i64 a0, .int .i64 a1, .int .i64 a2, .int .i64 a3, .int .i64 a4, .int .i64 a5, .int .i64 a6]), fun _ h => h, bx101, ?_⟩
        (try simp only [Act.put, List.setIfInBounds_toArray, List.set_cons_zero, List.set_cons_succ])
        refine any_two 3 8 rfl rfl (by kernel_rfl) (by rfl) (by rfl) ?_ ?_
        · go_simp
          refine (entryOf a0 a1 a2 a3 a4 a5 a6 _).mono ?_
          rintro e w102 ⟨rfl, hb102⟩
          have hB102 := hB101.trans (hb102.mono hB101.size)
          have bx102 := bx101.below hb102 bx101.lt
          have ca_102 := ca101.below hb102 (Nat.le_refl _)
          have cb_102 := cb101.below hb102 (Nat.le_refl _)
          have ha3_102 := ha3_101.lift hb102
          have hb_3_102 := hb_3_101.lift hb102
          have hF3_102 := hF3_101.below hb102
          refine ⟨(fun u => At2 u w.heap.size 39 #[.slice A n c, .slice B m d, .int .i64 x] (w.heap.size + 1) 27 #[.int .i64 a0, .int .i64 a1, .int .i64 a2, .int .i64 a3, .int .i64 a4, .int .i64 a5, .int .i64 a6]), fun _ h => h, bx102, ?_⟩
          (try simp only [Act.put, List.setIfInBounds_toArray, List.set_cons_zero, List.set_cons_succ])
          refine any_two 4 8 rfl rfl (by kernel_rfl) (by rfl) (by rfl) ?_ ?_
          · go_simp
            refine (AE0 v3.heap.size A101 B101 n c101 m d101 _ (ca_102.from_ hBd.size) (cb_102.from_ hBd.size) hB102.size (by omega) hF3_102).mono ?_
            rintro e w103 ⟨A103, n103, c103, B103, m103, d103, rfl, oa103, ob103, hb103⟩
            have hB103 := hB102.trans (hb103.mono hB102.size)
            have bx103 := bx102.below hb103 bx102.lt
            have ca_103 := ca_102.below hb103 (Nat.le_refl _)
            have cb_103 := cb_102.below hb103 (Nat.le_refl _)
            have ha3_103 := ha3_102.lift hb103
            have hb_3_103 := hb_3_102.lift hb103
            have hF3_103 := hF3_102.below hb103
            refine ⟨(fun u => At2 u w.heap.size 39 #[.slice A n c, .slice B m d, .int .i64 x] (w.heap.size + 1) 27 #[.int .i64 a0, .int .i64 a1, .int .i64 a2, .int .i64 a3, .int .i64 a4, .int .i64 a5, .int .i64 a6]), fun _ h => h, bx103, ?_⟩
            (try simp only [Act.put, List.setIfInBounds_toArray, List.set_cons_zero, List.set_cons_succ])
            refine any_pure (v := ?_) 5 rfl (by kernel_rfl) (fun _ _ _ _ _ h => h) (by rfl) (fun u hu => ?_) bx103 ?_
            rotate_left
            · skip
              go_simp
              (with_reducible rfl)
            (try simp only [Act.put, List.setIfInBounds_toArray, List.set_cons_zero, List.set_cons_succ])
            refine any_pure (v := ?_) 6 rfl (by kernel_rfl) (fun _ _ _ _ _ h => h) (by rfl) (fun u hu => ?_) bx103 ?_
            rotate_left
            · skip
              go_simp
              (with_reducible rfl)
            (try simp only [Act.put, List.setIfInBounds_toArray, List.set_cons_zero, List.set_cons_succ])
            refine any_pure (v := ?_) 7 rfl (by kernel_rfl) (fun _ _ _ _ _ h => h) (by rfl) (fun u hu => ?_) bx103 ?_
            rotate_left
            · skip
              go_simp
              (with_reducible rfl)
            (try simp only [Act.put, List.setIfInBounds_toArray, List.set_cons_zero, List.set_cons_succ])
            refine any_one 8 rfl (by kernel_rfl) (by rfl) ?_
            go_simp
            have ag104 := At.newAt' (w := w103) (t := 39) (cs := #[.slice none 0 0, .slice none 0 0, .int .i64 0]) (show w103.heap.size = w103.heap.size by first | rfl | simp)
            have gl104 : v3.heap.size ≤ w103.heap.size := by first | exact hB103.size | exact Nat.le_refl _ | (have := hB103.size; simp at this ⊢; try omega)
            have hal104 := (Below.refl w103.heap.size w103).alloc (Nat.le_refl _) (.cells #[.slice none 0 0, .slice none 0 0, .int .i64 0] 39)
            have hB104 := hB103.alloc hB103.size (.cells #[.slice none 0 0, .slice none 0 0, .int .i64 0] 39)
            have bx104 := bx103.alloc (.cells #[.slice none 0 0, .slice none 0 0, .int .i64 0] 39)
            have ca_104 := ca_103.alloc (.cells #[.slice none 0 0, .slice none 0 0, .int .i64 0] 39)
            have cb_104 := cb_103.alloc (.cells #[.slice none 0 0, .slice none 0 0, .int .i64 0] 39)
            have oa_104 := oa103.alloc (.cells #[.slice none 0 0, .slice none 0 0, .int .i64 0] 39)
            have ob_104 := ob103.alloc (.cells #[.slice none 0 0, .slice none 0 0, .int .i64 0] 39)
            have ha3_104 := ha3_103.lift hal104
            have hb_3_104 := hb_3_103.lift hal104
            have hF3_104 := hF3_103.below hal104
            refine ⟨(fun u => At2 u w.heap.size 39 #[.slice A n c, .slice B m d, .int .i64 x] (w.heap.size + 1) 27 #[.int .i64 a0, .int .i64 a1, .int .i64 a2, .int .i64 a3, .int .i64 a4, .int .i64 a5, .int .i64 a6]), fun _ h => h, bx104, ?_⟩
            (try simp only [Act.put, List.setIfInBounds_toArray, List.set_cons_zero, List.set_cons_succ])
            refine any_one 9 rfl (by kernel_rfl) (by rfl) ?_
            go_simp
            have AG105 := At.newAt' (w := w103) (t := 39) (cs := #[.slice A103 n103 c103, .slice B103 m103 d103, .int .i64 tx]) (show w103.heap.size = w103.heap.size by first | rfl | simp)
            have hal105 := (Below.refl w103.heap.size w103).alloc (Nat.le_refl _) (.cells #[.slice A103 n103 c103, .slice B103 m103 d103, .int .i64 tx] 39)
            have hB105 := hB103.alloc hB103.size (.cells #[.slice A103 n103 c103, .slice B103 m103 d103, .int .i64 tx] 39)
            have bx105 := bx103.alloc (.cells #[.slice A103 n103 c103, .slice B103 m103 d103, .int .i64 tx] 39)
            have ca_105 := ca_103.alloc (.cells #[.slice A103 n103 c103, .slice B103 m103 d103, .int .i64 tx] 39)
            have cb_105 := cb_103.alloc (.cells #[.slice A103 n103 c103, .slice B103 m103 d103, .int .i64 tx] 39)
            have oa_105 := oa103.alloc (.cells #[.slice A103 n103 c103, .slice B103 m103 d103, .int .i64 tx] 39)
            have ob_105 := ob103.alloc (.cells #[.slice A103 n103 c103, .slice B103 m103 d103, .int .i64 tx] 39)
            have ha3_105 := ha3_103.lift hal105
            have hb_3_105 := hb_3_103.lift hal105
            have hF3_105 := hF3_103.below hal105
            refine ⟨(fun u => At2 u w.heap.size 39 #[.slice A n c, .slice B m d, .int .i64 x] (w.heap.size + 1) 27 #[.int .i64 a0, .int .i64 a1, .int .i64 a2, .int .i64 a3, .int .i64 a4, .int .i64 a5, .int .i64 a6]), fun _ h => h, bx105, ?_⟩
            (try simp only [Act.put, List.setIfInBounds_toArray, List.set_cons_zero, List.set_cons_succ])
            refine any_pure (v := ?_) 10 rfl (by kernel_rfl) (fun _ _ _ _ _ h => h) (by rfl) (fun u hu => ?_) bx105 ?_
            rotate_left
            · skip
              go_simp
              (with_reducible rfl)
            (try simp only [Act.put, List.setIfInBounds_toArray, List.set_cons_zero, List.set_cons_succ])
            refine any_done (by kernel_rfl) ?_
            go_wp2
            go_meet
            exact ⟨_, _, _, _, _, _, _, rfl, rfl, AG105, oa_105, ob_105, hB105⟩
          · go_simp
            have ag106 := At.newAt' (w := w102) (t := 39) (cs := #[.slice none 0 0, .slice none 0 0, .int .i64 0]) (show w102.heap.size = w102.heap.size by first | rfl | simp)
            have gl106 : v3.heap.size ≤ w102.heap.size := by first | exact hB102.size | exact Nat.le_refl _ | (have := hB102.size; simp at this ⊢; try omega)
            have hal106 := (Below.refl w102.heap.size w102).alloc (Nat.le_refl _) (.cells #[.slice none 0 0, .slice none 0 0, .int .i64 0] 39)
            have hB106 := hB102.alloc hB102.size (.cells #[.slice none 0 0, .slice none 0 0, .int .i64 0] 39)
            have bx106 := bx102.alloc (.cells #[.slice none 0 0, .slice none 0 0, .int .i64 0] 39)
            have ca_106 := ca_102.alloc (.cells #[.slice none 0 0, .slice none 0 0, .int .i64 0] 39)
            have cb_106 := cb_102.alloc (.cells #[.slice none 0 0, .slice none 0 0, .int .i64 0] 39)
            have ha3_106 := ha3_102.lift hal106
            have hb_3_106 := hb_3_102.lift hal106
            have hF3_106 := hF3_102.below hal106
            refine ⟨(fun u => At2 u w.heap.size 39 #[.slice A n c, .slice B m d, .int .i64 x] (w.heap.size + 1) 27 #[.int .i64 a0, .int .i64 a1, .int .i64 a2, .int .i64 a3, .int .i64 a4, .int .i64 a5, .int .i64 a6]), fun _ h => h, bx106, ?_⟩
            (try simp only [Act.put, List.setIfInBounds_toArray, List.set_cons_zero, List.set_cons_succ])
            refine any_one 4 rfl (by kernel_rfl) (by rfl) ?_
            go_simp
            refine (AE0 v3.heap.size A101 B101 n c101 m d101 _ (ca_106.from_ hBd.size) (cb_106.from_ hBd.size) hB106.size (by omega) hF3_106).mono ?_
            rintro e w107 ⟨A107, n107, c107, B107, m107, d107, rfl, oa107, ob107, hb107⟩
            have hB107 := hB106.trans (hb107.mono hB106.size)
            have bx107 := bx106.below hb107 bx106.lt
            have ag_107 := ag106.below hb107 ag106.lt
            have ca_107 := ca_106.below hb107 (Nat.le_refl _)
            have cb_107 := cb_106.below hb107 (Nat.le_refl _)
            have ha3_107 := ha3_106.lift hb107
            have hb_3_107 := hb_3_106.lift hb107
            have hF3_107 := hF3_106.below hb107
            refine ⟨(fun u => At2 u w.heap.size 39 #[.slice A n c, .slice B m d, .int .i64 x] (w.heap.size + 1) 27 #[.int .i64 a0, .int .i64 a1, .int .i64 a2, .int .i64 a3, .int .i64 a4, .int .i64 a5, .int .i64 a6]), fun _ h => h, bx107, ?_⟩
            (try simp only [Act.put, List.setIfInBounds_toArray, List.set_cons_zero, List.set_cons_succ])
            refine any_pure (v := ?_) 5 rfl (by kernel_rfl) (fun _ _ _ _ _ h => h) (by rfl) (fun u hu => ?_) bx107 ?_
            rotate_left
            · skip
              go_simp
              (with_reducible rfl)
            (try simp only [Act.put, List.setIfInBounds_toArray, List.set_cons_zero, List.set_cons_succ])
            refine any_pure (v := ?_) 6 rfl (by kernel_rfl) (fun _ _ _ _ _ h => h) (by rfl) (fun u hu => ?_) bx107 ?_
            rotate_left
            · skip
              go_simp
              (with_reducible rfl)
            (try simp only [Act.put, List.setIfInBounds_toArray, List.set_cons_zero, List.set_cons_succ])
            refine any_pure (v := ?_) 7 rfl (by kernel_rfl) (fun _ _ _ _ _ h => h) (by rfl) (fun u hu => ?_) bx107 ?_
            rotate_left
            · skip
              go_simp
              (with_reducible rfl)
            (try simp only [Act.put, List.setIfInBounds_toArray, List.set_cons_zero, List.set_cons_succ])
            refine any_one 9 rfl (by kernel_rfl) (by rfl) ?_
            obtain ⟨k0, k1, k2, k3, k4, k5⟩ := ag_107.three
            go_simp
            have hltg108 : w102.heap.size < w107.heap.size := ag_107.lt
            have AG108 : At (((w107.setCell ⟨w102.heap.size, 0, none⟩ (.slice A107 n107 c107)).setCell ⟨w102.heap.size, 1, none⟩ (.slice B107 m107 d107)).setCell ⟨w102.heap.size, 2, none⟩ (.int .i64 tx)) w102.heap.size 39 #[.slice A107 n107 c107, .slice B107 m107 d107, .int .i64 tx] := (((ag_107.set 0 (.slice A107 n107 c107)).set 1 (.slice B107 m107 d107)).set 2 (.int .i64 tx))
            have bx108 := (((bx107.far (p := ⟨w102.heap.size, 0, none⟩) (by show w.heap.size ≠ w102.heap.size ∧ w.heap.size + 1 ≠ w102.heap.size; have := gl106; omega) (.slice A107 n107 c107)).far (p := ⟨w102.heap.size, 1, none⟩) (by show w.heap.size ≠ w102.heap.size ∧ w.heap.size + 1 ≠ w102.heap.size; have := gl106; omega) (.slice B107 m107 d107)).far (p := ⟨w102.heap.size, 2, none⟩) (by show w.heap.size ≠ w102.heap.size ∧ w.heap.size + 1 ≠ w102.heap.size; have := gl106; omega) (.int .i64 tx))
            have hB108 := (((hB107.setCell (p := ⟨w102.heap.size, 0, none⟩) gl106 (.slice A107 n107 c107)).setCell (p := ⟨w102.heap.size, 1, none⟩) gl106 (.slice B107 m107 d107)).setCell (p := ⟨w102.heap.size, 2, none⟩) gl106 (.int .i64 tx))
            have oa_108 := oa107
            have oa_108 := oa_108.apart (by decide) ag_107 0 (.slice A107 n107 c107)
            have oa_108 := oa_108.apart (by decide) ((ag_107.set 0 (.slice A107 n107 c107))) 1 (.slice B107 m107 d107)
            have oa_108 := oa_108.apart (by decide) (((ag_107.set 0 (.slice A107 n107 c107)).set 1 (.slice B107 m107 d107))) 2 (.int .i64 tx)
            have ob_108 := ob107
            have ob_108 := ob_108.apart (by decide) ag_107 0 (.slice A107 n107 c107)
            have ob_108 := ob_108.apart (by decide) ((ag_107.set 0 (.slice A107 n107 c107))) 1 (.slice B107 m107 d107)
            have ob_108 := ob_108.apart (by decide) (((ag_107.set 0 (.slice A107 n107 c107)).set 1 (.slice B107 m107 d107))) 2 (.int .i64 tx)
            refine ⟨(fun u => At2 u w.heap.size 39 #[.slice A n c, .slice B m d, .int .i64 x] (w.heap.size + 1) 27 #[.int .i64 a0, .int .i64 a1, .int .i64 a2, .int .i64 a3, .int .i64 a4, .int .i64 a5, .int .i64 a6]), fun _ h => h, bx108, ?_⟩
            (try simp only [Act.put, List.setIfInBounds_toArray, List.set_cons_zero, List.set_cons_succ])
            refine any_pure (v := ?_) 10 rfl (by kernel_rfl) (fun _ _ _ _ _ h => h) (by rfl) (fun u hu => ?_) bx108 ?_
            rotate_left
            · skip
              go_simp
              (with_reducible rfl)
            (try simp only [Act.put, List.setIfInBounds_toArray, List.set_cons_zero, List.set_cons_succ])
            refine any_done (by kernel_rfl) ?_
            go_wp2
            go_meet
            exact ⟨_, _, _, _, _, _, _, rfl, rfl, AG108, oa_108, ob_108, hB108⟩
        · go_simp
          have ag109 := At.newAt' (w := w101) (t := 39) (cs := #[.slice none 0 0, .slice none 0 0, .int .i64 0]) (show w101.heap.size = w101.heap.size by first | rfl | simp)
          have gl109 : v3.heap.size ≤ w101.heap.size := by first | exact hB101.size | exact Nat.le_refl _ | (have := hB101.size; simp at this ⊢; try omega)
          have hal109 := (Below.refl w101.heap.size w101).alloc (Nat.le_refl _) (.cells #[.slice none 0 0, .slice none 0 0, .int .i64 0] 39)
          have hB109 := hB101.alloc hB101.size (.cells #[.slice none 0 0, .slice none 0 0, .int .i64 0] 39)
          have bx109 := bx101.alloc (.cells #[.slice none 0 0, .slice none 0 0, .int .i64 0] 39)
          have ca_109 := ca101.alloc (.cells #[.slice none 0 0, .slice none 0 0, .int .i64 0] 39)
          have cb_109 := cb101.alloc (.cells #[.slice none 0 0, .slice none 0 0, .int .i64 0] 39)
          have ha3_109 := ha3_101.lift hal109
          have hb_3_109 := hb_3_101.lift hal109
          have hF3_109 := hF3_101.below hal109
          refine ⟨(fun u => At2 u w.heap.size 39 #[.slice A n c, .slice B m d, .int .i64 x] (w.heap.size + 1) 27 #[.int .i64 a0, .int .i64 a1, .int .i64 a2, .int .i64 a3, .int .i64 a4, .int .i64 a5, .int .i64 a6]), fun _ h => h, bx109, ?_⟩
          (try simp only [Act.put, List.setIfInBounds_toArray, List.set_cons_zero, List.set_cons_succ])
          refine any_one 3 rfl (by kernel_rfl) (by rfl) ?_
          go_simp
          refine (entryOf a0 a1 a2 a3 a4 a5 a6 _).mono ?_
          rintro e w110 ⟨rfl, hb110⟩
          have hB110 := hB109.trans (hb110.mono hB109.size)
          have bx110 := bx109.below hb110 bx109.lt
          have ag_110 := ag109.below hb110 ag109.lt
          have ca_110 := ca_109.below hb110 (Nat.le_refl _)
          have cb_110 := cb_109.below hb110 (Nat.le_refl _)
          have ha3_110 := ha3_109.lift hb110
          have hb_3_110 := hb_3_109.lift hb110
          have hF3_110 := hF3_109.below hb110
          refine ⟨(fun u => At2 u w.heap.size 39 #[.slice A n c, .slice B m d, .int .i64 x] (w.heap.size + 1) 27 #[.int .i64 a0, .int .i64 a1, .int .i64 a2, .int .i64 a3, .int .i64 a4, .int .i64 a5, .int .i64 a6]), fun _ h => h, bx110, ?_⟩
          (try simp only [Act.put, List.setIfInBounds_toArray, List.set_cons_zero, List.set_cons_succ])
          refine any_one 4 rfl (by kernel_rfl) (by rfl) ?_
          go_simp
          refine (AE0 v3.heap.size A101 B101 n c101 m d101 _ (ca_110.from_ hBd.size) (cb_110.from_ hBd.size) hB110.size (by omega) hF3_110).mono ?_
          rintro e w111 ⟨A111, n111, c111, B111, m111, d111, rfl, oa111, ob111, hb111⟩
          have hB111 := hB110.trans (hb111.mono hB110.size)
          have bx111 := bx110.below hb111 bx110.lt
          have ag_111 := ag_110.below hb111 ag_110.lt
          have ca_111 := ca_110.below hb111 (Nat.le_refl _)
          have cb_111 := cb_110.below hb111 (Nat.le_refl _)
          have ha3_111 := ha3_110.lift hb111
          have hb_3_111 := hb_3_110.lift hb111
          have hF3_111 := hF3_110.below hb111
          refine ⟨(fun u => At2 u w.heap.size 39 #[.slice A n c, .slice B m d, .int .i64 x] (w.heap.size + 1) 27 #[.int .i64 a0, .int .i64 a1, .int .i64 a2, .int .i64 a3, .int .i64 a4, .int .i64 a5, .int .i64 a6]), fun _ h => h, bx111, ?_⟩
          (try simp only [Act.put, List.setIfInBounds_toArray, List.set_cons_zero, List.set_cons_succ])
          refine any_pure (v := ?_) 5 rfl (by kernel_rfl) (fun _ _ _ _ _ h => h) (by rfl) (fun u hu => ?_) bx111 ?_
          rotate_left
          · skip
            go_simp
            (with_reducible rfl)
          (try simp only [Act.put, List.setIfInBounds_toArray, List.set_cons_zero, List.set_cons_succ])
          refine any_pure (v := ?_) 6 rfl (by kernel_rfl) (fun _ _ _ _ _ h => h) (by rfl) (fun u hu => ?_) bx111 ?_
          rotate_left
          · skip
            go_simp
            (with_reducible rfl)
          (try simp only [Act.put, List.setIfInBounds_toArray, List.set_cons_zero, List.set_cons_succ])
          refine any_pure (v := ?_) 7 rfl (by kernel_rfl) (fun _ _ _ _ _ h => h) (by rfl) (fun u hu => ?_) bx111 ?_
          rotate_left
          · skip
            go_simp
            (with_reducible rfl)
          (try simp only [Act.put, List.setIfInBounds_toArray, List.set_cons_zero, List.set_cons_succ])
          refine any_one 9 rfl (by kernel_rfl) (by rfl) ?_
          obtain ⟨k0, k1, k2, k3, k4, k5⟩ := ag_111.three
          go_simp
          have hltg112 : w101.heap.size < w111.heap.size := ag_111.lt
          have AG112 : At (((w111.setCell ⟨w101.heap.size, 0, none⟩ (.slice A111 n111 c111)).setCell ⟨w101.heap.size, 1, none⟩ (.slice B111 m111 d111)).setCell ⟨w101.heap.size, 2, none⟩ (.int .i64 tx)) w101.heap.size 39 #[.slice A111 n111 c111, .slice B111 m111 d111, .int .i64 tx] := (((ag_111.set 0 (.slice A111 n111 c111)).set 1 (.slice B111 m111 d111)).set 2 (.int .i64 tx))
          have bx112 := (((bx111.far (p := ⟨w101.heap.size, 0, none⟩) (by show w.heap.size ≠ w101.heap.size ∧ w.heap.size + 1 ≠ w101.heap.size; have := gl109; omega) (.slice A111 n111 c111)).far (p := ⟨w101.heap.size, 1, none⟩) (by show w.heap.size ≠ w101.heap.size ∧ w.heap.size + 1 ≠ w101.heap.size; have := gl109; omega) (.slice B111 m111 d111)).far (p := ⟨w101.heap.size, 2, none⟩) (by show w.heap.size ≠ w101.heap.size ∧ w.heap.size + 1 ≠ w101.heap.size; have := gl109; omega) (.int .i64 tx))
          have hB112 := (((hB111.setCell (p := ⟨w101.heap.size, 0, none⟩) gl109 (.slice A111 n111 c111)).setCell (p := ⟨w101.heap.size, 1, none⟩) gl109 (.slice B111 m111 d111)).setCell (p := ⟨w101.heap.size, 2, none⟩) gl109 (.int .i64 tx))
          have oa_112 := oa111
          have oa_112 := oa_112.apart (by decide) ag_111 0 (.slice A111 n111 c111)
          have oa_112 := oa_112.apart (by decide) ((ag_111.set 0 (.slice A111 n111 c111))) 1 (.slice B111 m111 d111)
          have oa_112 := oa_112.apart (by decide) (((ag_111.set 0 (.slice A111 n111 c111)).set 1 (.slice B111 m111 d111))) 2 (.int .i64 tx)
          have ob_112 := ob111
          have ob_112 := ob_112.apart (by decide) ag_111 0 (.slice A111 n111 c111)
          have ob_112 := ob_112.apart (by decide) ((ag_111.set 0 (.slice A111 n111 c111))) 1 (.slice B111 m111 d111)
          have ob_112 := ob_112.apart (by decide) (((ag_111.set 0 (.slice A111 n111 c111)).set 1 (.slice B111 m111 d111))) 2 (.int .i64 tx)
          refine ⟨(fun u => At2 u w.heap.size 39 #[.slice A n c, .slice B m d, .int .i64 x] (w.heap.size + 1) 27 #[.int .i64 a0, .int .i64 a1, .int .i64 a2, .int .i64 a3, .int .i64 a4, .int .i64 a5, .int .i64 a6]), fun _ h => h, bx112, ?_⟩
          (try simp only [Act.put, List.setIfInBounds_toArray, List.set_cons_zero, List.set_cons_succ])
          refine any_pure (v := ?_) 10 rfl (by kernel_rfl) (fun _ _ _ _ _ h => h) (by rfl) (fun u hu => ?_) bx112 ?_
          rotate_left
          · skip
            go_simp
            (with_reducible rfl)
          (try simp only [Act.put, List.setIfInBounds_toArray, List.set_cons_zero, List.set_cons_succ])
          refine any_done (by kernel_rfl) ?_
          go_wp2
          go_meet
          exact ⟨_, _, _, _, _, _, _, rfl, rfl, AG112, oa_112, ob_112, hB112⟩
      · go_simp
        have ag113 := At.newAt' (w := v3.drew) (t := 39) (cs := #[.slice none 0 0, .slice none 0 0, .int .i64 0]) (show v3.drew.heap.size = v3.heap.size by first | rfl | simp)
        have gl113 : v3.heap.size ≤ v3.heap.size := by first | exact hBd.size | exact Nat.le_refl _ | (have := hBd.size; simp at this ⊢; try omega)
        have hal113 := (Below.refl v3.drew.heap.size v3.drew).alloc (Nat.le_refl _) (.cells #[.slice none 0 0, .slice none 0 0, .int .i64 0] 39)
        have hB113 := hBd.alloc hBd.size (.cells #[.slice none 0 0, .slice none 0 0, .int .i64 0] 39)
        have bx113 := bxd.alloc (.cells #[.slice none 0 0, .slice none 0 0, .int .i64 0] 39)
        have ha3_113 := ha3d.lift hal113
        have hb_3_113 := hb_3d.lift hal113
        have hF3_113 := hF3d.below hal113
        refine ⟨(fun u => At2 u w.heap.size 39 #[.slice A n c, .slice B m d, .int .i64 x] (w.heap.size + 1) 27 #[.int .i64 a0, .int .i64 a1, .int .i64 a2, .int .i64 a3, .int .i64 a4, .int .i64 a5, .int .i64 a6]), fun _ h => h, bx113, ?_⟩
        (try simp only [Act.put, List.setIfInBounds_toArray, List.set_cons_zero, List.set_cons_succ])
        refine any_one 1 rfl (by kernel_rfl) (by rfl) ?_
        go_simp
        refine (copyState A B n c m d l h x _ ha3_113 hb_3_113 Hn.out Hm.out hn3 hm3).mono ?_
        rintro e w114 ⟨A114, c114, B114, d114, rfl, ca114, cb114, hb114⟩
        have hB114 := hB113.trans (hb114.mono hB113.size)
        have bx114 := bx113.below hb114 bx113.lt
        have ag_114 := ag113.below hb114 ag113.lt
        have ha3_114 := ha3_113.lift hb114
        have hb_3_114 := hb_3_113.lift hb114
        have hF3_114 := hF3_113.below hb114
        refine ⟨(fun u => At2 u w.heap.size 39 #[.slice A n c, .slice B m d, .int .i64 x] (w.heap.size + 1) 27 #[.int .i64 a0, .int .i64 a1, .int .i64 a2, .int .i64 a3, .int .i64 a4, .int .i64 a5, .int .i64 a6]), fun _ h => h, bx114, ?_⟩
        (try simp only [Act.put, List.setIfInBounds_toArray, List.set_cons_zero, List.set_cons_succ])
        refine any_one 3 rfl (by kernel_rfl) (by rfl) ?_
        go_simp
        refine (entryOf a0 a1 a2 a3 a4 a5 a6 _).mono ?_
        rintro e w115 ⟨rfl, hb115⟩
        have hB115 := hB114.trans (hb115.mono hB114.size)
        have bx115 := bx114.below hb115 bx114.lt
        have ag_115 := ag_114.below hb115 ag_114.lt
        have ca_115 := ca114.below hb115 (Nat.le_refl _)
        have cb_115 := cb114.below hb115 (Nat.le_refl _)
        have ha3_115 := ha3_114.lift hb115
        have hb_3_115 := hb_3_114.lift hb115
        have hF3_115 := hF3_114.below hb115
        refine ⟨(fun u => At2 u w.heap.size 39 #[.slice A n c, .slice B m d, .int .i64 x] (w.heap.size + 1) 27 #[.int .i64 a0, .int .i64 a1, .int .i64 a2, .int .i64 a3, .int .i64 a4, .int .i64 a5, .int .i64 a6]), fun _ h => h, bx115, ?_⟩
        (try simp only [Act.put, List.setIfInBounds_toArray, List.set_cons_zero, List.set_cons_succ])
        refine any_one 4 rfl (by kernel_rfl) (by rfl) ?_
        go_simp
        refine (AE0 v3.heap.size A114 B114 n c114 m d114 _ (ca_115.from_ hB113.size) (cb_115.from_ hB113.size) hB115.size (by omega) hF3_115).mono ?_
        rintro e w116 ⟨A116, n116, c116, B116, m116, d116, rfl, oa116, ob116, hb116⟩
        have hB116 := hB115.trans (hb116.mono hB115.size)
        have bx116 := bx115.below hb116 bx115.lt
        have ag_116 := ag_115.below hb116 ag_115.lt
        have ca_116 := ca_115.below hb116 (Nat.le_refl _)
        have cb_116 := cb_115.below hb116 (Nat.le_refl _)
        have ha3_116 := ha3_115.lift hb116
        have hb_3_116 := hb_3_115.lift hb116
        have hF3_116 := hF3_115.below hb116
        refine ⟨(fun u => At2 u w.heap.size 39 #[.slice A n c, .slice B m d, .int .i64 x] (w.heap.size + 1) 27 #[.int .i64 a0, .int .i64 a1, .int .i64 a2, .int .i64 a3, .int .i64 a4, .int .i64 a5, .int .i64 a6]), fun _ h => h, bx116, ?_⟩
        (try simp only [Act.put, List.setIfInBounds_toArray, List.set_cons_zero, List.set_cons_succ])
        refine any_pure (v := ?_) 5 rfl (by kernel_rfl) (fun _ _ _ _ _ h => h) (by rfl) (fun u hu => ?_) bx116 ?_
        rotate_left
        · skip
          go_simp
          (with_reducible rfl)
        (try simp only [Act.put, List.setIfInBounds_toArray, List.set_cons_zero, List.set_cons_succ])
        refine any_pure (v := ?_) 6 rfl (by kernel_rfl) (fun _ _ _ _ _ h => h) (by rfl) (fun u hu => ?_) bx116 ?_
        rotate_left
        · skip
          go_simp
          (with_reducible rfl)
        (try simp only [Act.put, List.setIfInBounds_toArray, List.set_cons_zero, List.set_cons_succ])
        refine any_pure (v := ?_) 7 rfl (by kernel_rfl) (fun _ _ _ _ _ h => h) (by rfl) (fun u hu => ?_) bx116 ?_
        rotate_left
        · skip
          go_simp
          (with_reducible rfl)
        (try simp only [Act.put, List.setIfInBounds_toArray, List.set_cons_zero, List.set_cons_succ])
        refine any_one 9 rfl (by kernel_rfl) (by rfl) ?_
        obtain ⟨k0, k1, k2, k3, k4, k5⟩ := ag_116.three
        go_simp
        have hltg117 : v3.heap.size < w116.heap.size := ag_116.lt
        have AG117 : At (((w116.setCell ⟨v3.heap.size, 0, none⟩ (.slice A116 n116 c116)).setCell ⟨v3.heap.size, 1, none⟩ (.slice B116 m116 d116)).setCell ⟨v3.heap.size, 2, none⟩ (.int .i64 tx)) v3.heap.size 39 #[.slice A116 n116 c116, .slice B116 m116 d116, .int .i64 tx] := (((ag_116.set 0 (.slice A116 n116 c116)).set 1 (.slice B116 m116 d116)).set 2 (.int .i64 tx))
        have bx117 := (((bx116.far (p := ⟨v3.heap.size, 0, none⟩) (by show w.heap.size ≠ v3.heap.size ∧ w.heap.size + 1 ≠ v3.heap.size; have := gl113; omega) (.slice A116 n116 c116)).far (p := ⟨v3.heap.size, 1, none⟩) (by show w.heap.size ≠ v3.heap.size ∧ w.heap.size + 1 ≠ v3.heap.size; have := gl113; omega) (.slice B116 m116 d116)).far (p := ⟨v3.heap.size, 2, none⟩) (by show w.heap.size ≠ v3.heap.size ∧ w.heap.size + 1 ≠ v3.heap.size; have := gl113; omega) (.int .i64 tx))
        have hB117 := (((hB116.setCell (p := ⟨v3.heap.size, 0, none⟩) gl113 (.slice A116 n116 c116)).setCell (p := ⟨v3.heap.size, 1, none⟩) gl113 (.slice B116 m116 d116)).setCell (p := ⟨v3.heap.size, 2, none⟩) gl113 (.int .i64 tx))
        have oa_117 := oa116
        have oa_117 := oa_117.apart (by decide) ag_116 0 (.slice A116 n116 c116)
        have oa_117 := oa_117.apart (by decide) ((ag_116.set 0 (.slice A116 n116 c116))) 1 (.slice B116 m116 d116)
        have oa_117 := oa_117.apart (by decide) (((ag_116.set 0 (.slice A116 n116 c116)).set 1 (.slice B116 m116 d116))) 2 (.int .i64 tx)
        have ob_117 := ob116
        have ob_117 := ob_117.apart (by decide) ag_116 0 (.slice A116 n116 c116)
        have ob_117 := ob_117.apart (by decide) ((ag_116.set 0 (.slice A116 n116 c116))) 1 (.slice B116 m116 d116)
        have ob_117 := ob_117.apart (by decide) (((ag_116.set 0 (.slice A116 n116 c116)).set 1 (.slice B116 m116 d116))) 2 (.int .i64 tx)
        refine ⟨(fun u => At2 u w.heap.size 39 #[.slice A n c, .slice B m d, .int .i64 x] (w.heap.size + 1) 27 #[.int .i64 a0, .int .i64 a1, .int .i64 a2, .int .i64 a3, .int .i64 a4, .int .i64 a5, .int .i64 a6]), fun _ h => h, bx117, ?_⟩
        (try simp only [Act.put, List.setIfInBounds_toArray, List.set_cons_zero, List.set_cons_succ])
        refine any_pure (v := ?_) 10 rfl (by kernel_rfl) (fun _ _ _ _ _ h => h) (by rfl) (fun u hu => ?_) bx117 ?_
        rotate_left
        · skip
          go_simp
          (with_reducible rfl)
        (try simp only [Act.put, List.setIfInBounds_toArray, List.set_cons_zero, List.set_cons_succ])
        refine any_done (by kernel_rfl) ?_
        go_wp2
        go_meet
        exact ⟨_, _, _, _, _, _, _, rfl, rfl, AG117, oa_117, ob_117, hB117⟩
    case rest =>
      obtain ⟨gx, A5, n5, c5, B5, m5, d5, rfl, rfl, AX, OA, OB, HB⟩ := hcut
      have z4 := z3.below HB lz3
      have hB4 := hB3.trans (HB.mono hB3.size)
      obtain ⟨zc0, zc1, zc2, zc3, zf0, zf1, zf2, zf3⟩ := z4.four
      obtain ⟨g0, g1, g2, _, _, _⟩ := AX.three
      have hse : ((0 : Int) != 0) = false := by decide
      go_wp2
      refine bodyPost_ret (v := .agg #[.int .i64 0, .slice A5 n5 c5, .slice B5 m5 d5, .int .i64 tx]) (by simp [results, Tryz.results12, go_sem, zc0, zc1, zc2, zc3]) rfl ?_
      rw [Hr.out]
      first | rw [if_pos rfl] | rw [if_pos trivial]
      exact ⟨A5, n5, c5, B5, m5, d5, rfl, ((((OA.under (p := ⟨w.heap.size + 2, 0, none⟩) lz3 _).under (p := ⟨w.heap.size + 2, 1, none⟩) lz3 _).under (p := ⟨w.heap.size + 2, 2, none⟩) lz3 _).under (p := ⟨w.heap.size + 2, 3, none⟩) lz3 _).from_ hB3.size, ((((OB.under (p := ⟨w.heap.size + 2, 0, none⟩) lz3 _).under (p := ⟨w.heap.size + 2, 1, none⟩) lz3 _).under (p := ⟨w.heap.size + 2, 2, none⟩) lz3 _).under (p := ⟨w.heap.size + 2, 3, none⟩) lz3 _).from_ hB3.size, (((hB4.setCell (by simp; omega) _).setCell (by simp; omega) _).setCell (by simp; omega) _).setCell (by simp; omega) _⟩
  · have AE1 : ∀ (base : Nat) (A B : Option Addr) (n c m d : Nat) (W : World), Ow eS W base A n c l → Ow eH W base B m d h → base ≤ W.heap.size → n ≤ 1048576 → Flds W → Calls Tryz.prog 48 #[.agg #[.slice A n c, .slice B m d, .int .i64 x], entV (a0, a1, (a2, a3, a4, a5), a6)] W fun e W' => ∃ A n c B m d y, e = .returned (.tuple #[.agg #[.slice A n c, .slice B m d, .int .i64 y], .int .i64 tc]) ∧ Below W.heap.size W W' := fun base A B n c m d W o1 o2 hbase hn1 hFW => (AE base A B n c m d W o1 o2 hbase hn1 hFW).mono fun e W' ⟨A', n', c', B', m', d', y, he, hi, hb⟩ => ⟨A', n', c', B', m', d', y, he, hb⟩
    clear AE
    have hne : (tc != 0) = true := by rw [bne_iff_ne]; exact htc
    have Hr2 := Lib.hid (show applyM (l, h, x) (a0, a1, (a2, a3, a4, a5), a6) = (tc, zeroSta) by rw [Hr.out]; exact if_neg htc)
    clear Hr htc
    go_upto_region 4 with fail
    go_cut [6, 7] (fun s t wx => ∃ gx A5 n5 c5 B5 m5 d5 y, s = .pointer (some ⟨gx, 0, none⟩) ∧ t = .int .i64 tc ∧ At wx gx 39 #[.slice A5 n5 c5, .slice B5 m5 d5, .int .i64 y] ∧ Below v3.heap.size v3 wx)
    case first =>
      refine any_start (fun u => At2 u w.heap.size 39 #[.slice A n c, .slice B m d, .int .i64 x] (w.heap.size + 1) 27 #[.int .i64 a0, .int .i64 a1, .int .i64 a2, .int .i64 a3, .int .i64 a4, .int .i64 a5, .int .i64 a6]) (by kernel_rfl) s3.drew (fun _ => ?_)
      have bxd := s3.drew
      have hBd := (Below.refl v3.heap.size v3).drew
      have ha3d : _ := ha3.lift ((Below.refl _ _).drew)
      have hb_3d : _ := hb_3.lift ((Below.refl _ _).drew)
      have hF3d := hF3.below ((Below.refl _ _).drew)
      refine any_pure (v := ?_) 0 rfl (by kernel_rfl) (fun _ _ _ _ _ h => h) (by rfl) (fun u hu => ?_) bxd ?_
      rotate_left
      · (obtain ⟨hu1, hu2⟩ := hu; obtain ⟨_, _, _, _, _, _⟩ := At.three hu1; obtain ⟨_, _, _, _, _, _, _⟩ := At.seven hu2)
        go_simp
        (with_reducible rfl)
      (try simp only [Act.put, List.setIfInBounds_toArray, List.set_cons_zero, List.set_cons_succ])
      refine any_pure (v := ?_) 2 rfl (by kernel_rfl) (fun _ _ _ _ _ h => h) (by rfl) (fun u hu => ?_) bxd ?_
      rotate_left
      · (obtain ⟨hu1, hu2⟩ := hu; obtain ⟨_, _, _, _, _, _⟩ := At.three hu1; obtain ⟨_, _, _, _, _, _, _⟩ := At.seven hu2)
        go_simp
        (with_reducible rfl)
      (try simp only [Act.put, List.setIfInBounds_toArray, List.set_cons_zero, List.set_cons_succ])
      refine any_two 1 8 rfl rfl (by kernel_rfl) (by rfl) (by rfl) ?_ ?_
      · go_simp
        refine (copyState A B n c m d l h x _ ha3d hb_3d Hn.out Hm.out hn3 hm3).mono ?_
        rintro e w101 ⟨A101, c101, B101, d101, rfl, ca101, cb101, hb101⟩
        have hB101 := hBd.trans (hb101.mono hBd.size)
        have bx101 := bxd.below hb101 bxd.lt
        have ha3_101 := ha3d.lift hb101
        have hb_3_101 := hb_3d.lift hb101
        have hF3_101 := hF3d.below hb101
        refine ⟨(fun u => At2 u w.heap.size 39 #[.slice A n c, .slice B m d, .int .i64 x] (w.heap.size + 1) 27 #[.int .i64 a0, .int .i64 a1, .int .i64 a2, .int .i64 a3, .int .i64 a4, .int .i64 a5, .int .i64 a6]), fun _ h => h, bx101, ?_⟩
        (try simp only [Act.put, List.setIfInBounds_toArray, List.set_cons_zero, List.set_cons_succ])
        refine any_two 3 8 rfl rfl (by kernel_rfl) (by rfl) (by rfl) ?_ ?_
        · go_simp
          refine (entryOf a0 a1 a2 a3 a4 a5 a6 _).mono ?_
          rintro e w102 ⟨rfl, hb102⟩
          have hB102 := hB101.trans (hb102.mono hB101.size)
          have bx102 := bx101.below hb102 bx101.lt
          have ca_102 := ca101.below hb102 (Nat.le_refl _)
          have cb_102 := cb101.below hb102 (Nat.le_refl _)
          have ha3_102 := ha3_101.lift hb102
          have hb_3_102 := hb_3_101.lift hb102
          have hF3_102 := hF3_101.below hb102
          refine ⟨(fun u => At2 u w.heap.size 39 #[.slice A n c, .slice B m d, .int .i64 x] (w.heap.size + 1) 27 #[.int .i64 a0, .int .i64 a1, .int .i64 a2, .int .i64 a3, .int .i64 a4, .int .i64 a5, .int .i64 a6]), fun _ h => h, bx102, ?_⟩
          (try simp only [Act.put, List.setIfInBounds_toArray, List.set_cons_zero, List.set_cons_succ])
          refine any_two 4 8 rfl rfl (by kernel_rfl) (by rfl) (by rfl) ?_ ?_
          · go_simp
            refine (AE1 v3.heap.size A101 B101 n c101 m d101 _ (ca_102.from_ hBd.size) (cb_102.from_ hBd.size) hB102.size (by omega) hF3_102).mono ?_
            rintro e w103 ⟨A103, n103, c103, B103, m103, d103, y103, rfl, hb103⟩
            have hB103 := hB102.trans (hb103.mono hB102.size)
            have bx103 := bx102.below hb103 bx102.lt
            have ca_103 := ca_102.below hb103 (Nat.le_refl _)
            have cb_103 := cb_102.below hb103 (Nat.le_refl _)
            have ha3_103 := ha3_102.lift hb103
            have hb_3_103 := hb_3_102.lift hb103
            have hF3_103 := hF3_102.below hb103
            refine ⟨(fun u => At2 u w.heap.size 39 #[.slice A n c, .slice B m d, .int .i64 x] (w.heap.size + 1) 27 #[.int .i64 a0, .int .i64 a1, .int .i64 a2, .int .i64 a3, .int .i64 a4, .int .i64 a5, .int .i64 a6]), fun _ h => h, bx103, ?_⟩
            (try simp only [Act.put, List.setIfInBounds_toArray, List.set_cons_zero, List.set_cons_succ])
            refine any_pure (v := ?_) 5 rfl (by kernel_rfl) (fun _ _ _ _ _ h => h) (by rfl) (fun u hu => ?_) bx103 ?_
            rotate_left
            · skip
              go_simp
              (with_reducible rfl)
            (try simp only [Act.put, List.setIfInBounds_toArray, List.set_cons_zero, List.set_cons_succ])
            refine any_pure (v := ?_) 6 rfl (by kernel_rfl) (fun _ _ _ _ _ h => h) (by rfl) (fun u hu => ?_) bx103 ?_
            rotate_left
            · skip
              go_simp
              (with_reducible rfl)
            (try simp only [Act.put, List.setIfInBounds_toArray, List.set_cons_zero, List.set_cons_succ])
            refine any_pure (v := ?_) 7 rfl (by kernel_rfl) (fun _ _ _ _ _ h => h) (by rfl) (fun u hu => ?_) bx103 ?_
            rotate_left
            · skip
              go_simp
              (with_reducible rfl)
            (try simp only [Act.put, List.setIfInBounds_toArray, List.set_cons_zero, List.set_cons_succ])
            refine any_one 8 rfl (by kernel_rfl) (by rfl) ?_
            go_simp
            have ag104 := At.newAt' (w := w103) (t := 39) (cs := #[.slice none 0 0, .slice none 0 0, .int .i64 0]) (show w103.heap.size = w103.heap.size by first | rfl | simp)
            have gl104 : v3.heap.size ≤ w103.heap.size := by first | exact hB103.size | exact Nat.le_refl _ | (have := hB103.size; simp at this ⊢; try omega)
            have hal104 := (Below.refl w103.heap.size w103).alloc (Nat.le_refl _) (.cells #[.slice none 0 0, .slice none 0 0, .int .i64 0] 39)
            have hB104 := hB103.alloc hB103.size (.cells #[.slice none 0 0, .slice none 0 0, .int .i64 0] 39)
            have bx104 := bx103.alloc (.cells #[.slice none 0 0, .slice none 0 0, .int .i64 0] 39)
            have ca_104 := ca_103.alloc (.cells #[.slice none 0 0, .slice none 0 0, .int .i64 0] 39)
            have cb_104 := cb_103.alloc (.cells #[.slice none 0 0, .slice none 0 0, .int .i64 0] 39)
            have ha3_104 := ha3_103.lift hal104
            have hb_3_104 := hb_3_103.lift hal104
            have hF3_104 := hF3_103.below hal104
            refine ⟨(fun u => At2 u w.heap.size 39 #[.slice A n c, .slice B m d, .int .i64 x] (w.heap.size + 1) 27 #[.int .i64 a0, .int .i64 a1, .int .i64 a2, .int .i64 a3, .int .i64 a4, .int .i64 a5, .int .i64 a6]), fun _ h => h, bx104, ?_⟩
            (try simp only [Act.put, List.setIfInBounds_toArray, List.set_cons_zero, List.set_cons_succ])
            refine any_one 9 rfl (by kernel_rfl) (by rfl) ?_
            go_simp
            have AG105 := At.newAt' (w := w103) (t := 39) (cs := #[.slice A103 n103 c103, .slice B103 m103 d103, .int .i64 y103]) (show w103.heap.size = w103.heap.size by first | rfl | simp)
            have hal105 := (Below.refl w103.heap.size w103).alloc (Nat.le_refl _) (.cells #[.slice A103 n103 c103, .slice B103 m103 d103, .int .i64 y103] 39)
            have hB105 := hB103.alloc hB103.size (.cells #[.slice A103 n103 c103, .slice B103 m103 d103, .int .i64 y103] 39)
            have bx105 := bx103.alloc (.cells #[.slice A103 n103 c103, .slice B103 m103 d103, .int .i64 y103] 39)
            have ca_105 := ca_103.alloc (.cells #[.slice A103 n103 c103, .slice B103 m103 d103, .int .i64 y103] 39)
            have cb_105 := cb_103.alloc (.cells #[.slice A103 n103 c103, .slice B103 m103 d103, .int .i64 y103] 39)
            have ha3_105 := ha3_103.lift hal105
            have hb_3_105 := hb_3_103.lift hal105
            have hF3_105 := hF3_103.below hal105
            refine ⟨(fun u => At2 u w.heap.size 39 #[.slice A n c, .slice B m d, .int .i64 x] (w.heap.size + 1) 27 #[.int .i64 a0, .int .i64 a1, .int .i64 a2, .int .i64 a3, .int .i64 a4, .int .i64 a5, .int .i64 a6]), fun _ h => h, bx105, ?_⟩
            (try simp only [Act.put, List.setIfInBounds_toArray, List.set_cons_zero, List.set_cons_succ])
            refine any_pure (v := ?_) 10 rfl (by kernel_rfl) (fun _ _ _ _ _ h => h) (by rfl) (fun u hu => ?_) bx105 ?_
            rotate_left
            · skip
              go_simp
              (with_reducible rfl)
            (try simp only [Act.put, List.setIfInBounds_toArray, List.set_cons_zero, List.set_cons_succ])
            refine any_done (by kernel_rfl) ?_
            go_wp2
            go_meet
            exact ⟨_, _, _, _, _, _, _, _, rfl, rfl, AG105, hB105⟩
          · go_simp
            have ag106 := At.newAt' (w := w102) (t := 39) (cs := #[.slice none 0 0, .slice none 0 0, .int .i64 0]) (show w102.heap.size = w102.heap.size by first | rfl | simp)
            have gl106 : v3.heap.size ≤ w102.heap.size := by first | exact hB102.size | exact Nat.le_refl _ | (have := hB102.size; simp at this ⊢; try omega)
            have hal106 := (Below.refl w102.heap.size w102).alloc (Nat.le_refl _) (.cells #[.slice none 0 0, .slice none 0 0, .int .i64 0] 39)
            have hB106 := hB102.alloc hB102.size (.cells #[.slice none 0 0, .slice none 0 0, .int .i64 0] 39)
            have bx106 := bx102.alloc (.cells #[.slice none 0 0, .slice none 0 0, .int .i64 0] 39)
            have ca_106 := ca_102.alloc (.cells #[.slice none 0 0, .slice none 0 0, .int .i64 0] 39)
            have cb_106 := cb_102.alloc (.cells #[.slice none 0 0, .slice none 0 0, .int .i64 0] 39)
            have ha3_106 := ha3_102.lift hal106
            have hb_3_106 := hb_3_102.lift hal106
            have hF3_106 := hF3_102.below hal106
            refine ⟨(fun u => At2 u w.heap.size 39 #[.slice A n c, .slice B m d, .int .i64 x] (w.heap.size + 1) 27 #[.int .i64 a0, .int .i64 a1, .int .i64 a2, .int .i64 a3, .int .i64 a4, .int .i64 a5, .int .i64 a6]), fun _ h => h, bx106, ?_⟩
            (try simp only [Act.put, List.setIfInBounds_toArray, List.set_cons_zero, List.set_cons_succ])
            refine any_one 4 rfl (by kernel_rfl) (by rfl) ?_
            go_simp
            refine (AE1 v3.heap.size A101 B101 n c101 m d101 _ (ca_106.from_ hBd.size) (cb_106.from_ hBd.size) hB106.size (by omega) hF3_106).mono ?_
            rintro e w107 ⟨A107, n107, c107, B107, m107, d107, y107, rfl, hb107⟩
            have hB107 := hB106.trans (hb107.mono hB106.size)
            have bx107 := bx106.below hb107 bx106.lt
            have ag_107 := ag106.below hb107 ag106.lt
            have ca_107 := ca_106.below hb107 (Nat.le_refl _)
            have cb_107 := cb_106.below hb107 (Nat.le_refl _)
            have ha3_107 := ha3_106.lift hb107
            have hb_3_107 := hb_3_106.lift hb107
            have hF3_107 := hF3_106.below hb107
            refine ⟨(fun u => At2 u w.heap.size 39 #[.slice A n c, .slice B m d, .int .i64 x] (w.heap.size + 1) 27 #[.int .i64 a0, .int .i64 a1, .int .i64 a2, .int .i64 a3, .int .i64 a4, .int .i64 a5, .int .i64 a6]), fun _ h => h, bx107, ?_⟩
            (try simp only [Act.put, List.setIfInBounds_toArray, List.set_cons_zero, List.set_cons_succ])
            refine any_pure (v := ?_) 5 rfl (by kernel_rfl) (fun _ _ _ _ _ h => h) (by rfl) (fun u hu => ?_) bx107 ?_
            rotate_left
            · skip
              go_simp
              (with_reducible rfl)
            (try simp only [Act.put, List.setIfInBounds_toArray, List.set_cons_zero, List.set_cons_succ])
            refine any_pure (v := ?_) 6 rfl (by kernel_rfl) (fun _ _ _ _ _ h => h) (by rfl) (fun u hu => ?_) bx107 ?_
            rotate_left
            · skip
              go_simp
              (with_reducible rfl)
            (try simp only [Act.put, List.setIfInBounds_toArray, List.set_cons_zero, List.set_cons_succ])
            refine any_pure (v := ?_) 7 rfl (by kernel_rfl) (fun _ _ _ _ _ h => h) (by rfl) (fun u hu => ?_) bx107 ?_
            rotate_left
            · skip
              go_simp
              (with_reducible rfl)
            (try simp only [Act.put, List.setIfInBounds_toArray, List.set_cons_zero, List.set_cons_succ])
            refine any_one 9 rfl (by kernel_rfl) (by rfl) ?_
            obtain ⟨k0, k1, k2, k3, k4, k5⟩ := ag_107.three
            go_simp
            have hltg108 : w102.heap.size < w107.heap.size := ag_107.lt
            have AG108 : At (((w107.setCell ⟨w102.heap.size, 0, none⟩ (.slice A107 n107 c107)).setCell ⟨w102.heap.size, 1, none⟩ (.slice B107 m107 d107)).setCell ⟨w102.heap.size, 2, none⟩ (.int .i64 y107)) w102.heap.size 39 #[.slice A107 n107 c107, .slice B107 m107 d107, .int .i64 y107] := (((ag_107.set 0 (.slice A107 n107 c107)).set 1 (.slice B107 m107 d107)).set 2 (.int .i64 y107))
            have bx108 := (((bx107.far (p := ⟨w102.heap.size, 0, none⟩) (by show w.heap.size ≠ w102.heap.size ∧ w.heap.size + 1 ≠ w102.heap.size; have := gl106; omega) (.slice A107 n107 c107)).far (p := ⟨w102.heap.size, 1, none⟩) (by show w.heap.size ≠ w102.heap.size ∧ w.heap.size + 1 ≠ w102.heap.size; have := gl106; omega) (.slice B107 m107 d107)).far (p := ⟨w102.heap.size, 2, none⟩) (by show w.heap.size ≠ w102.heap.size ∧ w.heap.size + 1 ≠ w102.heap.size; have := gl106; omega) (.int .i64 y107))
            have hB108 := (((hB107.setCell (p := ⟨w102.heap.size, 0, none⟩) gl106 (.slice A107 n107 c107)).setCell (p := ⟨w102.heap.size, 1, none⟩) gl106 (.slice B107 m107 d107)).setCell (p := ⟨w102.heap.size, 2, none⟩) gl106 (.int .i64 y107))
            refine ⟨(fun u => At2 u w.heap.size 39 #[.slice A n c, .slice B m d, .int .i64 x] (w.heap.size + 1) 27 #[.int .i64 a0, .int .i64 a1, .int .i64 a2, .int .i64 a3, .int .i64 a4, .int .i64 a5, .int .i64 a6]), fun _ h => h, bx108, ?_⟩
            (try simp only [Act.put, List.setIfInBounds_toArray, List.set_cons_zero, List.set_cons_succ])
            refine any_pure (v := ?_) 10 rfl (by kernel_rfl) (fun _ _ _ _ _ h => h) (by rfl) (fun u hu => ?_) bx108 ?_
            rotate_left
            · skip
              go_simp
              (with_reducible rfl)
            (try simp only [Act.put, List.setIfInBounds_toArray, List.set_cons_zero, List.set_cons_succ])
            refine any_done (by kernel_rfl) ?_
            go_wp2
            go_meet
            exact ⟨_, _, _, _, _, _, _, _, rfl, rfl, AG108, hB108⟩
        · go_simp
          have ag109 := At.newAt' (w := w101) (t := 39) (cs := #[.slice none 0 0, .slice none 0 0, .int .i64 0]) (show w101.heap.size = w101.heap.size by first | rfl | simp)
          have gl109 : v3.heap.size ≤ w101.heap.size := by first | exact hB101.size | exact Nat.le_refl _ | (have := hB101.size; simp at this ⊢; try omega)
          have hal109 := (Below.refl w101.heap.size w101).alloc (Nat.le_refl _) (.cells #[.slice none 0 0, .slice none 0 0, .int .i64 0] 39)
          have hB109 := hB101.alloc hB101.size (.cells #[.slice none 0 0, .slice none 0 0, .int .i64 0] 39)
          have bx109 := bx101.alloc (.cells #[.slice none 0 0, .slice none 0 0, .int .i64 0] 39)
          have ca_109 := ca101.alloc (.cells #[.slice none 0 0, .slice none 0 0, .int .i64 0] 39)
          have cb_109 := cb101.alloc (.cells #[.slice none 0 0, .slice none 0 0, .int .i64 0] 39)
          have ha3_109 := ha3_101.lift hal109
          have hb_3_109 := hb_3_101.lift hal109
          have hF3_109 := hF3_101.below hal109
          refine ⟨(fun u => At2 u w.heap.size 39 #[.slice A n c, .slice B m d, .int .i64 x] (w.heap.size + 1) 27 #[.int .i64 a0, .int .i64 a1, .int .i64 a2, .int .i64 a3, .int .i64 a4, .int .i64 a5, .int .i64 a6]), fun _ h => h, bx109, ?_⟩
          (try simp only [Act.put, List.setIfInBounds_toArray, List.set_cons_zero, List.set_cons_succ])
          refine any_one 3 rfl (by kernel_rfl) (by rfl) ?_
          go_simp
          refine (entryOf a0 a1 a2 a3 a4 a5 a6 _).mono ?_
          rintro e w110 ⟨rfl, hb110⟩
          have hB110 := hB109.trans (hb110.mono hB109.size)
          have bx110 := bx109.below hb110 bx109.lt
          have ag_110 := ag109.below hb110 ag109.lt
          have ca_110 := ca_109.below hb110 (Nat.le_refl _)
          have cb_110 := cb_109.below hb110 (Nat.le_refl _)
          have ha3_110 := ha3_109.lift hb110
          have hb_3_110 := hb_3_109.lift hb110
          have hF3_110 := hF3_109.below hb110
          refine ⟨(fun u => At2 u w.heap.size 39 #[.slice A n c, .slice B m d, .int .i64 x] (w.heap.size + 1) 27 #[.int .i64 a0, .int .i64 a1, .int .i64 a2, .int .i64 a3, .int .i64 a4, .int .i64 a5, .int .i64 a6]), fun _ h => h, bx110, ?_⟩
          (try simp only [Act.put, List.setIfInBounds_toArray, List.set_cons_zero, List.set_cons_succ])
          refine any_one 4 rfl (by kernel_rfl) (by rfl) ?_
          go_simp
          refine (AE1 v3.heap.size A101 B101 n c101 m d101 _ (ca_110.from_ hBd.size) (cb_110.from_ hBd.size) hB110.size (by omega) hF3_110).mono ?_
          rintro e w111 ⟨A111, n111, c111, B111, m111, d111, y111, rfl, hb111⟩
          have hB111 := hB110.trans (hb111.mono hB110.size)
          have bx111 := bx110.below hb111 bx110.lt
          have ag_111 := ag_110.below hb111 ag_110.lt
          have ca_111 := ca_110.below hb111 (Nat.le_refl _)
          have cb_111 := cb_110.below hb111 (Nat.le_refl _)
          have ha3_111 := ha3_110.lift hb111
          have hb_3_111 := hb_3_110.lift hb111
          have hF3_111 := hF3_110.below hb111
          refine ⟨(fun u => At2 u w.heap.size 39 #[.slice A n c, .slice B m d, .int .i64 x] (w.heap.size + 1) 27 #[.int .i64 a0, .int .i64 a1, .int .i64 a2, .int .i64 a3, .int .i64 a4, .int .i64 a5, .int .i64 a6]), fun _ h => h, bx111, ?_⟩
          (try simp only [Act.put, List.setIfInBounds_toArray, List.set_cons_zero, List.set_cons_succ])
          refine any_pure (v := ?_) 5 rfl (by kernel_rfl) (fun _ _ _ _ _ h => h) (by rfl) (fun u hu => ?_) bx111 ?_
          rotate_left
          · skip
            go_simp
            (with_reducible rfl)
          (try simp only [Act.put, List.setIfInBounds_toArray, List.set_cons_zero, List.set_cons_succ])
          refine any_pure (v := ?_) 6 rfl (by kernel_rfl) (fun _ _ _ _ _ h => h) (by rfl) (fun u hu => ?_) bx111 ?_
          rotate_left
          · skip
            go_simp
            (with_reducible rfl)
          (try simp only [Act.put, List.setIfInBounds_toArray, List.set_cons_zero, List.set_cons_succ])
          refine any_pure (v := ?_) 7 rfl (by kernel_rfl) (fun _ _ _ _ _ h => h) (by rfl) (fun u hu => ?_) bx111 ?_
          rotate_left
          · skip
            go_simp
            (with_reducible rfl)
          (try simp only [Act.put, List.setIfInBounds_toArray, List.set_cons_zero, List.set_cons_succ])
          refine any_one 9 rfl (by kernel_rfl) (by rfl) ?_
          obtain ⟨k0, k1, k2, k3, k4, k5⟩ := ag_111.three
          go_simp
          have hltg112 : w101.heap.size < w111.heap.size := ag_111.lt
          have AG112 : At (((w111.setCell ⟨w101.heap.size, 0, none⟩ (.slice A111 n111 c111)).setCell ⟨w101.heap.size, 1, none⟩ (.slice B111 m111 d111)).setCell ⟨w101.heap.size, 2, none⟩ (.int .i64 y111)) w101.heap.size 39 #[.slice A111 n111 c111, .slice B111 m111 d111, .int .i64 y111] := (((ag_111.set 0 (.slice A111 n111 c111)).set 1 (.slice B111 m111 d111)).set 2 (.int .i64 y111))
          have bx112 := (((bx111.far (p := ⟨w101.heap.size, 0, none⟩) (by show w.heap.size ≠ w101.heap.size ∧ w.heap.size + 1 ≠ w101.heap.size; have := gl109; omega) (.slice A111 n111 c111)).far (p := ⟨w101.heap.size, 1, none⟩) (by show w.heap.size ≠ w101.heap.size ∧ w.heap.size + 1 ≠ w101.heap.size; have := gl109; omega) (.slice B111 m111 d111)).far (p := ⟨w101.heap.size, 2, none⟩) (by show w.heap.size ≠ w101.heap.size ∧ w.heap.size + 1 ≠ w101.heap.size; have := gl109; omega) (.int .i64 y111))
          have hB112 := (((hB111.setCell (p := ⟨w101.heap.size, 0, none⟩) gl109 (.slice A111 n111 c111)).setCell (p := ⟨w101.heap.size, 1, none⟩) gl109 (.slice B111 m111 d111)).setCell (p := ⟨w101.heap.size, 2, none⟩) gl109 (.int .i64 y111))
          refine ⟨(fun u => At2 u w.heap.size 39 #[.slice A n c, .slice B m d, .int .i64 x] (w.heap.size + 1) 27 #[.int .i64 a0, .int .i64 a1, .int .i64 a2, .int .i64 a3, .int .i64 a4, .int .i64 a5, .int .i64 a6]), fun _ h => h, bx112, ?_⟩
          (try simp only [Act.put, List.setIfInBounds_toArray, List.set_cons_zero, List.set_cons_succ])
          refine any_pure (v := ?_) 10 rfl (by kernel_rfl) (fun _ _ _ _ _ h => h) (by rfl) (fun u hu => ?_) bx112 ?_
          rotate_left
          · skip
            go_simp
            (with_reducible rfl)
          (try simp only [Act.put, List.setIfInBounds_toArray, List.set_cons_zero, List.set_cons_succ])
          refine any_done (by kernel_rfl) ?_
          go_wp2
          go_meet
          exact ⟨_, _, _, _, _, _, _, _, rfl, rfl, AG112, hB112⟩
      · go_simp
        have ag113 := At.newAt' (w := v3.drew) (t := 39) (cs := #[.slice none 0 0, .slice none 0 0, .int .i64 0]) (show v3.drew.heap.size = v3.heap.size by first | rfl | simp)
        have gl113 : v3.heap.size ≤ v3.heap.size := by first | exact hBd.size | exact Nat.le_refl _ | (have := hBd.size; simp at this ⊢; try omega)
        have hal113 := (Below.refl v3.drew.heap.size v3.drew).alloc (Nat.le_refl _) (.cells #[.slice none 0 0, .slice none 0 0, .int .i64 0] 39)
        have hB113 := hBd.alloc hBd.size (.cells #[.slice none 0 0, .slice none 0 0, .int .i64 0] 39)
        have bx113 := bxd.alloc (.cells #[.slice none 0 0, .slice none 0 0, .int .i64 0] 39)
        have ha3_113 := ha3d.lift hal113
        have hb_3_113 := hb_3d.lift hal113
        have hF3_113 := hF3d.below hal113
        refine ⟨(fun u => At2 u w.heap.size 39 #[.slice A n c, .slice B m d, .int .i64 x] (w.heap.size + 1) 27 #[.int .i64 a0, .int .i64 a1, .int .i64 a2, .int .i64 a3, .int .i64 a4, .int .i64 a5, .int .i64 a6]), fun _ h => h, bx113, ?_⟩
        (try simp only [Act.put, List.setIfInBounds_toArray, List.set_cons_zero, List.set_cons_succ])
        refine any_one 1 rfl (by kernel_rfl) (by rfl) ?_
        go_simp
        refine (copyState A B n c m d l h x _ ha3_113 hb_3_113 Hn.out Hm.out hn3 hm3).mono ?_
        rintro e w114 ⟨A114, c114, B114, d114, rfl, ca114, cb114, hb114⟩
        have hB114 := hB113.trans (hb114.mono hB113.size)
        have bx114 := bx113.below hb114 bx113.lt
        have ag_114 := ag113.below hb114 ag113.lt
        have ha3_114 := ha3_113.lift hb114
        have hb_3_114 := hb_3_113.lift hb114
        have hF3_114 := hF3_113.below hb114
        refine ⟨(fun u => At2 u w.heap.size 39 #[.slice A n c, .slice B m d, .int .i64 x] (w.heap.size + 1) 27 #[.int .i64 a0, .int .i64 a1, .int .i64 a2, .int .i64 a3, .int .i64 a4, .int .i64 a5, .int .i64 a6]), fun _ h => h, bx114, ?_⟩
        (try simp only [Act.put, List.setIfInBounds_toArray, List.set_cons_zero, List.set_cons_succ])
        refine any_one 3 rfl (by kernel_rfl) (by rfl) ?_
        go_simp
        refine (entryOf a0 a1 a2 a3 a4 a5 a6 _).mono ?_
        rintro e w115 ⟨rfl, hb115⟩
        have hB115 := hB114.trans (hb115.mono hB114.size)
        have bx115 := bx114.below hb115 bx114.lt
        have ag_115 := ag_114.below hb115 ag_114.lt
        have ca_115 := ca114.below hb115 (Nat.le_refl _)
        have cb_115 := cb114.below hb115 (Nat.le_refl _)
        have ha3_115 := ha3_114.lift hb115
        have hb_3_115 := hb_3_114.lift hb115
        have hF3_115 := hF3_114.below hb115
        refine ⟨(fun u => At2 u w.heap.size 39 #[.slice A n c, .slice B m d, .int .i64 x] (w.heap.size + 1) 27 #[.int .i64 a0, .int .i64 a1, .int .i64 a2, .int .i64 a3, .int .i64 a4, .int .i64 a5, .int .i64 a6]), fun _ h => h, bx115, ?_⟩
        (try simp only [Act.put, List.setIfInBounds_toArray, List.set_cons_zero, List.set_cons_succ])
        refine any_one 4 rfl (by kernel_rfl) (by rfl) ?_
        go_simp
        refine (AE1 v3.heap.size A114 B114 n c114 m d114 _ (ca_115.from_ hB113.size) (cb_115.from_ hB113.size) hB115.size (by omega) hF3_115).mono ?_
        rintro e w116 ⟨A116, n116, c116, B116, m116, d116, y116, rfl, hb116⟩
        have hB116 := hB115.trans (hb116.mono hB115.size)
        have bx116 := bx115.below hb116 bx115.lt
        have ag_116 := ag_115.below hb116 ag_115.lt
        have ca_116 := ca_115.below hb116 (Nat.le_refl _)
        have cb_116 := cb_115.below hb116 (Nat.le_refl _)
        have ha3_116 := ha3_115.lift hb116
        have hb_3_116 := hb_3_115.lift hb116
        have hF3_116 := hF3_115.below hb116
        refine ⟨(fun u => At2 u w.heap.size 39 #[.slice A n c, .slice B m d, .int .i64 x] (w.heap.size + 1) 27 #[.int .i64 a0, .int .i64 a1, .int .i64 a2, .int .i64 a3, .int .i64 a4, .int .i64 a5, .int .i64 a6]), fun _ h => h, bx116, ?_⟩
        (try simp only [Act.put, List.setIfInBounds_toArray, List.set_cons_zero, List.set_cons_succ])
        refine any_pure (v := ?_) 5 rfl (by kernel_rfl) (fun _ _ _ _ _ h => h) (by rfl) (fun u hu => ?_) bx116 ?_
        rotate_left
        · skip
          go_simp
          (with_reducible rfl)
        (try simp only [Act.put, List.setIfInBounds_toArray, List.set_cons_zero, List.set_cons_succ])
        refine any_pure (v := ?_) 6 rfl (by kernel_rfl) (fun _ _ _ _ _ h => h) (by rfl) (fun u hu => ?_) bx116 ?_
        rotate_left
        · skip
          go_simp
          (with_reducible rfl)
        (try simp only [Act.put, List.setIfInBounds_toArray, List.set_cons_zero, List.set_cons_succ])
        refine any_pure (v := ?_) 7 rfl (by kernel_rfl) (fun _ _ _ _ _ h => h) (by rfl) (fun u hu => ?_) bx116 ?_
        rotate_left
        · skip
          go_simp
          (with_reducible rfl)
        (try simp only [Act.put, List.setIfInBounds_toArray, List.set_cons_zero, List.set_cons_succ])
        refine any_one 9 rfl (by kernel_rfl) (by rfl) ?_
        obtain ⟨k0, k1, k2, k3, k4, k5⟩ := ag_116.three
        go_simp
        have hltg117 : v3.heap.size < w116.heap.size := ag_116.lt
        have AG117 : At (((w116.setCell ⟨v3.heap.size, 0, none⟩ (.slice A116 n116 c116)).setCell ⟨v3.heap.size, 1, none⟩ (.slice B116 m116 d116)).setCell ⟨v3.heap.size, 2, none⟩ (.int .i64 y116)) v3.heap.size 39 #[.slice A116 n116 c116, .slice B116 m116 d116, .int .i64 y116] := (((ag_116.set 0 (.slice A116 n116 c116)).set 1 (.slice B116 m116 d116)).set 2 (.int .i64 y116))
        have bx117 := (((bx116.far (p := ⟨v3.heap.size, 0, none⟩) (by show w.heap.size ≠ v3.heap.size ∧ w.heap.size + 1 ≠ v3.heap.size; have := gl113; omega) (.slice A116 n116 c116)).far (p := ⟨v3.heap.size, 1, none⟩) (by show w.heap.size ≠ v3.heap.size ∧ w.heap.size + 1 ≠ v3.heap.size; have := gl113; omega) (.slice B116 m116 d116)).far (p := ⟨v3.heap.size, 2, none⟩) (by show w.heap.size ≠ v3.heap.size ∧ w.heap.size + 1 ≠ v3.heap.size; have := gl113; omega) (.int .i64 y116))
        have hB117 := (((hB116.setCell (p := ⟨v3.heap.size, 0, none⟩) gl113 (.slice A116 n116 c116)).setCell (p := ⟨v3.heap.size, 1, none⟩) gl113 (.slice B116 m116 d116)).setCell (p := ⟨v3.heap.size, 2, none⟩) gl113 (.int .i64 y116))
        refine ⟨(fun u => At2 u w.heap.size 39 #[.slice A n c, .slice B m d, .int .i64 x] (w.heap.size + 1) 27 #[.int .i64 a0, .int .i64 a1, .int .i64 a2, .int .i64 a3, .int .i64 a4, .int .i64 a5, .int .i64 a6]), fun _ h => h, bx117, ?_⟩
        (try simp only [Act.put, List.setIfInBounds_toArray, List.set_cons_zero, List.set_cons_succ])
        refine any_pure (v := ?_) 10 rfl (by kernel_rfl) (fun _ _ _ _ _ h => h) (by rfl) (fun u hu => ?_) bx117 ?_
        rotate_left
        · skip
          go_simp
          (with_reducible rfl)
        (try simp only [Act.put, List.setIfInBounds_toArray, List.set_cons_zero, List.set_cons_succ])
        refine any_done (by kernel_rfl) ?_
        go_wp2
        go_meet
        exact ⟨_, _, _, _, _, _, _, _, rfl, rfl, AG117, hB117⟩
    case rest =>
      obtain ⟨gx, A5, n5, c5, B5, m5, d5, y, rfl, rfl, AX, HB⟩ := hcut
      have z4 := z3.below HB lz3
      have hB4 := hB3.trans (HB.mono hB3.size)
      obtain ⟨zc0, zc1, zc2, zc3, zf0, zf1, zf2, zf3⟩ := z4.four
      go_wp2
      refine bodyPost_ret (v := .agg #[.int .i64 tc, .slice none 0 0, .slice none 0 0, .int .i64 0]) (by simp [results, Tryz.results12, go_sem, zc0, zc1, zc2, zc3]) rfl ?_
      rw [Hr2.out]
      exact retSta_zero ((((hB4.setCell (by simp; omega) _).setCell (by simp; omega) _).setCell (by simp; omega) _).setCell (by simp; omega) _)
end Go.Proofs.YtmaillakhhdkfaaGreatDoor
