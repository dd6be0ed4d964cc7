/-
  Texts of one proof, joined: each has its own namespace.
-/
import Derived.Test.YteiclanlhnccnaaGreatDoorBExApplyRecord3
import Derived.Test.YteiclanlhnccnaaGreatDoorBExApplyRecord4
import Derived.Laws.AppendOwn
import Derived.Test.YteiclanlhnccnaaGreatDoorBExApplyRecord2
/-
  The model's functions on hints.
-/
namespace Go.Proofs.YteiclanlhnccnaaGreatDoor
set_option maxRecDepth 20000
open Go.RowKit
set_option linter.unusedSimpArgs false
set_option linter.unusedVariables false

theorem l4Node (p : Int) (w : World) : Calls Tryz.prog 133 #[.int .i64 p] w fun e w' => e = .returned (.bool (inB (p, 0, 3))) ∧ w = w' := by
  go_enter Tryz.func133, Tryz.ntmps133
  go_wp2_with (go_at_call 76; refine (l1In_any p 0 3 _).mono ?_; rintro e w' ⟨rfl, rfl⟩)
  go_ret
  exact ⟨by simp, rfl⟩

def FindRelH (w : World) (l : List Hnt) (p i : Int) (n : Nat) (v : Value) (wr : World) : Prop :=
  ∃ k : Nat, k ≤ n ∧ v = .int .i64 k ∧ (∀ j, j < k → hitH l p i j = false) ∧ wr = w

set_option maxHeartbeats 2000000 in
theorem l4Find (A : Option Addr) (n c : Nat) (l : List Hnt) (p i : Int) (w : World) (ha : Rd eH w w.heap.size A l) (hn : l.length = n) (hm : n ≤ maxLen) :
    Calls Tryz.prog 115 #[.slice A n c, .int .i64 p, .int .i64 i] w fun e w' => e = .returned (.int .i64 (findHI l p i)) ∧ w = w' := by
  have Hn := Lib.hid hn
  clear hn
  unfold maxLen at hm
  go_enter Tryz.func115, Tryz.ntmps115
  go_wp2
  go_loopw [7] (fun v wr => FindRelH w l p i n v wr) (fun v _ => n - (intOf v).toNat)
  case atStart => exact ⟨0, Nat.zero_le _, rfl, fun _ h => absurd h (by omega), rfl⟩
  case round =>
    obtain ⟨k, hk, rfl, hal, rfl⟩ := hrel
    have Hal := Lib.hid hal
    clear hal
    by_cases hlt : k < n
    · obtain ⟨g, o, a0, a1, a2, a3, a4, a5, a6, rfl, hg, hx, ca⟩ := ha.hnt (k := k) (by rw [Hn.out]; exact hlt)
      have Hh := Lib.hid (hitH_at (p := p) (i := i) hx)
      clear hx
      obtain ⟨c0, c1, c2, c3, c4, c5, c6⟩ := ca
      by_cases h0 : a0 = p
      · by_cases h3 : a3 = i
        · have hb0 : (a0 == p) = true := by simpa using h0
          have hb3 : (a3 == i) = true := by simpa using h3
          have Hf := Lib.hid (findHI_some (p := p) (i := i) (by rw [Hn.out]; exact hlt) (by rw [Hh.out]; simp [h0, h3]) Hal.out)
          clear h0 h3
          go_wp2
          go_ret
          exact ⟨by rw [Hf.out]; rfl, by first | rfl | trivial⟩
        · have hb0 : (a0 == p) = true := by simpa using h0
          have hb3 : (a3 == i) = false := by simpa using h3
          have Hs := Lib.hid (show hitH l p i k = false by rw [Hh.out]; simp [h3])
          clear h0 h3
          go_wp2
          refine ⟨⟨k + 1, by omega, by go_num, fun j hj => ?_, by first | rfl | trivial⟩, by simp [intOf]; omega⟩
          rcases Nat.lt_or_ge j k with h | h
          · exact Hal.out j h
          · obtain rfl : j = k := by omega
            exact Hs.out
      · have hb0 : (a0 == p) = false := by simpa using h0
        have Hs := Lib.hid (show hitH l p i k = false by rw [Hh.out]; simp [h0])
        clear h0
        go_wp2
        refine ⟨⟨k + 1, by omega, by go_num, fun j hj => ?_, by first | rfl | trivial⟩, by simp [intOf]; omega⟩
        rcases Nat.lt_or_ge j k with h | h
        · exact Hal.out j h
        · obtain rfl : j = k := by omega
          exact Hs.out
    · obtain rfl : n = k := by omega
      have Hf := Lib.hid (findHI_none Hn.out Hal.out)
      go_wp2
      go_ret
      exact ⟨by rw [Hf.out]; rfl, by first | rfl | trivial⟩

def RightRelH (w : World) (l : List Hnt) (n : Nat) (i : Value) (wr : World) : Prop :=
  ∃ k : Nat, k ≤ n ∧ i = .int .i64 k ∧ (∀ j x, j < k → l[j]? = some x → hfaultM x = 0) ∧ Below w.heap.size w wr
def DisRel (w : World) (l : List Hnt) (n : Nat) (i : Value) (wr : World) : Prop :=
  ∃ k : Nat, k ≤ n ∧ i = .int .i64 k ∧ (∀ j x, j < k → l[j]? = some x → findHI l x.1 (idH x) = (j : Int)) ∧ Below w.heap.size w wr

set_option maxHeartbeats 4000000 in
theorem specHintsFault (A : Option Addr) (n c : Nat) (l : List Hnt) (w : World) (ha : Rd eH w w.heap.size A l) (hn : l.length = n) :
    Calls Tryz.prog 75 #[.slice A n c] w fun e w' => e = .returned (.int .i64 (hintsFaultM l)) ∧ Below w.heap.size w w' := by
  by_cases hbig : 8 < n
  · have hb : (8 : Int) < (n : Int) := by omega
    rw [hintsFault_many (by omega)]
    go_enter Tryz.func75, Tryz.ntmps75
    go_wp2
    go_ret
    exact ⟨rfl, Below.refl _ _⟩
  have hb : (n : Int) ≤ 8 := by omega
  have Hbig := Lib.hid (show ¬ 8 < l.length by omega)
  have Hn := Lib.hid hn
  clear hn hbig
  go_enter Tryz.func75, Tryz.ntmps75
  go_wp2
  go_loopw [3] (fun i wr => RightRelH w l n i wr) (fun i _ => n - (intOf i).toNat)
  case atStart => exact ⟨0, Nat.zero_le _, rfl, fun _ _ h => absurd h (by omega), Below.refl _ _⟩
  case round =>
    obtain ⟨k, hk, rfl, hal, hbel⟩ := hrel
    have Hal := Lib.hid hal
    clear hal
    by_cases hlt : k < n
    · obtain ⟨g, o, a0, a1, a2, a3, a4, a5, a6, rfl, hg, hx, ca⟩ := (ha.below hbel (Nat.le_refl _)).hnt (k := k) (by rw [Hn.out]; exact hlt)
      have Ca := Lib.hid ca
      obtain ⟨c0, c1, c2, c3, c4, c5, c6⟩ := ca
      rcases faultM_or (a1, a2, a3, a4) with hf | hf
      · have hq := specSampleFault a1 a2 a3 a4 wr
        rw [hf] at hq
        have Hx := Lib.hid hx
        have Hf := Lib.hid hf
        clear hx hf
        go_wp2_with fail
        refine hq.mono ?_
        rintro e w2 ⟨rfl, hb2⟩
        have hB2 := hbel.trans (hb2.mono hbel.size)
        clear c0 c1 c2 c3 c4 c5 c6
        obtain ⟨c0, c1, c2, c3, c4, c5, c6⟩ := Ca.out.below hb2 (Nat.lt_of_lt_of_le hg hbel.size)
        rcases h0 : inB (a0, 0, 3)
        · have Hr := Lib.hid (hintsFault_wrong Hbig.out Hx.out (hfault_no Hf.out (by unfold rangeH; simp [h0])))
          go_wp2_with (first | (go_at_call 133; refine (l4Node _ _).mono ?_; rintro e w8 ⟨rfl, rfl⟩) | (go_at_call 76; refine (l1In_any _ _ _ _).mono ?_; rintro e w9 ⟨rfl, rfl⟩))
          go_ret
          exact ⟨by rw [Hr.out]; rfl, hB2⟩
        rcases h5 : inB (a5, 0, 4)
        · have Hr := Lib.hid (hintsFault_wrong Hbig.out Hx.out (hfault_no Hf.out (by unfold rangeH; simp [h5])))
          go_wp2_with (first | (go_at_call 133; refine (l4Node _ _).mono ?_; rintro e w8 ⟨rfl, rfl⟩) | (go_at_call 76; refine (l1In_any _ _ _ _).mono ?_; rintro e w9 ⟨rfl, rfl⟩))
          go_ret
          exact ⟨by rw [Hr.out]; rfl, hB2⟩
        rcases h6 : inB (a6, 0, 200000)
        · have Hr := Lib.hid (hintsFault_wrong Hbig.out Hx.out (hfault_no Hf.out (by unfold rangeH; simp [h6])))
          go_wp2_with (first | (go_at_call 133; refine (l4Node _ _).mono ?_; rintro e w8 ⟨rfl, rfl⟩) | (go_at_call 76; refine (l1In_any _ _ _ _).mono ?_; rintro e w9 ⟨rfl, rfl⟩))
          go_ret
          exact ⟨by rw [Hr.out]; rfl, hB2⟩
        have Hr := Lib.hid (hfault_yes (h := (a0, (a1, a2, a3, a4), a5, a6)) Hf.out (by unfold rangeH; simp [h0, h5, h6]))
        go_wp2_with (first | (go_at_call 133; refine (l4Node _ _).mono ?_; rintro e w8 ⟨rfl, rfl⟩) | (go_at_call 76; refine (l1In_any _ _ _ _).mono ?_; rintro e w9 ⟨rfl, rfl⟩))
        refine ⟨⟨k + 1, by omega, by go_num, fun j x hj hx => ?_, hB2⟩, by simp [intOf]; omega⟩
        rcases Nat.lt_or_ge j k with h | h
        · exact Hal.out j x h hx
        · obtain rfl : j = k := by omega
          obtain rfl := Option.some.inj (Hx.out.symm.trans hx)
          exact Hr.out
      · have hq := specSampleFault a1 a2 a3 a4 wr
        rw [hf] at hq
        have Hr := Lib.hid (hintsFault_wrong Hbig.out hx (hfault_smp (h := (a0, (a1, a2, a3, a4), a5, a6)) hf))
        clear hx hf
        go_wp2_with fail
        refine hq.mono ?_
        rintro e w2 ⟨rfl, hb2⟩
        have hB2 := hbel.trans (hb2.mono hbel.size)
        go_wp2
        go_ret
        exact ⟨by rw [Hr.out]; rfl, hB2⟩
    · obtain rfl : n = k := by omega
      have Hright := Lib.hid (rightHM_of Hn.out Hal.out)
      clear Hal
      go_wp2
      go_loopw [6] (fun i wr => DisRel w l n i wr) (fun i _ => n - (intOf i).toNat)
      case atStart => exact ⟨0, Nat.zero_le _, rfl, fun _ _ h => absurd h (by omega), hbel⟩
      case round =>
        obtain ⟨k, hk, rfl, hal, hbel⟩ := hrel
        have Hal := Lib.hid hal
        clear hal
        by_cases hlt : k < n
        · obtain ⟨g, o, a0, a1, a2, a3, a4, a5, a6, rfl, hg, hx, ca⟩ := (ha.below hbel (Nat.le_refl _)).hnt (k := k) (by rw [Hn.out]; exact hlt)
          have Hx := Lib.hid hx
          clear hx
          have hbd := hbel.drew
          have had := ha.lift hbd
          have hF := l4Find (some ⟨g, o, none⟩) n c l a0 a3 _ had Hn.out (by unfold maxLen; omega)
          obtain ⟨f, hf⟩ : ∃ f, findHI l a0 a3 = f := ⟨_, rfl⟩
          rw [hf] at hF
          have Hf := Lib.hid hf
          clear hf had
          go_wp2
          refine wp_region_mix [(0, false), (1, false), (2, false), (3, false), (4, false), (5, false), (6, false), (7, false), (8, false), (9, false), (10, false), (11, false), (13, false), (12, true), (14, false)] (fun u => S7 u g (o + k * 7) a0 a1 a2 a3 a4 a5 a6) (by kernel_rfl) (by kernel_rfl) (fun _ _ _ _ _ h => h) ca.drew ?_
          simp only [mixOps, List.map_cons, List.map_nil, List.getElem?_cons_succ, List.getElem?_cons_zero, Option.getD_some]
          iterate 13 (
            refine mix_pure (v := ?_) (by rfl) (fun u hu => ?_) ?_
            rotate_left
            · obtain ⟨_, _, _, _, _, _, _⟩ := hu
              go_simp
              (with_reducible rfl)
            (try simp only [Act.put, List.setIfInBounds_toArray, List.set_cons_zero, List.set_cons_succ]))
          refine mix_call (by rfl) (fun K hK => ?_)
          go_simp
          refine hF.mono ?_
          rintro e w1 ⟨rfl, rfl⟩
          refine hK _ _ _ (fun _ h => h) ca.drew ?_
          (try simp only [Act.put, List.setIfInBounds_toArray, List.set_cons_zero, List.set_cons_succ])
          by_cases hfk : f = (k : Int)
          · have hne : (f != (k : Int)) = false := by simpa using hfk
            have Hfk := Lib.hid hfk
            clear hfk
            iterate 1 (
              refine mix_pure (v := ?_) (by rfl) (fun u hu => ?_) ?_
              rotate_left
              · skip
                go_simp
                (with_reducible rfl)
              (try simp only [Act.put, List.setIfInBounds_toArray, List.set_cons_zero, List.set_cons_succ]))
            refine mix_nil ?_
            go_wp2
            refine ⟨⟨k + 1, by omega, by go_num, fun j x hj hx => ?_, hbd⟩, by simp [intOf]; omega⟩
            rcases Nat.lt_or_ge j k with h | h
            · exact Hal.out j x h hx
            · obtain rfl : j = k := by omega
              obtain rfl := Option.some.inj (Hx.out.symm.trans hx)
              exact Hf.out.trans Hfk.out
          · have hne : (f != (k : Int)) = true := by rw [bne_iff_ne]; exact hfk
            have Hr := Lib.hid (hintsFault_taken Hbig.out Hright.out (fun hd => hfk (Hf.out.symm.trans (findHI_self hd Hx.out))))
            clear hfk
            iterate 1 (
              refine mix_pure (v := ?_) (by rfl) (fun u hu => ?_) ?_
              rotate_left
              · skip
                go_simp
                (with_reducible rfl)
              (try simp only [Act.put, List.setIfInBounds_toArray, List.set_cons_zero, List.set_cons_succ]))
            refine mix_nil ?_
            go_wp2
            go_ret
            exact ⟨by rw [Hr.out]; rfl, hbd⟩
        · obtain rfl : n = k := by omega
          have Hr := Lib.hid (hintsFault_ok Hbig.out Hright.out (dis_of fun j x hx => Hal.out j x (by have := getElem?_some_lt hx; have := Hn.out; omega) hx))
          go_wp2
          go_ret
          exact ⟨by rw [Hr.out]; rfl, hbel⟩

set_option maxHeartbeats 1000000 in
theorem l4Copy (A : Option Addr) (n c : Nat) (l : List Hnt) (w : World) (ha : Rd eH w w.heap.size A l) (hn : l.length = n) (hm : n ≤ 1048576) :
    Calls Tryz.prog 114 #[.slice A n c] w fun e w' => ∃ A' c', e = .returned (.slice A' n c') ∧ Ow eH w' w.heap.size A' n c' l ∧ Below w.heap.size w w' := by
  have Hn := Lib.hid hn
  clear hn
  have B1 := (Below.refl w.heap.size w).alloc (Nat.le_refl _) (.cells #[] 89)
  have a1 := ha.lift B1
  have o1 : Ow eH (w.alloc (.cells #[] 89)) w.heap.size (some ⟨w.heap.size, 0, none⟩) 0 0 [] := Ow.lit w [] #[] 0 (Nat.le_refl _) (by unfold maxLen; omega) rfl rfl
  go_enter Tryz.func114, Tryz.ntmps114
  go_wp2_with (at_builtin; refine wpList_append_ow okH _ rfl (.tmp 3) (.tmp 4) _ rfl w.heap.size info_hnt Tryz.underlying37 rfl (some ⟨w.heap.size, 0, none⟩) 0 0 [] rfl o1 A n c _ l rfl a1 Hn.out (by unfold maxLen; omega) (by omega) (by simp) ?_; intro A2 c2 w2 ow2 hg2 _)
  have B2 : Below w.heap.size w w2 := B1.grown hg2 (by simp) (fun g hg => by simp at hg; omega)
  rw [Nat.zero_add, List.nil_append] at ow2
  go_ret
  refine ⟨A2, c2, ?_, ow2, B2⟩
  simp
end Go.Proofs.YteiclanlhnccnaaGreatDoor
/-
  A key looked for in a store, a store copied: the model's.
-/
namespace Go.Proofs.YteiclanlhnccnaaGreatDoor
set_option maxRecDepth 20000
open Go.RowKit
set_option linter.unusedSimpArgs false

def hitM (l : List Smp) (x : Smp) (i : Nat) : Bool := match l[i]? with | some a => sameKeyM a x | none => false
theorem hitM_at {l : List Smp} {x a : Smp} {i : Nat} (h : l[i]? = some a) : hitM l x i = sameKeyM a x := by
  unfold hitM
  rw [h]
/-- Where the key stands. -/
def findM (l : List Smp) (x : Smp) : Option Nat := (List.range l.length).find? (hitM l x)
def findI (l : List Smp) (x : Smp) : Int := match findM l x with | some i => (i : Int) | none => -1
theorem findI_some {l : List Smp} {x : Smp} {k : Nat} (hk : k < l.length) (h : hitM l x k = true) (hal : ∀ j, j < k → hitM l x j = false) : findI l x = (k : Int) := by
  have : findM l x = some k := by
    unfold findM
    rw [List.find?_range_eq_some]
    exact ⟨h, by simpa using hk, fun j hj => by simp [hal j hj]⟩
  unfold findI
  rw [this]
theorem findI_none {l : List Smp} {x : Smp} {n : Nat} (hn : l.length = n) (hal : ∀ j, j < n → hitM l x j = false) : findI l x = -1 := by
  have : findM l x = none := by
    unfold findM
    rw [List.find?_range_eq_none]
    exact fun j hj => by simp [hal j (by omega)]
  unfold findI
  rw [this]

def FindRel (w : World) (l : List Smp) (x : Smp) (n : Nat) (i : Value) (wr : World) : Prop :=
  ∃ k : Nat, k ≤ n ∧ i = .int .i64 k ∧ (∀ j, j < k → hitM l x j = false) ∧ Below w.heap.size w wr

set_option maxHeartbeats 2000000 in
theorem l3Find (A : Option Addr) (n c : Nat) (l : List Smp) (gk pk : Nat) (k0 k1 k2 k3 : Int) (w : World) (ha : Rd eS w w.heap.size A l) (hn : l.length = n) (hm : n ≤ maxLen) (hk : S4 w gk pk k0 k1 k2 k3) (hgk : gk < w.heap.size) :
    Calls Tryz.prog 116 #[.slice A n c, .pointer (some ⟨gk, pk, none⟩)] w fun e w' => e = .returned (.int .i64 (findI l (k0, k1, k2, k3))) ∧ Below w.heap.size w w' := by
  have Hn := Lib.hid hn
  clear hn
  unfold maxLen at hm
  go_enter Tryz.func116, Tryz.ntmps116
  go_wp2
  go_loopw [5] (fun i wr => FindRel w l (k0, k1, k2, k3) n i wr) (fun i _ => n - (intOf i).toNat)
  case atStart => exact ⟨0, Nat.zero_le _, rfl, fun _ h => absurd h (by omega), Below.refl _ _⟩
  case round =>
    obtain ⟨k, hkn, rfl, hal, hbel⟩ := hrel
    have Hal := Lib.hid hal
    clear hal
    by_cases hlt : k < n
    · obtain ⟨g, o, a0, a1, a2, a3, rfl, hg, hx, ca⟩ := (ha.below hbel (Nat.le_refl _)).smp (k := k) (by rw [Hn.out]; exact hlt)
      have cb := hk.below hbel hgk
      have Hh := Lib.hid (hitM_at (x := (k0, k1, k2, k3)) hx)
      clear hx
      have hbd := hbel.drew
      go_wp2
      refine wp_region_mix [(0, false), (1, false), (2, false), (3, false), (4, false), (5, false), (6, false), (7, true)] (fun u => S4 u g (o + k * 4) a0 a1 a2 a3 ∧ S4 u gk pk k0 k1 k2 k3) (by kernel_rfl) (by kernel_rfl) (fun _ _ _ _ _ h => h) ⟨ca.drew, cb.drew⟩ ?_
      simp only [mixOps, List.map_cons, List.map_nil, List.getElem?_cons_succ, List.getElem?_cons_zero, Option.getD_some]
      repeat (first
        | (refine mix_skip (by rfl) ?_
           (try simp only [Act.put, List.setIfInBounds_toArray, List.set_cons_zero, List.set_cons_succ]))
        | (refine mix_pure (v := ?_) (by rfl) (fun u hu => ?_) ?_
           rotate_left
           · obtain ⟨⟨_, _, _, _⟩, _, _, _, _⟩ := hu
             go_simp
             (with_reducible rfl)
           (try simp only [Act.put, List.setIfInBounds_toArray, List.set_cons_zero, List.set_cons_succ])))
      refine mix_call (by rfl) (fun K hK => ?_)
      go_simp
      refine (specIsSameKey a0 a1 a2 a3 k0 k1 k2 k3 _).mono ?_
      rintro e w1 ⟨rfl, hb1⟩
      have hB1 := hbd.trans (hb1.mono hbd.size)
      refine hK _ _ _ (fun _ h => h) ⟨ca.drew.below hb1 (Nat.lt_of_lt_of_le hg hbd.size), cb.drew.below hb1 (Nat.lt_of_lt_of_le hgk hbd.size)⟩ ?_
      (try simp only [Act.put, List.setIfInBounds_toArray, List.set_cons_zero, List.set_cons_succ])
      rw [← Hh.out]
      refine mix_nil ?_
      rcases hs : hitM l (k0, k1, k2, k3) k
      · have Hs := Lib.hid hs
        clear hs
        go_wp2
        refine ⟨⟨k + 1, by omega, by go_num, fun j hj => ?_, hB1⟩, by simp [intOf]; omega⟩
        rcases Nat.lt_or_ge j k with h | h
        · exact Hal.out j h
        · obtain rfl : j = k := by omega
          exact Hs.out
      · have Hf := Lib.hid (findI_some (by rw [Hn.out]; exact hlt) hs Hal.out)
        clear hs
        go_wp2
        go_ret
        exact ⟨by rw [Hf.out]; rfl, hB1⟩
    · obtain rfl : n = k := by omega
      have Hf := Lib.hid (findI_none Hn.out Hal.out)
      go_wp2
      go_ret
      exact ⟨by rw [Hf.out]; rfl, hbel⟩

set_option maxHeartbeats 1000000 in
theorem l3Copy (A : Option Addr) (n c : Nat) (l : List Smp) (w : World) (ha : Rd eS w w.heap.size A l) (hn : l.length = n) (hm : n ≤ 1048576) :
    Calls Tryz.prog 113 #[.slice A n c] w fun e w' => ∃ A' c', e = .returned (.slice A' n c') ∧ Ow eS w' w.heap.size A' n c' l ∧ Below w.heap.size w w' := by
  have Hn := Lib.hid hn
  clear hn
  have B1 := (Below.refl w.heap.size w).alloc (Nat.le_refl _) (.cells #[] 25)
  have a1 := ha.lift B1
  have o1 : Ow eS (w.alloc (.cells #[] 25)) w.heap.size (some ⟨w.heap.size, 0, none⟩) 0 0 [] := Ow.lit w [] #[] 0 (Nat.le_refl _) (by unfold maxLen; omega) rfl rfl
  go_enter Tryz.func113, Tryz.ntmps113
  go_wp2_with (at_builtin; refine wpList_append_ow okS _ rfl (.tmp 3) (.tmp 4) _ rfl w.heap.size info_smp Tryz.underlying36 rfl (some ⟨w.heap.size, 0, none⟩) 0 0 [] rfl o1 A n c _ l rfl a1 Hn.out (by unfold maxLen; omega) (by omega) (by simp) ?_; intro A2 c2 w2 ow2 hg2 _)
  have B2 : Below w.heap.size w w2 := B1.grown hg2 (by simp) (fun g hg => by simp at hg; omega)
  rw [Nat.zero_add, List.nil_append] at ow2
  go_ret
  refine ⟨A2, c2, ?_, ow2, B2⟩
  simp
end Go.Proofs.YteiclanlhnccnaaGreatDoor
/-
  The model's faults of a state.
-/
namespace Go.Proofs.YteiclanlhnccnaaGreatDoor
set_option maxRecDepth 20000
open Go.RowKit
set_option linter.unusedSimpArgs false
set_option linter.unusedVariables false

theorem stateFault_store {s : Sta} {z : Int} (h : storeFaultM s.1 = z) (k : z ≠ 0) : stateFaultM s = z := by unfold stateFaultM; rw [h, if_pos k]
theorem stateFault_hints {s : Sta} {z : Int} (h : storeFaultM s.1 = 0) (h2 : hintsFaultM s.2.1 = z) (k : z ≠ 0) : stateFaultM s = z := by unfold stateFaultM; rw [h, if_neg (by simp), h2, if_pos k]
theorem stateFault_life {s : Sta} {b : Bool} (h : storeFaultM s.1 = 0) (h2 : hintsFaultM s.2.1 = 0) (h3 : inB (s.2.2, 0, 60000) = b) : stateFaultM s = if b then 0 else 3 := by
  unfold stateFaultM
  rw [h, if_neg (by simp), h2, if_neg (by simp), h3]

set_option maxHeartbeats 4000000 in
theorem specStateFault (A B : Option Addr) (n c m d : Nat) (l : List Smp) (h : List Hnt) (life : Int) (w : World) (ha : Rd eS w w.heap.size A l) (hb : Rd eH w w.heap.size B h) (hn : l.length = n) (hm : h.length = m) :
    Calls Tryz.prog 22 #[.agg #[.slice A n c, .slice B m d, .int .i64 life]] w fun e w' => e = .returned (.int .i64 (stateFaultM (l, h, life))) ∧ Below w.heap.size w w' := by
  have hB0 : Below w.heap.size w (w.alloc (.cells #[.slice A n c, .slice B m d, .int .i64 life] 39)) := (Below.refl _ _).alloc (Nat.le_refl _) _
  have r0 := At.new w 39 #[.slice A n c, .slice B m d, .int .i64 life]
  obtain ⟨c0, c1, c2, _, _, _⟩ := r0.three
  have SF := specStoreFault A n c l _ (ha.lift hB0) hn
  have hb0 := hb.lift hB0
  obtain ⟨sf, hsf⟩ : ∃ z, storeFaultM l = z := ⟨_, rfl⟩
  obtain ⟨hf, hhf⟩ : ∃ z, hintsFaultM h = z := ⟨_, rfl⟩
  rw [hsf] at SF
  by_cases k1 : sf = 0
  rotate_left
  · have Hr := Lib.hid (stateFault_store (s := (l, h, life)) hsf k1)
    have b1 : (sf != 0) = true := by simpa using k1
    clear hsf hhf k1 ha hb hn hm
    go_enter Tryz.func22, Tryz.ntmps22
    go_wp2_with (go_at_call 74; refine SF.mono ?_; rintro e w1 ⟨rfl, hb1⟩)
    go_ret
    exact ⟨by rw [Hr.out]; try rfl, hB0.trans (hb1.mono hB0.size)⟩
  subst k1
  have HF := fun W (hW : Below (w.alloc (.cells #[.slice A n c, .slice B m d, .int .i64 life] 39)).heap.size _ W) => specHintsFault B m d h W (hb0.lift hW) hm
  rw [hhf] at HF
  by_cases k2 : hf = 0
  rotate_left
  · have Hr := Lib.hid (stateFault_hints (s := (l, h, life)) hsf hhf k2)
    have b1 : (hf != 0) = true := by simpa using k2
    clear hsf hhf k2 ha hb hn hm hb0
    go_enter Tryz.func22, Tryz.ntmps22
    go_wp2_with fail
    refine SF.mono ?_
    rintro e w1 ⟨rfl, hb1⟩
    have r1 := r0.below hb1 r0.lt
    obtain ⟨e0, e1, e2, _, _, _⟩ := r1.three
    go_wp2_with fail
    refine (HF w1 hb1).mono ?_
    rintro e w2 ⟨rfl, hb2⟩
    go_wp2
    go_ret
    exact ⟨by rw [Hr.out]; try rfl, (hB0.trans (hb1.mono hB0.size)).trans (hb2.mono (hB0.trans (hb1.mono hB0.size)).size)⟩
  subst k2
  rcases h3 : inB (life, 0, 60000)
  all_goals
    have Hr := Lib.hid (stateFault_life (s := (l, h, life)) hsf hhf h3)
    have H3 := Lib.hid h3
    clear hsf hhf h3 ha hb hn hm hb0
    go_enter Tryz.func22, Tryz.ntmps22
    go_wp2_with fail
    refine SF.mono ?_
    rintro e w1 ⟨rfl, hb1⟩
    have r1 := r0.below hb1 r0.lt
    obtain ⟨e0, e1, e2, _, _, _⟩ := r1.three
    go_wp2_with fail
    refine (HF w1 hb1).mono ?_
    rintro e w2 ⟨rfl, hb2⟩
    have r2 := r1.below hb2 r1.lt
    obtain ⟨g0, g1, g2, _, _, _⟩ := r2.three
    go_wp2_with fail
    refine (l1In_any life 0 60000 w2).mono ?_
    rintro e w3 ⟨rfl, rfl⟩
    rw [H3.out]
    go_wp2
    go_ret
    exact ⟨by rw [Hr.out]; rfl, (hB0.trans (hb1.mono hB0.size)).trans (hb2.mono (hB0.trans (hb1.mono hB0.size)).size)⟩
end Go.Proofs.YteiclanlhnccnaaGreatDoor
/-
  A sample put at its place: the model's.
-/
namespace Go.Proofs.YteiclanlhnccnaaGreatDoor
set_option maxRecDepth 20000
open Go.RowKit
set_option linter.unusedSimpArgs false

def frontOf (l : List Smp) (x : Smp) (i : Nat) : Bool := match l[i]? with | some a => aheadM x a | none => false
theorem frontOf_at {l : List Smp} {x a : Smp} {i : Nat} (h : l[i]? = some a) : frontOf l x i = aheadM x a := by
  unfold frontOf
  rw [h]
def spotM (l : List Smp) (x : Smp) : Option Nat := (List.range l.length).find? (frontOf l x)
/-- The store with the sample at its place. -/
def insM (l : List Smp) (x : Smp) : List Smp := match spotM l x with | some p => l.take p ++ x :: l.drop p | none => l ++ [x]
theorem insM_at {l : List Smp} {x : Smp} {p : Nat} (hp : p < l.length) (h : frontOf l x p = true) (hal : ∀ j, j < p → frontOf l x j = false) : insM l x = l.take p ++ x :: l.drop p := by
  have : spotM l x = some p := by
    unfold spotM
    rw [List.find?_range_eq_some]
    exact ⟨h, by simpa using hp, fun j hj => by simp [hal j hj]⟩
  unfold insM
  rw [this]
theorem insM_end {l : List Smp} {x : Smp} {n : Nat} (hn : l.length = n) (hal : ∀ j, j < n → frontOf l x j = false) : insM l x = l ++ [x] := by
  have : spotM l x = none := by
    unfold spotM
    rw [List.find?_range_eq_none]
    exact fun j hj => by simp [hal j (by omega)]
  unfold insM
  rw [this]
theorem insM_len (l : List Smp) (x : Smp) : (insM l x).length = l.length + 1 := by
  unfold insM
  rcases h : spotM l x with _ | p
  · simp
  · simp only [List.length_append, List.length_take, List.length_cons, List.length_drop]
    unfold spotM at h
    rw [List.find?_range_eq_some] at h
    have := h.2.1
    simp at this
    omega

/-- What k rounds have laid. -/
def PartI (l : List Smp) (x : Smp) (k : Nat) (d : Bool) (out : List Smp) : Prop :=
  (d = false ∧ (∀ j, j < k → frontOf l x j = false) ∧ out = l.take k) ∨ (d = true ∧ ∃ p, p < k ∧ frontOf l x p = true ∧ (∀ j, j < p → frontOf l x j = false) ∧ out = l.take p ++ x :: (l.take k).drop p)
theorem take_next {l : List Smp} {k : Nat} {a : Smp} (h : l[k]? = some a) : l.take (k + 1) = l.take k ++ [a] := by
  have hl := getElem?_some_lt h
  rw [List.take_succ_eq_append_getElem hl]
  rw [List.getElem?_eq_getElem hl] at h
  rw [Option.some.inj h]
theorem partI_done {l : List Smp} {x a : Smp} {k : Nat} {out : List Smp} (h : PartI l x k true out) (hk : l[k]? = some a) : PartI l x (k + 1) true (out ++ [a]) := by
  rcases h with ⟨h, _⟩ | ⟨_, p, hp, h1, h2, rfl⟩
  · cases h
  · refine .inr ⟨rfl, p, by omega, h1, h2, ?_⟩
    rw [take_next hk, List.drop_append_of_le_length (by rw [List.length_take]; have := getElem?_some_lt hk; omega)]
    simp
theorem partI_not {l : List Smp} {x a : Smp} {k : Nat} {out : List Smp} (h : PartI l x k false out) (hk : l[k]? = some a) (hf : frontOf l x k = false) : PartI l x (k + 1) false (out ++ [a]) := by
  rcases h with ⟨_, h1, rfl⟩ | ⟨h, _⟩
  · refine .inl ⟨rfl, fun j hj => ?_, (take_next hk).symm⟩
    rcases Nat.lt_or_ge j k with h | h
    · exact h1 j h
    · obtain rfl : j = k := by omega
      exact hf
  · cases h
theorem partI_now {l : List Smp} {x a : Smp} {k : Nat} {out : List Smp} (h : PartI l x k false out) (hk : l[k]? = some a) (hf : frontOf l x k = true) : PartI l x (k + 1) true (out ++ [x] ++ [a]) := by
  rcases h with ⟨_, h1, rfl⟩ | ⟨h, _⟩
  · refine .inr ⟨rfl, k, by omega, hf, h1, ?_⟩
    rw [take_next hk, List.drop_append_of_le_length (by rw [List.length_take]; have := getElem?_some_lt hk; omega), List.drop_of_length_le (by rw [List.length_take]; omega)]
    simp
  · cases h
theorem partI_end {l : List Smp} {x : Smp} {n : Nat} {out : List Smp} (hn : l.length = n) (h : PartI l x n true out) : out = insM l x := by
  rcases h with ⟨h, _⟩ | ⟨_, p, hp, h1, h2, rfl⟩
  · cases h
  · rw [insM_at (by omega) h1 h2, show l.take n = l from List.take_of_length_le (by omega)]
theorem partI_last {l : List Smp} {x : Smp} {n : Nat} {out : List Smp} (hn : l.length = n) (h : PartI l x n false out) : out ++ [x] = insM l x := by
  rcases h with ⟨_, h1, rfl⟩ | ⟨h, _⟩
  · rw [insM_end hn h1, List.take_of_length_le (by omega)]
  · cases h

def InsRel (w : World) (l : List Smp) (x0 x1 x2 x3 : Int) (n : Nat) (o d i : Value) (wr : World) : Prop :=
  ∃ (k : Nat) (b : Bool) (A : Option Addr) (L c : Nat) (out : List Smp), k ≤ n ∧ i = .int .i64 k ∧ d = .bool b ∧ o = .slice A L c ∧ PartI l (x0, x1, x2, x3) k b out ∧ L ≤ 2 * k ∧ Ow eS wr (w.heap.size + 1) A L c out ∧ At wr w.heap.size 25 #[.int .i64 x0, .int .i64 x1, .int .i64 x2, .int .i64 x3] ∧ Below w.heap.size w wr
theorem ow_smp (w : World) (a0 a1 a2 a3 : Int) : Ow eS (w.alloc (.cells #[.int .i64 a0, .int .i64 a1, .int .i64 a2, .int .i64 a3] 25)) w.heap.size (some ⟨w.heap.size, 0, none⟩) 1 1 [(a0, a1, a2, a3)] :=
  Ow.lit w [(a0, a1, a2, a3)] _ 1 (Nat.le_refl _) (by unfold maxLen; omega) rfl rfl

set_option maxHeartbeats 4000000 in
theorem l3Insert (A : Option Addr) (n c : Nat) (l : List Smp) (x0 x1 x2 x3 : Int) (w : World) (ha : Rd eS w w.heap.size A l) (hn : l.length = n) (hm : n ≤ 1048576) :
    Calls Tryz.prog 117 #[.slice A n c, .agg #[.int .i64 x0, .int .i64 x1, .int .i64 x2, .int .i64 x3]] w fun e w' => ∃ A' c', e = .returned (.slice A' (n + 1) c') ∧ Ow eS w' w.heap.size A' (n + 1) c' (insM l (x0, x1, x2, x3)) ∧ Below w.heap.size w w' := by
  have Hn := Lib.hid hn
  clear hn
  have B1 := (Below.refl w.heap.size w).alloc (Nat.le_refl _) (.cells #[.int .i64 x0, .int .i64 x1, .int .i64 x2, .int .i64 x3] 25)
  have b1 := (At.new w 25 #[.int .i64 x0, .int .i64 x1, .int .i64 x2, .int .i64 x3]).alloc (.cells #[] 25)
  have e1 : (w.alloc (.cells #[.int .i64 x0, .int .i64 x1, .int .i64 x2, .int .i64 x3] 25)).heap.size = w.heap.size + 1 := by simp
  have o1 : Ow eS ((w.alloc (.cells #[.int .i64 x0, .int .i64 x1, .int .i64 x2, .int .i64 x3] 25)).alloc (.cells #[] 25)) (w.alloc (.cells #[.int .i64 x0, .int .i64 x1, .int .i64 x2, .int .i64 x3] 25)).heap.size (some ⟨(w.alloc (.cells #[.int .i64 x0, .int .i64 x1, .int .i64 x2, .int .i64 x3] 25)).heap.size, 0, none⟩) 0 0 [] := Ow.lit _ [] #[] 0 (Nat.le_refl _) (by unfold maxLen; omega) rfl rfl
  have B2 := B1.alloc B1.size (.cells #[] 25)
  rw [e1] at o1
  go_enter Tryz.func117, Tryz.ntmps117
  go_wp2
  go_loopw [5, 6, 7] (fun o d i wr => InsRel w l x0 x1 x2 x3 n o d i wr) (fun _ _ i _ => n - (intOf i).toNat)
  case atStart => exact ⟨0, false, _, 0, 0, [], Nat.zero_le _, rfl, rfl, rfl, .inl ⟨rfl, fun _ h => absurd h (by omega), by simp⟩, by omega, o1, b1, B2⟩
  case round =>
    obtain ⟨k, b, A1, L1, c1, out, hk, rfl, rfl, rfl, hp, hL, ow1, bx, hbel⟩ := hrel
    have HP := Lib.hid hp
    clear hp
    have lbx := bx.lt
    obtain ⟨q0, q1, q2, q3, _, _, _, _⟩ := bx.four
    by_cases hlt : k < n
    · obtain ⟨g, o, a0, a1, a2, a3, rfl, hg, hx, ca⟩ := (ha.below hbel (Nat.le_refl _)).smp (k := k) (by rw [Hn.out]; exact hlt)
      have Hx := Lib.hid hx
      have Hf := Lib.hid (frontOf_at (x := (x0, x1, x2, x3)) hx)
      clear hx
      cases b
      · have hbd := hbel.drew
        have bs : S4 wr w.heap.size 0 x0 x1 x2 x3 := ⟨bx.cell 0, bx.cell 1, bx.cell 2, bx.cell 3⟩
        go_wp2
        refine wp_region_mix [(0, false), (1, false), (2, false), (3, false), (4, false), (5, false), (6, false), (7, false), (8, true), (9, false)] (fun u => S4 u w.heap.size 0 x0 x1 x2 x3 ∧ S4 u g (o + k * 4) a0 a1 a2 a3) (by kernel_rfl) (by kernel_rfl) (fun _ _ _ _ _ h => h) ⟨bs.drew, ca.drew⟩ ?_
        simp only [mixOps, List.map_cons, List.map_nil, List.getElem?_cons_succ, List.getElem?_cons_zero, Option.getD_some]
        repeat (first
          | (refine mix_skip (by rfl) ?_
             (try simp only [Act.put, List.setIfInBounds_toArray, List.set_cons_zero, List.set_cons_succ]))
          | (refine mix_pure (v := ?_) (by rfl) (fun u hu => ?_) ?_
             rotate_left
             · obtain ⟨⟨_, _, _, _⟩, _, _, _, _⟩ := hu
               go_simp
               (with_reducible rfl)
             (try simp only [Act.put, List.setIfInBounds_toArray, List.set_cons_zero, List.set_cons_succ])))
        refine mix_call (by rfl) (fun K hK => ?_)
        go_simp
        refine (specIsAhead x0 x1 x2 x3 a0 a1 a2 a3 _).mono ?_
        rintro e w2 ⟨rfl, hb2⟩
        have hB2 := hbd.trans (hb2.mono hbd.size)
        have bx2 := bx.drew.below hb2 lbx
        have ow2 := (ow1.drewN 1).below hb2 (Nat.le_refl _)
        have ca2 := ca.drew.below hb2 (Nat.lt_of_lt_of_le hg hbd.size)
        refine hK _ _ _ (fun _ h => h) ⟨bs.drew.below hb2 lbx, ca2⟩ ?_
        (try simp only [Act.put, List.setIfInBounds_toArray, List.set_cons_zero, List.set_cons_succ])
        rw [← Hf.out]
        clear q0 q1 q2 q3
        obtain ⟨q0, q1, q2, q3, _, _, _, _⟩ := bx2.four
        have hlo := ow1.len okS
        rcases hs : frontOf l (x0, x1, x2, x3) k
        · have Hs := Lib.hid hs
          clear hs
          refine mix_pure (v := ?_) (by rfl) (fun u hu => ?_) ?_
          rotate_left
          · go_simp
            (with_reducible rfl)
          (try simp only [Act.put, List.setIfInBounds_toArray, List.set_cons_zero, List.set_cons_succ])
          refine mix_nil ?_
          obtain ⟨_, _, _, _⟩ := ca2
          go_wp2_with (at_builtin; refine wpList_append_ow okS _ rfl (.tmp 29) (.tmp 34) _ rfl (w.heap.size + 1) info_smp Tryz.underlying36 rfl A1 L1 c1 out rfl (ow2.alloc _) _ 1 1 _ [(a0, a1, a2, a3)] rfl ((ow_smp _ a0 a1 a2 a3).rd okS) rfl (by unfold maxLen; omega) (by omega) (by have := hB2.size; simp; omega) ?_; intro A5 c5 w5 ow5 hg5 _; have hB5 := (hB2.alloc hB2.size _).grown hg5 (hB2.alloc hB2.size _).size (fun g hg => by have := (ow2.lt g hg).1; omega); have bx5 := (bx2.alloc _).grown hg5 (fun e => by have := (ow2.lt _ e).1; omega))
          exact ⟨⟨k + 1, false, A5, L1 + 1, c5, out ++ [(a0, a1, a2, a3)], by omega, by go_num, rfl, rfl, partI_not HP.out Hx.out Hs.out, by omega, ow5, bx5, hB5⟩, by simp [intOf]; omega⟩
        · have Hs := Lib.hid hs
          clear hs
          refine mix_pure (v := ?_) (by rfl) (fun u hu => ?_) ?_
          rotate_left
          · go_simp
            (with_reducible rfl)
          (try simp only [Act.put, List.setIfInBounds_toArray, List.set_cons_zero, List.set_cons_succ])
          refine mix_nil ?_
          go_wp2_with (first
            | (at_builtin; refine wpList_append_ow okS _ rfl (.tmp 25) (.tmp 27) _ rfl (w.heap.size + 1) info_smp Tryz.underlying36 rfl A1 L1 c1 out rfl (ow2.alloc _) _ 1 1 _ [(x0, x1, x2, x3)] rfl ((ow_smp _ x0 x1 x2 x3).rd okS) rfl (by unfold maxLen; omega) (by omega) (by have := hB2.size; simp; omega) ?_; intro A5 c5 w5 ow5 hg5 _; have hB5 := (hB2.alloc hB2.size _).grown hg5 (hB2.alloc hB2.size _).size (fun g hg => by have := (ow2.lt g hg).1; omega); have bx5 := (bx2.alloc _).grown hg5 (fun e => by have := (ow2.lt _ e).1; omega); obtain ⟨_, _, _, _⟩ := (ha.below hB5 (Nat.le_refl _)).smp_is Hx.out)
            | (at_builtin; refine wpList_append_ow okS _ rfl (.tmp 29) (.tmp 34) _ rfl (w.heap.size + 1) info_smp Tryz.underlying36 rfl A5 (L1 + 1) c5 (out ++ [(x0, x1, x2, x3)]) rfl (ow5.alloc _) _ 1 1 _ [(a0, a1, a2, a3)] rfl ((ow_smp _ a0 a1 a2 a3).rd okS) rfl (by unfold maxLen; omega) (by omega) (by have := hB5.size; simp; omega) ?_; intro A6 c6 w6 ow6 hg6 _; have hB6 := (hB5.alloc hB5.size _).grown hg6 (hB5.alloc hB5.size _).size (fun g hg => by have := (ow5.lt g hg).1; omega); have bx6 := (bx5.alloc _).grown hg6 (fun e => by have := (ow5.lt _ e).1; omega)))
          exact ⟨⟨k + 1, true, A6, L1 + 1 + 1, c6, out ++ [(x0, x1, x2, x3)] ++ [(a0, a1, a2, a3)], by omega, by go_num, rfl, rfl, partI_now HP.out Hx.out Hs.out, by omega, ow6, bx6, hB6⟩, by simp [intOf]; omega⟩
      · obtain ⟨_, _, _, _⟩ := ca
        have hlo := ow1.len okS
        go_wp2
        go_quiet (fail)
        go_wp2_with (at_builtin; refine wpList_append_ow okS _ rfl (.tmp 29) (.tmp 34) _ rfl (w.heap.size + 1) info_smp Tryz.underlying36 rfl A1 L1 c1 out rfl ((ow1.drewN _).alloc _) _ 1 1 _ [(a0, a1, a2, a3)] rfl ((ow_smp _ a0 a1 a2 a3).rd okS) rfl (by unfold maxLen; omega) (by omega) (by have := hbel.size; simp; omega) ?_; intro A5 c5 w5 ow5 hg5 _; have hB5 := ((bdrewN hbel _).alloc (bdrewN hbel _).size _).grown hg5 ((bdrewN hbel _).alloc (bdrewN hbel _).size _).size (fun g hg => by have := (ow1.lt g hg).1; omega); have bx5 := ((bx.drewN _).alloc _).grown hg5 (fun e => by have := (ow1.lt _ e).1; omega))
        exact ⟨⟨k + 1, true, A5, L1 + 1, c5, out ++ [(a0, a1, a2, a3)], by omega, by go_num, rfl, rfl, partI_done HP.out Hx.out, by omega, ow5, bx5, hB5⟩, by simp [intOf]; omega⟩
    · obtain rfl : n = k := by omega
      have hlo := ow1.len okS
      cases b
      · go_wp2_with (at_builtin; refine wpList_append_ow okS _ rfl (.tmp 38) (.tmp 40) _ rfl (w.heap.size + 1) info_smp Tryz.underlying36 rfl A1 L1 c1 out rfl (ow1.alloc _) _ 1 1 _ [(x0, x1, x2, x3)] rfl ((ow_smp _ x0 x1 x2 x3).rd okS) rfl (by unfold maxLen; omega) (by omega) (by have := hbel.size; simp; omega) ?_; intro A5 c5 w5 ow5 hg5 _; have hB5 := (hbel.alloc hbel.size _).grown hg5 (hbel.alloc hbel.size _).size (fun g hg => by have := (ow1.lt g hg).1; omega); have bx5 := (bx.alloc _).grown hg5 (fun e => by have := (ow1.lt _ e).1; omega))
        have hq := partI_last Hn.out HP.out
        rw [hq] at ow5
        have hL1 : L1 + 1 = n + 1 := by rw [← ow5.len okS, insM_len, Hn.out]
        go_ret
        rw [hL1] at ow5
        exact ⟨_, _, by simp; omega, ow5.from_ (by omega), hB5⟩
      · have hq := partI_end Hn.out HP.out
        have hL1 : L1 = n + 1 := by rw [← hlo, hq, insM_len, Hn.out]
        subst hL1
        subst hq
        go_wp2
        go_ret
        exact ⟨_, _, rfl, ow1.from_ (by omega), hbel⟩
end Go.Proofs.YteiclanlhnccnaaGreatDoor
/-
  Rows of samples marked and held, as the law does it.
-/
namespace Go.Proofs.YteiclanlhnccnaaGreatDoor
set_option maxRecDepth 20000
open Go.RowKit
set_option linter.unusedSimpArgs false

def markS (k i : Nat) : Smp := ((k : Int) + 4 * i, (k : Int) + 4 * i + 1, (k : Int) + 4 * i + 2, (k : Int) + 4 * i + 3)
/-- What a mark lays: four numbers a sample. -/
def marksS (k n : Nat) : List Smp := (List.range n).map (markS k)
theorem marksS_len (k n : Nat) : (marksS k n).length = n := by simp [marksS]
theorem marksS_at {k n i : Nat} (h : i < n) : (marksS k n)[i]? = some (markS k i) := by simp [marksS, h]

set_option maxHeartbeats 2000000 in
theorem markSampleS (A : Option Addr) (n c base : Nat) (l : List Smp) (k : Nat) (w : World) (ha : Ow eS w base A n c l) (hm : n ≤ 4294967296) (hk : k ≤ 4294967296) :
    Calls Tryz.prog 91 #[.slice A n c, .int .i64 k] w fun e w' => e = .returned (.int .i64 ((k : Int) + 4 * n)) ∧ Ow eS w' base A n c (marksS k n) ∧ w.grownBy w' (A.map (·.block)) := by
  have Hn := Lib.hid (ha.len okS)
  go_enter Tryz.func91, Tryz.ntmps91
  go_wp2
  go_loopw [1, 5] (fun vk i wr => MarkRel eS (markS k) 4 w base A n c l k vk i wr) (fun _ i _ => n - (intOf i).toNat)
  case atStart => exact markRel_start _ _ _ ha
  case round =>
    obtain ⟨j, hj, rfl, rfl, hown, hgr⟩ := hrel
    rw [show (k : Int) + ((4 : Nat) : Int) * (j : Int) = (k : Int) + 4 * (j : Int) by omega]
    by_cases hlt : j < n
    · obtain ⟨g, rfl, hg, _⟩ := hown.form (by omega)
      obtain ⟨⟨a0, a1, a2, a3⟩, hz⟩ := markRel_at (markS k) l n j hlt Hn.out
      obtain ⟨d0, d1, d2, d3⟩ := hown.smpAt hz
      have f0 := hown.frozenAt (j * 4)
      have f1 := hown.frozenAt (j * 4 + 1)
      have f2 := hown.frozenAt (j * 4 + 2)
      have f3 := hown.frozenAt (j * 4 + 3)
      have hs := hown.smpSet (k := j) (getElem?_some_lt hz) ((k : Int) + 4 * j) ((k : Int) + 4 * j + 1) ((k : Int) + 4 * j + 2) ((k : Int) + 4 * j + 3)
      have Hset := Lib.hid (laid_set (markS k) l n j hlt Hn.out)
      have Hgr := Lib.hid (grown_trans hgr hs.2)
      have Hst := Lib.hid hs.1
      clear hgr hs hz
      go_wp2
      exact ⟨⟨j + 1, by omega, by go_num, congrArg _ (by omega), by rw [← Hset.out]; exact Hst.out, Hgr.out⟩, by simp [intOf]; omega⟩
    · have hall := markRel_end hown (by omega) Hn.out
      obtain rfl : n = j := by omega
      clear hown
      go_wp2
      go_ret
      exact ⟨rfl, hall, hgr⟩
theorem markSampleS1 (A : Option Addr) (n c base : Nat) (l : List Smp) (w : World) (ha : Ow eS w base A n c l) (hm : n ≤ 4294967296) :
    Calls Tryz.prog 91 #[.slice A n c, .int .i64 1] w fun e w' => e = .returned (.int .i64 (1 + 4 * (n : Int))) ∧ Ow eS w' base A n c (marksS 1 n) ∧ w.grownBy w' (A.map (·.block)) :=
  markSampleS A n c base l 1 w ha hm (by omega)

theorem markSampleSK (A : Option Addr) (n c base : Nat) (l : List Smp) (k : Nat) (z : Int) (w : World) (hz : z = (k : Int)) (ha : Ow eS w base A n c l) (hm : n ≤ 4294967296) (hk : k ≤ 4294967296) :
    Calls Tryz.prog 91 #[.slice A n c, .int .i64 z] w fun e w' => e = .returned (.int .i64 (z + 4 * (n : Int))) ∧ Ow eS w' base A n c (marksS k n) ∧ w.grownBy w' (A.map (·.block)) := by
  subst hz
  exact markSampleS A n c base l k w ha hm hk

set_option maxHeartbeats 2000000 in
theorem heldSampleS (A : Option Addr) (n c : Nat) (k : Nat) (w : World) (ha : Rd eS w w.heap.size A (marksS k n)) (hm : n ≤ 4294967296) (hk : k ≤ 4294967296) :
    Calls Tryz.prog 143 #[.slice A n c, .int .i64 k] w fun e w' => e = .returned (.int .i64 ((k : Int) + 4 * n)) ∧ Below w.heap.size w w' := by
  go_enter Tryz.func143, Tryz.ntmps143
  go_wp2
  go_loopw [1, 5] (fun vk i wr => HeldRel w n 4 k vk i wr) (fun _ i _ => n - (intOf i).toNat)
  case atStart => exact heldRel_start _ _ _ _
  case round =>
    obtain ⟨j, hj, rfl, rfl, hbel⟩ := hrel
    rw [show (k : Int) + ((4 : Nat) : Int) * (j : Int) = (k : Int) + 4 * (j : Int) by omega]
    by_cases hlt : j < n
    · obtain ⟨g, o, a0, a1, a2, a3, rfl, hg, hx, c0, c1, c2, c3⟩ := (ha.below hbel (Nat.le_refl _)).smp (k := j) (by rw [marksS_len]; exact hlt)
      rw [marksS_at hlt] at hx
      simp only [markS, Option.some.injEq, Prod.mk.injEq] at hx
      obtain ⟨rfl, rfl, rfl, rfl⟩ := hx
      go_wp2
      exact ⟨⟨j + 1, by omega, by go_num, congrArg _ (by omega), hbel⟩, by simp [intOf]; omega⟩
    · obtain rfl : n = j := by omega
      go_wp2
      go_ret
      exact ⟨rfl, hbel⟩
theorem heldSampleS1 (A : Option Addr) (n c : Nat) (w : World) (ha : Rd eS w w.heap.size A (marksS 1 n)) (hm : n ≤ 4294967296) :
    Calls Tryz.prog 143 #[.slice A n c, .int .i64 1] w fun e w' => e = .returned (.int .i64 (1 + 4 * (n : Int))) ∧ Below w.heap.size w w' :=
  heldSampleS A n c 1 w ha hm (by omega)
end Go.Proofs.YteiclanlhnccnaaGreatDoor
/-
  Answers that hold samples: compared, marked and held as the law does it.
-/
namespace Go.Proofs.YteiclanlhnccnaaGreatDoor
set_option maxRecDepth 20000
open Go.RowKit
set_option linter.unusedSimpArgs false

/-- A code and samples of the call's own. -/
def RetSs (r : Int × List Smp) (w : World) (e : Ending) (w' : World) : Prop :=
  ∃ A n c, e = .returned (.agg #[.int .i64 r.1, .slice A n c]) ∧ Ow eS w' w.heap.size A n c r.2 ∧ Below w.heap.size w w'
/-- A code, whether it is new, and samples of the call's own. -/
def RetSt (r : Int × Bool × List Smp) (w : World) (e : Ending) (w' : World) : Prop :=
  ∃ A n c, e = .returned (.agg #[.int .i64 r.1, .bool r.2.1, .slice A n c]) ∧ Ow eS w' w.heap.size A n c r.2.2 ∧ Below w.heap.size w w'

end Go.Proofs.YteiclanlhnccnaaGreatDoor
/-
  A sample put into a store, and one looked for: the model's.
-/
namespace Go.Proofs.YteiclanlhnccnaaGreatDoor
set_option maxRecDepth 20000
open Go.RowKit
set_option linter.unusedSimpArgs false

theorem findI_or (l : List Smp) (x : Smp) : findI l x = -1 ∨ ∃ k : Nat, findI l x = (k : Int) ∧ k < l.length := by
  unfold findI
  rcases h : findM l x with _ | i
  · exact .inl rfl
  · refine .inr ⟨i, rfl, ?_⟩
    unfold findM at h
    rw [List.find?_range_eq_some] at h
    simpa using h.2.1
theorem storeFault_zero {l : List Smp} (h : storeFaultM l = 0) : l.length ≤ 160 := by
  unfold storeFaultM at h
  by_cases hb : 160 < l.length
  · rw [if_pos hb] at h
    cases h
  · omega
/-- What InsertSample answers. -/
def insertM (l : List Smp) (x : Smp) : Int × Bool × List Smp :=
  if storeFaultM l ≠ 0 then (storeFaultM l, false, []) else if faultM x ≠ 0 then (faultM x, false, []) else if 0 ≤ findI l x then (0, false, l) else if 160 ≤ l.length then (7, false, []) else (0, true, insM l x)
/-- What FindSample answers. -/
def lookM (l : List Smp) (x : Smp) : Int × Smp :=
  if storeFaultM l ≠ 0 then (storeFaultM l, (0, 0, 0, 0)) else match findM l x with | some i => (0, (l[i]?).getD (0, 0, 0, 0)) | none => (4, (0, 0, 0, 0))

set_option maxRecDepth 100000 in
set_option maxHeartbeats 2000000 in
theorem specInsertSample (A : Option Addr) (n c : Nat) (l : List Smp) (x0 x1 x2 x3 : Int) (w : World) (ha : Rd eS w w.heap.size A l) (hn : l.length = n) (hm : n ≤ 1048576) :
    Calls Tryz.prog 122 #[.slice A n c, .agg #[.int .i64 x0, .int .i64 x1, .int .i64 x2, .int .i64 x3]] w fun e w' => RetSt (insertM l (x0, x1, x2, x3)) w e w' := by
  have hB0 : Below w.heap.size w ((w.alloc (.cells #[.int .i64 x0, .int .i64 x1, .int .i64 x2, .int .i64 x3] 25)).alloc (.cells #[.int .i64 0, .bool false, .slice none 0 0] 155)) := ((Below.refl _ _).alloc (Nat.le_refl _) _).alloc (by simp) _
  have bx0 := (At.new w 25 #[.int .i64 x0, .int .i64 x1, .int .i64 x2, .int .i64 x3]).alloc (.cells #[.int .i64 0, .bool false, .slice none 0 0] 155)
  have e1 : (w.alloc (.cells #[.int .i64 x0, .int .i64 x1, .int .i64 x2, .int .i64 x3] 25)).heap.size = w.heap.size + 1 := by simp
  have r0 := At.new (w.alloc (.cells #[.int .i64 x0, .int .i64 x1, .int .i64 x2, .int .i64 x3] 25)) 155 #[.int .i64 0, .bool false, .slice none 0 0]
  rw [e1] at r0
  have ha0 := ha.lift hB0
  have HF := specStoreFault A n c l _ ha0 hn
  by_cases h0 : storeFaultM l = 0
  rotate_left
  · rw [show insertM l (x0, x1, x2, x3) = (storeFaultM l, false, []) from if_pos h0]
    have hne : (storeFaultM l != 0) = true := by rw [bne_iff_ne]; exact h0
    generalize storeFaultM l = sf at *
    clear h0
    go_enter Tryz.func122, Tryz.ntmps122
    go_wp2_with fail
    refine (HF).mono ?_
    rintro e w1 ⟨rfl, hb1⟩
    have hB1 := hB0.trans (hb1.mono hB0.size)
    have bx1 := bx0.below hb1 bx0.lt
    have r1 := r0.below hb1 r0.lt
    have ha1 := ha0.lift hb1
    obtain ⟨b1_0, b1_1, b1_2, b1_3, _, _, _, _⟩ := bx1.four
    obtain ⟨c0, c1, c2, _, _, _⟩ := r1.three
    go_wp2_with fail
    refine bodyPost_ret (v := .agg #[.int .i64 sf, .bool false, .slice none 0 0]) (by simp [results, Tryz.results122, go_sem, c0, c1, c2]) rfl ?_
    exact ⟨_, _, _, rfl, Ow.nil, (((hB1.setCell (by simp) _).setCell (by simp) _).setCell (by simp) _)⟩
  have h160 := storeFault_zero h0
  rw [h0] at HF
  rcases faultM_or (x0, x1, x2, x3) with hf | hf
  rotate_left
  · rw [show insertM l (x0, x1, x2, x3) = (3, false, []) by unfold insertM; rw [if_neg (by simp [h0]), if_pos (by simp [hf]), hf]]
    have XF := specSampleFault x0 x1 x2 x3
    rw [hf] at XF
    clear hf h0
    go_enter Tryz.func122, Tryz.ntmps122
    go_wp2_with fail
    refine (HF).mono ?_
    rintro e w1 ⟨rfl, hb1⟩
    have hB1 := hB0.trans (hb1.mono hB0.size)
    have bx1 := bx0.below hb1 bx0.lt
    have r1 := r0.below hb1 r0.lt
    have ha1 := ha0.lift hb1
    obtain ⟨b1_0, b1_1, b1_2, b1_3, _, _, _, _⟩ := bx1.four
    go_wp2_with fail
    refine (XF _).mono ?_
    rintro e w2 ⟨rfl, hb2⟩
    have hB2 := hB1.trans (hb2.mono hB1.size)
    have bx2 := bx1.below hb2 bx1.lt
    have r2 := r1.below hb2 r1.lt
    have ha2 := ha1.lift hb2
    obtain ⟨b2_0, b2_1, b2_2, b2_3, _, _, _, _⟩ := bx2.four
    obtain ⟨c0, c1, c2, _, _, _⟩ := r2.three
    go_wp2_with fail
    refine bodyPost_ret (v := .agg #[.int .i64 3, .bool false, .slice none 0 0]) (by simp [results, Tryz.results122, go_sem, c0, c1, c2]) rfl ?_
    exact ⟨_, _, _, rfl, Ow.nil, (((hB2.setCell (by simp) _).setCell (by simp) _).setCell (by simp) _)⟩
  have XF := specSampleFault x0 x1 x2 x3
  rw [hf] at XF
  have HL := fun W (h1 : Rd eS W W.heap.size A l) h2 h3 => l3Find A n c l w.heap.size 0 x0 x1 x2 x3 W h1 hn (by unfold maxLen; omega) h2 h3
  rcases findI_or l (x0, x1, x2, x3) with hi | ⟨k, hi, hk⟩
  · rw [hi] at HL
    by_cases hfull : 160 ≤ n
    · rw [show insertM l (x0, x1, x2, x3) = (7, false, []) by unfold insertM; rw [if_neg (by simp [h0]), if_neg (by simp [hf]), if_neg (by rw [hi]; omega), if_pos (by omega)]]
      have hfi : (160 : Int) ≤ (n : Int) := by omega
      clear hf h0 hi
      go_enter Tryz.func122, Tryz.ntmps122
      go_wp2_with fail
      refine (HF).mono ?_
      rintro e w1 ⟨rfl, hb1⟩
      have hB1 := hB0.trans (hb1.mono hB0.size)
      have bx1 := bx0.below hb1 bx0.lt
      have r1 := r0.below hb1 r0.lt
      have ha1 := ha0.lift hb1
      obtain ⟨b1_0, b1_1, b1_2, b1_3, _, _, _, _⟩ := bx1.four
      go_wp2_with fail
      refine (XF _).mono ?_
      rintro e w2 ⟨rfl, hb2⟩
      have hB2 := hB1.trans (hb2.mono hB1.size)
      have bx2 := bx1.below hb2 bx1.lt
      have r2 := r1.below hb2 r1.lt
      have ha2 := ha1.lift hb2
      obtain ⟨b2_0, b2_1, b2_2, b2_3, _, _, _, _⟩ := bx2.four
      go_wp2_with fail
      refine (HL _ ha2 ⟨bx2.cell 0, bx2.cell 1, bx2.cell 2, bx2.cell 3⟩ bx2.lt).mono ?_
      rintro e w3 ⟨rfl, hb3⟩
      have hB3 := hB2.trans (hb3.mono hB2.size)
      have bx3 := bx2.below hb3 bx2.lt
      have r3 := r2.below hb3 r2.lt
      have ha3 := ha2.lift hb3
      obtain ⟨b3_0, b3_1, b3_2, b3_3, _, _, _, _⟩ := bx3.four
      obtain ⟨c0, c1, c2, _, _, _⟩ := r3.three
      go_wp2_with fail
      refine bodyPost_ret (v := .agg #[.int .i64 7, .bool false, .slice none 0 0]) (by simp [results, Tryz.results122, go_sem, c0, c1, c2]) rfl ?_
      exact ⟨_, _, _, rfl, Ow.nil, (((hB3.setCell (by simp) _).setCell (by simp) _).setCell (by simp) _)⟩
    · rw [show insertM l (x0, x1, x2, x3) = (0, true, insM l (x0, x1, x2, x3)) by unfold insertM; rw [if_neg (by simp [h0]), if_neg (by simp [hf]), if_neg (by rw [hi]; omega), if_neg (by omega)]]
      have hfi : ¬ (160 : Int) ≤ (n : Int) := by omega
      clear hf h0 hi
      go_enter Tryz.func122, Tryz.ntmps122
      go_wp2_with fail
      refine (HF).mono ?_
      rintro e w1 ⟨rfl, hb1⟩
      have hB1 := hB0.trans (hb1.mono hB0.size)
      have bx1 := bx0.below hb1 bx0.lt
      have r1 := r0.below hb1 r0.lt
      have ha1 := ha0.lift hb1
      obtain ⟨b1_0, b1_1, b1_2, b1_3, _, _, _, _⟩ := bx1.four
      go_wp2_with fail
      refine (XF _).mono ?_
      rintro e w2 ⟨rfl, hb2⟩
      have hB2 := hB1.trans (hb2.mono hB1.size)
      have bx2 := bx1.below hb2 bx1.lt
      have r2 := r1.below hb2 r1.lt
      have ha2 := ha1.lift hb2
      obtain ⟨b2_0, b2_1, b2_2, b2_3, _, _, _, _⟩ := bx2.four
      go_wp2_with fail
      refine (HL _ ha2 ⟨bx2.cell 0, bx2.cell 1, bx2.cell 2, bx2.cell 3⟩ bx2.lt).mono ?_
      rintro e w3 ⟨rfl, hb3⟩
      have hB3 := hB2.trans (hb3.mono hB2.size)
      have bx3 := bx2.below hb3 bx2.lt
      have r3 := r2.below hb3 r2.lt
      have ha3 := ha2.lift hb3
      obtain ⟨b3_0, b3_1, b3_2, b3_3, _, _, _, _⟩ := bx3.four
      go_wp2_with fail
      refine (l3Insert A n c l x0 x1 x2 x3 _ ha3 hn hm).mono ?_
      rintro e w4 ⟨A4, c4, rfl, ow4, hb4⟩
      have hB4 := hB3.trans (hb4.mono hB3.size)
      have bx4 := bx3.below hb4 bx3.lt
      have r4 := r3.below hb4 r3.lt
      have ha4 := ha3.lift hb4
      obtain ⟨b4_0, b4_1, b4_2, b4_3, _, _, _, _⟩ := bx4.four
      obtain ⟨c0, c1, c2, _, _, _⟩ := r4.three
      go_wp2_with fail
      refine bodyPost_ret (v := .agg #[.int .i64 0, .bool true, .slice A4 (n + 1) c4]) (by simp [results, Tryz.results122, go_sem, c0, c1, c2]) rfl ?_
      exact ⟨_, _, _, rfl, ((((ow4.under (p := ⟨w.heap.size + 1, 0, none⟩) r3.lt _).under (p := ⟨w.heap.size + 1, 1, none⟩) r3.lt _).under (p := ⟨w.heap.size + 1, 2, none⟩) r3.lt _).from_ hB3.size), (((hB4.setCell (by simp) _).setCell (by simp) _).setCell (by simp) _)⟩
  · rw [hi] at HL
    rw [show insertM l (x0, x1, x2, x3) = (0, false, l) by unfold insertM; rw [if_neg (by simp [h0]), if_neg (by simp [hf]), if_pos (by rw [hi]; omega)]]
    have hk0 : (0 : Int) ≤ (k : Int) := by omega
    clear hf h0 hi
    go_enter Tryz.func122, Tryz.ntmps122
    go_wp2_with fail
    refine (HF).mono ?_
    rintro e w1 ⟨rfl, hb1⟩
    have hB1 := hB0.trans (hb1.mono hB0.size)
    have bx1 := bx0.below hb1 bx0.lt
    have r1 := r0.below hb1 r0.lt
    have ha1 := ha0.lift hb1
    obtain ⟨b1_0, b1_1, b1_2, b1_3, _, _, _, _⟩ := bx1.four
    go_wp2_with fail
    refine (XF _).mono ?_
    rintro e w2 ⟨rfl, hb2⟩
    have hB2 := hB1.trans (hb2.mono hB1.size)
    have bx2 := bx1.below hb2 bx1.lt
    have r2 := r1.below hb2 r1.lt
    have ha2 := ha1.lift hb2
    obtain ⟨b2_0, b2_1, b2_2, b2_3, _, _, _, _⟩ := bx2.four
    go_wp2_with fail
    refine (HL _ ha2 ⟨bx2.cell 0, bx2.cell 1, bx2.cell 2, bx2.cell 3⟩ bx2.lt).mono ?_
    rintro e w3 ⟨rfl, hb3⟩
    have hB3 := hB2.trans (hb3.mono hB2.size)
    have bx3 := bx2.below hb3 bx2.lt
    have r3 := r2.below hb3 r2.lt
    have ha3 := ha2.lift hb3
    obtain ⟨b3_0, b3_1, b3_2, b3_3, _, _, _, _⟩ := bx3.four
    go_wp2_with fail
    refine (l3Copy A n c l _ ha3 hn hm).mono ?_
    rintro e w4 ⟨A4, c4, rfl, ow4, hb4⟩
    have hB4 := hB3.trans (hb4.mono hB3.size)
    have bx4 := bx3.below hb4 bx3.lt
    have r4 := r3.below hb4 r3.lt
    have ha4 := ha3.lift hb4
    obtain ⟨b4_0, b4_1, b4_2, b4_3, _, _, _, _⟩ := bx4.four
    obtain ⟨c0, c1, c2, _, _, _⟩ := r4.three
    go_wp2_with fail
    refine bodyPost_ret (v := .agg #[.int .i64 0, .bool false, .slice A4 n c4]) (by simp [results, Tryz.results122, go_sem, c0, c1, c2]) rfl ?_
    exact ⟨_, _, _, rfl, ((((ow4.under (p := ⟨w.heap.size + 1, 0, none⟩) r3.lt _).under (p := ⟨w.heap.size + 1, 1, none⟩) r3.lt _).under (p := ⟨w.heap.size + 1, 2, none⟩) r3.lt _).from_ hB3.size), (((hB4.setCell (by simp) _).setCell (by simp) _).setCell (by simp) _)⟩

theorem findI_find {l : List Smp} {x : Smp} {k : Nat} (h : findI l x = (k : Int)) : findM l x = some k := by
  unfold findI at h
  rcases hf : findM l x with _ | i
  · rw [hf] at h
    simp only at h
    omega
  · rw [hf] at h
    simp only at h
    rw [show i = k by omega]
theorem findI_miss {l : List Smp} {x : Smp} (h : findI l x = -1) : findM l x = none := by
  unfold findI at h
  rcases hf : findM l x with _ | i
  · rfl
  · rw [hf] at h
    simp only at h
    omega

end Go.Proofs.YteiclanlhnccnaaGreatDoor
/-
  What is asked for of a store, and two merged: the model's.
-/
namespace Go.Proofs.YteiclanlhnccnaaGreatDoor
set_option maxRecDepth 20000
open Go.RowKit
set_option linter.unusedSimpArgs false

def wantM (s f t : Int) (x : Smp) : Bool := decide (x.1 = s) && inB (x.2.1, f, t)
def queryM (l : List Smp) (s f t : Int) : List Smp := l.filter (wantM s f t)
theorem query_next {l : List Smp} {k : Nat} {a : Smp} (s f t : Int) (h : l[k]? = some a) : queryM (l.take (k + 1)) s f t = queryM (l.take k) s f t ++ (if wantM s f t a then [a] else []) := by
  unfold queryM
  rw [take_next h, List.filter_append]
  congr 1
  simp [List.filter_cons]
/-- What QueryStore answers. -/
def queryStoreM (l : List Smp) (s f t : Int) : Int × List Smp := if storeFaultM l ≠ 0 then (storeFaultM l, []) else if inB (s, 0, 9) = false then (3, []) else (0, queryM l s f t)

def QueryRel (w : World) (l : List Smp) (s f t : Int) (n : Nat) (o i : Value) (wr : World) : Prop :=
  ∃ (k : Nat) (A : Option Addr) (L c : Nat), k ≤ n ∧ i = .int .i64 k ∧ o = .slice A L c ∧ L ≤ k ∧ Ow eS wr w.heap.size A L c (queryM (l.take k) s f t) ∧ Below w.heap.size w wr

def mergeStep (a : List Smp) (out : List Smp) (x : Smp) : List Smp := if findI a x < 0 then insM out x else out
def mergeM (a b : List Smp) : List Smp := b.foldl (mergeStep a) a
theorem merge_next {b : List Smp} {k : Nat} {x : Smp} (a : List Smp) (h : b[k]? = some x) : (b.take (k + 1)).foldl (mergeStep a) a = mergeStep a ((b.take k).foldl (mergeStep a) a) x := by
  rw [take_next h, List.foldl_append]
  rfl
/-- What MergeLists answers. -/
def mergeListsM (a b : List Smp) : Int × List Smp := if storeFaultM a ≠ 0 then (storeFaultM a, []) else if storeFaultM b ≠ 0 then (storeFaultM b, []) else if 160 < (mergeM a b).length then (7, []) else (0, mergeM a b)
def MergeRel (w : World) (a b : List Smp) (n m : Nat) (o i : Value) (wr : World) : Prop :=
  ∃ (k : Nat) (A : Option Addr) (L c : Nat), k ≤ m ∧ i = .int .i64 k ∧ o = .slice A L c ∧ L ≤ n + k ∧ Ow eS wr w.heap.size A L c ((b.take k).foldl (mergeStep a) a) ∧ Below w.heap.size w wr

theorem queryStore_le (l : List Smp) (s f t : Int) : (queryStoreM l s f t).2.length ≤ l.length := by
  unfold queryStoreM queryM
  repeat (first | split | exact Nat.zero_le _ | exact List.length_filter_le _ _)
theorem mergeLists_le (a b : List Smp) : (mergeListsM a b).2.length ≤ 160 := by
  unfold mergeListsM
  repeat (first | split | exact Nat.zero_le _ | (simp only; omega))
end Go.Proofs.YteiclanlhnccnaaGreatDoor
