/-
  The program's HomesOf and IsHome.
-/
import Derived.Test.YtbfjfjocangjeaaRgP2
import Derived.Test.YtbfjfjocangjeaaRgH
namespace Go.Proofs.Ytbfjfjocangjeaa
set_option maxRecDepth 20000
open Go.RowKit
set_option linter.unusedSimpArgs false
set_option linter.unusedVariables false
attribute [local irreducible] mixW

theorem homeOne (g k n c : Nat) (z : Int) (A : Option Addr) (l : List Plc) (a0 a1 : Int) (w : World) (z1 : At w g 54 #[.int .i64 z, .slice A n c]) (ha : Rd ePl w w.heap.size A l) (hk : k < n) (hx : l[k]? = some (a0, a1)) :
    Calls Try.prog 101 #[.int .i64 (k : Int), .pointer (some ⟨g, 0, none⟩)] w fun e w' => e = .returned (.int .i64 a1) ∧ Below w.heap.size w w' := by
  obtain ⟨g', o, b0, b1, rfl, hg, hxk, q0, q1⟩ := ha.plc (k := k) (getElem?_some_lt hx)
  obtain ⟨rfl, rfl⟩ : b0 = a0 ∧ b1 = a1 := by simpa using Option.some.inj (hxk.symm.trans hx)
  clear hx hxk
  have i5 : (k : Int) < (n : Int) := by omega
  obtain ⟨p0, p1, _, _⟩ := z1.two
  go_enter Try.func101, Try.ntmps101
  go_wp2
  go_ret
  exact ⟨rfl, Below.refl _ _⟩

set_option maxHeartbeats 2000000 in
theorem tellHomes (g n c d : Nat) (z : Int) (A : Option Addr) (l : List Plc) (w : World) (z1 : At w g 54 #[.int .i64 z, .slice A n d]) (ha : Rd ePl w w.heap.size A l) (hl : l.length = n) (hc : c ≤ n) (h4 : n ≤ 4) :
    Calls Try.prog 100 #[.int .i64 (c : Int), .func (.func 101) #[] #[.pointer (some ⟨g, 0, none⟩)]] w fun e w' => ∃ A' c', e = .returned (.slice A' c c') ∧ Ow eIn w' w.heap.size A' c c' ((l.take c).map (·.2)) ∧ Below w.heap.size w w' := by
  have Hl := Lib.hid hl
  clear hl
  go_enter Try.func100, Try.ntmps100
  go_wp2
  go_loopw [5, 8] (fun o i wr => HoRel w l c o i wr) (fun _ i _ => c - (intOf i).toNat)
  case atStart => exact ⟨0, none, 0, Nat.zero_le _, rfl, rfl, by simpa using Ow.nil, Below.refl _ _⟩
  case round =>
    obtain ⟨k, A1, c1, hk, rfl, rfl, ow1, hbel⟩ := hrel
    by_cases hlt : k < c
    · obtain ⟨⟨a0, a1⟩, hx⟩ : ∃ x, l[k]? = some x := ⟨l[k]'(by rw [Hl.out]; omega), List.getElem?_eq_getElem _⟩
      have Hq := Lib.hid (homes_next hx)
      have CL := homeOne g k n d z A l a0 a1 wr (z1.below hbel z1.lt) (ha.lift hbel) (by omega) hx
      clear hx
      have i5 : (k : Int) < (c : Int) := by omega
      go_wp2_with (first
        | (go_at_call 101; refine CL.mono ?_; rintro e w1 ⟨rfl, hb1⟩; have hB1 := hbel.trans (hb1.mono hbel.size); have ow2 := ow1.below hb1 (Nat.le_refl _))
        | (at_builtin; refine wpList_append_ow okIn _ rfl (.tmp 11) (.tmp 15) _ rfl w.heap.size info_int Try.underlying59 rfl A1 k c1 _ rfl (ow2.alloc _) _ 1 1 _ [a1] rfl ((ow_int _ a1).rd okIn) rfl (by unfold maxLen; omega) (by omega) (by have := hB1.size; simp at this ⊢; omega) ?_; intro A5 c5 w5 ow5 hg5 _; have hB5 := (hB1.alloc hB1.size _).grown hg5 (hB1.alloc hB1.size _).size (fun g hg => by have := (ow1.lt g hg).1; omega)))
      refine ⟨⟨k + 1, A5, c5, by omega, by go_num, rfl, by rw [Hq.out]; exact ow5, hB5⟩, by simp [intOf]; omega⟩
    · obtain rfl : k = c := by omega
      go_wp2
      go_ret
      exact ⟨A1, c1, rfl, ow1, hbel⟩

theorem homes_or (n c s : Int) {z : Int} {l : List Plc} (h : placesM n s = (z, l)) : homesM n c s = if orM [z, rngMk [(c, 1, n)]] ≠ 0 then (orM [z, rngMk [(c, 1, n)]], []) else (0, homesF n c s) := by
  have hz : z = 0 ∨ z = 3 := by
    unfold placesM at h
    by_cases k : (inB (n, 1, 4) && inB (s, 0, 9)) = true
    · rw [if_pos k] at h; exact .inl (Prod.mk.inj h).1.symm
    · rw [if_neg k] at h; exact .inr (Prod.mk.inj h).1.symm
  unfold homesM
  rw [h]
  simp only [orM_cons, orM_nil]
  unfold rngMk
  rcases hz with rfl | rfl
  · rcases k : inB (c, 1, n) <;> simp [k]
  · simp
theorem homes_ok {n c s : Int} {z : Int} {l : List Plc} (h : placesM n s = (z, l)) (k : orM [z, rngMk [(c, 1, n)]] = 0) : z = 0 ∧ 1 ≤ c ∧ c ≤ n := by
  simp only [orM_cons, orM_nil] at k
  by_cases hz : z = 0
  · rw [if_pos hz] at k
    by_cases hr : rngMk [(c, 1, n)] = 0
    · unfold rngMk at hr
      by_cases q : [(c, (1 : Int), n)].all inB = true
      · simp [inB] at q
        exact ⟨hz, q.1, q.2⟩
      · rw [if_neg q] at hr
        exact absurd hr (by decide)
    · rw [if_neg hr] at k
      exact absurd k hr
  · rw [if_neg hz] at k
    exact absurd k hz

set_option maxRecDepth 10000 in
set_option maxHeartbeats 2000000 in
theorem implHomesOf (n c s : Int) (w : World) :
    Calls Try.prog 44 #[.int .i64 n, .int .i64 c, .int .i64 s] w fun e w' => RetIn (homesM n c s) w e w' := by
  unfold RetIn
  have IP := fun W => implPlacesOf n s W
  have hle := placesM_le n s
  rcases hp : placesM n s with ⟨z, pl⟩
  rw [hp] at IP hle
  simp only [RetPl] at IP
  dsimp only at hle
  have hB0 := (Below.refl w.heap.size w).alloc (Nat.le_refl _) (.cells #[.int .i64 0, .slice none 0 0] 61)
  have z0 := At.new w 61 #[.int .i64 0, .slice none 0 0]
  have Hh := Lib.hid (homes_or n c s hp)
  by_cases hz : orM [z, rngMk [(c, 1, n)]] = 0
  rotate_left
  · have d1 : (orM [z, rngMk [(c, 1, n)]] != 0) = true := by rw [bne_iff_ne]; exact hz
    have Hr := Lib.hid (show homesM n c s = (orM [z, rngMk [(c, 1, n)]], []) by rw [Hh.out, if_pos hz])
    clear hp hz Hh
    go_enter Try.func44, Try.ntmps44
    go_wp2_with fail
    refine (IP _).mono ?_
    rintro e w1 ⟨A, k, d, rfl, ow1, hb1⟩
    have hk1 := ow1.len okPl
    have rd1 := ow1.rd okPl
    have z1 := z0.below hb1 z0.lt
    have hB1 := hB0.trans (hb1.mono hB0.size)
    have y2 := (At.new w1 54 #[.int .i64 z, .slice A k d]).drew
    have z2 := (z1.alloc (.cells #[.int .i64 z, .slice A k d] 54)).drew
    have hB2 := (hB1.alloc hB1.size (.cells #[.int .i64 z, .slice A k d] 54)).drew
    have rd2 := rd1.lift ((Below.refl w1.heap.size w1).alloc (Nat.le_refl _) (.cells #[.int .i64 z, .slice A k d] 54)).drew
    clear ow1 rd1
    go_wp2
    refine wp_region_mix [(0, false), (1, false), (2, false), (3, false), (4, false), (5, true), (6, true), (7, true), (8, true), (9, false)] (fun u => At u w1.heap.size 54 #[.int .i64 z, .slice A k d]) (by kernel_rfl) (by kernel_rfl) (fun _ _ _ _ _ h => h) y2 ?_
    simp only [mixOps, List.map_cons, List.map_nil, List.getElem?_cons_succ, List.getElem?_cons_zero, Option.getD_some]
    generalize (w1.alloc (.cells #[.int .i64 z, .slice A k d] 54)).drew = v0 at *
    iterate 5
      refine mix_pure (v := ?_) (by rfl) (fun u hu => ?_) ?_
      rotate_left
      · obtain ⟨_, _, _, _⟩ := hu.two
        go_simp
        (with_reducible rfl)
      (try simp only [Act.put, List.setIfInBounds_toArray, List.set_cons_zero, List.set_cons_succ])
    refine mix_call (by rfl) (fun K hK => ?_)
    go_simp
    have bb3 := At.new v0 98 #[.int .i64 c, .int .i64 1, .int .i64 n]
    have y3 := y2.alloc (.cells #[.int .i64 c, .int .i64 1, .int .i64 n] 98)
    have z3 := z2.alloc (.cells #[.int .i64 c, .int .i64 1, .int .i64 n] 98)
    have hB3 := hB2.alloc hB2.size (.cells #[.int .i64 c, .int .i64 1, .int .i64 n] 98)
    have rd3 := rd2.lift ((Below.refl v0.heap.size v0).alloc (Nat.le_refl _) (.cells #[.int .i64 c, .int .i64 1, .int .i64 n] 98))
    refine hK _ _ _ (fun _ h => h) y3 ?_
    (try simp only [Act.put, List.setIfInBounds_toArray, List.set_cons_zero, List.set_cons_succ])
    refine mix_call (by rfl) (fun K hK => ?_)
    go_simp
    refine (rangeMk _ 1 _ [(c, 1, n)] _ (bndsMk_at bb3) bb3.lt rfl (by omega)).mono ?_
    rintro e w4 ⟨rfl, hb4⟩
    have y4 := y3.below hb4 y3.lt
    have z4 := z3.below hb4 z3.lt
    have hB4 := hB3.trans (hb4.mono hB3.size)
    have rd4 := rd3.lift hb4
    refine hK _ _ _ (fun _ h => h) y4 ?_
    (try simp only [Act.put, List.setIfInBounds_toArray, List.set_cons_zero, List.set_cons_succ])
    refine mix_call (by rfl) (fun K hK => ?_)
    go_simp
    have ii := At.new w4 2 #[.int .i64 z, .int .i64 (rngMk [(c, 1, n)])]
    have y5 := y4.alloc (.cells #[.int .i64 z, .int .i64 (rngMk [(c, 1, n)])] 2)
    have z5 := z4.alloc (.cells #[.int .i64 z, .int .i64 (rngMk [(c, 1, n)])] 2)
    have hB5 := hB4.alloc hB4.size (.cells #[.int .i64 z, .int .i64 (rngMk [(c, 1, n)])] 2)
    have rd5 := rd4.lift ((Below.refl w4.heap.size w4).alloc (Nat.le_refl _) (.cells #[.int .i64 z, .int .i64 (rngMk [(c, 1, n)])] 2))
    refine hK _ _ _ (fun _ h => h) y5 ?_
    (try simp only [Act.put, List.setIfInBounds_toArray, List.set_cons_zero, List.set_cons_succ])
    refine mix_call (by rfl) (fun K hK => ?_)
    go_simp
    refine (or64Mk _ 2 _ [z, rngMk [(c, 1, n)]] _ (intsMk_at ii) rfl (by omega)).mono ?_
    rintro e wq ⟨rfl, rfl⟩
    refine hK _ _ _ (fun _ h => h) y5 ?_
    (try simp only [Act.put, List.setIfInBounds_toArray, List.set_cons_zero, List.set_cons_succ])
    refine mix_pure (v := ?_) (by rfl) (fun u hu => ?_) ?_
    rotate_left
    · go_simp
      (with_reducible rfl)
    (try simp only [Act.put, List.setIfInBounds_toArray, List.set_cons_zero, List.set_cons_succ])
    refine mix_nil ?_
    obtain ⟨r0, r1, rf0, rf1⟩ := z5.two
    go_wp2
    refine bodyPost_ret (v := .agg #[.int .i64 (orM [z, rngMk [(c, 1, n)]]), .slice none 0 0]) (by simp [results, Try.results44, go_sem, r0, r1]) rfl ?_
    refine ⟨none, 0, 0, by rw [Hr.out], by rw [Hr.out]; exact Ow.nil, ?_⟩
    repeat (refine Below.setCell ?_ (by simp) _)
    exact hB5
  have d1 : (orM [z, rngMk [(c, 1, n)]] != 0) = false := by rw [hz]; rfl
  obtain ⟨hz0, hc1, hcn⟩ := homes_ok hp hz
  subst hz0
  obtain ⟨n1, n4, s0, s9⟩ := places_code hp
  obtain ⟨N, rfl⟩ := Int.eq_ofNat_of_zero_le (show 0 ≤ n by omega)
  obtain ⟨C, rfl⟩ := Int.eq_ofNat_of_zero_le (show 0 ≤ c by omega)
  have hpl : pl = placesF s N := by
    unfold placesM at hp
    by_cases k : (inB ((N : Int), 1, 4) && inB (s, 0, 9)) = true
    · rw [if_pos k] at hp; simpa using (Prod.mk.inj hp).2.symm
    · rw [if_neg k] at hp; cases hp
  subst hpl
  have Hr := Lib.hid (show homesM (N : Int) (C : Int) s = (0, ((placesF s N).take C).map (·.2)) by rw [Hh.out, if_neg (by simpa using hz)]; unfold homesF; simp)
  have hlN := places_len s N
  clear hp hz Hh
  go_enter Try.func44, Try.ntmps44
  go_wp2_with fail
  refine (IP _).mono ?_
  rintro e w1 ⟨A, k, d, rfl, ow1, hb1⟩
  have hk1 := ow1.len okPl
  have rd1 := ow1.rd okPl
  have z1 := z0.below hb1 z0.lt
  have hB1 := hB0.trans (hb1.mono hB0.size)
  have y2 := (At.new w1 54 #[.int .i64 0, .slice A k d]).drew
  have z2 := (z1.alloc (.cells #[.int .i64 0, .slice A k d] 54)).drew
  have hB2 := (hB1.alloc hB1.size (.cells #[.int .i64 0, .slice A k d] 54)).drew
  have rd2 := rd1.lift ((Below.refl w1.heap.size w1).alloc (Nat.le_refl _) (.cells #[.int .i64 0, .slice A k d] 54)).drew
  clear ow1 rd1
  go_wp2
  refine wp_region_mix [(0, false), (1, false), (2, false), (3, false), (4, false), (5, true), (6, true), (7, true), (8, true), (9, false)] (fun u => At u w1.heap.size 54 #[.int .i64 0, .slice A k d]) (by kernel_rfl) (by kernel_rfl) (fun _ _ _ _ _ h => h) y2 ?_
  simp only [mixOps, List.map_cons, List.map_nil, List.getElem?_cons_succ, List.getElem?_cons_zero, Option.getD_some]
  generalize (w1.alloc (.cells #[.int .i64 0, .slice A k d] 54)).drew = v0 at *
  iterate 5
    refine mix_pure (v := ?_) (by rfl) (fun u hu => ?_) ?_
    rotate_left
    · obtain ⟨_, _, _, _⟩ := hu.two
      go_simp
      (with_reducible rfl)
    (try simp only [Act.put, List.setIfInBounds_toArray, List.set_cons_zero, List.set_cons_succ])
  refine mix_call (by rfl) (fun K hK => ?_)
  go_simp
  have bb3 := At.new v0 98 #[.int .i64 (C : Int), .int .i64 1, .int .i64 (N : Int)]
  have y3 := y2.alloc (.cells #[.int .i64 (C : Int), .int .i64 1, .int .i64 (N : Int)] 98)
  have z3 := z2.alloc (.cells #[.int .i64 (C : Int), .int .i64 1, .int .i64 (N : Int)] 98)
  have hB3 := hB2.alloc hB2.size (.cells #[.int .i64 (C : Int), .int .i64 1, .int .i64 (N : Int)] 98)
  have rd3 := rd2.lift ((Below.refl v0.heap.size v0).alloc (Nat.le_refl _) (.cells #[.int .i64 (C : Int), .int .i64 1, .int .i64 (N : Int)] 98))
  refine hK _ _ _ (fun _ h => h) y3 ?_
  (try simp only [Act.put, List.setIfInBounds_toArray, List.set_cons_zero, List.set_cons_succ])
  refine mix_call (by rfl) (fun K hK => ?_)
  go_simp
  refine (rangeMk _ 1 _ [((C : Int), 1, (N : Int))] _ (bndsMk_at bb3) bb3.lt rfl (by omega)).mono ?_
  rintro e w4 ⟨rfl, hb4⟩
  have y4 := y3.below hb4 y3.lt
  have z4 := z3.below hb4 z3.lt
  have hB4 := hB3.trans (hb4.mono hB3.size)
  have rd4 := rd3.lift hb4
  refine hK _ _ _ (fun _ h => h) y4 ?_
  (try simp only [Act.put, List.setIfInBounds_toArray, List.set_cons_zero, List.set_cons_succ])
  refine mix_call (by rfl) (fun K hK => ?_)
  go_simp
  have ii := At.new w4 2 #[.int .i64 0, .int .i64 (rngMk [((C : Int), 1, (N : Int))])]
  have y5 := y4.alloc (.cells #[.int .i64 0, .int .i64 (rngMk [((C : Int), 1, (N : Int))])] 2)
  have z5 := z4.alloc (.cells #[.int .i64 0, .int .i64 (rngMk [((C : Int), 1, (N : Int))])] 2)
  have hB5 := hB4.alloc hB4.size (.cells #[.int .i64 0, .int .i64 (rngMk [((C : Int), 1, (N : Int))])] 2)
  have rd5 := rd4.lift ((Below.refl w4.heap.size w4).alloc (Nat.le_refl _) (.cells #[.int .i64 0, .int .i64 (rngMk [((C : Int), 1, (N : Int))])] 2))
  refine hK _ _ _ (fun _ h => h) y5 ?_
  (try simp only [Act.put, List.setIfInBounds_toArray, List.set_cons_zero, List.set_cons_succ])
  refine mix_call (by rfl) (fun K hK => ?_)
  go_simp
  refine (or64Mk _ 2 _ [0, rngMk [((C : Int), 1, (N : Int))]] _ (intsMk_at ii) rfl (by omega)).mono ?_
  rintro e wq ⟨rfl, rfl⟩
  refine hK _ _ _ (fun _ h => h) y5 ?_
  (try simp only [Act.put, List.setIfInBounds_toArray, List.set_cons_zero, List.set_cons_succ])
  refine mix_pure (v := ?_) (by rfl) (fun u hu => ?_) ?_
  rotate_left
  · go_simp
    (with_reducible rfl)
  (try simp only [Act.put, List.setIfInBounds_toArray, List.set_cons_zero, List.set_cons_succ])
  refine mix_nil ?_
  obtain ⟨r0, r1, rf0, rf1⟩ := z5.two
  have hkN : k = N := by omega
  subst hkN
  have TH := tellHomes w1.heap.size k C d 0 A (placesF s k) _ y5 rd5 hlN (by omega) (by omega)
  go_wp2_with fail
  refine TH.mono ?_
  rintro e w6 ⟨A6, c6, rfl, ow6, hb6⟩
  clear r0 r1 rf0 rf1
  have z6 := z5.below hb6 z5.lt
  have hB6 := hB5.trans (hb6.mono hB5.size)
  obtain ⟨r0, r1, rf0, rf1⟩ := z6.two
  go_wp2
  refine bodyPost_ret (v := .agg #[.int .i64 0, .slice A6 C c6]) (by simp [results, Try.results44, go_sem, r0, r1]) rfl ?_
  refine ⟨A6, C, c6, by rw [Hr.out], ?_, ?_⟩
  · rw [Hr.out]
    exact ((ow6.from_ hB5.size).apartMk (by decide) z6 0 _).apartMk (by decide) (z6.set 0 _) 1 _
  · repeat (refine Below.setCell ?_ (by simp) _)
    exact hB6

def IxRel (w : World) (xs : List Int) (v : Int) (n : Nat) (i : Value) (wr : World) : Prop :=
  ∃ k : Nat, k ≤ n ∧ i = .int .i64 k ∧ decide (v ∈ xs) = decide (v ∈ xs.drop k) ∧ wr = w
set_option maxHeartbeats 1000000 in
theorem indexInt (A : Option Addr) (n c : Nat) (xs : List Int) (v : Int) (w : World) (ha : Rd eIn w w.heap.size A xs) (hn : xs.length = n) (hm : n ≤ 1048576) :
    Calls Try.prog 119 #[.slice A n c, .int .i64 v] w fun e w' => (∃ r : Int, e = .returned (.int .i64 r) ∧ decide (0 ≤ r) = decide (v ∈ xs)) ∧ w' = w := by
  have Hn := Lib.hid hn
  clear hn
  go_enter Try.func119, Try.ntmps119
  go_wp2
  go_loopw [8] (fun i wr => IxRel w xs v n i wr) (fun i _ => n - (intOf i).toNat)
  case atStart => exact ⟨0, Nat.zero_le _, rfl, rfl, rfl⟩
  case round =>
    obtain ⟨k, hk, rfl, hal, rfl⟩ := hrel
    have Hal := Lib.hid hal
    clear hal
    by_cases hlt : k < n
    · obtain ⟨g, o, x, rfl, hg, hx, ca⟩ := ha.int (k := k) (by rw [Hn.out]; exact hlt)
      have Hd := Lib.hid (has_drop (v := v) hx)
      clear hx
      have i5 : (k : Int) < (n : Int) := by omega
      by_cases e : x = v
      · have he : (v == x) = true := by simpa using e.symm
        have Hf := Lib.hid (show decide (v ∈ xs) = true by rw [Hal.out, Hd.out, decide_eq_true e]; rfl)
        clear e
        go_wp2
        go_ret
        exact ⟨⟨_, rfl, by rw [Hf.out]; simp⟩, rfl⟩
      · have he : (v == x) = false := by simpa using Ne.symm e
        have Hf := Lib.hid (show decide (v ∈ xs) = decide (v ∈ xs.drop (k + 1)) by rw [Hal.out, Hd.out, decide_eq_false e]; rfl)
        clear e
        go_wp2
        exact ⟨⟨k + 1, by omega, by go_num, Hf.out, rfl⟩, by simp [intOf]; omega⟩
    · have Hf := Lib.hid (show decide (v ∈ xs) = false by rw [Hal.out, List.drop_eq_nil_of_le (by rw [Hn.out]; omega)]; simp)
      go_wp2
      go_ret
      exact ⟨⟨_, rfl, by rw [Hf.out]; decide⟩, rfl⟩
theorem containsInt (A : Option Addr) (n c : Nat) (xs : List Int) (v : Int) (w : World) (ha : Rd eIn w w.heap.size A xs) (hn : xs.length = n) (hm : n ≤ 1048576) :
    Calls Try.prog 106 #[.slice A n c, .int .i64 v] w fun e w' => e = .returned (.bool (decide (v ∈ xs))) ∧ w' = w := by
  go_enter Try.func106, Try.ntmps106
  go_wp2_with fail
  refine (indexInt A n c xs v w ha hn hm).mono ?_
  rintro e w1 ⟨⟨r, rfl, hr⟩, rfl⟩
  have Hr := Lib.hid hr
  clear hr
  go_wp2
  go_ret
  exact ⟨by rw [← Hr.out]; rfl, rfl⟩
theorem implIsHome (n c s p : Int) (w : World) :
    Calls Try.prog 49 #[.int .i64 n, .int .i64 c, .int .i64 s, .int .i64 p] w fun e w' => e = .returned (.bool (isHomeM n c s p)) ∧ Below w.heap.size w w' := by
  have F1 := fldIn1
  have hle := homes_le n c s
  go_enter Try.func49, Try.ntmps49
  go_wp2_with fail
  refine (implHomesOf n c s _).mono ?_
  rintro e w1 ⟨A, k, d, rfl, ow, hb1⟩
  have hk := ow.len okIn
  go_wp2_with fail
  refine (containsInt A k d _ p _ (ow.rd okIn) hk (by omega)).mono ?_
  rintro e w2 ⟨rfl, rfl⟩
  go_wp2
  go_ret
  exact ⟨rfl, hb1⟩

theorem fnExactIsHome_walk (n c s p : Int) (w : World) :
    Calls Try.prog 7 #[.int .i64 n, .int .i64 c, .int .i64 s, .int .i64 p] w fun e w' => e = .returned (.bool true) ∧ Below w.heap.size w w' := by
  have SP := fun W => specIsHome n c s p W
  have IP := fun W => implIsHome n c s p W
  generalize isHomeM n c s p = b at *
  go_enter Try.func7, Try.ntmps7
  go_wp2_with fail
  refine (SP _).mono ?_
  rintro e w1 ⟨rfl, hb1⟩
  go_wp2_with fail
  refine (IP _).mono ?_
  rintro e w2 ⟨rfl, hb2⟩
  go_wp2
  go_ret
  exact ⟨rfl, hb1.trans (hb2.mono hb1.size)⟩
end Go.Proofs.Ytbfjfjocangjeaa
