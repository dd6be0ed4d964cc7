/-
  The program's fault of a state.
-/
import Derived.Test.YteiclanlhnccnaaDoorStaS
import Derived.Test.YteiclanlhnccnaaDoorRecP
import Derived.Test.YteiclanlhnccnaaDoorStoreP
import Derived.Test.YteiclanlhnccnaaDoorHintP
import Derived.Test.YteiclanlhnccnaaDoorAny
namespace Go.Proofs.YteiclanlhnccnaaDoor
set_option maxRecDepth 20000
open Go.RowKit
set_option linter.unusedSimpArgs false
set_option linter.unusedVariables false

set_option maxHeartbeats 400000 in
theorem cmpOr64S (g n c : Nat) (l : List Int) (w : World) (hl : Ints w g l) (hn : l.length = n) (hm : n ≤ 1000) :
    Calls Tryd.prog 48 #[.slice (some ⟨g, 0, none⟩) n c] w fun e w' => e = .returned (.int .i64 (orM l)) ∧ w' = w := by
  have Hn := Lib.hid hn
  clear hn
  go_enter Tryd.func48, Tryd.ntmps48
  go_wp2
  go_loopw [8] (fun i wr => OrRel w l n i wr) (fun i _ => n - (intOf i).toNat)
  case atStart => exact ⟨0, Nat.zero_le _, rfl, rfl, rfl⟩
  case round =>
    obtain ⟨k, hk, rfl, hd, rfl⟩ := hrel
    have Hd := Lib.hid hd
    clear hd
    by_cases hlt : k < n
    · have hkl : k < l.length := by rw [Hn.out]; exact hlt
      obtain ⟨x, hx⟩ : ∃ x, l[k]? = some x := ⟨l[k], List.getElem?_eq_getElem hkl⟩
      have hc := hl k x hx
      have Ho := Lib.hid (show orM (l.drop k) = if x = 0 then orM (l.drop (k + 1)) else x by
        rw [List.drop_eq_getElem_cons hkl, orM_cons]
        rw [List.getElem?_eq_getElem hkl] at hx
        rw [Option.some.inj hx])
      clear hx
      by_cases h0 : x = 0
      · subst h0
        go_wp2
        refine ⟨⟨k + 1, by omega, by go_num, ?_, rfl⟩, by simp [intOf]; omega⟩
        have := Ho.out
        rw [if_pos rfl] at this
        rw [← this]
        exact Hd.out
      · have hne : (x != 0) = true := by simpa using h0
        have Hx := Lib.hid (show orM l = x by rw [← Hd.out, Ho.out, if_neg h0])
        clear h0
        go_wp2
        go_ret
        exact ⟨by rw [Hx.out]; rfl, rfl⟩
    · obtain rfl : k = n := by omega
      have Hf := Lib.hid (show orM l = 0 by rw [← Hd.out, List.drop_eq_nil_of_le (Nat.le_of_eq Hn.out)]; rfl)
      go_wp2
      go_ret
      exact ⟨by rw [Hf.out]; rfl, rfl⟩

theorem Bnds.of_one {w : World} {g : Nat} {t : TypeId} {a lo hi : Int} (h : At w g t #[.int .i64 a, .int .i64 lo, .int .i64 hi]) : Bnds w g [(a, lo, hi)] := by
  intro k b hk
  match k, hk with
  | 0, hk =>
    obtain rfl : (a, lo, hi) = b := by simpa using hk
    exact ⟨h.cell 0, h.cell 1, h.cell 2⟩
  | k + 1, hk => simp at hk
theorem Ints.of_at {w : World} {g : Nat} {t : TypeId} {l : List Int} (h : At w g t (l.map (Value.int .i64)).toArray) : Ints w g l := fun k x hk => by
  rw [h.cell k]
  simp [hk]
theorem stateFault_or (l : List Smp) (h : List Hnt) (x : Int) : orM [storeFaultM l, hintsFaultM h, rngM [(x, 0, 60000)]] = stateFaultM (l, h, x) := by
  unfold stateFaultM orM rngM
  by_cases h1 : storeFaultM l = 0
  · by_cases h2 : hintsFaultM h = 0
    · rcases h3 : inB (x, 0, 60000) <;> simp [h1, h2, h3]
    · simp [h1, h2]
  · simp [h1]

set_option maxHeartbeats 4000000 in
theorem implStateFault (A B : Option Addr) (n c m d : Nat) (l : List Smp) (h : List Hnt) (x : Int) (w : World) (ha : Rd eS w w.heap.size A l) (hb : Rd eH w w.heap.size B h) (hn : l.length = n) (hm : h.length = m) (hF : Flds w) :
    Calls Tryd.prog 23 #[.agg #[.slice A n c, .slice B m d, .int .i64 x]] w fun e w' => e = .returned (.int .i64 (stateFaultM (l, h, x))) ∧ Below w.heap.size w w' := by
  have hB0 : Below w.heap.size w (w.alloc (.cells #[.slice A n c, .slice B m d, .int .i64 x] 54)) := (Below.refl _ _).alloc (Nat.le_refl _) _
  have x0 := At.new w 54 #[.slice A n c, .slice B m d, .int .i64 x]
  have hBd := hB0.drew
  have ha0 := ha.lift hBd
  have hb0 := hb.lift hBd
  have hF0 := hF.below hBd
  have Hn := Lib.hid hn
  have Hm := Lib.hid hm
  have HO := Lib.hid (stateFault_or l h x)
  clear hn hm ha hb hF
  obtain ⟨c0, c1, c2, _, _, _⟩ := x0.three
  go_enter Tryd.func23, Tryd.ntmps23
  go_wp2
  clear c0 c1 c2
  have x0 := x0.drew
  clear hB0
  have hB0 := hBd
  clear hBd
  refine any_start (fun u => At u w.heap.size 54 #[.slice A n c, .slice B m d, .int .i64 x]) (by kernel_rfl) x0 (fun _ => ?_)
  generalize (w.alloc (.cells #[.slice A n c, .slice B m d, .int .i64 x] 54)).drew = v0 at *
  have hs0 : w.heap.size ≤ v0.heap.size := hB0.size
  refine any_pure (v := ?_) 0 rfl (by kernel_rfl) (fun _ _ _ _ _ h => h) (by rfl) (fun u hu => ?_) x0 ?_
  rotate_left
  · obtain ⟨_, _, _, _, _, _⟩ := At.three hu
    go_simp
    (with_reducible rfl)
  (try simp only [Act.put, List.setIfInBounds_toArray, List.set_cons_zero, List.set_cons_succ])
  refine any_pure (v := ?_) 1 rfl (by kernel_rfl) (fun _ _ _ _ _ h => h) (by rfl) (fun u hu => ?_) x0 ?_
  rotate_left
  · obtain ⟨_, _, _, _, _, _⟩ := At.three hu
    go_simp
    (with_reducible rfl)
  (try simp only [Act.put, List.setIfInBounds_toArray, List.set_cons_zero, List.set_cons_succ])
  refine any_pure (v := ?_) 3 rfl (by kernel_rfl) (fun _ _ _ _ _ h => h) (by rfl) (fun u hu => ?_) x0 ?_
  rotate_left
  · obtain ⟨_, _, _, _, _, _⟩ := At.three hu
    go_simp
    (with_reducible rfl)
  (try simp only [Act.put, List.setIfInBounds_toArray, List.set_cons_zero, List.set_cons_succ])
  refine any_pure (v := ?_) 4 rfl (by kernel_rfl) (fun _ _ _ _ _ h => h) (by rfl) (fun u hu => ?_) x0 ?_
  rotate_left
  · obtain ⟨_, _, _, _, _, _⟩ := At.three hu
    go_simp
    (with_reducible rfl)
  (try simp only [Act.put, List.setIfInBounds_toArray, List.set_cons_zero, List.set_cons_succ])
  refine any_pure (v := ?_) 6 rfl (by kernel_rfl) (fun _ _ _ _ _ h => h) (by rfl) (fun u hu => ?_) x0 ?_
  rotate_left
  · obtain ⟨_, _, _, _, _, _⟩ := At.three hu
    go_simp
    (with_reducible rfl)
  (try simp only [Act.put, List.setIfInBounds_toArray, List.set_cons_zero, List.set_cons_succ])
  refine any_pure (v := ?_) 7 rfl (by kernel_rfl) (fun _ _ _ _ _ h => h) (by rfl) (fun u hu => ?_) x0 ?_
  rotate_left
  · obtain ⟨_, _, _, _, _, _⟩ := At.three hu
    go_simp
    (with_reducible rfl)
  (try simp only [Act.put, List.setIfInBounds_toArray, List.set_cons_zero, List.set_cons_succ])
  refine any_pure (v := ?_) 8 rfl (by kernel_rfl) (fun _ _ _ _ _ h => h) (by rfl) (fun u hu => ?_) x0 ?_
  rotate_left
  · obtain ⟨_, _, _, _, _, _⟩ := At.three hu
    go_simp
    (with_reducible rfl)
  (try simp only [Act.put, List.setIfInBounds_toArray, List.set_cons_zero, List.set_cons_succ])
  refine any_two 2 9 rfl rfl (by kernel_rfl) (by rfl) (by rfl) ?_ ?_
  · go_simp
    refine (implStoreFault A n c l _ ha0 Hn.out hF0).mono ?_
    rintro e w1 ⟨rfl, hb1⟩
    have hB1 := hB0.trans (hb1.mono hB0.size)
    have x1 := x0.below hb1 x0.lt
    have haq1 := ha0.lift hb1
    have hbq1 := hb0.lift hb1
    have hF1 := hF0.below hb1
    refine ⟨(fun u => At u w.heap.size 54 #[.slice A n c, .slice B m d, .int .i64 x]), fun _ h => h, x1, ?_⟩
    (try simp only [Act.put, List.setIfInBounds_toArray, List.set_cons_zero, List.set_cons_succ])
    refine any_two 5 9 rfl rfl (by kernel_rfl) (by rfl) (by rfl) ?_ ?_
    · go_simp
      refine (implHintsFault B m d h _ hbq1 Hm.out hF1).mono ?_
      rintro e w2 ⟨rfl, hb2⟩
      have hB2 := hB1.trans (hb2.mono hB1.size)
      have x2 := x1.below hb2 x1.lt
      have haq2 := haq1.lift hb2
      have hbq2 := hbq1.lift hb2
      have hF2 := hF1.below hb2
      refine ⟨(fun u => At u w.heap.size 54 #[.slice A n c, .slice B m d, .int .i64 x]), fun _ h => h, x2, ?_⟩
      (try simp only [Act.put, List.setIfInBounds_toArray, List.set_cons_zero, List.set_cons_succ])
      refine any_one 9 rfl (by kernel_rfl) (by rfl) ?_
      go_simp
      have bb3 := At.new w2 77 #[.int .i64 x, .int .i64 0, .int .i64 60000]
      have hal3 := (Below.refl w2.heap.size w2).alloc (Nat.le_refl _) (.cells #[.int .i64 x, .int .i64 0, .int .i64 60000] 77)
      have hB3 := hB2.alloc hB2.size (.cells #[.int .i64 x, .int .i64 0, .int .i64 60000] 77)
      have x3 := x2.alloc (.cells #[.int .i64 x, .int .i64 0, .int .i64 60000] 77)
      have haq3 := haq2.lift hal3
      have hbq3 := hbq2.lift hal3
      have hF3 := hF2.below hal3
      refine ⟨(fun u => At u w.heap.size 54 #[.slice A n c, .slice B m d, .int .i64 x]), fun _ h => h, x3, ?_⟩
      (try simp only [Act.put, List.setIfInBounds_toArray, List.set_cons_zero, List.set_cons_succ])
      refine any_one 10 rfl (by kernel_rfl) (by rfl) ?_
      go_simp
      refine (rangeFault _ 1 _ [(x, 0, 60000)] _ (Bnds.of_one bb3) bb3.lt rfl (by omega)).mono ?_
      rintro e w4 ⟨rfl, hb4⟩
      have hB4 := hB3.trans (hb4.mono hB3.size)
      have x4 := x3.below hb4 x3.lt
      have haq4 := haq3.lift hb4
      have hbq4 := hbq3.lift hb4
      have hF4 := hF3.below hb4
      have bb4 := bb3.below hb4 bb3.lt
      refine ⟨(fun u => At u w.heap.size 54 #[.slice A n c, .slice B m d, .int .i64 x]), fun _ h => h, x4, ?_⟩
      (try simp only [Act.put, List.setIfInBounds_toArray, List.set_cons_zero, List.set_cons_succ])
      refine any_one 11 rfl (by kernel_rfl) (by rfl) ?_
      go_simp
      have ii := At.new w4 2 #[.int .i64 (storeFaultM l), .int .i64 (hintsFaultM h), .int .i64 (rngM [(x, 0, 60000)])]
      have hal5 := (Below.refl w4.heap.size w4).alloc (Nat.le_refl _) (.cells #[.int .i64 (storeFaultM l), .int .i64 (hintsFaultM h), .int .i64 (rngM [(x, 0, 60000)])] 2)
      have hB5 := hB4.alloc hB4.size (.cells #[.int .i64 (storeFaultM l), .int .i64 (hintsFaultM h), .int .i64 (rngM [(x, 0, 60000)])] 2)
      have x5 := x4.alloc (.cells #[.int .i64 (storeFaultM l), .int .i64 (hintsFaultM h), .int .i64 (rngM [(x, 0, 60000)])] 2)
      have haq5 := haq4.lift hal5
      have hbq5 := hbq4.lift hal5
      have hF5 := hF4.below hal5
      refine ⟨(fun u => At u w.heap.size 54 #[.slice A n c, .slice B m d, .int .i64 x]), fun _ h => h, x5, ?_⟩
      (try simp only [Act.put, List.setIfInBounds_toArray, List.set_cons_zero, List.set_cons_succ])
      refine any_one 12 rfl (by kernel_rfl) (by rfl) ?_
      go_simp
      refine (cmpOr64S _ 3 _ [storeFaultM l, hintsFaultM h, rngM [(x, 0, 60000)]] _ (Ints.of_at ii) rfl (by omega)).mono ?_
      rintro e w' ⟨rfl, rfl⟩
      refine ⟨(fun u => At u w.heap.size 54 #[.slice A n c, .slice B m d, .int .i64 x]), fun _ h => h, x5, ?_⟩
      (try simp only [Act.put, List.setIfInBounds_toArray, List.set_cons_zero, List.set_cons_succ])
      refine any_pure (v := ?_) 13 rfl (by kernel_rfl) (fun _ _ _ _ _ h => h) (by rfl) (fun u hu => ?_) x5 ?_
      rotate_left
      · go_simp
        (with_reducible rfl)
      (try simp only [Act.put, List.setIfInBounds_toArray, List.set_cons_zero, List.set_cons_succ])
      refine any_done (by kernel_rfl) ?_
      go_wp2
      go_ret
      exact ⟨by rw [← HO.out]; try rfl, hB5⟩
    · go_simp
      have bb6 := At.new w1 77 #[.int .i64 x, .int .i64 0, .int .i64 60000]
      have hal6 := (Below.refl w1.heap.size w1).alloc (Nat.le_refl _) (.cells #[.int .i64 x, .int .i64 0, .int .i64 60000] 77)
      have hB6 := hB1.alloc hB1.size (.cells #[.int .i64 x, .int .i64 0, .int .i64 60000] 77)
      have x6 := x1.alloc (.cells #[.int .i64 x, .int .i64 0, .int .i64 60000] 77)
      have haq6 := haq1.lift hal6
      have hbq6 := hbq1.lift hal6
      have hF6 := hF1.below hal6
      refine ⟨(fun u => At u w.heap.size 54 #[.slice A n c, .slice B m d, .int .i64 x]), fun _ h => h, x6, ?_⟩
      (try simp only [Act.put, List.setIfInBounds_toArray, List.set_cons_zero, List.set_cons_succ])
      refine any_one 5 rfl (by kernel_rfl) (by rfl) ?_
      go_simp
      refine (implHintsFault B m d h _ hbq6 Hm.out hF6).mono ?_
      rintro e w7 ⟨rfl, hb7⟩
      have hB7 := hB6.trans (hb7.mono hB6.size)
      have x7 := x6.below hb7 x6.lt
      have haq7 := haq6.lift hb7
      have hbq7 := hbq6.lift hb7
      have hF7 := hF6.below hb7
      have bb7 := bb6.below hb7 bb6.lt
      refine ⟨(fun u => At u w.heap.size 54 #[.slice A n c, .slice B m d, .int .i64 x]), fun _ h => h, x7, ?_⟩
      (try simp only [Act.put, List.setIfInBounds_toArray, List.set_cons_zero, List.set_cons_succ])
      refine any_one 10 rfl (by kernel_rfl) (by rfl) ?_
      go_simp
      refine (rangeFault _ 1 _ [(x, 0, 60000)] _ (Bnds.of_one bb7) bb7.lt rfl (by omega)).mono ?_
      rintro e w8 ⟨rfl, hb8⟩
      have hB8 := hB7.trans (hb8.mono hB7.size)
      have x8 := x7.below hb8 x7.lt
      have haq8 := haq7.lift hb8
      have hbq8 := hbq7.lift hb8
      have hF8 := hF7.below hb8
      have bb8 := bb7.below hb8 bb7.lt
      refine ⟨(fun u => At u w.heap.size 54 #[.slice A n c, .slice B m d, .int .i64 x]), fun _ h => h, x8, ?_⟩
      (try simp only [Act.put, List.setIfInBounds_toArray, List.set_cons_zero, List.set_cons_succ])
      refine any_one 11 rfl (by kernel_rfl) (by rfl) ?_
      go_simp
      have ii := At.new w8 2 #[.int .i64 (storeFaultM l), .int .i64 (hintsFaultM h), .int .i64 (rngM [(x, 0, 60000)])]
      have hal9 := (Below.refl w8.heap.size w8).alloc (Nat.le_refl _) (.cells #[.int .i64 (storeFaultM l), .int .i64 (hintsFaultM h), .int .i64 (rngM [(x, 0, 60000)])] 2)
      have hB9 := hB8.alloc hB8.size (.cells #[.int .i64 (storeFaultM l), .int .i64 (hintsFaultM h), .int .i64 (rngM [(x, 0, 60000)])] 2)
      have x9 := x8.alloc (.cells #[.int .i64 (storeFaultM l), .int .i64 (hintsFaultM h), .int .i64 (rngM [(x, 0, 60000)])] 2)
      have haq9 := haq8.lift hal9
      have hbq9 := hbq8.lift hal9
      have hF9 := hF8.below hal9
      refine ⟨(fun u => At u w.heap.size 54 #[.slice A n c, .slice B m d, .int .i64 x]), fun _ h => h, x9, ?_⟩
      (try simp only [Act.put, List.setIfInBounds_toArray, List.set_cons_zero, List.set_cons_succ])
      refine any_one 12 rfl (by kernel_rfl) (by rfl) ?_
      go_simp
      refine (cmpOr64S _ 3 _ [storeFaultM l, hintsFaultM h, rngM [(x, 0, 60000)]] _ (Ints.of_at ii) rfl (by omega)).mono ?_
      rintro e w' ⟨rfl, rfl⟩
      refine ⟨(fun u => At u w.heap.size 54 #[.slice A n c, .slice B m d, .int .i64 x]), fun _ h => h, x9, ?_⟩
      (try simp only [Act.put, List.setIfInBounds_toArray, List.set_cons_zero, List.set_cons_succ])
      refine any_pure (v := ?_) 13 rfl (by kernel_rfl) (fun _ _ _ _ _ h => h) (by rfl) (fun u hu => ?_) x9 ?_
      rotate_left
      · go_simp
        (with_reducible rfl)
      (try simp only [Act.put, List.setIfInBounds_toArray, List.set_cons_zero, List.set_cons_succ])
      refine any_done (by kernel_rfl) ?_
      go_wp2
      go_ret
      exact ⟨by rw [← HO.out]; try rfl, hB9⟩
  · go_simp
    have bb10 := At.new v0 77 #[.int .i64 x, .int .i64 0, .int .i64 60000]
    have hal10 := (Below.refl v0.heap.size v0).alloc (Nat.le_refl _) (.cells #[.int .i64 x, .int .i64 0, .int .i64 60000] 77)
    have hB10 := hB0.alloc hB0.size (.cells #[.int .i64 x, .int .i64 0, .int .i64 60000] 77)
    have x10 := x0.alloc (.cells #[.int .i64 x, .int .i64 0, .int .i64 60000] 77)
    have haq10 := ha0.lift hal10
    have hbq10 := hb0.lift hal10
    have hF10 := hF0.below hal10
    refine ⟨(fun u => At u w.heap.size 54 #[.slice A n c, .slice B m d, .int .i64 x]), fun _ h => h, x10, ?_⟩
    (try simp only [Act.put, List.setIfInBounds_toArray, List.set_cons_zero, List.set_cons_succ])
    refine any_one 2 rfl (by kernel_rfl) (by rfl) ?_
    go_simp
    refine (implStoreFault A n c l _ haq10 Hn.out hF10).mono ?_
    rintro e w11 ⟨rfl, hb11⟩
    have hB11 := hB10.trans (hb11.mono hB10.size)
    have x11 := x10.below hb11 x10.lt
    have haq11 := haq10.lift hb11
    have hbq11 := hbq10.lift hb11
    have hF11 := hF10.below hb11
    have bb11 := bb10.below hb11 bb10.lt
    refine ⟨(fun u => At u w.heap.size 54 #[.slice A n c, .slice B m d, .int .i64 x]), fun _ h => h, x11, ?_⟩
    (try simp only [Act.put, List.setIfInBounds_toArray, List.set_cons_zero, List.set_cons_succ])
    refine any_one 5 rfl (by kernel_rfl) (by rfl) ?_
    go_simp
    refine (implHintsFault B m d h _ hbq11 Hm.out hF11).mono ?_
    rintro e w12 ⟨rfl, hb12⟩
    have hB12 := hB11.trans (hb12.mono hB11.size)
    have x12 := x11.below hb12 x11.lt
    have haq12 := haq11.lift hb12
    have hbq12 := hbq11.lift hb12
    have hF12 := hF11.below hb12
    have bb12 := bb11.below hb12 bb11.lt
    refine ⟨(fun u => At u w.heap.size 54 #[.slice A n c, .slice B m d, .int .i64 x]), fun _ h => h, x12, ?_⟩
    (try simp only [Act.put, List.setIfInBounds_toArray, List.set_cons_zero, List.set_cons_succ])
    refine any_one 10 rfl (by kernel_rfl) (by rfl) ?_
    go_simp
    refine (rangeFault _ 1 _ [(x, 0, 60000)] _ (Bnds.of_one bb12) bb12.lt rfl (by omega)).mono ?_
    rintro e w13 ⟨rfl, hb13⟩
    have hB13 := hB12.trans (hb13.mono hB12.size)
    have x13 := x12.below hb13 x12.lt
    have haq13 := haq12.lift hb13
    have hbq13 := hbq12.lift hb13
    have hF13 := hF12.below hb13
    have bb13 := bb12.below hb13 bb12.lt
    refine ⟨(fun u => At u w.heap.size 54 #[.slice A n c, .slice B m d, .int .i64 x]), fun _ h => h, x13, ?_⟩
    (try simp only [Act.put, List.setIfInBounds_toArray, List.set_cons_zero, List.set_cons_succ])
    refine any_one 11 rfl (by kernel_rfl) (by rfl) ?_
    go_simp
    have ii := At.new w13 2 #[.int .i64 (storeFaultM l), .int .i64 (hintsFaultM h), .int .i64 (rngM [(x, 0, 60000)])]
    have hal14 := (Below.refl w13.heap.size w13).alloc (Nat.le_refl _) (.cells #[.int .i64 (storeFaultM l), .int .i64 (hintsFaultM h), .int .i64 (rngM [(x, 0, 60000)])] 2)
    have hB14 := hB13.alloc hB13.size (.cells #[.int .i64 (storeFaultM l), .int .i64 (hintsFaultM h), .int .i64 (rngM [(x, 0, 60000)])] 2)
    have x14 := x13.alloc (.cells #[.int .i64 (storeFaultM l), .int .i64 (hintsFaultM h), .int .i64 (rngM [(x, 0, 60000)])] 2)
    have haq14 := haq13.lift hal14
    have hbq14 := hbq13.lift hal14
    have hF14 := hF13.below hal14
    refine ⟨(fun u => At u w.heap.size 54 #[.slice A n c, .slice B m d, .int .i64 x]), fun _ h => h, x14, ?_⟩
    (try simp only [Act.put, List.setIfInBounds_toArray, List.set_cons_zero, List.set_cons_succ])
    refine any_one 12 rfl (by kernel_rfl) (by rfl) ?_
    go_simp
    refine (cmpOr64S _ 3 _ [storeFaultM l, hintsFaultM h, rngM [(x, 0, 60000)]] _ (Ints.of_at ii) rfl (by omega)).mono ?_
    rintro e w' ⟨rfl, rfl⟩
    refine ⟨(fun u => At u w.heap.size 54 #[.slice A n c, .slice B m d, .int .i64 x]), fun _ h => h, x14, ?_⟩
    (try simp only [Act.put, List.setIfInBounds_toArray, List.set_cons_zero, List.set_cons_succ])
    refine any_pure (v := ?_) 13 rfl (by kernel_rfl) (fun _ _ _ _ _ h => h) (by rfl) (fun u hu => ?_) x14 ?_
    rotate_left
    · go_simp
      (with_reducible rfl)
    (try simp only [Act.put, List.setIfInBounds_toArray, List.set_cons_zero, List.set_cons_succ])
    refine any_done (by kernel_rfl) ?_
    go_wp2
    go_ret
    exact ⟨by rw [← HO.out]; try rfl, hB14⟩
theorem hiStateFault : ∀ (A B : Option Addr) (n c m d : Nat) (l : List Smp) (h : List Hnt) (x : Int) (W : World), Rd eS W W.heap.size A l → Rd eH W W.heap.size B h → l.length = n → h.length = m → n ≤ 1048576 → m ≤ 1048576 → Flds W → Calls Tryd.prog 23 #[.agg #[.slice A n c, .slice B m d, .int .i64 x]] W fun e W' => e = .returned (.int .i64 (stateFaultM (l, h, x))) ∧ Below W.heap.size W W' :=
  fun A B n c m d l h x W ha hb hn hm _ _ hF => implStateFault A B n c m d l h x W ha hb hn hm hF
end Go.Proofs.YteiclanlhnccnaaDoor
