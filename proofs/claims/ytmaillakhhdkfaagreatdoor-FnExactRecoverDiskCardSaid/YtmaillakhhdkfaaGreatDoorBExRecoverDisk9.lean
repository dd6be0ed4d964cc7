/-
  Texts of one proof, joined: each has its own namespace.
-/
import Derived.Test.YtmaillakhhdkfaaGreatDoorBExRecoverDisk4
import Derived.Test.YtmaillakhhdkfaaGreatDoorBExRecoverDisk7
import Derived.Test.YtmaillakhhdkfaaGreatDoorBExRecoverDisk8
import Derived.Test.YtmaillakhhdkfaaGreatDoorBExRecoverDisk3
import Derived.Test.YtmaillakhhdkfaaGreatDoorBExRecoverDisk6
import Derived.Deep.DeepCutAuto
import Derived.Test.YtmaillakhhdkfaaGreatDoorBExRecoverDisk0
import Derived.Test.YtmaillakhhdkfaaGreatDoorBExRecoverDisk1
/-
  The program's fault of a state.
-/
namespace Go.Proofs.YtmaillakhhdkfaaGreatDoor
set_option maxRecDepth 20000
open Go.RowKit
set_option linter.unusedSimpArgs false
set_option linter.unusedVariables false

set_option maxHeartbeats 400000 in
theorem cmpOr64S (g n c : Nat) (l : List Int) (w : World) (hl : Ints w g l) (hn : l.length = n) (hm : n ≤ 1000) :
    Calls Tryz.prog 47 #[.slice (some ⟨g, 0, none⟩) n c] w fun e w' => e = .returned (.int .i64 (orM l)) ∧ w' = w := by
  have Hn := Lib.hid hn
  clear hn
  go_enter Tryz.func47, Tryz.ntmps47
  go_wp2
  go_loopw [8] (fun i wr => OrRel w l n i wr) (fun i _ => n - (intOf i).toNat)
  case atStart => exact ⟨0, Nat.zero_le _, rfl, rfl, rfl⟩
  case round =>
    obtain ⟨k, hk, rfl, hd, rfl⟩ := hrel
    have Hd := Lib.hid hd
    clear hd
    by_cases hlt : k < n
    · have hkl : k < l.length := by rw [Hn.out]; exact hlt
      obtain ⟨x, hx⟩ : ∃ x, l[k]? = some x := ⟨l[k], List.getElem?_eq_getElem hkl⟩
      have hc := hl k x hx
      have Ho := Lib.hid (show orM (l.drop k) = if x = 0 then orM (l.drop (k + 1)) else x by
        rw [List.drop_eq_getElem_cons hkl, orM_cons]
        rw [List.getElem?_eq_getElem hkl] at hx
        rw [Option.some.inj hx])
      clear hx
      by_cases h0 : x = 0
      · subst h0
        go_wp2
        refine ⟨⟨k + 1, by omega, by go_num, ?_, rfl⟩, by simp [intOf]; omega⟩
        have := Ho.out
        rw [if_pos rfl] at this
        rw [← this]
        exact Hd.out
      · have hne : (x != 0) = true := by simpa using h0
        have Hx := Lib.hid (show orM l = x by rw [← Hd.out, Ho.out, if_neg h0])
        clear h0
        go_wp2
        go_ret
        exact ⟨by rw [Hx.out]; rfl, rfl⟩
    · obtain rfl : k = n := by omega
      have Hf := Lib.hid (show orM l = 0 by rw [← Hd.out, List.drop_eq_nil_of_le (Nat.le_of_eq Hn.out)]; rfl)
      go_wp2
      go_ret
      exact ⟨by rw [Hf.out]; rfl, rfl⟩

theorem Bnds.of_one {w : World} {g : Nat} {t : TypeId} {a lo hi : Int} (h : At w g t #[.int .i64 a, .int .i64 lo, .int .i64 hi]) : Bnds w g [(a, lo, hi)] := by
  intro k b hk
  match k, hk with
  | 0, hk =>
    obtain rfl : (a, lo, hi) = b := by simpa using hk
    exact ⟨h.cell 0, h.cell 1, h.cell 2⟩
  | k + 1, hk => simp at hk
theorem Ints.of_at {w : World} {g : Nat} {t : TypeId} {l : List Int} (h : At w g t (l.map (Value.int .i64)).toArray) : Ints w g l := fun k x hk => by
  rw [h.cell k]
  simp [hk]
theorem stateFault_or (l : List Smp) (h : List Hnt) (x : Int) : orM [storeFaultM l, hintsFaultM h, rngM [(x, 0, 60000)]] = stateFaultM (l, h, x) := by
  unfold stateFaultM orM rngM
  by_cases h1 : storeFaultM l = 0
  · by_cases h2 : hintsFaultM h = 0
    · rcases h3 : inB (x, 0, 60000) <;> simp [h1, h2, h3]
    · simp [h1, h2]
  · simp [h1]

set_option maxHeartbeats 4000000 in
theorem implStateFault (A B : Option Addr) (n c m d : Nat) (l : List Smp) (h : List Hnt) (x : Int) (w : World) (ha : Rd eS w w.heap.size A l) (hb : Rd eH w w.heap.size B h) (hn : l.length = n) (hm : h.length = m) (hF : Flds w) :
    Calls Tryz.prog 20 #[.agg #[.slice A n c, .slice B m d, .int .i64 x]] w fun e w' => e = .returned (.int .i64 (stateFaultM (l, h, x))) ∧ Below w.heap.size w w' := by
  have hB0 : Below w.heap.size w (w.alloc (.cells #[.slice A n c, .slice B m d, .int .i64 x] 39)) := (Below.refl _ _).alloc (Nat.le_refl _) _
  have x0 := At.new w 39 #[.slice A n c, .slice B m d, .int .i64 x]
  have hBd := hB0.drew
  have ha0 := ha.lift hBd
  have hb0 := hb.lift hBd
  have hF0 := hF.below hBd
  have Hn := Lib.hid hn
  have Hm := Lib.hid hm
  have HO := Lib.hid (stateFault_or l h x)
  clear hn hm ha hb hF
  obtain ⟨c0, c1, c2, _, _, _⟩ := x0.three
  go_enter Tryz.func20, Tryz.ntmps20
  go_wp2
  clear c0 c1 c2
  have x0 := x0.drew
  clear hB0
  have hB0 := hBd
  clear hBd
  refine any_start (fun u => At u w.heap.size 39 #[.slice A n c, .slice B m d, .int .i64 x]) (by kernel_rfl) x0 (fun _ => ?_)
  generalize (w.alloc (.cells #[.slice A n c, .slice B m d, .int .i64 x] 39)).drew = v0 at *
  have hs0 : w.heap.size ≤ v0.heap.size := hB0.size
  refine any_pure (v := ?_) 0 rfl (by kernel_rfl) (fun _ _ _ _ _ h => h) (by rfl) (fun u hu => ?_) x0 ?_
  rotate_left
  · obtain ⟨_, _, _, _, _, _⟩ := At.three hu
    go_simp
    (with_reducible rfl)
  (try simp only [Act.put, List.setIfInBounds_toArray, List.set_cons_zero, List.set_cons_succ])
  refine any_pure (v := ?_) 1 rfl (by kernel_rfl) (fun _ _ _ _ _ h => h) (by rfl) (fun u hu => ?_) x0 ?_
  rotate_left
  · obtain ⟨_, _, _, _, _, _⟩ := At.three hu
    go_simp
    (with_reducible rfl)
  (try simp only [Act.put, List.setIfInBounds_toArray, List.set_cons_zero, List.set_cons_succ])
  refine any_pure (v := ?_) 3 rfl (by kernel_rfl) (fun _ _ _ _ _ h => h) (by rfl) (fun u hu => ?_) x0 ?_
  rotate_left
  · obtain ⟨_, _, _, _, _, _⟩ := At.three hu
    go_simp
    (with_reducible rfl)
  (try simp only [Act.put, List.setIfInBounds_toArray, List.set_cons_zero, List.set_cons_succ])
  refine any_pure (v := ?_) 4 rfl (by kernel_rfl) (fun _ _ _ _ _ h => h) (by rfl) (fun u hu => ?_) x0 ?_
  rotate_left
  · obtain ⟨_, _, _, _, _, _⟩ := At.three hu
    go_simp
    (with_reducible rfl)
  (try simp only [Act.put, List.setIfInBounds_toArray, List.set_cons_zero, List.set_cons_succ])
  refine any_pure (v := ?_) 6 rfl (by kernel_rfl) (fun _ _ _ _ _ h => h) (by rfl) (fun u hu => ?_) x0 ?_
  rotate_left
  · obtain ⟨_, _, _, _, _, _⟩ := At.three hu
    go_simp
    (with_reducible rfl)
  (try simp only [Act.put, List.setIfInBounds_toArray, List.set_cons_zero, List.set_cons_succ])
  refine any_pure (v := ?_) 7 rfl (by kernel_rfl) (fun _ _ _ _ _ h => h) (by rfl) (fun u hu => ?_) x0 ?_
  rotate_left
  · obtain ⟨_, _, _, _, _, _⟩ := At.three hu
    go_simp
    (with_reducible rfl)
  (try simp only [Act.put, List.setIfInBounds_toArray, List.set_cons_zero, List.set_cons_succ])
  refine any_pure (v := ?_) 8 rfl (by kernel_rfl) (fun _ _ _ _ _ h => h) (by rfl) (fun u hu => ?_) x0 ?_
  rotate_left
  · obtain ⟨_, _, _, _, _, _⟩ := At.three hu
    go_simp
    (with_reducible rfl)
  (try simp only [Act.put, List.setIfInBounds_toArray, List.set_cons_zero, List.set_cons_succ])
  refine any_two 2 9 rfl rfl (by kernel_rfl) (by rfl) (by rfl) ?_ ?_
  · go_simp
    refine (implStoreFault A n c l _ ha0 Hn.out hF0).mono ?_
    rintro e w1 ⟨rfl, hb1⟩
    have hB1 := hB0.trans (hb1.mono hB0.size)
    have x1 := x0.below hb1 x0.lt
    have haq1 := ha0.lift hb1
    have hbq1 := hb0.lift hb1
    have hF1 := hF0.below hb1
    refine ⟨(fun u => At u w.heap.size 39 #[.slice A n c, .slice B m d, .int .i64 x]), fun _ h => h, x1, ?_⟩
    (try simp only [Act.put, List.setIfInBounds_toArray, List.set_cons_zero, List.set_cons_succ])
    refine any_two 5 9 rfl rfl (by kernel_rfl) (by rfl) (by rfl) ?_ ?_
    · go_simp
      refine (implHintsFault B m d h _ hbq1 Hm.out hF1).mono ?_
      rintro e w2 ⟨rfl, hb2⟩
      have hB2 := hB1.trans (hb2.mono hB1.size)
      have x2 := x1.below hb2 x1.lt
      have haq2 := haq1.lift hb2
      have hbq2 := hbq1.lift hb2
      have hF2 := hF1.below hb2
      refine ⟨(fun u => At u w.heap.size 39 #[.slice A n c, .slice B m d, .int .i64 x]), fun _ h => h, x2, ?_⟩
      (try simp only [Act.put, List.setIfInBounds_toArray, List.set_cons_zero, List.set_cons_succ])
      refine any_one 9 rfl (by kernel_rfl) (by rfl) ?_
      go_simp
      have bb3 := At.new w2 99 #[.int .i64 x, .int .i64 0, .int .i64 60000]
      have hal3 := (Below.refl w2.heap.size w2).alloc (Nat.le_refl _) (.cells #[.int .i64 x, .int .i64 0, .int .i64 60000] 99)
      have hB3 := hB2.alloc hB2.size (.cells #[.int .i64 x, .int .i64 0, .int .i64 60000] 99)
      have x3 := x2.alloc (.cells #[.int .i64 x, .int .i64 0, .int .i64 60000] 99)
      have haq3 := haq2.lift hal3
      have hbq3 := hbq2.lift hal3
      have hF3 := hF2.below hal3
      refine ⟨(fun u => At u w.heap.size 39 #[.slice A n c, .slice B m d, .int .i64 x]), fun _ h => h, x3, ?_⟩
      (try simp only [Act.put, List.setIfInBounds_toArray, List.set_cons_zero, List.set_cons_succ])
      refine any_one 10 rfl (by kernel_rfl) (by rfl) ?_
      go_simp
      refine (rangeFault _ 1 _ [(x, 0, 60000)] _ (Bnds.of_one bb3) bb3.lt rfl (by omega)).mono ?_
      rintro e w4 ⟨rfl, hb4⟩
      have hB4 := hB3.trans (hb4.mono hB3.size)
      have x4 := x3.below hb4 x3.lt
      have haq4 := haq3.lift hb4
      have hbq4 := hbq3.lift hb4
      have hF4 := hF3.below hb4
      have bb4 := bb3.below hb4 bb3.lt
      refine ⟨(fun u => At u w.heap.size 39 #[.slice A n c, .slice B m d, .int .i64 x]), fun _ h => h, x4, ?_⟩
      (try simp only [Act.put, List.setIfInBounds_toArray, List.set_cons_zero, List.set_cons_succ])
      refine any_one 11 rfl (by kernel_rfl) (by rfl) ?_
      go_simp
      have ii := At.new w4 2 #[.int .i64 (storeFaultM l), .int .i64 (hintsFaultM h), .int .i64 (rngM [(x, 0, 60000)])]
      have hal5 := (Below.refl w4.heap.size w4).alloc (Nat.le_refl _) (.cells #[.int .i64 (storeFaultM l), .int .i64 (hintsFaultM h), .int .i64 (rngM [(x, 0, 60000)])] 2)
      have hB5 := hB4.alloc hB4.size (.cells #[.int .i64 (storeFaultM l), .int .i64 (hintsFaultM h), .int .i64 (rngM [(x, 0, 60000)])] 2)
      have x5 := x4.alloc (.cells #[.int .i64 (storeFaultM l), .int .i64 (hintsFaultM h), .int .i64 (rngM [(x, 0, 60000)])] 2)
      have haq5 := haq4.lift hal5
      have hbq5 := hbq4.lift hal5
      have hF5 := hF4.below hal5
      refine ⟨(fun u => At u w.heap.size 39 #[.slice A n c, .slice B m d, .int .i64 x]), fun _ h => h, x5, ?_⟩
      (try simp only [Act.put, List.setIfInBounds_toArray, List.set_cons_zero, List.set_cons_succ])
      refine any_one 12 rfl (by kernel_rfl) (by rfl) ?_
      go_simp
      refine (cmpOr64S _ 3 _ [storeFaultM l, hintsFaultM h, rngM [(x, 0, 60000)]] _ (Ints.of_at ii) rfl (by omega)).mono ?_
      rintro e w' ⟨rfl, rfl⟩
      refine ⟨(fun u => At u w.heap.size 39 #[.slice A n c, .slice B m d, .int .i64 x]), fun _ h => h, x5, ?_⟩
      (try simp only [Act.put, List.setIfInBounds_toArray, List.set_cons_zero, List.set_cons_succ])
      refine any_pure (v := ?_) 13 rfl (by kernel_rfl) (fun _ _ _ _ _ h => h) (by rfl) (fun u hu => ?_) x5 ?_
      rotate_left
      · go_simp
        (with_reducible rfl)
      (try simp only [Act.put, List.setIfInBounds_toArray, List.set_cons_zero, List.set_cons_succ])
      refine any_done (by kernel_rfl) ?_
      go_wp2
      go_ret
      exact ⟨by rw [← HO.out]; try rfl, hB5⟩
    · go_simp
      have bb6 := At.new w1 99 #[.int .i64 x, .int .i64 0, .int .i64 60000]
      have hal6 := (Below.refl w1.heap.size w1).alloc (Nat.le_refl _) (.cells #[.int .i64 x, .int .i64 0, .int .i64 60000] 99)
      have hB6 := hB1.alloc hB1.size (.cells #[.int .i64 x, .int .i64 0, .int .i64 60000] 99)
      have x6 := x1.alloc (.cells #[.int .i64 x, .int .i64 0, .int .i64 60000] 99)
      have haq6 := haq1.lift hal6
      have hbq6 := hbq1.lift hal6
      have hF6 := hF1.below hal6
      refine ⟨(fun u => At u w.heap.size 39 #[.slice A n c, .slice B m d, .int .i64 x]), fun _ h => h, x6, ?_⟩
      (try simp only [Act.put, List.setIfInBounds_toArray, List.set_cons_zero, List.set_cons_succ])
      refine any_one 5 rfl (by kernel_rfl) (by rfl) ?_
      go_simp
      refine (implHintsFault B m d h _ hbq6 Hm.out hF6).mono ?_
      rintro e w7 ⟨rfl, hb7⟩
      have hB7 := hB6.trans (hb7.mono hB6.size)
      have x7 := x6.below hb7 x6.lt
      have haq7 := haq6.lift hb7
      have hbq7 := hbq6.lift hb7
      have hF7 := hF6.below hb7
      have bb7 := bb6.below hb7 bb6.lt
      refine ⟨(fun u => At u w.heap.size 39 #[.slice A n c, .slice B m d, .int .i64 x]), fun _ h => h, x7, ?_⟩
      (try simp only [Act.put, List.setIfInBounds_toArray, List.set_cons_zero, List.set_cons_succ])
      refine any_one 10 rfl (by kernel_rfl) (by rfl) ?_
      go_simp
      refine (rangeFault _ 1 _ [(x, 0, 60000)] _ (Bnds.of_one bb7) bb7.lt rfl (by omega)).mono ?_
      rintro e w8 ⟨rfl, hb8⟩
      have hB8 := hB7.trans (hb8.mono hB7.size)
      have x8 := x7.below hb8 x7.lt
      have haq8 := haq7.lift hb8
      have hbq8 := hbq7.lift hb8
      have hF8 := hF7.below hb8
      have bb8 := bb7.below hb8 bb7.lt
      refine ⟨(fun u => At u w.heap.size 39 #[.slice A n c, .slice B m d, .int .i64 x]), fun _ h => h, x8, ?_⟩
      (try simp only [Act.put, List.setIfInBounds_toArray, List.set_cons_zero, List.set_cons_succ])
      refine any_one 11 rfl (by kernel_rfl) (by rfl) ?_
      go_simp
      have ii := At.new w8 2 #[.int .i64 (storeFaultM l), .int .i64 (hintsFaultM h), .int .i64 (rngM [(x, 0, 60000)])]
      have hal9 := (Below.refl w8.heap.size w8).alloc (Nat.le_refl _) (.cells #[.int .i64 (storeFaultM l), .int .i64 (hintsFaultM h), .int .i64 (rngM [(x, 0, 60000)])] 2)
      have hB9 := hB8.alloc hB8.size (.cells #[.int .i64 (storeFaultM l), .int .i64 (hintsFaultM h), .int .i64 (rngM [(x, 0, 60000)])] 2)
      have x9 := x8.alloc (.cells #[.int .i64 (storeFaultM l), .int .i64 (hintsFaultM h), .int .i64 (rngM [(x, 0, 60000)])] 2)
      have haq9 := haq8.lift hal9
      have hbq9 := hbq8.lift hal9
      have hF9 := hF8.below hal9
      refine ⟨(fun u => At u w.heap.size 39 #[.slice A n c, .slice B m d, .int .i64 x]), fun _ h => h, x9, ?_⟩
      (try simp only [Act.put, List.setIfInBounds_toArray, List.set_cons_zero, List.set_cons_succ])
      refine any_one 12 rfl (by kernel_rfl) (by rfl) ?_
      go_simp
      refine (cmpOr64S _ 3 _ [storeFaultM l, hintsFaultM h, rngM [(x, 0, 60000)]] _ (Ints.of_at ii) rfl (by omega)).mono ?_
      rintro e w' ⟨rfl, rfl⟩
      refine ⟨(fun u => At u w.heap.size 39 #[.slice A n c, .slice B m d, .int .i64 x]), fun _ h => h, x9, ?_⟩
      (try simp only [Act.put, List.setIfInBounds_toArray, List.set_cons_zero, List.set_cons_succ])
      refine any_pure (v := ?_) 13 rfl (by kernel_rfl) (fun _ _ _ _ _ h => h) (by rfl) (fun u hu => ?_) x9 ?_
      rotate_left
      · go_simp
        (with_reducible rfl)
      (try simp only [Act.put, List.setIfInBounds_toArray, List.set_cons_zero, List.set_cons_succ])
      refine any_done (by kernel_rfl) ?_
      go_wp2
      go_ret
      exact ⟨by rw [← HO.out]; try rfl, hB9⟩
  · go_simp
    have bb10 := At.new v0 99 #[.int .i64 x, .int .i64 0, .int .i64 60000]
    have hal10 := (Below.refl v0.heap.size v0).alloc (Nat.le_refl _) (.cells #[.int .i64 x, .int .i64 0, .int .i64 60000] 99)
    have hB10 := hB0.alloc hB0.size (.cells #[.int .i64 x, .int .i64 0, .int .i64 60000] 99)
    have x10 := x0.alloc (.cells #[.int .i64 x, .int .i64 0, .int .i64 60000] 99)
    have haq10 := ha0.lift hal10
    have hbq10 := hb0.lift hal10
    have hF10 := hF0.below hal10
    refine ⟨(fun u => At u w.heap.size 39 #[.slice A n c, .slice B m d, .int .i64 x]), fun _ h => h, x10, ?_⟩
    (try simp only [Act.put, List.setIfInBounds_toArray, List.set_cons_zero, List.set_cons_succ])
    refine any_one 2 rfl (by kernel_rfl) (by rfl) ?_
    go_simp
    refine (implStoreFault A n c l _ haq10 Hn.out hF10).mono ?_
    rintro e w11 ⟨rfl, hb11⟩
    have hB11 := hB10.trans (hb11.mono hB10.size)
    have x11 := x10.below hb11 x10.lt
    have haq11 := haq10.lift hb11
    have hbq11 := hbq10.lift hb11
    have hF11 := hF10.below hb11
    have bb11 := bb10.below hb11 bb10.lt
    refine ⟨(fun u => At u w.heap.size 39 #[.slice A n c, .slice B m d, .int .i64 x]), fun _ h => h, x11, ?_⟩
    (try simp only [Act.put, List.setIfInBounds_toArray, List.set_cons_zero, List.set_cons_succ])
    refine any_one 5 rfl (by kernel_rfl) (by rfl) ?_
    go_simp
    refine (implHintsFault B m d h _ hbq11 Hm.out hF11).mono ?_
    rintro e w12 ⟨rfl, hb12⟩
    have hB12 := hB11.trans (hb12.mono hB11.size)
    have x12 := x11.below hb12 x11.lt
    have haq12 := haq11.lift hb12
    have hbq12 := hbq11.lift hb12
    have hF12 := hF11.below hb12
    have bb12 := bb11.below hb12 bb11.lt
    refine ⟨(fun u => At u w.heap.size 39 #[.slice A n c, .slice B m d, .int .i64 x]), fun _ h => h, x12, ?_⟩
    (try simp only [Act.put, List.setIfInBounds_toArray, List.set_cons_zero, List.set_cons_succ])
    refine any_one 10 rfl (by kernel_rfl) (by rfl) ?_
    go_simp
    refine (rangeFault _ 1 _ [(x, 0, 60000)] _ (Bnds.of_one bb12) bb12.lt rfl (by omega)).mono ?_
    rintro e w13 ⟨rfl, hb13⟩
    have hB13 := hB12.trans (hb13.mono hB12.size)
    have x13 := x12.below hb13 x12.lt
    have haq13 := haq12.lift hb13
    have hbq13 := hbq12.lift hb13
    have hF13 := hF12.below hb13
    have bb13 := bb12.below hb13 bb12.lt
    refine ⟨(fun u => At u w.heap.size 39 #[.slice A n c, .slice B m d, .int .i64 x]), fun _ h => h, x13, ?_⟩
    (try simp only [Act.put, List.setIfInBounds_toArray, List.set_cons_zero, List.set_cons_succ])
    refine any_one 11 rfl (by kernel_rfl) (by rfl) ?_
    go_simp
    have ii := At.new w13 2 #[.int .i64 (storeFaultM l), .int .i64 (hintsFaultM h), .int .i64 (rngM [(x, 0, 60000)])]
    have hal14 := (Below.refl w13.heap.size w13).alloc (Nat.le_refl _) (.cells #[.int .i64 (storeFaultM l), .int .i64 (hintsFaultM h), .int .i64 (rngM [(x, 0, 60000)])] 2)
    have hB14 := hB13.alloc hB13.size (.cells #[.int .i64 (storeFaultM l), .int .i64 (hintsFaultM h), .int .i64 (rngM [(x, 0, 60000)])] 2)
    have x14 := x13.alloc (.cells #[.int .i64 (storeFaultM l), .int .i64 (hintsFaultM h), .int .i64 (rngM [(x, 0, 60000)])] 2)
    have haq14 := haq13.lift hal14
    have hbq14 := hbq13.lift hal14
    have hF14 := hF13.below hal14
    refine ⟨(fun u => At u w.heap.size 39 #[.slice A n c, .slice B m d, .int .i64 x]), fun _ h => h, x14, ?_⟩
    (try simp only [Act.put, List.setIfInBounds_toArray, List.set_cons_zero, List.set_cons_succ])
    refine any_one 12 rfl (by kernel_rfl) (by rfl) ?_
    go_simp
    refine (cmpOr64S _ 3 _ [storeFaultM l, hintsFaultM h, rngM [(x, 0, 60000)]] _ (Ints.of_at ii) rfl (by omega)).mono ?_
    rintro e w' ⟨rfl, rfl⟩
    refine ⟨(fun u => At u w.heap.size 39 #[.slice A n c, .slice B m d, .int .i64 x]), fun _ h => h, x14, ?_⟩
    (try simp only [Act.put, List.setIfInBounds_toArray, List.set_cons_zero, List.set_cons_succ])
    refine any_pure (v := ?_) 13 rfl (by kernel_rfl) (fun _ _ _ _ _ h => h) (by rfl) (fun u hu => ?_) x14 ?_
    rotate_left
    · go_simp
      (with_reducible rfl)
    (try simp only [Act.put, List.setIfInBounds_toArray, List.set_cons_zero, List.set_cons_succ])
    refine any_done (by kernel_rfl) ?_
    go_wp2
    go_ret
    exact ⟨by rw [← HO.out]; try rfl, hB14⟩
theorem hiStateFault : ∀ (A B : Option Addr) (n c m d : Nat) (l : List Smp) (h : List Hnt) (x : Int) (W : World), Rd eS W W.heap.size A l → Rd eH W W.heap.size B h → l.length = n → h.length = m → n ≤ 1048576 → m ≤ 1048576 → Flds W → Calls Tryz.prog 20 #[.agg #[.slice A n c, .slice B m d, .int .i64 x]] W fun e W' => e = .returned (.int .i64 (stateFaultM (l, h, x))) ∧ Below W.heap.size W W' :=
  fun A B n c m d l h x W ha hb hn hm _ _ hF => implStateFault A B n c m d l h x W ha hb hn hm hF
end Go.Proofs.YtmaillakhhdkfaaGreatDoor
/-
  A record put to a state: the program's.
-/
namespace Go.Proofs.YtmaillakhhdkfaaGreatDoor
set_option maxRecDepth 20000
open Go.RowKit
set_option linter.unusedSimpArgs false
set_option linter.unusedVariables false
attribute [local irreducible] mixW

theorem or_pair (a b : Int) : orM [a, b] = if a ≠ 0 then a else b := by
  unfold orM
  by_cases h1 : a = 0
  · by_cases h2 : b = 0 <;> simp [h1, h2]
  · simp [h1]
theorem apply_or {s : Sta} {r : Rcd} (h : orM [stateFaultM s, recFaultM r] ≠ 0) : applyM s r = (orM [stateFaultM s, recFaultM r], zeroSta) := by
  rw [or_pair] at h ⊢
  unfold applyM
  by_cases h1 : stateFaultM s = 0
  · have e : (if stateFaultM s ≠ 0 then stateFaultM s else recFaultM r) = recFaultM r := if_neg (by simp [h1])
    rw [e] at h ⊢
    rw [if_neg (show ¬ stateFaultM s ≠ 0 by simp [h1]), if_pos h]
  · have e : (if stateFaultM s ≠ 0 then stateFaultM s else recFaultM r) = stateFaultM s := if_pos h1
    rw [e, if_pos h1]
theorem apply_none {s : Sta} {r : Rcd} (h : orM [stateFaultM s, recFaultM r] = 0) : stateFaultM s = 0 ∧ recFaultM r = 0 := by
  rw [or_pair] at h
  by_cases h1 : stateFaultM s = 0
  · rw [if_neg (by simp [h1])] at h
    exact ⟨h1, h⟩
  · rw [if_pos h1] at h
    exact absurd h h1
set_option maxHeartbeats 8000000 in
theorem implApplyRecord (A B : Option Addr) (n c m d : Nat) (l : List Smp) (h : List Hnt) (x a0 a1 a2 a3 a4 a5 a6 : Int) (w : World) (ha : Rd eS w w.heap.size A l) (hb : Rd eH w w.heap.size B h) (hn : l.length = n) (hm : h.length = m) (hF : Flds w) :
    Calls Tryz.prog 12 #[.agg #[.slice A n c, .slice B m d, .int .i64 x], .agg #[.int .i64 a0, .int .i64 a1, .int .i64 a2, .int .i64 a3, .int .i64 a4, .int .i64 a5, .int .i64 a6]] w (RetSta (applyM (l, h, x) (a0, a1, (a2, a3, a4, a5), a6)) w) := by
  have hB0 : Below w.heap.size w (((w.alloc (.cells #[.slice A n c, .slice B m d, .int .i64 x] 39)).alloc (.cells #[.int .i64 a0, .int .i64 a1, .int .i64 a2, .int .i64 a3, .int .i64 a4, .int .i64 a5, .int .i64 a6] 27)).alloc (.cells #[.int .i64 0, .slice none 0 0, .slice none 0 0, .int .i64 0] 43)) := (((Below.refl _ _).alloc (Nat.le_refl _) _).alloc (by simp) _).alloc (by simp; omega) _
  have sx := ((At.new w 39 #[.slice A n c, .slice B m d, .int .i64 x]).alloc (.cells #[.int .i64 a0, .int .i64 a1, .int .i64 a2, .int .i64 a3, .int .i64 a4, .int .i64 a5, .int .i64 a6] 27)).alloc (.cells #[.int .i64 0, .slice none 0 0, .slice none 0 0, .int .i64 0] 43)
  have rx : At (((w.alloc (.cells #[.slice A n c, .slice B m d, .int .i64 x] 39)).alloc (.cells #[.int .i64 a0, .int .i64 a1, .int .i64 a2, .int .i64 a3, .int .i64 a4, .int .i64 a5, .int .i64 a6] 27)).alloc (.cells #[.int .i64 0, .slice none 0 0, .slice none 0 0, .int .i64 0] 43)) (w.heap.size + 1) 27 #[.int .i64 a0, .int .i64 a1, .int .i64 a2, .int .i64 a3, .int .i64 a4, .int .i64 a5, .int .i64 a6] := by
    have := (At.new (w.alloc (.cells #[.slice A n c, .slice B m d, .int .i64 x] 39)) 27 #[.int .i64 a0, .int .i64 a1, .int .i64 a2, .int .i64 a3, .int .i64 a4, .int .i64 a5, .int .i64 a6]).alloc (.cells #[.int .i64 0, .slice none 0 0, .slice none 0 0, .int .i64 0] 43)
    simpa using this
  have zx : At (((w.alloc (.cells #[.slice A n c, .slice B m d, .int .i64 x] 39)).alloc (.cells #[.int .i64 a0, .int .i64 a1, .int .i64 a2, .int .i64 a3, .int .i64 a4, .int .i64 a5, .int .i64 a6] 27)).alloc (.cells #[.int .i64 0, .slice none 0 0, .slice none 0 0, .int .i64 0] 43)) (w.heap.size + 2) 43 #[.int .i64 0, .slice none 0 0, .slice none 0 0, .int .i64 0] := by
    have := At.new ((w.alloc (.cells #[.slice A n c, .slice B m d, .int .i64 x] 39)).alloc (.cells #[.int .i64 a0, .int .i64 a1, .int .i64 a2, .int .i64 a3, .int .i64 a4, .int .i64 a5, .int .i64 a6] 27)) 43 #[.int .i64 0, .slice none 0 0, .slice none 0 0, .int .i64 0]
    simpa using this
  have hBd := hB0.drew
  have s0 : At2 (((w.alloc (.cells #[.slice A n c, .slice B m d, .int .i64 x] 39)).alloc (.cells #[.int .i64 a0, .int .i64 a1, .int .i64 a2, .int .i64 a3, .int .i64 a4, .int .i64 a5, .int .i64 a6] 27)).alloc (.cells #[.int .i64 0, .slice none 0 0, .slice none 0 0, .int .i64 0] 43)).drew w.heap.size 39 #[.slice A n c, .slice B m d, .int .i64 x] (w.heap.size + 1) 27 #[.int .i64 a0, .int .i64 a1, .int .i64 a2, .int .i64 a3, .int .i64 a4, .int .i64 a5, .int .i64 a6] := ⟨sx.drew, rx.drew⟩
  have z0 : At (((w.alloc (.cells #[.slice A n c, .slice B m d, .int .i64 x] 39)).alloc (.cells #[.int .i64 a0, .int .i64 a1, .int .i64 a2, .int .i64 a3, .int .i64 a4, .int .i64 a5, .int .i64 a6] 27)).alloc (.cells #[.int .i64 0, .slice none 0 0, .slice none 0 0, .int .i64 0] 43)).drew (w.heap.size + 2) 43 #[.int .i64 0, .slice none 0 0, .slice none 0 0, .int .i64 0] := zx.drew
  have ha0 := ha.lift hBd
  have hb0 := hb.lift hBd
  have hF0 := hF.below hBd
  have Hn := Lib.hid hn
  have Hm := Lib.hid hm
  have SF := fun W h1 h2 h3 => implStateFault A B n c m d l h x W h1 h2 hn hm h3
  have RF := fun W h3 => implRecordFault a0 a1 a2 a3 a4 a5 a6 W h3
  have Hyes := Lib.hid (apply_or (s := (l, h, x)) (r := (a0, a1, (a2, a3, a4, a5), a6)))
  have Hno := Lib.hid (apply_none (s := (l, h, x)) (r := (a0, a1, (a2, a3, a4, a5), a6)))
  have Hright := Lib.hid (apply_right (s := (l, h, x)) (r := (a0, a1, (a2, a3, a4, a5), a6)))
  have Hf0 : recFaultM (a0, a1, (a2, a3, a4, a5), a6) = 0 → recFormM (a0, a1, (a2, a3, a4, a5), a6) = true := fun q => by
    rcases hf : recFormM (a0, a1, (a2, a3, a4, a5), a6)
    · rw [recFault_form hf] at q; cases q
    · rfl
  have Hbig : stateFaultM (l, h, x) = 0 → n ≤ 1000 ∧ m ≤ 1000 := fun q => by
    obtain ⟨q1, q2, -⟩ := (stateFault_iff (l, h, x)).1 q
    have h1 := ((storeFault_iff l).1 q1).1
    have h2 := ((hintsFault_iff h).1 q2).1
    rw [hn] at h1
    rw [hm] at h2
    omega
  have Hbig := Lib.hid Hbig
  have Hf0 := Lib.hid Hf0
  generalize hsf : stateFaultM (l, h, x) = sf at *
  generalize hrf : recFaultM (a0, a1, (a2, a3, a4, a5), a6) = rf at *
  clear hn hm ha hb hF hsf hrf hB0 sx rx zx
  go_enter Tryz.func12, Tryz.ntmps12
  go_wp2
  refine wp_region_mix [(0, false), (2, false), (1, true), (3, true), (4, true), (5, true), (6, false)] (fun u => At2 u w.heap.size 39 #[.slice A n c, .slice B m d, .int .i64 x] (w.heap.size + 1) 27 #[.int .i64 a0, .int .i64 a1, .int .i64 a2, .int .i64 a3, .int .i64 a4, .int .i64 a5, .int .i64 a6]) (by kernel_rfl) (by kernel_rfl) (fun _ _ _ _ _ h => h) s0 ?_
  simp only [mixOps, List.map_cons, List.map_nil, List.getElem?_cons_succ, List.getElem?_cons_zero, Option.getD_some]
  repeat (first
    | (refine mix_skip (by rfl) ?_
       (try simp only [Act.put, List.setIfInBounds_toArray, List.set_cons_zero, List.set_cons_succ]))
    | (refine mix_pure (v := ?_) (by rfl) (fun u hu => ?_) ?_
       rotate_left
       · (obtain ⟨hu1, hu2⟩ := hu; obtain ⟨_, _, _, _, _, _⟩ := At.three hu1; obtain ⟨_, _, _, _, _, _, _⟩ := At.seven hu2)
         go_simp
         (with_reducible rfl)
       (try simp only [Act.put, List.setIfInBounds_toArray, List.set_cons_zero, List.set_cons_succ])))
  generalize (((w.alloc (.cells #[.slice A n c, .slice B m d, .int .i64 x] 39)).alloc (.cells #[.int .i64 a0, .int .i64 a1, .int .i64 a2, .int .i64 a3, .int .i64 a4, .int .i64 a5, .int .i64 a6] 27)).alloc (.cells #[.int .i64 0, .slice none 0 0, .slice none 0 0, .int .i64 0] 43)).drew = v0 at *
  refine mix_call (by rfl) (fun K hK => ?_)
  go_simp
  refine (SF _ ha0 hb0 hF0).mono ?_
  rintro e w1 ⟨rfl, hb1⟩
  have hB1 := hBd.trans (hb1.mono hBd.size)
  have s1 := s0.below hb1 s0.lt
  have z1 := z0.below hb1 z0.lt
  have ha1 := ha0.lift hb1
  have hb_1 := hb0.lift hb1
  have hF1 := hF0.below hb1
  refine hK _ _ (fun u => At2 u w.heap.size 39 #[.slice A n c, .slice B m d, .int .i64 x] (w.heap.size + 1) 27 #[.int .i64 a0, .int .i64 a1, .int .i64 a2, .int .i64 a3, .int .i64 a4, .int .i64 a5, .int .i64 a6]) (fun _ h => h) s1 ?_
  clear hK K
  (try simp only [Act.put, List.setIfInBounds_toArray, List.set_cons_zero, List.set_cons_succ])
  refine mix_call (by rfl) (fun K hK => ?_)
  go_simp
  refine (RF _ hF1).mono ?_
  rintro e w2 ⟨rfl, hb2⟩
  have hB2 := hB1.trans (hb2.mono hB1.size)
  have s2 := s1.below hb2 s1.lt
  have z2 := z1.below hb2 z1.lt
  have ha2 := ha1.lift hb2
  have hb_2 := hb_1.lift hb2
  have hF2 := hF1.below hb2
  refine hK _ _ (fun u => At2 u w.heap.size 39 #[.slice A n c, .slice B m d, .int .i64 x] (w.heap.size + 1) 27 #[.int .i64 a0, .int .i64 a1, .int .i64 a2, .int .i64 a3, .int .i64 a4, .int .i64 a5, .int .i64 a6]) (fun _ h => h) s2 ?_
  clear hK K
  (try simp only [Act.put, List.setIfInBounds_toArray, List.set_cons_zero, List.set_cons_succ])
  refine mix_call (by rfl) (fun K hK => ?_)
  go_simp
  have al3 := (Below.refl w2.heap.size w2).alloc (Nat.le_refl _) (.cells #[.int .i64 sf, .int .i64 rf] 2)
  have ii := At.new w2 2 #[.int .i64 sf, .int .i64 rf]
  have hB3 := hB2.alloc hB2.size (.cells #[.int .i64 sf, .int .i64 rf] 2)
  have s3 := s2.alloc (.cells #[.int .i64 sf, .int .i64 rf] 2)
  have z3 := z2.alloc (.cells #[.int .i64 sf, .int .i64 rf] 2)
  have ha3 := ha2.lift al3
  have hb_3 := hb_2.lift al3
  have hF3 := hF2.below al3
  have CO := cmpOr64S w2.heap.size 2 2 [sf, rf] _ (Ints.of_at ii) rfl (by omega)
  refine hK _ _ (fun u => At2 u w.heap.size 39 #[.slice A n c, .slice B m d, .int .i64 x] (w.heap.size + 1) 27 #[.int .i64 a0, .int .i64 a1, .int .i64 a2, .int .i64 a3, .int .i64 a4, .int .i64 a5, .int .i64 a6]) (fun _ h => h) s3 ?_
  clear hK K al3
  (try simp only [Act.put, List.setIfInBounds_toArray, List.set_cons_zero, List.set_cons_succ])
  refine mix_call (by rfl) (fun K hK => ?_)
  go_simp
  refine CO.mono ?_
  rintro e w' ⟨rfl, rfl⟩
  refine hK _ _ (fun u => At2 u w.heap.size 39 #[.slice A n c, .slice B m d, .int .i64 x] (w.heap.size + 1) 27 #[.int .i64 a0, .int .i64 a1, .int .i64 a2, .int .i64 a3, .int .i64 a4, .int .i64 a5, .int .i64 a6]) (fun _ h => h) s3 ?_
  clear hK K CO ii
  (try simp only [Act.put, List.setIfInBounds_toArray, List.set_cons_zero, List.set_cons_succ])
  refine mix_pure (v := ?_) (by rfl) (fun u hu => ?_) ?_
  rotate_left
  · go_simp
    (with_reducible rfl)
  (try simp only [Act.put, List.setIfInBounds_toArray, List.set_cons_zero, List.set_cons_succ])
  refine mix_nil ?_
  generalize (w2.alloc (.cells #[.int .i64 sf, .int .i64 rf] 2)) = v3 at *
  have lz3 := z3.lt
  generalize hor : orM [sf, rf] = fo at *
  by_cases hfo : fo = 0
  rotate_left
  · have hne : (fo != 0) = true := by rw [bne_iff_ne]; exact hfo
    have Hr := Lib.hid (Hyes.out hfo)
    obtain ⟨zc0, zc1, zc2, zc3, zf0, zf1, zf2, zf3⟩ := z3.four
    clear hfo
    go_wp2
    refine bodyPost_ret (v := .agg #[.int .i64 fo, .slice none 0 0, .slice none 0 0, .int .i64 0]) (by simp [results, Tryz.results12, go_sem, zc0, zc1, zc2, zc3]) rfl ?_
    rw [Hr.out]
    exact retSta_zero ((((hB3.setCell (by simp; omega) _).setCell (by simp; omega) _).setCell (by simp; omega) _).setCell (by simp; omega) _)
  subst hfo
  obtain ⟨e1, e2⟩ := Hno.out rfl
  have hbg := Hbig.out e1
  have hn3 := hbg.1
  have hm3 := hbg.2
  have hform := Lib.hid (Hf0.out e2)
  have Hr := Lib.hid (Hright.out e1 e2)
  clear Hno Hyes Hright Hbig Hf0 e1 e2 hor hbg
  rcases hq : stepR (l, h, x) (a0, a1, (a2, a3, a4, a5), a6) with ⟨tc, tl, th, tx⟩
  rw [hq] at Hr
  have AE := fun base A B n c m d W o1 o2 hbase hn1 hFW => applyEntry base A B n c m d l h x a0 a1 a2 a3 a4 a5 a6 W o1 o2 hbase hn1 hFW hform.out
  rw [hq] at AE
  clear hq
  by_cases htc : tc = 0
  · subst htc
    have AE0 : ∀ (base : Nat) (A B : Option Addr) (n c m d : Nat) (W : World), Ow eS W base A n c l → Ow eH W base B m d h → base ≤ W.heap.size → n ≤ 1048576 → Flds W → Calls Tryz.prog 48 #[.agg #[.slice A n c, .slice B m d, .int .i64 x], entV (a0, a1, (a2, a3, a4, a5), a6)] W fun e W' => ∃ A n c B m d, e = .returned (.tuple #[.agg #[.slice A n c, .slice B m d, .int .i64 tx], .int .i64 0]) ∧ Ow eS W' base A n c tl ∧ Ow eH W' base B m d th ∧ Below W.heap.size W W' := fun base A B n c m d W o1 o2 hbase hn1 hFW => (AE base A B n c m d W o1 o2 hbase hn1 hFW).mono fun e W' ⟨A', n', c', B', m', d', y, he, hi, hb⟩ => by
      obtain ⟨p1, p2, p3⟩ := hi rfl
      exact ⟨A', n', c', B', m', d', by rw [he]; show Ending.returned (.tuple #[.agg #[.slice A' n' c', .slice B' m' d', .int .i64 y], .int .i64 0]) = _; rw [show y = tx from p3], p1, p2, hb⟩
    clear AE
    go_upto_region 4 with fail
    go_cut [6, 7] (fun s t wx => ∃ gx A5 n5 c5 B5 m5 d5, s = .pointer (some ⟨gx, 0, none⟩) ∧ t = .int .i64 0 ∧ At wx gx 39 #[.slice A5 n5 c5, .slice B5 m5 d5, .int .i64 tx] ∧ Ow eS wx v3.heap.size A5 n5 c5 tl ∧ Ow eH wx v3.heap.size B5 m5 d5 th ∧ Below v3.heap.size v3 wx)
    case first =>
      refine any_start (fun u => At2 u w.heap.size 39 #[.slice A n c, .slice B m d, .int .i64 x] (w.heap.size + 1) 27 #[.int .i64 a0, .int .i64 a1, .int .i64 a2, .int .i64 a3, .int .i64 a4, .int .i64 a5, .int .i64 a6]) (by kernel_rfl) s3.drew (fun _ => ?_)
      have bxd := s3.drew
      have hBd := (Below.refl v3.heap.size v3).drew
      have ha3d : _ := ha3.lift ((Below.refl _ _).drew)
      have hb_3d : _ := hb_3.lift ((Below.refl _ _).drew)
      have hF3d := hF3.below ((Below.refl _ _).drew)
      refine any_pure (v := ?_) 0 rfl (by kernel_rfl) (fun _ _ _ _ _ h => h) (by rfl) (fun u hu => ?_) bxd ?_
      rotate_left
      · (obtain ⟨hu1, hu2⟩ := hu; obtain ⟨_, _, _, _, _, _⟩ := At.three hu1; obtain ⟨_, _, _, _, _, _, _⟩ := At.seven hu2)
        go_simp
        (with_reducible rfl)
      (try simp only [Act.put, List.setIfInBounds_toArray, List.set_cons_zero, List.set_cons_succ])
      refine any_pure (v := ?_) 2 rfl (by kernel_rfl) (fun _ _ _ _ _ h => h) (by rfl) (fun u hu => ?_) bxd ?_
      rotate_left
      · (obtain ⟨hu1, hu2⟩ := hu; obtain ⟨_, _, _, _, _, _⟩ := At.three hu1; obtain ⟨_, _, _, _, _, _, _⟩ := At.seven hu2)
        go_simp
        (with_reducible rfl)
      (try simp only [Act.put, List.setIfInBounds_toArray, List.set_cons_zero, List.set_cons_succ])
      refine any_two 1 8 rfl rfl (by kernel_rfl) (by rfl) (by rfl) ?_ ?_
      · go_simp
        refine (copyState A B n c m d l h x _ ha3d hb_3d Hn.out Hm.out hn3 hm3).mono ?_
        rintro e w101 ⟨A101, c101, B101, d101, rfl, ca101, cb101, hb101⟩
        have hB101 := hBd.trans (hb101.mono hBd.size)
        have bx101 := bxd.below hb101 bxd.lt
        have ha3_101 := ha3d.lift hb101
        have hb_3_101 := hb_3d.lift hb101
        have hF3_101 := hF3d.below hb101
        refine ⟨(fun u => At2 u w.heap.size 39 #[.slice A n c, .slice B m d, .int .i64 x] (w.heap.size + 1) 27 #[.int .i64 a0, .int .i64 a1, .int .i64 a2, .int .i64 a3, .int .i64 a4, .int .i64 a5, .int .i64 a6]), fun _ h => h, bx101, ?_⟩
        (try simp only [Act.put, List.setIfInBounds_toArray, List.set_cons_zero, List.set_cons_succ])
        refine any_two 3 8 rfl rfl (by kernel_rfl) (by rfl) (by rfl) ?_ ?_
        · go_simp
          refine (entryOf a0 a1 a2 a3 a4 a5 a6 _).mono ?_
          rintro e w102 ⟨rfl, hb102⟩
          have hB102 := hB101.trans (hb102.mono hB101.size)
          have bx102 := bx101.below hb102 bx101.lt
          have ca_102 := ca101.below hb102 (Nat.le_refl _)
          have cb_102 := cb101.below hb102 (Nat.le_refl _)
          have ha3_102 := ha3_101.lift hb102
          have hb_3_102 := hb_3_101.lift hb102
          have hF3_102 := hF3_101.below hb102
          refine ⟨(fun u => At2 u w.heap.size 39 #[.slice A n c, .slice B m d, .int .i64 x] (w.heap.size + 1) 27 #[.int .i64 a0, .int .i64 a1, .int .i64 a2, .int .i64 a3, .int .i64 a4, .int .i64 a5, .int .i64 a6]), fun _ h => h, bx102, ?_⟩
          (try simp only [Act.put, List.setIfInBounds_toArray, List.set_cons_zero, List.set_cons_succ])
          refine any_two 4 8 rfl rfl (by kernel_rfl) (by rfl) (by rfl) ?_ ?_
          · go_simp
            refine (AE0 v3.heap.size A101 B101 n c101 m d101 _ (ca_102.from_ hBd.size) (cb_102.from_ hBd.size) hB102.size (by omega) hF3_102).mono ?_
            rintro e w103 ⟨A103, n103, c103, B103, m103, d103, rfl, oa103, ob103, hb103⟩
            have hB103 := hB102.trans (hb103.mono hB102.size)
            have bx103 := bx102.below hb103 bx102.lt
            have ca_103 := ca_102.below hb103 (Nat.le_refl _)
            have cb_103 := cb_102.below hb103 (Nat.le_refl _)
            have ha3_103 := ha3_102.lift hb103
            have hb_3_103 := hb_3_102.lift hb103
            have hF3_103 := hF3_102.below hb103
            refine ⟨(fun u => At2 u w.heap.size 39 #[.slice A n c, .slice B m d, .int .i64 x] (w.heap.size + 1) 27 #[.int .i64 a0, .int .i64 a1, .int .i64 a2, .int .i64 a3, .int .i64 a4, .int .i64 a5, .int .i64 a6]), fun _ h => h, bx103, ?_⟩
            (try simp only [Act.put, List.setIfInBounds_toArray, List.set_cons_zero, List.set_cons_succ])
            refine any_pure (v := ?_) 5 rfl (by kernel_rfl) (fun _ _ _ _ _ h => h) (by rfl) (fun u hu => ?_) bx103 ?_
            rotate_left
            · skip
              go_simp
              (with_reducible rfl)
            (try simp only [Act.put, List.setIfInBounds_toArray, List.set_cons_zero, List.set_cons_succ])
            refine any_pure (v := ?_) 6 rfl (by kernel_rfl) (fun _ _ _ _ _ h => h) (by rfl) (fun u hu => ?_) bx103 ?_
            rotate_left
            · skip
              go_simp
              (with_reducible rfl)
            (try simp only [Act.put, List.setIfInBounds_toArray, List.set_cons_zero, List.set_cons_succ])
            refine any_pure (v := ?_) 7 rfl (by kernel_rfl) (fun _ _ _ _ _ h => h) (by rfl) (fun u hu => ?_) bx103 ?_
            rotate_left
            · skip
              go_simp
              (with_reducible rfl)
            (try simp only [Act.put, List.setIfInBounds_toArray, List.set_cons_zero, List.set_cons_succ])
            refine any_one 8 rfl (by kernel_rfl) (by rfl) ?_
            go_simp
            have ag104 := At.newAt' (w := w103) (t := 39) (cs := #[.slice none 0 0, .slice none 0 0, .int .i64 0]) (show w103.heap.size = w103.heap.size by first | rfl | simp)
            have gl104 : v3.heap.size ≤ w103.heap.size := by first | exact hB103.size | exact Nat.le_refl _ | (have := hB103.size; simp at this ⊢; try omega)
            have hal104 := (Below.refl w103.heap.size w103).alloc (Nat.le_refl _) (.cells #[.slice none 0 0, .slice none 0 0, .int .i64 0] 39)
            have hB104 := hB103.alloc hB103.size (.cells #[.slice none 0 0, .slice none 0 0, .int .i64 0] 39)
            have bx104 := bx103.alloc (.cells #[.slice none 0 0, .slice none 0 0, .int .i64 0] 39)
            have ca_104 := ca_103.alloc (.cells #[.slice none 0 0, .slice none 0 0, .int .i64 0] 39)
            have cb_104 := cb_103.alloc (.cells #[.slice none 0 0, .slice none 0 0, .int .i64 0] 39)
            have oa_104 := oa103.alloc (.cells #[.slice none 0 0, .slice none 0 0, .int .i64 0] 39)
            have ob_104 := ob103.alloc (.cells #[.slice none 0 0, .slice none 0 0, .int .i64 0] 39)
            have ha3_104 := ha3_103.lift hal104
            have hb_3_104 := hb_3_103.lift hal104
            have hF3_104 := hF3_103.below hal104
            refine ⟨(fun u => At2 u w.heap.size 39 #[.slice A n c, .slice B m d, .int .i64 x] (w.heap.size + 1) 27 #[.int .i64 a0, .int .i64 a1, .int .i64 a2, .int .i64 a3, .int .i64 a4, .int .i64 a5, .int .i64 a6]), fun _ h => h, bx104, ?_⟩
            (try simp only [Act.put, List.setIfInBounds_toArray, List.set_cons_zero, List.set_cons_succ])
            refine any_one 9 rfl (by kernel_rfl) (by rfl) ?_
            go_simp
            have AG105 := At.newAt' (w := w103) (t := 39) (cs := #[.slice A103 n103 c103, .slice B103 m103 d103, .int .i64 tx]) (show w103.heap.size = w103.heap.size by first | rfl | simp)
            have hal105 := (Below.refl w103.heap.size w103).alloc (Nat.le_refl _) (.cells #[.slice A103 n103 c103, .slice B103 m103 d103, .int .i64 tx] 39)
            have hB105 := hB103.alloc hB103.size (.cells #[.slice A103 n103 c103, .slice B103 m103 d103, .int .i64 tx] 39)
            have bx105 := bx103.alloc (.cells #[.slice A103 n103 c103, .slice B103 m103 d103, .int .i64 tx] 39)
            have ca_105 := ca_103.alloc (.cells #[.slice A103 n103 c103, .slice B103 m103 d103, .int .i64 tx] 39)
            have cb_105 := cb_103.alloc (.cells #[.slice A103 n103 c103, .slice B103 m103 d103, .int .i64 tx] 39)
            have oa_105 := oa103.alloc (.cells #[.slice A103 n103 c103, .slice B103 m103 d103, .int .i64 tx] 39)
            have ob_105 := ob103.alloc (.cells #[.slice A103 n103 c103, .slice B103 m103 d103, .int .i64 tx] 39)
            have ha3_105 := ha3_103.lift hal105
            have hb_3_105 := hb_3_103.lift hal105
            have hF3_105 := hF3_103.below hal105
            refine ⟨(fun u => At2 u w.heap.size 39 #[.slice A n c, .slice B m d, .int .i64 x] (w.heap.size + 1) 27 #[.int .i64 a0, .int .i64 a1, .int .i64 a2, .int .i64 a3, .int .i64 a4, .int .i64 a5, .int .i64 a6]), fun _ h => h, bx105, ?_⟩
            (try simp only [Act.put, List.setIfInBounds_toArray, List.set_cons_zero, List.set_cons_succ])
            refine any_pure (v := ?_) 10 rfl (by kernel_rfl) (fun _ _ _ _ _ h => h) (by rfl) (fun u hu => ?_) bx105 ?_
            rotate_left
            · skip
              go_simp
              (with_reducible rfl)
            (try simp only [Act.put, List.setIfInBounds_toArray, List.set_cons_zero, List.set_cons_succ])
            refine any_done (by kernel_rfl) ?_
            go_wp2
            go_meet
            exact ⟨_, _, _, _, _, _, _, rfl, rfl, AG105, oa_105, ob_105, hB105⟩
          · go_simp
            have ag106 := At.newAt' (w := w102) (t := 39) (cs := #[.slice none 0 0, .slice none 0 0, .int .i64 0]) (show w102.heap.size = w102.heap.size by first | rfl | simp)
            have gl106 : v3.heap.size ≤ w102.heap.size := by first | exact hB102.size | exact Nat.le_refl _ | (have := hB102.size; simp at this ⊢; try omega)
            have hal106 := (Below.refl w102.heap.size w102).alloc (Nat.le_refl _) (.cells #[.slice none 0 0, .slice none 0 0, .int .i64 0] 39)
            have hB106 := hB102.alloc hB102.size (.cells #[.slice none 0 0, .slice none 0 0, .int .i64 0] 39)
            have bx106 := bx102.alloc (.cells #[.slice none 0 0, .slice none 0 0, .int .i64 0] 39)
            have ca_106 := ca_102.alloc (.cells #[.slice none 0 0, .slice none 0 0, .int .i64 0] 39)
            have cb_106 := cb_102.alloc (.cells #[.slice none 0 0, .slice none 0 0, .int .i64 0] 39)
            have ha3_106 := ha3_102.lift hal106
            have hb_3_106 := hb_3_102.lift hal106
            have hF3_106 := hF3_102.below hal106
            refine ⟨(fun u => At2 u w.heap.size 39 #[.slice A n c, .slice B m d, .int .i64 x] (w.heap.size + 1) 27 #[.int .i64 a0, .int .i64 a1, .int .i64 a2, .int .i64 a3, .int .i64 a4, .int .i64 a5, .int .i64 a6]), fun _ h => h, bx106, ?_⟩
            (try simp only [Act.put, List.setIfInBounds_toArray, List.set_cons_zero, List.set_cons_succ])
            refine any_one 4 rfl (by kernel_rfl) (by rfl) ?_
            go_simp
            refine (AE0 v3.heap.size A101 B101 n c101 m d101 _ (ca_106.from_ hBd.size) (cb_106.from_ hBd.size) hB106.size (by omega) hF3_106).mono ?_
            rintro e w107 ⟨A107, n107, c107, B107, m107, d107, rfl, oa107, ob107, hb107⟩
            have hB107 := hB106.trans (hb107.mono hB106.size)
            have bx107 := bx106.below hb107 bx106.lt
            have ag_107 := ag106.below hb107 ag106.lt
            have ca_107 := ca_106.below hb107 (Nat.le_refl _)
            have cb_107 := cb_106.below hb107 (Nat.le_refl _)
            have ha3_107 := ha3_106.lift hb107
            have hb_3_107 := hb_3_106.lift hb107
            have hF3_107 := hF3_106.below hb107
            refine ⟨(fun u => At2 u w.heap.size 39 #[.slice A n c, .slice B m d, .int .i64 x] (w.heap.size + 1) 27 #[.int .i64 a0, .int .i64 a1, .int .i64 a2, .int .i64 a3, .int .i64 a4, .int .i64 a5, .int .i64 a6]), fun _ h => h, bx107, ?_⟩
            (try simp only [Act.put, List.setIfInBounds_toArray, List.set_cons_zero, List.set_cons_succ])
            refine any_pure (v := ?_) 5 rfl (by kernel_rfl) (fun _ _ _ _ _ h => h) (by rfl) (fun u hu => ?_) bx107 ?_
            rotate_left
            · skip
              go_simp
              (with_reducible rfl)
            (try simp only [Act.put, List.setIfInBounds_toArray, List.set_cons_zero, List.set_cons_succ])
            refine any_pure (v := ?_) 6 rfl (by kernel_rfl) (fun _ _ _ _ _ h => h) (by rfl) (fun u hu => ?_) bx107 ?_
            rotate_left
            · skip
              go_simp
              (with_reducible rfl)
            (try simp only [Act.put, List.setIfInBounds_toArray, List.set_cons_zero, List.set_cons_succ])
            refine any_pure (v := ?_) 7 rfl (by kernel_rfl) (fun _ _ _ _ _ h => h) (by rfl) (fun u hu => ?_) bx107 ?_
            rotate_left
            · skip
              go_simp
              (with_reducible rfl)
            (try simp only [Act.put, List.setIfInBounds_toArray, List.set_cons_zero, List.set_cons_succ])
            refine any_one 9 rfl (by kernel_rfl) (by rfl) ?_
            obtain ⟨k0, k1, k2, k3, k4, k5⟩ := ag_107.three
            go_simp
            have hltg108 : w102.heap.size < w107.heap.size := ag_107.lt
            have AG108 : At (((w107.setCell ⟨w102.heap.size, 0, none⟩ (.slice A107 n107 c107)).setCell ⟨w102.heap.size, 1, none⟩ (.slice B107 m107 d107)).setCell ⟨w102.heap.size, 2, none⟩ (.int .i64 tx)) w102.heap.size 39 #[.slice A107 n107 c107, .slice B107 m107 d107, .int .i64 tx] := (((ag_107.set 0 (.slice A107 n107 c107)).set 1 (.slice B107 m107 d107)).set 2 (.int .i64 tx))
            have bx108 := (((bx107.far (p := ⟨w102.heap.size, 0, none⟩) (by show w.heap.size ≠ w102.heap.size ∧ w.heap.size + 1 ≠ w102.heap.size; have := gl106; omega) (.slice A107 n107 c107)).far (p := ⟨w102.heap.size, 1, none⟩) (by show w.heap.size ≠ w102.heap.size ∧ w.heap.size + 1 ≠ w102.heap.size; have := gl106; omega) (.slice B107 m107 d107)).far (p := ⟨w102.heap.size, 2, none⟩) (by show w.heap.size ≠ w102.heap.size ∧ w.heap.size + 1 ≠ w102.heap.size; have := gl106; omega) (.int .i64 tx))
            have hB108 := (((hB107.setCell (p := ⟨w102.heap.size, 0, none⟩) gl106 (.slice A107 n107 c107)).setCell (p := ⟨w102.heap.size, 1, none⟩) gl106 (.slice B107 m107 d107)).setCell (p := ⟨w102.heap.size, 2, none⟩) gl106 (.int .i64 tx))
            have oa_108 := oa107
            have oa_108 := oa_108.apart (by decide) ag_107 0 (.slice A107 n107 c107)
            have oa_108 := oa_108.apart (by decide) ((ag_107.set 0 (.slice A107 n107 c107))) 1 (.slice B107 m107 d107)
            have oa_108 := oa_108.apart (by decide) (((ag_107.set 0 (.slice A107 n107 c107)).set 1 (.slice B107 m107 d107))) 2 (.int .i64 tx)
            have ob_108 := ob107
            have ob_108 := ob_108.apart (by decide) ag_107 0 (.slice A107 n107 c107)
            have ob_108 := ob_108.apart (by decide) ((ag_107.set 0 (.slice A107 n107 c107))) 1 (.slice B107 m107 d107)
            have ob_108 := ob_108.apart (by decide) (((ag_107.set 0 (.slice A107 n107 c107)).set 1 (.slice B107 m107 d107))) 2 (.int .i64 tx)
            refine ⟨(fun u => At2 u w.heap.size 39 #[.slice A n c, .slice B m d, .int .i64 x] (w.heap.size + 1) 27 #[.int .i64 a0, .int .i64 a1, .int .i64 a2, .int .i64 a3, .int .i64 a4, .int .i64 a5, .int .i64 a6]), fun _ h => h, bx108, ?_⟩
            (try simp only [Act.put, List.setIfInBounds_toArray, List.set_cons_zero, List.set_cons_succ])
            refine any_pure (v := ?_) 10 rfl (by kernel_rfl) (fun _ _ _ _ _ h => h) (by rfl) (fun u hu => ?_) bx108 ?_
            rotate_left
            · skip
              go_simp
              (with_reducible rfl)
            (try simp only [Act.put, List.setIfInBounds_toArray, List.set_cons_zero, List.set_cons_succ])
            refine any_done (by kernel_rfl) ?_
            go_wp2
            go_meet
            exact ⟨_, _, _, _, _, _, _, rfl, rfl, AG108, oa_108, ob_108, hB108⟩
        · go_simp
          have ag109 := At.newAt' (w := w101) (t := 39) (cs := #[.slice none 0 0, .slice none 0 0, .int .i64 0]) (show w101.heap.size = w101.heap.size by first | rfl | simp)
          have gl109 : v3.heap.size ≤ w101.heap.size := by first | exact hB101.size | exact Nat.le_refl _ | (have := hB101.size; simp at this ⊢; try omega)
          have hal109 := (Below.refl w101.heap.size w101).alloc (Nat.le_refl _) (.cells #[.slice none 0 0, .slice none 0 0, .int .i64 0] 39)
          have hB109 := hB101.alloc hB101.size (.cells #[.slice none 0 0, .slice none 0 0, .int .i64 0] 39)
          have bx109 := bx101.alloc (.cells #[.slice none 0 0, .slice none 0 0, .int .i64 0] 39)
          have ca_109 := ca101.alloc (.cells #[.slice none 0 0, .slice none 0 0, .int .i64 0] 39)
          have cb_109 := cb101.alloc (.cells #[.slice none 0 0, .slice none 0 0, .int .i64 0] 39)
          have ha3_109 := ha3_101.lift hal109
          have hb_3_109 := hb_3_101.lift hal109
          have hF3_109 := hF3_101.below hal109
          refine ⟨(fun u => At2 u w.heap.size 39 #[.slice A n c, .slice B m d, .int .i64 x] (w.heap.size + 1) 27 #[.int .i64 a0, .int .i64 a1, .int .i64 a2, .int .i64 a3, .int .i64 a4, .int .i64 a5, .int .i64 a6]), fun _ h => h, bx109, ?_⟩
          (try simp only [Act.put, List.setIfInBounds_toArray, List.set_cons_zero, List.set_cons_succ])
          refine any_one 3 rfl (by kernel_rfl) (by rfl) ?_
          go_simp
          refine (entryOf a0 a1 a2 a3 a4 a5 a6 _).mono ?_
          rintro e w110 ⟨rfl, hb110⟩
          have hB110 := hB109.trans (hb110.mono hB109.size)
          have bx110 := bx109.below hb110 bx109.lt
          have ag_110 := ag109.below hb110 ag109.lt
          have ca_110 := ca_109.below hb110 (Nat.le_refl _)
          have cb_110 := cb_109.below hb110 (Nat.le_refl _)
          have ha3_110 := ha3_109.lift hb110
          have hb_3_110 := hb_3_109.lift hb110
          have hF3_110 := hF3_109.below hb110
          refine ⟨(fun u => At2 u w.heap.size 39 #[.slice A n c, .slice B m d, .int .i64 x] (w.heap.size + 1) 27 #[.int .i64 a0, .int .i64 a1, .int .i64 a2, .int .i64 a3, .int .i64 a4, .int .i64 a5, .int .i64 a6]), fun _ h => h, bx110, ?_⟩
          (try simp only [Act.put, List.setIfInBounds_toArray, List.set_cons_zero, List.set_cons_succ])
          refine any_one 4 rfl (by kernel_rfl) (by rfl) ?_
          go_simp
          refine (AE0 v3.heap.size A101 B101 n c101 m d101 _ (ca_110.from_ hBd.size) (cb_110.from_ hBd.size) hB110.size (by omega) hF3_110).mono ?_
          rintro e w111 ⟨A111, n111, c111, B111, m111, d111, rfl, oa111, ob111, hb111⟩
          have hB111 := hB110.trans (hb111.mono hB110.size)
          have bx111 := bx110.below hb111 bx110.lt
          have ag_111 := ag_110.below hb111 ag_110.lt
          have ca_111 := ca_110.below hb111 (Nat.le_refl _)
          have cb_111 := cb_110.below hb111 (Nat.le_refl _)
          have ha3_111 := ha3_110.lift hb111
          have hb_3_111 := hb_3_110.lift hb111
          have hF3_111 := hF3_110.below hb111
          refine ⟨(fun u => At2 u w.heap.size 39 #[.slice A n c, .slice B m d, .int .i64 x] (w.heap.size + 1) 27 #[.int .i64 a0, .int .i64 a1, .int .i64 a2, .int .i64 a3, .int .i64 a4, .int .i64 a5, .int .i64 a6]), fun _ h => h, bx111, ?_⟩
          (try simp only [Act.put, List.setIfInBounds_toArray, List.set_cons_zero, List.set_cons_succ])
          refine any_pure (v := ?_) 5 rfl (by kernel_rfl) (fun _ _ _ _ _ h => h) (by rfl) (fun u hu => ?_) bx111 ?_
          rotate_left
          · skip
            go_simp
            (with_reducible rfl)
          (try simp only [Act.put, List.setIfInBounds_toArray, List.set_cons_zero, List.set_cons_succ])
          refine any_pure (v := ?_) 6 rfl (by kernel_rfl) (fun _ _ _ _ _ h => h) (by rfl) (fun u hu => ?_) bx111 ?_
          rotate_left
          · skip
            go_simp
            (with_reducible rfl)
          (try simp only [Act.put, List.setIfInBounds_toArray, List.set_cons_zero, List.set_cons_succ])
          refine any_pure (v := ?_) 7 rfl (by kernel_rfl) (fun _ _ _ _ _ h => h) (by rfl) (fun u hu => ?_) bx111 ?_
          rotate_left
          · skip
            go_simp
            (with_reducible rfl)
          (try simp only [Act.put, List.setIfInBounds_toArray, List.set_cons_zero, List.set_cons_succ])
          refine any_one 9 rfl (by kernel_rfl) (by rfl) ?_
          obtain ⟨k0, k1, k2, k3, k4, k5⟩ := ag_111.three
          go_simp
          have hltg112 : w101.heap.size < w111.heap.size := ag_111.lt
          have AG112 : At (((w111.setCell ⟨w101.heap.size, 0, none⟩ (.slice A111 n111 c111)).setCell ⟨w101.heap.size, 1, none⟩ (.slice B111 m111 d111)).setCell ⟨w101.heap.size, 2, none⟩ (.int .i64 tx)) w101.heap.size 39 #[.slice A111 n111 c111, .slice B111 m111 d111, .int .i64 tx] := (((ag_111.set 0 (.slice A111 n111 c111)).set 1 (.slice B111 m111 d111)).set 2 (.int .i64 tx))
          have bx112 := (((bx111.far (p := ⟨w101.heap.size, 0, none⟩) (by show w.heap.size ≠ w101.heap.size ∧ w.heap.size + 1 ≠ w101.heap.size; have := gl109; omega) (.slice A111 n111 c111)).far (p := ⟨w101.heap.size, 1, none⟩) (by show w.heap.size ≠ w101.heap.size ∧ w.heap.size + 1 ≠ w101.heap.size; have := gl109; omega) (.slice B111 m111 d111)).far (p := ⟨w101.heap.size, 2, none⟩) (by show w.heap.size ≠ w101.heap.size ∧ w.heap.size + 1 ≠ w101.heap.size; have := gl109; omega) (.int .i64 tx))
          have hB112 := (((hB111.setCell (p := ⟨w101.heap.size, 0, none⟩) gl109 (.slice A111 n111 c111)).setCell (p := ⟨w101.heap.size, 1, none⟩) gl109 (.slice B111 m111 d111)).setCell (p := ⟨w101.heap.size, 2, none⟩) gl109 (.int .i64 tx))
          have oa_112 := oa111
          have oa_112 := oa_112.apart (by decide) ag_111 0 (.slice A111 n111 c111)
          have oa_112 := oa_112.apart (by decide) ((ag_111.set 0 (.slice A111 n111 c111))) 1 (.slice B111 m111 d111)
          have oa_112 := oa_112.apart (by decide) (((ag_111.set 0 (.slice A111 n111 c111)).set 1 (.slice B111 m111 d111))) 2 (.int .i64 tx)
          have ob_112 := ob111
          have ob_112 := ob_112.apart (by decide) ag_111 0 (.slice A111 n111 c111)
          have ob_112 := ob_112.apart (by decide) ((ag_111.set 0 (.slice A111 n111 c111))) 1 (.slice B111 m111 d111)
          have ob_112 := ob_112.apart (by decide) (((ag_111.set 0 (.slice A111 n111 c111)).set 1 (.slice B111 m111 d111))) 2 (.int .i64 tx)
          refine ⟨(fun u => At2 u w.heap.size 39 #[.slice A n c, .slice B m d, .int .i64 x] (w.heap.size + 1) 27 #[.int .i64 a0, .int .i64 a1, .int .i64 a2, .int .i64 a3, .int .i64 a4, .int .i64 a5, .int .i64 a6]), fun _ h => h, bx112, ?_⟩
          (try simp only [Act.put, List.setIfInBounds_toArray, List.set_cons_zero, List.set_cons_succ])
          refine any_pure (v := ?_) 10 rfl (by kernel_rfl) (fun _ _ _ _ _ h => h) (by rfl) (fun u hu => ?_) bx112 ?_
          rotate_left
          · skip
            go_simp
            (with_reducible rfl)
          (try simp only [Act.put, List.setIfInBounds_toArray, List.set_cons_zero, List.set_cons_succ])
          refine any_done (by kernel_rfl) ?_
          go_wp2
          go_meet
          exact ⟨_, _, _, _, _, _, _, rfl, rfl, AG112, oa_112, ob_112, hB112⟩
      · go_simp
        have ag113 := At.newAt' (w := v3.drew) (t := 39) (cs := #[.slice none 0 0, .slice none 0 0, .int .i64 0]) (show v3.drew.heap.size = v3.heap.size by first | rfl | simp)
        have gl113 : v3.heap.size ≤ v3.heap.size := by first | exact hBd.size | exact Nat.le_refl _ | (have := hBd.size; simp at this ⊢; try omega)
        have hal113 := (Below.refl v3.drew.heap.size v3.drew).alloc (Nat.le_refl _) (.cells #[.slice none 0 0, .slice none 0 0, .int .i64 0] 39)
        have hB113 := hBd.alloc hBd.size (.cells #[.slice none 0 0, .slice none 0 0, .int .i64 0] 39)
        have bx113 := bxd.alloc (.cells #[.slice none 0 0, .slice none 0 0, .int .i64 0] 39)
        have ha3_113 := ha3d.lift hal113
        have hb_3_113 := hb_3d.lift hal113
        have hF3_113 := hF3d.below hal113
        refine ⟨(fun u => At2 u w.heap.size 39 #[.slice A n c, .slice B m d, .int .i64 x] (w.heap.size + 1) 27 #[.int .i64 a0, .int .i64 a1, .int .i64 a2, .int .i64 a3, .int .i64 a4, .int .i64 a5, .int .i64 a6]), fun _ h => h, bx113, ?_⟩
        (try simp only [Act.put, List.setIfInBounds_toArray, List.set_cons_zero, List.set_cons_succ])
        refine any_one 1 rfl (by kernel_rfl) (by rfl) ?_
        go_simp
        refine (copyState A B n c m d l h x _ ha3_113 hb_3_113 Hn.out Hm.out hn3 hm3).mono ?_
        rintro e w114 ⟨A114, c114, B114, d114, rfl, ca114, cb114, hb114⟩
        have hB114 := hB113.trans (hb114.mono hB113.size)
        have bx114 := bx113.below hb114 bx113.lt
        have ag_114 := ag113.below hb114 ag113.lt
        have ha3_114 := ha3_113.lift hb114
        have hb_3_114 := hb_3_113.lift hb114
        have hF3_114 := hF3_113.below hb114
        refine ⟨(fun u => At2 u w.heap.size 39 #[.slice A n c, .slice B m d, .int .i64 x] (w.heap.size + 1) 27 #[.int .i64 a0, .int .i64 a1, .int .i64 a2, .int .i64 a3, .int .i64 a4, .int .i64 a5, .int .i64 a6]), fun _ h => h, bx114, ?_⟩
        (try simp only [Act.put, List.setIfInBounds_toArray, List.set_cons_zero, List.set_cons_succ])
        refine any_one 3 rfl (by kernel_rfl) (by rfl) ?_
        go_simp
        refine (entryOf a0 a1 a2 a3 a4 a5 a6 _).mono ?_
        rintro e w115 ⟨rfl, hb115⟩
        have hB115 := hB114.trans (hb115.mono hB114.size)
        have bx115 := bx114.below hb115 bx114.lt
        have ag_115 := ag_114.below hb115 ag_114.lt
        have ca_115 := ca114.below hb115 (Nat.le_refl _)
        have cb_115 := cb114.below hb115 (Nat.le_refl _)
        have ha3_115 := ha3_114.lift hb115
        have hb_3_115 := hb_3_114.lift hb115
        have hF3_115 := hF3_114.below hb115
        refine ⟨(fun u => At2 u w.heap.size 39 #[.slice A n c, .slice B m d, .int .i64 x] (w.heap.size + 1) 27 #[.int .i64 a0, .int .i64 a1, .int .i64 a2, .int .i64 a3, .int .i64 a4, .int .i64 a5, .int .i64 a6]), fun _ h => h, bx115, ?_⟩
        (try simp only [Act.put, List.setIfInBounds_toArray, List.set_cons_zero, List.set_cons_succ])
        refine any_one 4 rfl (by kernel_rfl) (by rfl) ?_
        go_simp
        refine (AE0 v3.heap.size A114 B114 n c114 m d114 _ (ca_115.from_ hB113.size) (cb_115.from_ hB113.size) hB115.size (by omega) hF3_115).mono ?_
        rintro e w116 ⟨A116, n116, c116, B116, m116, d116, rfl, oa116, ob116, hb116⟩
        have hB116 := hB115.trans (hb116.mono hB115.size)
        have bx116 := bx115.below hb116 bx115.lt
        have ag_116 := ag_115.below hb116 ag_115.lt
        have ca_116 := ca_115.below hb116 (Nat.le_refl _)
        have cb_116 := cb_115.below hb116 (Nat.le_refl _)
        have ha3_116 := ha3_115.lift hb116
        have hb_3_116 := hb_3_115.lift hb116
        have hF3_116 := hF3_115.below hb116
        refine ⟨(fun u => At2 u w.heap.size 39 #[.slice A n c, .slice B m d, .int .i64 x] (w.heap.size + 1) 27 #[.int .i64 a0, .int .i64 a1, .int .i64 a2, .int .i64 a3, .int .i64 a4, .int .i64 a5, .int .i64 a6]), fun _ h => h, bx116, ?_⟩
        (try simp only [Act.put, List.setIfInBounds_toArray, List.set_cons_zero, List.set_cons_succ])
        refine any_pure (v := ?_) 5 rfl (by kernel_rfl) (fun _ _ _ _ _ h => h) (by rfl) (fun u hu => ?_) bx116 ?_
        rotate_left
        · skip
          go_simp
          (with_reducible rfl)
        (try simp only [Act.put, List.setIfInBounds_toArray, List.set_cons_zero, List.set_cons_succ])
        refine any_pure (v := ?_) 6 rfl (by kernel_rfl) (fun _ _ _ _ _ h => h) (by rfl) (fun u hu => ?_) bx116 ?_
        rotate_left
        · skip
          go_simp
          (with_reducible rfl)
        (try simp only [Act.put, List.setIfInBounds_toArray, List.set_cons_zero, List.set_cons_succ])
        refine any_pure (v := ?_) 7 rfl (by kernel_rfl) (fun _ _ _ _ _ h => h) (by rfl) (fun u hu => ?_) bx116 ?_
        rotate_left
        · skip
          go_simp
          (with_reducible rfl)
        (try simp only [Act.put, List.setIfInBounds_toArray, List.set_cons_zero, List.set_cons_succ])
        refine any_one 9 rfl (by kernel_rfl) (by rfl) ?_
        obtain ⟨k0, k1, k2, k3, k4, k5⟩ := ag_116.three
        go_simp
        have hltg117 : v3.heap.size < w116.heap.size := ag_116.lt
        have AG117 : At (((w116.setCell ⟨v3.heap.size, 0, none⟩ (.slice A116 n116 c116)).setCell ⟨v3.heap.size, 1, none⟩ (.slice B116 m116 d116)).setCell ⟨v3.heap.size, 2, none⟩ (.int .i64 tx)) v3.heap.size 39 #[.slice A116 n116 c116, .slice B116 m116 d116, .int .i64 tx] := (((ag_116.set 0 (.slice A116 n116 c116)).set 1 (.slice B116 m116 d116)).set 2 (.int .i64 tx))
        have bx117 := (((bx116.far (p := ⟨v3.heap.size, 0, none⟩) (by show w.heap.size ≠ v3.heap.size ∧ w.heap.size + 1 ≠ v3.heap.size; have := gl113; omega) (.slice A116 n116 c116)).far (p := ⟨v3.heap.size, 1, none⟩) (by show w.heap.size ≠ v3.heap.size ∧ w.heap.size + 1 ≠ v3.heap.size; have := gl113; omega) (.slice B116 m116 d116)).far (p := ⟨v3.heap.size, 2, none⟩) (by show w.heap.size ≠ v3.heap.size ∧ w.heap.size + 1 ≠ v3.heap.size; have := gl113; omega) (.int .i64 tx))
        have hB117 := (((hB116.setCell (p := ⟨v3.heap.size, 0, none⟩) gl113 (.slice A116 n116 c116)).setCell (p := ⟨v3.heap.size, 1, none⟩) gl113 (.slice B116 m116 d116)).setCell (p := ⟨v3.heap.size, 2, none⟩) gl113 (.int .i64 tx))
        have oa_117 := oa116
        have oa_117 := oa_117.apart (by decide) ag_116 0 (.slice A116 n116 c116)
        have oa_117 := oa_117.apart (by decide) ((ag_116.set 0 (.slice A116 n116 c116))) 1 (.slice B116 m116 d116)
        have oa_117 := oa_117.apart (by decide) (((ag_116.set 0 (.slice A116 n116 c116)).set 1 (.slice B116 m116 d116))) 2 (.int .i64 tx)
        have ob_117 := ob116
        have ob_117 := ob_117.apart (by decide) ag_116 0 (.slice A116 n116 c116)
        have ob_117 := ob_117.apart (by decide) ((ag_116.set 0 (.slice A116 n116 c116))) 1 (.slice B116 m116 d116)
        have ob_117 := ob_117.apart (by decide) (((ag_116.set 0 (.slice A116 n116 c116)).set 1 (.slice B116 m116 d116))) 2 (.int .i64 tx)
        refine ⟨(fun u => At2 u w.heap.size 39 #[.slice A n c, .slice B m d, .int .i64 x] (w.heap.size + 1) 27 #[.int .i64 a0, .int .i64 a1, .int .i64 a2, .int .i64 a3, .int .i64 a4, .int .i64 a5, .int .i64 a6]), fun _ h => h, bx117, ?_⟩
        (try simp only [Act.put, List.setIfInBounds_toArray, List.set_cons_zero, List.set_cons_succ])
        refine any_pure (v := ?_) 10 rfl (by kernel_rfl) (fun _ _ _ _ _ h => h) (by rfl) (fun u hu => ?_) bx117 ?_
        rotate_left
        · skip
          go_simp
          (with_reducible rfl)
        (try simp only [Act.put, List.setIfInBounds_toArray, List.set_cons_zero, List.set_cons_succ])
        refine any_done (by kernel_rfl) ?_
        go_wp2
        go_meet
        exact ⟨_, _, _, _, _, _, _, rfl, rfl, AG117, oa_117, ob_117, hB117⟩
    case rest =>
      obtain ⟨gx, A5, n5, c5, B5, m5, d5, rfl, rfl, AX, OA, OB, HB⟩ := hcut
      have z4 := z3.below HB lz3
      have hB4 := hB3.trans (HB.mono hB3.size)
      obtain ⟨zc0, zc1, zc2, zc3, zf0, zf1, zf2, zf3⟩ := z4.four
      obtain ⟨g0, g1, g2, _, _, _⟩ := AX.three
      have hse : ((0 : Int) != 0) = false := by decide
      go_wp2
      refine bodyPost_ret (v := .agg #[.int .i64 0, .slice A5 n5 c5, .slice B5 m5 d5, .int .i64 tx]) (by simp [results, Tryz.results12, go_sem, zc0, zc1, zc2, zc3]) rfl ?_
      rw [Hr.out]
      first | rw [if_pos rfl] | rw [if_pos trivial]
      exact ⟨A5, n5, c5, B5, m5, d5, rfl, ((((OA.under (p := ⟨w.heap.size + 2, 0, none⟩) lz3 _).under (p := ⟨w.heap.size + 2, 1, none⟩) lz3 _).under (p := ⟨w.heap.size + 2, 2, none⟩) lz3 _).under (p := ⟨w.heap.size + 2, 3, none⟩) lz3 _).from_ hB3.size, ((((OB.under (p := ⟨w.heap.size + 2, 0, none⟩) lz3 _).under (p := ⟨w.heap.size + 2, 1, none⟩) lz3 _).under (p := ⟨w.heap.size + 2, 2, none⟩) lz3 _).under (p := ⟨w.heap.size + 2, 3, none⟩) lz3 _).from_ hB3.size, (((hB4.setCell (by simp; omega) _).setCell (by simp; omega) _).setCell (by simp; omega) _).setCell (by simp; omega) _⟩
  · have AE1 : ∀ (base : Nat) (A B : Option Addr) (n c m d : Nat) (W : World), Ow eS W base A n c l → Ow eH W base B m d h → base ≤ W.heap.size → n ≤ 1048576 → Flds W → Calls Tryz.prog 48 #[.agg #[.slice A n c, .slice B m d, .int .i64 x], entV (a0, a1, (a2, a3, a4, a5), a6)] W fun e W' => ∃ A n c B m d y, e = .returned (.tuple #[.agg #[.slice A n c, .slice B m d, .int .i64 y], .int .i64 tc]) ∧ Below W.heap.size W W' := fun base A B n c m d W o1 o2 hbase hn1 hFW => (AE base A B n c m d W o1 o2 hbase hn1 hFW).mono fun e W' ⟨A', n', c', B', m', d', y, he, hi, hb⟩ => ⟨A', n', c', B', m', d', y, he, hb⟩
    clear AE
    have hne : (tc != 0) = true := by rw [bne_iff_ne]; exact htc
    have Hr2 := Lib.hid (show applyM (l, h, x) (a0, a1, (a2, a3, a4, a5), a6) = (tc, zeroSta) by rw [Hr.out]; exact if_neg htc)
    clear Hr htc
    go_upto_region 4 with fail
    go_cut [6, 7] (fun s t wx => ∃ gx A5 n5 c5 B5 m5 d5 y, s = .pointer (some ⟨gx, 0, none⟩) ∧ t = .int .i64 tc ∧ At wx gx 39 #[.slice A5 n5 c5, .slice B5 m5 d5, .int .i64 y] ∧ Below v3.heap.size v3 wx)
    case first =>
      refine any_start (fun u => At2 u w.heap.size 39 #[.slice A n c, .slice B m d, .int .i64 x] (w.heap.size + 1) 27 #[.int .i64 a0, .int .i64 a1, .int .i64 a2, .int .i64 a3, .int .i64 a4, .int .i64 a5, .int .i64 a6]) (by kernel_rfl) s3.drew (fun _ => ?_)
      have bxd := s3.drew
      have hBd := (Below.refl v3.heap.size v3).drew
      have ha3d : _ := ha3.lift ((Below.refl _ _).drew)
      have hb_3d : _ := hb_3.lift ((Below.refl _ _).drew)
      have hF3d := hF3.below ((Below.refl _ _).drew)
      refine any_pure (v := ?_) 0 rfl (by kernel_rfl) (fun _ _ _ _ _ h => h) (by rfl) (fun u hu => ?_) bxd ?_
      rotate_left
      · (obtain ⟨hu1, hu2⟩ := hu; obtain ⟨_, _, _, _, _, _⟩ := At.three hu1; obtain ⟨_, _, _, _, _, _, _⟩ := At.seven hu2)
        go_simp
        (with_reducible rfl)
      (try simp only [Act.put, List.setIfInBounds_toArray, List.set_cons_zero, List.set_cons_succ])
      refine any_pure (v := ?_) 2 rfl (by kernel_rfl) (fun _ _ _ _ _ h => h) (by rfl) (fun u hu => ?_) bxd ?_
      rotate_left
      · (obtain ⟨hu1, hu2⟩ := hu; obtain ⟨_, _, _, _, _, _⟩ := At.three hu1; obtain ⟨_, _, _, _, _, _, _⟩ := At.seven hu2)
        go_simp
        (with_reducible rfl)
      (try simp only [Act.put, List.setIfInBounds_toArray, List.set_cons_zero, List.set_cons_succ])
      refine any_two 1 8 rfl rfl (by kernel_rfl) (by rfl) (by rfl) ?_ ?_
      · go_simp
        refine (copyState A B n c m d l h x _ ha3d hb_3d Hn.out Hm.out hn3 hm3).mono ?_
        rintro e w101 ⟨A101, c101, B101, d101, rfl, ca101, cb101, hb101⟩
        have hB101 := hBd.trans (hb101.mono hBd.size)
        have bx101 := bxd.below hb101 bxd.lt
        have ha3_101 := ha3d.lift hb101
        have hb_3_101 := hb_3d.lift hb101
        have hF3_101 := hF3d.below hb101
        refine ⟨(fun u => At2 u w.heap.size 39 #[.slice A n c, .slice B m d, .int .i64 x] (w.heap.size + 1) 27 #[.int .i64 a0, .int .i64 a1, .int .i64 a2, .int .i64 a3, .int .i64 a4, .int .i64 a5, .int .i64 a6]), fun _ h => h, bx101, ?_⟩
        (try simp only [Act.put, List.setIfInBounds_toArray, List.set_cons_zero, List.set_cons_succ])
        refine any_two 3 8 rfl rfl (by kernel_rfl) (by rfl) (by rfl) ?_ ?_
        · go_simp
          refine (entryOf a0 a1 a2 a3 a4 a5 a6 _).mono ?_
          rintro e w102 ⟨rfl, hb102⟩
          have hB102 := hB101.trans (hb102.mono hB101.size)
          have bx102 := bx101.below hb102 bx101.lt
          have ca_102 := ca101.below hb102 (Nat.le_refl _)
          have cb_102 := cb101.below hb102 (Nat.le_refl _)
          have ha3_102 := ha3_101.lift hb102
          have hb_3_102 := hb_3_101.lift hb102
          have hF3_102 := hF3_101.below hb102
          refine ⟨(fun u => At2 u w.heap.size 39 #[.slice A n c, .slice B m d, .int .i64 x] (w.heap.size + 1) 27 #[.int .i64 a0, .int .i64 a1, .int .i64 a2, .int .i64 a3, .int .i64 a4, .int .i64 a5, .int .i64 a6]), fun _ h => h, bx102, ?_⟩
          (try simp only [Act.put, List.setIfInBounds_toArray, List.set_cons_zero, List.set_cons_succ])
          refine any_two 4 8 rfl rfl (by kernel_rfl) (by rfl) (by rfl) ?_ ?_
          · go_simp
            refine (AE1 v3.heap.size A101 B101 n c101 m d101 _ (ca_102.from_ hBd.size) (cb_102.from_ hBd.size) hB102.size (by omega) hF3_102).mono ?_
            rintro e w103 ⟨A103, n103, c103, B103, m103, d103, y103, rfl, hb103⟩
            have hB103 := hB102.trans (hb103.mono hB102.size)
            have bx103 := bx102.below hb103 bx102.lt
            have ca_103 := ca_102.below hb103 (Nat.le_refl _)
            have cb_103 := cb_102.below hb103 (Nat.le_refl _)
            have ha3_103 := ha3_102.lift hb103
            have hb_3_103 := hb_3_102.lift hb103
            have hF3_103 := hF3_102.below hb103
            refine ⟨(fun u => At2 u w.heap.size 39 #[.slice A n c, .slice B m d, .int .i64 x] (w.heap.size + 1) 27 #[.int .i64 a0, .int .i64 a1, .int .i64 a2, .int .i64 a3, .int .i64 a4, .int .i64 a5, .int .i64 a6]), fun _ h => h, bx103, ?_⟩
            (try simp only [Act.put, List.setIfInBounds_toArray, List.set_cons_zero, List.set_cons_succ])
            refine any_pure (v := ?_) 5 rfl (by kernel_rfl) (fun _ _ _ _ _ h => h) (by rfl) (fun u hu => ?_) bx103 ?_
            rotate_left
            · skip
              go_simp
              (with_reducible rfl)
            (try simp only [Act.put, List.setIfInBounds_toArray, List.set_cons_zero, List.set_cons_succ])
            refine any_pure (v := ?_) 6 rfl (by kernel_rfl) (fun _ _ _ _ _ h => h) (by rfl) (fun u hu => ?_) bx103 ?_
            rotate_left
            · skip
              go_simp
              (with_reducible rfl)
            (try simp only [Act.put, List.setIfInBounds_toArray, List.set_cons_zero, List.set_cons_succ])
            refine any_pure (v := ?_) 7 rfl (by kernel_rfl) (fun _ _ _ _ _ h => h) (by rfl) (fun u hu => ?_) bx103 ?_
            rotate_left
            · skip
              go_simp
              (with_reducible rfl)
            (try simp only [Act.put, List.setIfInBounds_toArray, List.set_cons_zero, List.set_cons_succ])
            refine any_one 8 rfl (by kernel_rfl) (by rfl) ?_
            go_simp
            have ag104 := At.newAt' (w := w103) (t := 39) (cs := #[.slice none 0 0, .slice none 0 0, .int .i64 0]) (show w103.heap.size = w103.heap.size by first | rfl | simp)
            have gl104 : v3.heap.size ≤ w103.heap.size := by first | exact hB103.size | exact Nat.le_refl _ | (have := hB103.size; simp at this ⊢; try omega)
            have hal104 := (Below.refl w103.heap.size w103).alloc (Nat.le_refl _) (.cells #[.slice none 0 0, .slice none 0 0, .int .i64 0] 39)
            have hB104 := hB103.alloc hB103.size (.cells #[.slice none 0 0, .slice none 0 0, .int .i64 0] 39)
            have bx104 := bx103.alloc (.cells #[.slice none 0 0, .slice none 0 0, .int .i64 0] 39)
            have ca_104 := ca_103.alloc (.cells #[.slice none 0 0, .slice none 0 0, .int .i64 0] 39)
            have cb_104 := cb_103.alloc (.cells #[.slice none 0 0, .slice none 0 0, .int .i64 0] 39)
            have ha3_104 := ha3_103.lift hal104
            have hb_3_104 := hb_3_103.lift hal104
            have hF3_104 := hF3_103.below hal104
            refine ⟨(fun u => At2 u w.heap.size 39 #[.slice A n c, .slice B m d, .int .i64 x] (w.heap.size + 1) 27 #[.int .i64 a0, .int .i64 a1, .int .i64 a2, .int .i64 a3, .int .i64 a4, .int .i64 a5, .int .i64 a6]), fun _ h => h, bx104, ?_⟩
            (try simp only [Act.put, List.setIfInBounds_toArray, List.set_cons_zero, List.set_cons_succ])
            refine any_one 9 rfl (by kernel_rfl) (by rfl) ?_
            go_simp
            have AG105 := At.newAt' (w := w103) (t := 39) (cs := #[.slice A103 n103 c103, .slice B103 m103 d103, .int .i64 y103]) (show w103.heap.size = w103.heap.size by first | rfl | simp)
            have hal105 := (Below.refl w103.heap.size w103).alloc (Nat.le_refl _) (.cells #[.slice A103 n103 c103, .slice B103 m103 d103, .int .i64 y103] 39)
            have hB105 := hB103.alloc hB103.size (.cells #[.slice A103 n103 c103, .slice B103 m103 d103, .int .i64 y103] 39)
            have bx105 := bx103.alloc (.cells #[.slice A103 n103 c103, .slice B103 m103 d103, .int .i64 y103] 39)
            have ca_105 := ca_103.alloc (.cells #[.slice A103 n103 c103, .slice B103 m103 d103, .int .i64 y103] 39)
            have cb_105 := cb_103.alloc (.cells #[.slice A103 n103 c103, .slice B103 m103 d103, .int .i64 y103] 39)
            have ha3_105 := ha3_103.lift hal105
            have hb_3_105 := hb_3_103.lift hal105
            have hF3_105 := hF3_103.below hal105
            refine ⟨(fun u => At2 u w.heap.size 39 #[.slice A n c, .slice B m d, .int .i64 x] (w.heap.size + 1) 27 #[.int .i64 a0, .int .i64 a1, .int .i64 a2, .int .i64 a3, .int .i64 a4, .int .i64 a5, .int .i64 a6]), fun _ h => h, bx105, ?_⟩
            (try simp only [Act.put, List.setIfInBounds_toArray, List.set_cons_zero, List.set_cons_succ])
            refine any_pure (v := ?_) 10 rfl (by kernel_rfl) (fun _ _ _ _ _ h => h) (by rfl) (fun u hu => ?_) bx105 ?_
            rotate_left
            · skip
              go_simp
              (with_reducible rfl)
            (try simp only [Act.put, List.setIfInBounds_toArray, List.set_cons_zero, List.set_cons_succ])
            refine any_done (by kernel_rfl) ?_
            go_wp2
            go_meet
            exact ⟨_, _, _, _, _, _, _, _, rfl, rfl, AG105, hB105⟩
          · go_simp
            have ag106 := At.newAt' (w := w102) (t := 39) (cs := #[.slice none 0 0, .slice none 0 0, .int .i64 0]) (show w102.heap.size = w102.heap.size by first | rfl | simp)
            have gl106 : v3.heap.size ≤ w102.heap.size := by first | exact hB102.size | exact Nat.le_refl _ | (have := hB102.size; simp at this ⊢; try omega)
            have hal106 := (Below.refl w102.heap.size w102).alloc (Nat.le_refl _) (.cells #[.slice none 0 0, .slice none 0 0, .int .i64 0] 39)
            have hB106 := hB102.alloc hB102.size (.cells #[.slice none 0 0, .slice none 0 0, .int .i64 0] 39)
            have bx106 := bx102.alloc (.cells #[.slice none 0 0, .slice none 0 0, .int .i64 0] 39)
            have ca_106 := ca_102.alloc (.cells #[.slice none 0 0, .slice none 0 0, .int .i64 0] 39)
            have cb_106 := cb_102.alloc (.cells #[.slice none 0 0, .slice none 0 0, .int .i64 0] 39)
            have ha3_106 := ha3_102.lift hal106
            have hb_3_106 := hb_3_102.lift hal106
            have hF3_106 := hF3_102.below hal106
            refine ⟨(fun u => At2 u w.heap.size 39 #[.slice A n c, .slice B m d, .int .i64 x] (w.heap.size + 1) 27 #[.int .i64 a0, .int .i64 a1, .int .i64 a2, .int .i64 a3, .int .i64 a4, .int .i64 a5, .int .i64 a6]), fun _ h => h, bx106, ?_⟩
            (try simp only [Act.put, List.setIfInBounds_toArray, List.set_cons_zero, List.set_cons_succ])
            refine any_one 4 rfl (by kernel_rfl) (by rfl) ?_
            go_simp
            refine (AE1 v3.heap.size A101 B101 n c101 m d101 _ (ca_106.from_ hBd.size) (cb_106.from_ hBd.size) hB106.size (by omega) hF3_106).mono ?_
            rintro e w107 ⟨A107, n107, c107, B107, m107, d107, y107, rfl, hb107⟩
            have hB107 := hB106.trans (hb107.mono hB106.size)
            have bx107 := bx106.below hb107 bx106.lt
            have ag_107 := ag106.below hb107 ag106.lt
            have ca_107 := ca_106.below hb107 (Nat.le_refl _)
            have cb_107 := cb_106.below hb107 (Nat.le_refl _)
            have ha3_107 := ha3_106.lift hb107
            have hb_3_107 := hb_3_106.lift hb107
            have hF3_107 := hF3_106.below hb107
            refine ⟨(fun u => At2 u w.heap.size 39 #[.slice A n c, .slice B m d, .int .i64 x] (w.heap.size + 1) 27 #[.int .i64 a0, .int .i64 a1, .int .i64 a2, .int .i64 a3, .int .i64 a4, .int .i64 a5, .int .i64 a6]), fun _ h => h, bx107, ?_⟩
            (try simp only [Act.put, List.setIfInBounds_toArray, List.set_cons_zero, List.set_cons_succ])
            refine any_pure (v := ?_) 5 rfl (by kernel_rfl) (fun _ _ _ _ _ h => h) (by rfl) (fun u hu => ?_) bx107 ?_
            rotate_left
            · skip
              go_simp
              (with_reducible rfl)
            (try simp only [Act.put, List.setIfInBounds_toArray, List.set_cons_zero, List.set_cons_succ])
            refine any_pure (v := ?_) 6 rfl (by kernel_rfl) (fun _ _ _ _ _ h => h) (by rfl) (fun u hu => ?_) bx107 ?_
            rotate_left
            · skip
              go_simp
              (with_reducible rfl)
            (try simp only [Act.put, List.setIfInBounds_toArray, List.set_cons_zero, List.set_cons_succ])
            refine any_pure (v := ?_) 7 rfl (by kernel_rfl) (fun _ _ _ _ _ h => h) (by rfl) (fun u hu => ?_) bx107 ?_
            rotate_left
            · skip
              go_simp
              (with_reducible rfl)
            (try simp only [Act.put, List.setIfInBounds_toArray, List.set_cons_zero, List.set_cons_succ])
            refine any_one 9 rfl (by kernel_rfl) (by rfl) ?_
            obtain ⟨k0, k1, k2, k3, k4, k5⟩ := ag_107.three
            go_simp
            have hltg108 : w102.heap.size < w107.heap.size := ag_107.lt
            have AG108 : At (((w107.setCell ⟨w102.heap.size, 0, none⟩ (.slice A107 n107 c107)).setCell ⟨w102.heap.size, 1, none⟩ (.slice B107 m107 d107)).setCell ⟨w102.heap.size, 2, none⟩ (.int .i64 y107)) w102.heap.size 39 #[.slice A107 n107 c107, .slice B107 m107 d107, .int .i64 y107] := (((ag_107.set 0 (.slice A107 n107 c107)).set 1 (.slice B107 m107 d107)).set 2 (.int .i64 y107))
            have bx108 := (((bx107.far (p := ⟨w102.heap.size, 0, none⟩) (by show w.heap.size ≠ w102.heap.size ∧ w.heap.size + 1 ≠ w102.heap.size; have := gl106; omega) (.slice A107 n107 c107)).far (p := ⟨w102.heap.size, 1, none⟩) (by show w.heap.size ≠ w102.heap.size ∧ w.heap.size + 1 ≠ w102.heap.size; have := gl106; omega) (.slice B107 m107 d107)).far (p := ⟨w102.heap.size, 2, none⟩) (by show w.heap.size ≠ w102.heap.size ∧ w.heap.size + 1 ≠ w102.heap.size; have := gl106; omega) (.int .i64 y107))
            have hB108 := (((hB107.setCell (p := ⟨w102.heap.size, 0, none⟩) gl106 (.slice A107 n107 c107)).setCell (p := ⟨w102.heap.size, 1, none⟩) gl106 (.slice B107 m107 d107)).setCell (p := ⟨w102.heap.size, 2, none⟩) gl106 (.int .i64 y107))
            refine ⟨(fun u => At2 u w.heap.size 39 #[.slice A n c, .slice B m d, .int .i64 x] (w.heap.size + 1) 27 #[.int .i64 a0, .int .i64 a1, .int .i64 a2, .int .i64 a3, .int .i64 a4, .int .i64 a5, .int .i64 a6]), fun _ h => h, bx108, ?_⟩
            (try simp only [Act.put, List.setIfInBounds_toArray, List.set_cons_zero, List.set_cons_succ])
            refine any_pure (v := ?_) 10 rfl (by kernel_rfl) (fun _ _ _ _ _ h => h) (by rfl) (fun u hu => ?_) bx108 ?_
            rotate_left
            · skip
              go_simp
              (with_reducible rfl)
            (try simp only [Act.put, List.setIfInBounds_toArray, List.set_cons_zero, List.set_cons_succ])
            refine any_done (by kernel_rfl) ?_
            go_wp2
            go_meet
            exact ⟨_, _, _, _, _, _, _, _, rfl, rfl, AG108, hB108⟩
        · go_simp
          have ag109 := At.newAt' (w := w101) (t := 39) (cs := #[.slice none 0 0, .slice none 0 0, .int .i64 0]) (show w101.heap.size = w101.heap.size by first | rfl | simp)
          have gl109 : v3.heap.size ≤ w101.heap.size := by first | exact hB101.size | exact Nat.le_refl _ | (have := hB101.size; simp at this ⊢; try omega)
          have hal109 := (Below.refl w101.heap.size w101).alloc (Nat.le_refl _) (.cells #[.slice none 0 0, .slice none 0 0, .int .i64 0] 39)
          have hB109 := hB101.alloc hB101.size (.cells #[.slice none 0 0, .slice none 0 0, .int .i64 0] 39)
          have bx109 := bx101.alloc (.cells #[.slice none 0 0, .slice none 0 0, .int .i64 0] 39)
          have ca_109 := ca101.alloc (.cells #[.slice none 0 0, .slice none 0 0, .int .i64 0] 39)
          have cb_109 := cb101.alloc (.cells #[.slice none 0 0, .slice none 0 0, .int .i64 0] 39)
          have ha3_109 := ha3_101.lift hal109
          have hb_3_109 := hb_3_101.lift hal109
          have hF3_109 := hF3_101.below hal109
          refine ⟨(fun u => At2 u w.heap.size 39 #[.slice A n c, .slice B m d, .int .i64 x] (w.heap.size + 1) 27 #[.int .i64 a0, .int .i64 a1, .int .i64 a2, .int .i64 a3, .int .i64 a4, .int .i64 a5, .int .i64 a6]), fun _ h => h, bx109, ?_⟩
          (try simp only [Act.put, List.setIfInBounds_toArray, List.set_cons_zero, List.set_cons_succ])
          refine any_one 3 rfl (by kernel_rfl) (by rfl) ?_
          go_simp
          refine (entryOf a0 a1 a2 a3 a4 a5 a6 _).mono ?_
          rintro e w110 ⟨rfl, hb110⟩
          have hB110 := hB109.trans (hb110.mono hB109.size)
          have bx110 := bx109.below hb110 bx109.lt
          have ag_110 := ag109.below hb110 ag109.lt
          have ca_110 := ca_109.below hb110 (Nat.le_refl _)
          have cb_110 := cb_109.below hb110 (Nat.le_refl _)
          have ha3_110 := ha3_109.lift hb110
          have hb_3_110 := hb_3_109.lift hb110
          have hF3_110 := hF3_109.below hb110
          refine ⟨(fun u => At2 u w.heap.size 39 #[.slice A n c, .slice B m d, .int .i64 x] (w.heap.size + 1) 27 #[.int .i64 a0, .int .i64 a1, .int .i64 a2, .int .i64 a3, .int .i64 a4, .int .i64 a5, .int .i64 a6]), fun _ h => h, bx110, ?_⟩
          (try simp only [Act.put, List.setIfInBounds_toArray, List.set_cons_zero, List.set_cons_succ])
          refine any_one 4 rfl (by kernel_rfl) (by rfl) ?_
          go_simp
          refine (AE1 v3.heap.size A101 B101 n c101 m d101 _ (ca_110.from_ hBd.size) (cb_110.from_ hBd.size) hB110.size (by omega) hF3_110).mono ?_
          rintro e w111 ⟨A111, n111, c111, B111, m111, d111, y111, rfl, hb111⟩
          have hB111 := hB110.trans (hb111.mono hB110.size)
          have bx111 := bx110.below hb111 bx110.lt
          have ag_111 := ag_110.below hb111 ag_110.lt
          have ca_111 := ca_110.below hb111 (Nat.le_refl _)
          have cb_111 := cb_110.below hb111 (Nat.le_refl _)
          have ha3_111 := ha3_110.lift hb111
          have hb_3_111 := hb_3_110.lift hb111
          have hF3_111 := hF3_110.below hb111
          refine ⟨(fun u => At2 u w.heap.size 39 #[.slice A n c, .slice B m d, .int .i64 x] (w.heap.size + 1) 27 #[.int .i64 a0, .int .i64 a1, .int .i64 a2, .int .i64 a3, .int .i64 a4, .int .i64 a5, .int .i64 a6]), fun _ h => h, bx111, ?_⟩
          (try simp only [Act.put, List.setIfInBounds_toArray, List.set_cons_zero, List.set_cons_succ])
          refine any_pure (v := ?_) 5 rfl (by kernel_rfl) (fun _ _ _ _ _ h => h) (by rfl) (fun u hu => ?_) bx111 ?_
          rotate_left
          · skip
            go_simp
            (with_reducible rfl)
          (try simp only [Act.put, List.setIfInBounds_toArray, List.set_cons_zero, List.set_cons_succ])
          refine any_pure (v := ?_) 6 rfl (by kernel_rfl) (fun _ _ _ _ _ h => h) (by rfl) (fun u hu => ?_) bx111 ?_
          rotate_left
          · skip
            go_simp
            (with_reducible rfl)
          (try simp only [Act.put, List.setIfInBounds_toArray, List.set_cons_zero, List.set_cons_succ])
          refine any_pure (v := ?_) 7 rfl (by kernel_rfl) (fun _ _ _ _ _ h => h) (by rfl) (fun u hu => ?_) bx111 ?_
          rotate_left
          · skip
            go_simp
            (with_reducible rfl)
          (try simp only [Act.put, List.setIfInBounds_toArray, List.set_cons_zero, List.set_cons_succ])
          refine any_one 9 rfl (by kernel_rfl) (by rfl) ?_
          obtain ⟨k0, k1, k2, k3, k4, k5⟩ := ag_111.three
          go_simp
          have hltg112 : w101.heap.size < w111.heap.size := ag_111.lt
          have AG112 : At (((w111.setCell ⟨w101.heap.size, 0, none⟩ (.slice A111 n111 c111)).setCell ⟨w101.heap.size, 1, none⟩ (.slice B111 m111 d111)).setCell ⟨w101.heap.size, 2, none⟩ (.int .i64 y111)) w101.heap.size 39 #[.slice A111 n111 c111, .slice B111 m111 d111, .int .i64 y111] := (((ag_111.set 0 (.slice A111 n111 c111)).set 1 (.slice B111 m111 d111)).set 2 (.int .i64 y111))
          have bx112 := (((bx111.far (p := ⟨w101.heap.size, 0, none⟩) (by show w.heap.size ≠ w101.heap.size ∧ w.heap.size + 1 ≠ w101.heap.size; have := gl109; omega) (.slice A111 n111 c111)).far (p := ⟨w101.heap.size, 1, none⟩) (by show w.heap.size ≠ w101.heap.size ∧ w.heap.size + 1 ≠ w101.heap.size; have := gl109; omega) (.slice B111 m111 d111)).far (p := ⟨w101.heap.size, 2, none⟩) (by show w.heap.size ≠ w101.heap.size ∧ w.heap.size + 1 ≠ w101.heap.size; have := gl109; omega) (.int .i64 y111))
          have hB112 := (((hB111.setCell (p := ⟨w101.heap.size, 0, none⟩) gl109 (.slice A111 n111 c111)).setCell (p := ⟨w101.heap.size, 1, none⟩) gl109 (.slice B111 m111 d111)).setCell (p := ⟨w101.heap.size, 2, none⟩) gl109 (.int .i64 y111))
          refine ⟨(fun u => At2 u w.heap.size 39 #[.slice A n c, .slice B m d, .int .i64 x] (w.heap.size + 1) 27 #[.int .i64 a0, .int .i64 a1, .int .i64 a2, .int .i64 a3, .int .i64 a4, .int .i64 a5, .int .i64 a6]), fun _ h => h, bx112, ?_⟩
          (try simp only [Act.put, List.setIfInBounds_toArray, List.set_cons_zero, List.set_cons_succ])
          refine any_pure (v := ?_) 10 rfl (by kernel_rfl) (fun _ _ _ _ _ h => h) (by rfl) (fun u hu => ?_) bx112 ?_
          rotate_left
          · skip
            go_simp
            (with_reducible rfl)
          (try simp only [Act.put, List.setIfInBounds_toArray, List.set_cons_zero, List.set_cons_succ])
          refine any_done (by kernel_rfl) ?_
          go_wp2
          go_meet
          exact ⟨_, _, _, _, _, _, _, _, rfl, rfl, AG112, hB112⟩
      · go_simp
        have ag113 := At.newAt' (w := v3.drew) (t := 39) (cs := #[.slice none 0 0, .slice none 0 0, .int .i64 0]) (show v3.drew.heap.size = v3.heap.size by first | rfl | simp)
        have gl113 : v3.heap.size ≤ v3.heap.size := by first | exact hBd.size | exact Nat.le_refl _ | (have := hBd.size; simp at this ⊢; try omega)
        have hal113 := (Below.refl v3.drew.heap.size v3.drew).alloc (Nat.le_refl _) (.cells #[.slice none 0 0, .slice none 0 0, .int .i64 0] 39)
        have hB113 := hBd.alloc hBd.size (.cells #[.slice none 0 0, .slice none 0 0, .int .i64 0] 39)
        have bx113 := bxd.alloc (.cells #[.slice none 0 0, .slice none 0 0, .int .i64 0] 39)
        have ha3_113 := ha3d.lift hal113
        have hb_3_113 := hb_3d.lift hal113
        have hF3_113 := hF3d.below hal113
        refine ⟨(fun u => At2 u w.heap.size 39 #[.slice A n c, .slice B m d, .int .i64 x] (w.heap.size + 1) 27 #[.int .i64 a0, .int .i64 a1, .int .i64 a2, .int .i64 a3, .int .i64 a4, .int .i64 a5, .int .i64 a6]), fun _ h => h, bx113, ?_⟩
        (try simp only [Act.put, List.setIfInBounds_toArray, List.set_cons_zero, List.set_cons_succ])
        refine any_one 1 rfl (by kernel_rfl) (by rfl) ?_
        go_simp
        refine (copyState A B n c m d l h x _ ha3_113 hb_3_113 Hn.out Hm.out hn3 hm3).mono ?_
        rintro e w114 ⟨A114, c114, B114, d114, rfl, ca114, cb114, hb114⟩
        have hB114 := hB113.trans (hb114.mono hB113.size)
        have bx114 := bx113.below hb114 bx113.lt
        have ag_114 := ag113.below hb114 ag113.lt
        have ha3_114 := ha3_113.lift hb114
        have hb_3_114 := hb_3_113.lift hb114
        have hF3_114 := hF3_113.below hb114
        refine ⟨(fun u => At2 u w.heap.size 39 #[.slice A n c, .slice B m d, .int .i64 x] (w.heap.size + 1) 27 #[.int .i64 a0, .int .i64 a1, .int .i64 a2, .int .i64 a3, .int .i64 a4, .int .i64 a5, .int .i64 a6]), fun _ h => h, bx114, ?_⟩
        (try simp only [Act.put, List.setIfInBounds_toArray, List.set_cons_zero, List.set_cons_succ])
        refine any_one 3 rfl (by kernel_rfl) (by rfl) ?_
        go_simp
        refine (entryOf a0 a1 a2 a3 a4 a5 a6 _).mono ?_
        rintro e w115 ⟨rfl, hb115⟩
        have hB115 := hB114.trans (hb115.mono hB114.size)
        have bx115 := bx114.below hb115 bx114.lt
        have ag_115 := ag_114.below hb115 ag_114.lt
        have ca_115 := ca114.below hb115 (Nat.le_refl _)
        have cb_115 := cb114.below hb115 (Nat.le_refl _)
        have ha3_115 := ha3_114.lift hb115
        have hb_3_115 := hb_3_114.lift hb115
        have hF3_115 := hF3_114.below hb115
        refine ⟨(fun u => At2 u w.heap.size 39 #[.slice A n c, .slice B m d, .int .i64 x] (w.heap.size + 1) 27 #[.int .i64 a0, .int .i64 a1, .int .i64 a2, .int .i64 a3, .int .i64 a4, .int .i64 a5, .int .i64 a6]), fun _ h => h, bx115, ?_⟩
        (try simp only [Act.put, List.setIfInBounds_toArray, List.set_cons_zero, List.set_cons_succ])
        refine any_one 4 rfl (by kernel_rfl) (by rfl) ?_
        go_simp
        refine (AE1 v3.heap.size A114 B114 n c114 m d114 _ (ca_115.from_ hB113.size) (cb_115.from_ hB113.size) hB115.size (by omega) hF3_115).mono ?_
        rintro e w116 ⟨A116, n116, c116, B116, m116, d116, y116, rfl, hb116⟩
        have hB116 := hB115.trans (hb116.mono hB115.size)
        have bx116 := bx115.below hb116 bx115.lt
        have ag_116 := ag_115.below hb116 ag_115.lt
        have ca_116 := ca_115.below hb116 (Nat.le_refl _)
        have cb_116 := cb_115.below hb116 (Nat.le_refl _)
        have ha3_116 := ha3_115.lift hb116
        have hb_3_116 := hb_3_115.lift hb116
        have hF3_116 := hF3_115.below hb116
        refine ⟨(fun u => At2 u w.heap.size 39 #[.slice A n c, .slice B m d, .int .i64 x] (w.heap.size + 1) 27 #[.int .i64 a0, .int .i64 a1, .int .i64 a2, .int .i64 a3, .int .i64 a4, .int .i64 a5, .int .i64 a6]), fun _ h => h, bx116, ?_⟩
        (try simp only [Act.put, List.setIfInBounds_toArray, List.set_cons_zero, List.set_cons_succ])
        refine any_pure (v := ?_) 5 rfl (by kernel_rfl) (fun _ _ _ _ _ h => h) (by rfl) (fun u hu => ?_) bx116 ?_
        rotate_left
        · skip
          go_simp
          (with_reducible rfl)
        (try simp only [Act.put, List.setIfInBounds_toArray, List.set_cons_zero, List.set_cons_succ])
        refine any_pure (v := ?_) 6 rfl (by kernel_rfl) (fun _ _ _ _ _ h => h) (by rfl) (fun u hu => ?_) bx116 ?_
        rotate_left
        · skip
          go_simp
          (with_reducible rfl)
        (try simp only [Act.put, List.setIfInBounds_toArray, List.set_cons_zero, List.set_cons_succ])
        refine any_pure (v := ?_) 7 rfl (by kernel_rfl) (fun _ _ _ _ _ h => h) (by rfl) (fun u hu => ?_) bx116 ?_
        rotate_left
        · skip
          go_simp
          (with_reducible rfl)
        (try simp only [Act.put, List.setIfInBounds_toArray, List.set_cons_zero, List.set_cons_succ])
        refine any_one 9 rfl (by kernel_rfl) (by rfl) ?_
        obtain ⟨k0, k1, k2, k3, k4, k5⟩ := ag_116.three
        go_simp
        have hltg117 : v3.heap.size < w116.heap.size := ag_116.lt
        have AG117 : At (((w116.setCell ⟨v3.heap.size, 0, none⟩ (.slice A116 n116 c116)).setCell ⟨v3.heap.size, 1, none⟩ (.slice B116 m116 d116)).setCell ⟨v3.heap.size, 2, none⟩ (.int .i64 y116)) v3.heap.size 39 #[.slice A116 n116 c116, .slice B116 m116 d116, .int .i64 y116] := (((ag_116.set 0 (.slice A116 n116 c116)).set 1 (.slice B116 m116 d116)).set 2 (.int .i64 y116))
        have bx117 := (((bx116.far (p := ⟨v3.heap.size, 0, none⟩) (by show w.heap.size ≠ v3.heap.size ∧ w.heap.size + 1 ≠ v3.heap.size; have := gl113; omega) (.slice A116 n116 c116)).far (p := ⟨v3.heap.size, 1, none⟩) (by show w.heap.size ≠ v3.heap.size ∧ w.heap.size + 1 ≠ v3.heap.size; have := gl113; omega) (.slice B116 m116 d116)).far (p := ⟨v3.heap.size, 2, none⟩) (by show w.heap.size ≠ v3.heap.size ∧ w.heap.size + 1 ≠ v3.heap.size; have := gl113; omega) (.int .i64 y116))
        have hB117 := (((hB116.setCell (p := ⟨v3.heap.size, 0, none⟩) gl113 (.slice A116 n116 c116)).setCell (p := ⟨v3.heap.size, 1, none⟩) gl113 (.slice B116 m116 d116)).setCell (p := ⟨v3.heap.size, 2, none⟩) gl113 (.int .i64 y116))
        refine ⟨(fun u => At2 u w.heap.size 39 #[.slice A n c, .slice B m d, .int .i64 x] (w.heap.size + 1) 27 #[.int .i64 a0, .int .i64 a1, .int .i64 a2, .int .i64 a3, .int .i64 a4, .int .i64 a5, .int .i64 a6]), fun _ h => h, bx117, ?_⟩
        (try simp only [Act.put, List.setIfInBounds_toArray, List.set_cons_zero, List.set_cons_succ])
        refine any_pure (v := ?_) 10 rfl (by kernel_rfl) (fun _ _ _ _ _ h => h) (by rfl) (fun u hu => ?_) bx117 ?_
        rotate_left
        · skip
          go_simp
          (with_reducible rfl)
        (try simp only [Act.put, List.setIfInBounds_toArray, List.set_cons_zero, List.set_cons_succ])
        refine any_done (by kernel_rfl) ?_
        go_wp2
        go_meet
        exact ⟨_, _, _, _, _, _, _, _, rfl, rfl, AG117, hB117⟩
    case rest =>
      obtain ⟨gx, A5, n5, c5, B5, m5, d5, y, rfl, rfl, AX, HB⟩ := hcut
      have z4 := z3.below HB lz3
      have hB4 := hB3.trans (HB.mono hB3.size)
      obtain ⟨zc0, zc1, zc2, zc3, zf0, zf1, zf2, zf3⟩ := z4.four
      go_wp2
      refine bodyPost_ret (v := .agg #[.int .i64 tc, .slice none 0 0, .slice none 0 0, .int .i64 0]) (by simp [results, Tryz.results12, go_sem, zc0, zc1, zc2, zc3]) rfl ?_
      rw [Hr2.out]
      exact retSta_zero ((((hB4.setCell (by simp; omega) _).setCell (by simp; omega) _).setCell (by simp; omega) _).setCell (by simp; omega) _)
end Go.Proofs.YtmaillakhhdkfaaGreatDoor
namespace Go.Proofs.YtmaillakhhdkfaaGreatDoor
set_option maxRecDepth 20000
open Go.RowKit

/-- One shift of a sum. -/
def crcS (n : Nat) : Nat := if 65536 ≤ n * 2 then (n * 2 % 65536) ^^^ 4129 else n * 2
def crcK : Nat → Nat → Nat
  | 0, n => n
  | k + 1, n => crcS (crcK k n)
def crcB (n : Nat) (b : UInt8) : Nat := crcK 8 (n ^^^ (b.toNat * 256))
def sumN (l : List UInt8) : Nat := l.foldl crcB 65535

theorem xor16 {a b : Nat} (ha : a < 65536) (hb : b < 65536) : a ^^^ b < 65536 := by
  have := Nat.xor_lt_two_pow (n := 16) (x := a) (y := b) (by omega) (by omega)
  omega
theorem crcS_lt {n : Nat} (h : n < 65536) : crcS n < 65536 := by
  unfold crcS
  split
  · exact xor16 (by omega) (by omega)
  · omega
theorem crcK_lt {n : Nat} (h : n < 65536) : ∀ k, crcK k n < 65536
  | 0 => h
  | k + 1 => crcS_lt (crcK_lt h k)
theorem crcB_lt {n : Nat} (h : n < 65536) (b : UInt8) : crcB n b < 65536 := by
  have := b.toNat_lt
  unfold crcB
  exact crcK_lt (xor16 h (by omega)) 8
theorem fold_lt {n : Nat} (h : n < 65536) (l : List UInt8) : l.foldl crcB n < 65536 := by
  induction l generalizing n with
  | nil => exact h
  | cons b l ih =>
    rw [List.foldl_cons]
    exact ih (crcB_lt h b)
theorem sumN_lt (l : List UInt8) : sumN l < 65536 := by
  exact fold_lt (n := 65535) (by omega) l
theorem sumN_snoc (l : List UInt8) (k : Nat) (x : UInt8) (h : l[k]? = some x) : sumN (l.take (k + 1)) = crcB (sumN (l.take k)) x := by
  have hl := getElem?_some_lt h
  rw [List.take_succ_eq_append_getElem hl]
  rw [List.getElem?_eq_getElem hl] at h
  rw [Option.some.inj h]
  simp [sumN]

theorem ofInt_i64 (a : Nat) (ha : a < 9223372036854775808) : (BitVec.ofInt 64 (a : Int)).toNat = a := by
  rw [BitVec.ofInt_natCast, BitVec.toNat_ofNat]; exact Nat.mod_eq_of_lt (by omega)
theorem i64_xor (a b : Nat) (ha : a < 65536) (hb : b < 65536) : bits .xor .i64 (a : Int) (b : Int) = ((a ^^^ b : Nat) : Int) := by
  have hx := xor16 ha hb
  show IntKind.i64.wrap ((BitVec.ofInt 64 (a : Int) ^^^ BitVec.ofInt 64 (b : Int)).toNat : Int) = _
  rw [BitVec.toNat_xor, ofInt_i64 a (by omega), ofInt_i64 b (by omega), IntKind.wrap_i64]
  omega

/-- The xor of a sum and a byte that is moved up, in the walk's spelling. -/
theorem xor_up (q : Nat) (x : UInt8) (hq : q < 65536) : ∃ y : Nat, y < 65536 ∧ y = q ^^^ (x.toNat * 256) ∧ bits .xor .i64 (q : Int) ((x.toNat : Int) * 256) = (y : Int) := by
  have hx8 := x.toNat_lt
  refine ⟨_, xor16 hq (by omega), rfl, ?_⟩
  have h := i64_xor q (x.toNat * 256) hq (by omega)
  rw [Int.natCast_mul] at h
  exact h
/-- One shift that goes over, in the walk's spelling. -/
theorem xor_over (r : Nat) (hr : r < 65536) (ho : 65536 ≤ r * 2) : ∃ z : Nat, z < 65536 ∧ z = crcS r ∧ bits .xor .i64 ((r : Int) * 2 % 65536) 4129 = (z : Int) := by
  refine ⟨crcS r, crcS_lt hr, rfl, ?_⟩
  have h := i64_xor (r * 2 % 65536) 4129 (by omega) (by omega)
  rw [Int.natCast_emod, Int.natCast_mul] at h
  rw [crcS, if_pos ho]
  exact h
theorem crcS_under (r : Nat) (ho : ¬ 65536 ≤ r * 2) : crcS r = r * 2 := if_neg ho

set_option maxRecDepth 100000 in
set_option maxHeartbeats 800000 in
theorem l1Sum (A : Option Addr) (n c : Nat) (l : List UInt8) (w : World) (ha : Rd eB w w.heap.size A l) (hn : l.length = n) (hm : n ≤ maxLen) :
    Calls Tryz.prog 118 #[.slice A n c] w fun e w' => e = .returned (.int .i64 (sumN l : Nat)) ∧ w = w' := by
  have Hn := Lib.hid hn
  clear hn
  unfold maxLen at hm
  go_enter Tryz.func118, Tryz.ntmps118
  go_wp2
  go_loop [3, 4, 5] (fun vq vi _ => ∃ k q : Nat, k ≤ n ∧ vi = .int .i64 k ∧ vq = .int .i64 q ∧ q < 65536 ∧ Hid (q = sumN (l.take k))) (fun _ vi _ => n - (intOf vi).toNat)
  case atStart => exact ⟨0, 65535, Nat.zero_le _, rfl, rfl, by omega, Lib.hid (by simp [sumN])⟩
  case round =>
    obtain ⟨k, q, hk, rfl, rfl, hq, Hq⟩ := hrel
    by_cases hlt : k < n
    · obtain ⟨g, o, x, rfl, hg, hx, ca⟩ := ha.byte (k := k) (by rw [Hn.out]; exact hlt)
      have hx8 := x.toNat_lt
      have Hst := Lib.hid (sumN_snoc l k x hx)
      clear hx
      obtain ⟨y, hy, hy0, hxor⟩ := xor_up q x hq
      have Hy := Lib.hid hy0
      clear hy0
      go_wp2
      go_loop [3, 5] (fun vq vj => ∃ j r : Nat, j ≤ 8 ∧ vj = .int .i64 j ∧ vq = .int .i64 r ∧ r < 65536 ∧ Hid (r = crcK j y)) (fun _ vj => 8 - (intOf vj).toNat)
      case atStart => exact ⟨0, y, Nat.zero_le _, rfl, rfl, hy, Lib.hid rfl⟩
      case round =>
        obtain ⟨j, r, hj, rfl, rfl, hr, Hr⟩ := hrel
        by_cases hlt8 : j < 8
        · by_cases ho : 65536 ≤ r * 2
          · obtain ⟨z, hz, hz0, hxor2⟩ := xor_over r hr ho
            have Hz := Lib.hid hz0
            have hge : (65536 : Int) ≤ (r : Int) * 2 := by omega
            clear hz0 ho
            go_wp2
            exact ⟨⟨j + 1, z, by omega, by go_num, rfl, hz, Lib.hid (by rw [Hz.out, Hr.out]; rfl)⟩, by simp [intOf]; omega⟩
          · have hge : decide ((65536 : Int) ≤ (r : Int) * 2) = false := decide_eq_false (by omega)
            have Hz := Lib.hid (crcS_under r ho)
            have Hle := Lib.hid (show r * 2 < 65536 by omega)
            clear ho
            go_wp2
            exact ⟨⟨j + 1, r * 2, by omega, by go_num, by go_num, Hle.out, Lib.hid (by rw [← Hz.out, Hr.out]; rfl)⟩, by simp [intOf]; omega⟩
        · go_wp2
          obtain rfl : j = 8 := by omega
          exact ⟨⟨k + 1, r, by omega, by go_num, rfl, hr, Lib.hid (by rw [Hst.out, ← Hq.out, Hr.out, Hy.out]; rfl)⟩, by simp [intOf]; omega⟩
    · go_wp2
      go_ret
      exact ⟨by rw [Hq.out, List.take_of_length_le (by rw [Hn.out]; omega)]; rfl, rfl⟩

/-! ### impl -/
theorem and_mask (r : Nat) (hr : r < 65536) : bits .and .i64 ((r : Int) * 2) 65535 = (r : Int) * 2 % 65536 := by
  show IntKind.i64.wrap ((BitVec.ofInt 64 ((r : Int) * 2) &&& BitVec.ofInt 64 65535).toNat : Int) = _
  have o1 : (BitVec.ofInt 64 ((r : Int) * 2)).toNat = r * 2 := by
    have := ofInt_i64 (r * 2) (by omega)
    rw [Int.natCast_mul] at this
    exact this
  have o2 : (BitVec.ofInt 64 65535).toNat = 65535 := by decide
  have o3 : r * 2 &&& 65535 = r * 2 % 65536 := Nat.and_two_pow_sub_one_eq_mod (r * 2) 16
  rw [BitVec.toNat_and, o1, o2, o3, IntKind.wrap_i64]
  omega

set_option maxRecDepth 100000 in
set_option maxHeartbeats 800000 in
theorem addToSum (q : Nat) (x : UInt8) (w : World) (hq : q < 65536) :
    Calls Tryz.prog 145 #[.int .i64 q, .int .u8 (x.toNat : Int)] w fun e w' => e = .returned (.int .i64 (crcB q x : Nat)) ∧ w = w' := by
  obtain ⟨y, hy, hy0, hxor⟩ := xor_up q x hq
  have Hy := Lib.hid hy0
  have hx8 := x.toNat_lt
  clear hy0
  go_enter Tryz.func145, Tryz.ntmps145
  go_wp2
  go_loop [0, 10] (fun vq vj => ∃ j r : Nat, j ≤ 8 ∧ vj = .int .i64 j ∧ vq = .int .i64 r ∧ r < 65536 ∧ Hid (r = crcK j y)) (fun _ vj => 8 - (intOf vj).toNat)
  case atStart => exact ⟨0, y, Nat.zero_le _, rfl, rfl, hy, Lib.hid rfl⟩
  case round =>
    obtain ⟨j, r, hj, rfl, rfl, hr, Hr⟩ := hrel
    by_cases hlt8 : j < 8
    · by_cases ho : 65536 ≤ r * 2
      · obtain ⟨z, hz, hz0, hxor2⟩ := xor_over r hr ho
        have Hz := Lib.hid hz0
        have hge : (65535 : Int) < (r : Int) * 2 := by omega
        have hmask := and_mask r hr
        clear hz0 ho
        go_wp2
        exact ⟨⟨j + 1, z, by omega, by go_num, rfl, hz, Lib.hid (by rw [Hz.out, Hr.out]; rfl)⟩, by simp [intOf]; omega⟩
      · have hge : (r : Int) * 2 ≤ 65535 := by omega
        have Hz := Lib.hid (crcS_under r ho)
        have Hle := Lib.hid (show r * 2 < 65536 by omega)
        clear ho
        go_wp2
        exact ⟨⟨j + 1, r * 2, by omega, by go_num, by go_num, Hle.out, Lib.hid (by rw [← Hz.out, Hr.out]; rfl)⟩, by simp [intOf]; omega⟩
    · obtain rfl : j = 8 := by omega
      have Hfin := Lib.hid (show r = crcB q x by rw [Hr.out, Hy.out]; rfl)
      go_wp2
      go_ret
      exact ⟨by rw [← Hfin.out]; rfl, rfl⟩

/-- What SumOf answers. -/
def sumM (l : List UInt8) : Int × Int := if l.length ≤ 20000 then (0, (sumN l : Nat)) else (2, 0)
theorem sumM_big {l : List UInt8} (h : 20000 < l.length) : sumM l = (2, 0) := if_neg (by omega)
theorem sumM_ok {l : List UInt8} (h : l.length ≤ 20000) : sumM l = (0, ((sumN l : Nat) : Int)) := if_pos h

set_option maxHeartbeats 400000 in
theorem implSumOf_big (A : Option Addr) (n c : Nat) (l : List UInt8) (w : World) (hn : l.length = n) (h : 20000 < n) :
    Calls Tryz.prog 123 #[.slice A n c] w fun e w' => RetIR (sumM l) w e w' := by
  have Hf := Lib.hid (sumM_big (l := l) (by omega))
  have hgt : (20000 : Int) < (n : Int) := by omega
  clear hn h
  go_enter Tryz.func123, Tryz.ntmps123
  go_wp2
  refine bodyPost_ret (v := .agg #[.int .i64 2, .int .i64 0]) (by simp [results, Tryz.results123, go_sem]) rfl ?_
  rw [Hf.out]
  exact ⟨rfl, (Below.refl _ _).alloc (Nat.le_refl _) _⟩

set_option maxHeartbeats 800000 in
theorem implSumOf_ok (A : Option Addr) (n c : Nat) (l : List UInt8) (w : World) (ha : Rd eB w w.heap.size A l) (hn : l.length = n) (h : n ≤ 20000) :
    Calls Tryz.prog 123 #[.slice A n c] w fun e w' => RetIR (sumM l) w e w' := by
  have Hf := Lib.hid (sumM_ok (l := l) (by omega))
  have Hn := Lib.hid hn
  have hle : (n : Int) ≤ 20000 := by omega
  clear hn h
  have ha2 := ha.lift ((Below.refl w.heap.size w).alloc (Nat.le_refl _) (.cells #[.int .i64 0, .int .i64 0] 131))
  go_enter Tryz.func123, Tryz.ntmps123
  go_wp2
  go_loop [3, 5, 12] (fun vq _ vi => ∃ k q : Nat, k ≤ n ∧ vi = .int .i64 k ∧ vq = .int .i64 q ∧ Hid (q < 65536) ∧ Hid (q = sumN (l.take k))) (fun _ _ vi => n - (intOf vi).toNat)
  case atStart => exact ⟨0, 65535, Nat.zero_le _, rfl, rfl, Lib.hid (by omega), Lib.hid (by simp [sumN])⟩
  case round =>
    obtain ⟨k, q, hk, rfl, rfl, Hq8, Hq⟩ := hrel
    by_cases hlt : k < n
    · obtain ⟨g, o, x, rfl, hg, hx, ca⟩ := ha2.byte (k := k) (by rw [Hn.out]; exact hlt)
      have Hst := Lib.hid (sumN_snoc l k x hx)
      clear hx
      go_wp2_with (go_at_call 145; refine (addToSum q x _ Hq8.out).mono ?_; rintro e w' ⟨rfl, rfl⟩)
      exact ⟨⟨k + 1, crcB q x, by omega, by go_num, rfl, Lib.hid (crcB_lt Hq8.out x), Lib.hid (by rw [Hst.out, ← Hq.out])⟩, by simp [intOf]; omega⟩
    · have Hfin := Lib.hid (show q = sumN l by rw [Hq.out, List.take_of_length_le (by rw [Hn.out]; omega)])
      go_wp2
      refine bodyPost_ret (v := .agg #[.int .i64 0, .int .i64 (q : Nat)]) (by simp [results, Tryz.results123, go_sem]) rfl ?_
      rw [Hf.out, ← Hfin.out]
      exact ⟨rfl, (Below.refl _ _).alloc (Nat.le_refl _) _⟩

theorem implSumOf (A : Option Addr) (n c : Nat) (l : List UInt8) (w : World) (ha : Rd eB w w.heap.size A l) (hn : l.length = n) :
    Calls Tryz.prog 123 #[.slice A n c] w fun e w' => RetIR (sumM l) w e w' := by
  by_cases h : n ≤ 20000
  · exact implSumOf_ok A n c l w ha hn h
  · exact implSumOf_big A n c l w hn (by omega)
end Go.Proofs.YtmaillakhhdkfaaGreatDoor
namespace Go.Proofs.YtmaillakhhdkfaaGreatDoor
set_option maxRecDepth 20000
open Go.RowKit

/-- The length and the body. -/
def frontL (b : List UInt8) : List UInt8 := UInt8.ofNat b.length :: b
/-- The sum, the higher byte first. -/
def sumL (f : List UInt8) : List UInt8 := [UInt8.ofNat (sumN f / 256), UInt8.ofNat (sumN f)]
def frameL (b : List UInt8) : List UInt8 := frontL b ++ sumL (frontL b)
theorem frameL_len (b : List UInt8) : (frameL b).length = b.length + 3 := by simp [frameL, frontL, sumL]

theorem byte_num' (n : Nat) : ((UInt8.ofNat n).toNat : Int) = (n : Int) % 256 := by
  rw [UInt8.toNat_ofNat']
  omega
theorem byte_small {n : Nat} (h : n < 256) : ((UInt8.ofNat n).toNat : Int) = (n : Int) := by rw [byte_num']; omega

/-- One byte laid in a block. -/
theorem ow_one (w : World) (b : UInt8) (v : Int) (hv : v = (b.toNat : Int)) : Ow eB (w.alloc (.cells #[.int .u8 v] 5)) w.heap.size (some ⟨w.heap.size, 0, none⟩) 1 1 [b] :=
  Ow.lit w [b] _ 1 (Nat.le_refl _) (by unfold maxLen; omega) (by simp [Enc.row, eB, hv]) rfl
theorem ow_two (w : World) (a b : UInt8) (u v : Int) (hu : u = (a.toNat : Int)) (hv : v = (b.toNat : Int)) : Ow eB (w.alloc (.cells #[.int .u8 u, .int .u8 v] 5)) w.heap.size (some ⟨w.heap.size, 0, none⟩) 2 2 [a, b] :=
  Ow.lit w [a, b] _ 2 (Nat.le_refl _) (by unfold maxLen; omega) (by simp [Enc.row, eB, hu, hv]) rfl

set_option maxHeartbeats 800000 in
theorem l1Frame (A : Option Addr) (n c : Nat) (b : List UInt8) (w : World) (ha : Rd eB w w.heap.size A b) (hn : b.length = n) (hm : n ≤ 40) :
    Calls Tryz.prog 68 #[.slice A n c] w fun e w' => ∃ A' c', e = .returned (.slice A' (n + 3) c') ∧ Ow eB w' w.heap.size A' (n + 3) c' (frameL b) ∧ Below w.heap.size w w' := by
  have Hn := Lib.hid hn
  clear hn
  have o1 := ow_one w (UInt8.ofNat n) (n : Int) (byte_small (by omega)).symm
  have B1 := (Below.refl w.heap.size w).alloc (Nat.le_refl _) (.cells #[.int .u8 (n : Int)] 5)
  have a1 := ha.lift B1
  go_enter Tryz.func68, Tryz.ntmps68
  go_wp2_with (first
    | (at_builtin
       refine wpList_append_ow okB _ rfl (.tmp 8) (.tmp 9) _ rfl w.heap.size info_u8 Tryz.underlying22 rfl (some ⟨w.heap.size, 0, none⟩) 1 1 [UInt8.ofNat n] rfl o1 A n c _ b rfl a1 Hn.out (by unfold maxLen; omega) (by omega) (by simp) ?_
       intro A1 c1 w1 ow1 hg1 _
       have B2 : Below w.heap.size w w1 := B1.grown hg1 (by simp) (fun g hg => by simp at hg; omega)
       have ow2 : Ow eB w1 w.heap.size A1 (1 + n) c1 (frontL b) := by
         rw [frontL, Hn.out]
         exact ow1
       have hs := sumN_lt (frontL b)
       have hs2 : ((sumN (frontL b) : Nat) : Int) ≤ 65535 := by omega
       have Hs := Lib.hid hs
       have o3 := ow_two w1 (UInt8.ofNat (sumN (frontL b) / 256)) (UInt8.ofNat (sumN (frontL b))) (((sumN (frontL b) : Nat) : Int) / 256) (((sumN (frontL b) : Nat) : Int) % 256) (by rw [byte_num']; omega) (by rw [byte_num'])
       have B3 := B2.alloc B2.size (.cells #[.int .u8 (((sumN (frontL b) : Nat) : Int) / 256), .int .u8 (((sumN (frontL b) : Nat) : Int) % 256)] 5)
       clear hs)
    | (go_at_call 118; refine (l1Sum A1 (1 + n) c1 (frontL b) _ (ow2.rd okB) (ow2.len okB) ow2.small).mono ?_; rintro e w' ⟨rfl, rfl⟩)
    | (at_builtin
       refine wpList_append_ow okB _ rfl (.tmp 13) (.tmp 20) _ rfl w.heap.size info_u8 Tryz.underlying22 rfl A1 (1 + n) c1 (frontL b) rfl (ow2.alloc _) (some ⟨w1.heap.size, 0, none⟩) 2 2 _ (sumL (frontL b)) rfl (o3.rd okB) rfl (by unfold maxLen; omega) (by omega) B3.size ?_
       intro A2 c2 w3 ow3 hg3 _))
  go_ret
  have B4 := B3.grown hg3 B3.size (fun g hg => (ow2.lt g hg).1)
  rw [show 1 + n + 2 = n + 3 by omega] at ow3
  rw [show 1 + n + 2 = n + 3 by omega]
  exact ⟨_, _, rfl, ow3, B4⟩
end Go.Proofs.YtmaillakhhdkfaaGreatDoor
namespace Go.Proofs.YtmaillakhhdkfaaGreatDoor
set_option maxRecDepth 20000
open Go.RowKit

/-- What PackFrame answers. -/
def packFrameM (b : List UInt8) : Int × List UInt8 := if 1 ≤ b.length ∧ b.length ≤ 40 then (0, frameL b) else (2, [])
theorem packFrameM_len (b : List UInt8) : (packFrameM b).2.length ≤ 43 := by
  unfold packFrameM
  split
  · rw [frameL_len]; omega
  · simp
theorem packFrameM_bad {b : List UInt8} (h : ¬ (1 ≤ b.length ∧ b.length ≤ 40)) : packFrameM b = (2, []) := if_neg h
theorem packFrameM_ok {b : List UInt8} (h : 1 ≤ b.length ∧ b.length ≤ 40) : packFrameM b = (0, frameL b) := if_pos h

/-! ### impl -/
set_option maxHeartbeats 400000 in
theorem sumBytes (A : Option Addr) (n c : Nat) (l : List UInt8) (w : World) (ha : Rd eB w w.heap.size A l) (hn : l.length = n) (hm : n ≤ 20000) :
    Calls Tryz.prog 74 #[.slice A n c] w fun e w' => ∃ A' c', e = .returned (.slice A' 2 c') ∧ Ow eB w' w.heap.size A' 2 c' (sumL l) ∧ Below w.heap.size w w' := by
  have Hf := sumM_ok (l := l) (by omega)
  have h := implSumOf A n c l w ha hn
  rw [Hf] at h
  have H := Lib.hid h
  have hs2 : ((sumN l : Nat) : Int) ≤ 65535 := by have := sumN_lt l; omega
  clear hn hm Hf h
  have hfd : ∀ w : World, (Instr.field 131 (.agg #[.int .i64 0, .int .i64 (sumN l : Nat)]) 1).run Tryz.prog w = .ok (.int .i64 (sumN l : Nat)) w := fun _ => by kernel_rfl
  go_enter Tryz.func74, Tryz.ntmps74
  go_wp2_with (go_at_call 123; refine H.out.mono ?_; rintro e w1 ⟨rfl, hb1⟩)
  go_ret
  have o3 := ow_two w1 (UInt8.ofNat (sumN l / 256)) (UInt8.ofNat (sumN l)) (((sumN l : Nat) : Int) / 256) (((sumN l : Nat) : Int) % 256) (by rw [byte_num']; omega) (by rw [byte_num'])
  exact ⟨_, _, rfl, o3.from_ hb1.size, hb1.alloc hb1.size _⟩

set_option maxHeartbeats 400000 in
theorem implPackFrame_no (A : Option Addr) (n c : Nat) (b : List UInt8) (w : World) (hn : b.length = n) (h : ¬ (1 ≤ n ∧ n ≤ 40)) :
    Calls Tryz.prog 26 #[.slice A n c] w fun e w' => RetBR (packFrameM b) w e w' := by
  have Hf := Lib.hid (packFrameM_bad (b := b) (by omega))
  have hno : [((n : Int), (1 : Int), (40 : Int))].all inB = false := by simp [inB]; omega
  clear hn h
  go_enter Tryz.func26, Tryz.ntmps26
  go_wp2_with (go_at_call 73; refine (areWithin_any _ _ _ [((n : Int), 1, 40)] _ (bnds_one (by simp)) (by simp) rfl (by simp)).mono ?_; rintro e w1 ⟨rfl, hb1⟩; have a1 := ((At.new w 30 #[.int .i64 0, .slice none 0 0]).alloc _).below hb1 (by simp; omega); obtain ⟨r0, r1, _, _⟩ := a1.two)
  have B1 : Below w.heap.size w w1 := (((Below.refl _ _).alloc (Nat.le_refl _) _).alloc (by simp) _).trans (hb1.mono (by simp; omega))
  refine bodyPost_ret (v := .agg #[.int .i64 2, .slice none 0 0]) (by simp [results, Tryz.results26, go_sem, r0, r1]) rfl ?_
  rw [Hf.out]
  exact ⟨none, 0, 0, rfl, Ow.nil, (B1.setCell (Nat.le_refl _) _).setCell (Nat.le_refl _) _⟩

set_option maxHeartbeats 800000 in
theorem implPackFrame_ok (A : Option Addr) (n c : Nat) (b : List UInt8) (w : World) (ha : Rd eB w w.heap.size A b) (hn : b.length = n) (h1 : 1 ≤ n) (h2 : n ≤ 40) :
    Calls Tryz.prog 26 #[.slice A n c] w fun e w' => RetBR (packFrameM b) w e w' := by
  have Hf := Lib.hid (packFrameM_ok (b := b) (by omega))
  have Hn := Lib.hid hn
  have hno : [((n : Int), (1 : Int), (40 : Int))].all inB = true := by simp [inB]; omega
  clear hn
  go_enter Tryz.func26, Tryz.ntmps26
  go_wp2_with (first
    | (go_at_call 73
       refine (areWithin_any _ _ _ [((n : Int), 1, 40)] _ (bnds_one (by simp)) (by simp) rfl (by simp)).mono ?_
       rintro e w1 ⟨rfl, hb1⟩
       have a1 := ((At.new w 30 #[.int .i64 0, .slice none 0 0]).alloc _).below hb1 (by simp; omega)
       have z1 := a1.lt
       have B1 : Below w.heap.size w w1 := (((Below.refl _ _).alloc (Nat.le_refl _) _).alloc (by simp) _).trans (hb1.mono (by simp; omega))
       have o1 := ow_one w1 (UInt8.ofNat n) (n : Int) (byte_small (by omega)).symm
       have B2 := B1.alloc B1.size (.cells #[.int .u8 (n : Int)] 5)
       have a2 := a1.alloc (.cells #[.int .u8 (n : Int)] 5)
       have rd2 := ha.lift B2)
    | (at_builtin
       refine wpList_append_ow okB _ rfl (.tmp 14) (.tmp 15) _ rfl w1.heap.size info_u8 Tryz.underlying22 rfl (some ⟨w1.heap.size, 0, none⟩) 1 1 [UInt8.ofNat n] rfl o1 A n c _ b rfl rd2 Hn.out (by unfold maxLen; omega) (by omega) (by simp) ?_
       intro A3 c3 w3 ow3 hg3 _
       have B3 : Below w.heap.size w w3 := B2.grown hg3 B2.size (fun g hg => by simp at hg; omega)
       have a3 := a2.grown hg3 (by simp; omega)
       have ow3' : Ow eB w3 w1.heap.size A3 (1 + n) c3 (frontL b) := by
         rw [frontL, Hn.out]
         exact ow3)
    | (go_at_call 74
       refine (sumBytes A3 (1 + n) c3 (frontL b) _ (ow3'.rd okB) (ow3'.len okB) (by omega)).mono ?_
       rintro e w4 ⟨A4, c4, rfl, ow4, hb4⟩
       have ow5 := ow3'.below hb4 (Nat.le_refl _)
       have a4 := a3.below hb4 a3.lt
       have B4 := B3.trans (hb4.mono B3.size)
       have z4 := a4.lt
       have le4 : w1.heap.size ≤ w4.heap.size := by have h1 := hg3.size; have h2 := hb4.size; simp at h1; omega)
    | (at_builtin
       refine wpList_append_ow okB _ rfl (.tmp 17) (.tmp 19) _ rfl w1.heap.size info_u8 Tryz.underlying22 rfl A3 (1 + n) c3 (frontL b) rfl ow5 A4 2 c4 _ (sumL (frontL b)) rfl (ow4.rd okB) rfl (by unfold maxLen; omega) (by omega) le4 ?_
       intro A6 c6 w6 ow6 hg6 _
       have B6 := B4.grown hg6 B4.size (fun g hg => by have := (ow5.lt g hg).1; omega)
       have a6 := a4.grown hg6 (fun e => by have := (ow5.lt _ e).1; omega)
       obtain ⟨r0, r1, _, _⟩ := a6.two))
  refine bodyPost_ret (v := .agg #[.int .i64 0, .slice A6 (1 + n + 2) c6]) (by simp [results, Tryz.results26, go_sem, r0, r1]) rfl ?_
  rw [Hf.out]
  exact ⟨A6, 1 + n + 2, c6, rfl, ((ow6.under (p := ⟨w.heap.size, 0, none⟩) (by simp; omega) _).under (p := ⟨w.heap.size, 1, none⟩) (by simp; omega) _).from_ (by omega), (B6.setCell (Nat.le_refl _) _).setCell (Nat.le_refl _) _⟩

theorem implPackFrame (A : Option Addr) (n c : Nat) (b : List UInt8) (w : World) (ha : Rd eB w w.heap.size A b) (hn : b.length = n) :
    Calls Tryz.prog 26 #[.slice A n c] w fun e w' => RetBR (packFrameM b) w e w' := by
  by_cases h : 1 ≤ n ∧ n ≤ 40
  · exact implPackFrame_ok A n c b w ha hn h.1 h.2
  · exact implPackFrame_no A n c b w hn h
end Go.Proofs.YtmaillakhhdkfaaGreatDoor
