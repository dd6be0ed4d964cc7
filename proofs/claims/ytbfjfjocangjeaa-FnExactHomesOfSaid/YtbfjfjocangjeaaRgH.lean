/-
  The model's PlacesOf, HomesOf and IsHome.
-/
import Derived.Test.YtbfjfjocangjeaaRgL
namespace Go.Proofs.Ytbfjfjocangjeaa
set_option maxRecDepth 20000
open Go.RowKit
set_option linter.unusedSimpArgs false
set_option linter.unusedVariables false
attribute [local irreducible] mixW

theorem fldPl0 (z : Int) (A : Option Addr) (k c : Nat) (u : World) : (Instr.field 54 (.agg #[.int .i64 z, .slice A k c]) 0).run Try.prog u = .ok (.int .i64 z) u := by kernel_rfl
theorem fldIn1 (z : Int) (A : Option Addr) (k c : Nat) (u : World) : (Instr.field 61 (.agg #[.int .i64 z, .slice A k c]) 1).run Try.prog u = .ok (.slice A k c) u := by kernel_rfl

theorem specPlacesOf (n s : Int) (w : World) :
    Calls Try.prog 38 #[.int .i64 n, .int .i64 s] w fun e w' => RetPl (placesM n s) w e w' := by
  unfold RetPl
  have hB0 := (Below.refl w.heap.size w).alloc (Nat.le_refl _) (.cells #[.int .i64 0, .slice none 0 0] 54)
  have z0 := At.new w 54 #[.int .i64 0, .slice none 0 0]
  rcases h1 : inB (n, 1, 4)
  · have Hr := Lib.hid (show placesM n s = (3, []) by simp [placesM, h1])
    go_enter Try.func38, Try.ntmps38
    go_wp2_with fail
    refine (l1In_is h1 _).mono ?_
    rintro e w1 ⟨rfl, hb1⟩
    have z1 := z0.below hb1 z0.lt
    have hB1 := hB0.trans (hb1.mono hB0.size)
    obtain ⟨r0, r1, rf0, rf1⟩ := z1.two
    go_wp2
    refine bodyPost_ret (v := .agg #[.int .i64 3, .slice none 0 0]) (by simp [results, Try.results38, go_sem, r0, r1]) rfl ?_
    refine ⟨none, 0, 0, by rw [Hr.out], by rw [Hr.out]; exact Ow.nil, ?_⟩
    repeat (refine Below.setCell ?_ (by simp) _)
    exact hB1
  rcases h2 : inB (s, 0, 9)
  · have Hr := Lib.hid (show placesM n s = (3, []) by simp [placesM, h2])
    go_enter Try.func38, Try.ntmps38
    go_wp2_with fail
    refine (l1In_is h1 _).mono ?_
    rintro e w1 ⟨rfl, hb1⟩
    have z1 := z0.below hb1 z0.lt
    have hB1 := hB0.trans (hb1.mono hB0.size)
    go_wp2_with fail
    refine (specL6Series s _).mono ?_
    rintro e w2 ⟨he, hb2⟩
    rw [h2] at he
    subst he
    have z2 := z1.below hb2 z1.lt
    have hB2 := hB1.trans (hb2.mono hB1.size)
    obtain ⟨r0, r1, rf0, rf1⟩ := z2.two
    go_wp2
    refine bodyPost_ret (v := .agg #[.int .i64 3, .slice none 0 0]) (by simp [results, Try.results38, go_sem, r0, r1]) rfl ?_
    refine ⟨none, 0, 0, by rw [Hr.out], by rw [Hr.out]; exact Ow.nil, ?_⟩
    repeat (refine Below.setCell ?_ (by simp) _)
    exact hB2
  have hn : 1 ≤ n ∧ n ≤ 4 := by have := h1; unfold inB at this; simpa using this
  have hs : 0 ≤ s ∧ s ≤ 9 := by have := h2; unfold inB at this; simpa using this
  obtain ⟨N, rfl⟩ := Int.eq_ofNat_of_zero_le (show 0 ≤ n by omega)
  have Hr := Lib.hid (show placesM (N : Int) s = (0, placesF s N) by simp [placesM, h1, h2])
  go_enter Try.func38, Try.ntmps38
  go_wp2_with fail
  refine (l1In_is h1 _).mono ?_
  rintro e w1 ⟨rfl, hb1⟩
  have z1 := z0.below hb1 z0.lt
  have hB1 := hB0.trans (hb1.mono hB0.size)
  go_wp2_with fail
  refine (specL6Series s _).mono ?_
  rintro e w2 ⟨he, hb2⟩
  rw [h2] at he
  subst he
  have z2 := z1.below hb2 z1.lt
  have hB2 := hB1.trans (hb2.mono hB1.size)
  go_wp2_with fail
  refine (l6Places N s _ (by omega) hs.1 hs.2).mono ?_
  rintro e w3 ⟨A, c, rfl, ow, hb3⟩
  have z3 := z2.below hb3 z2.lt
  have hB3 := hB2.trans (hb3.mono hB2.size)
  obtain ⟨r0, r1, rf0, rf1⟩ := z3.two
  go_wp2
  refine bodyPost_ret (v := .agg #[.int .i64 0, .slice A N c]) (by simp [results, Try.results38, go_sem, r0, r1]) rfl ?_
  refine ⟨A, N, c, by rw [Hr.out], ?_, ?_⟩
  · rw [Hr.out]
    exact ((ow.from_ hB2.size).apartMk (by decide) z3 0 _).apartMk (by decide) (z3.set 0 _) 1 _
  · repeat (refine Below.setCell ?_ (by simp) _)
    exact hB3

theorem Ow.neRowPl {α β : Type} {E : Enc α} {F : Enc β} {w : World} {base base' n c m d : Nat} {A B : Option Addr} {l : List α} {q : List β} (h : Ow E w base A n c l) (hne : E.tid ≠ F.tid) (k : Ow F w base' B m d q) : ∀ g, A.map (·.block) = some g → B.map (·.block) ≠ some g := by
  intro g hg e
  rcases k.2 with ⟨h0, _⟩ | ⟨g', cap, cur, hv, hb, hgg, rest⟩
  · simp only [Value.slice.injEq] at h0
    rw [h0.1] at e
    simp at e
  · simp only [Value.slice.injEq] at hv
    rw [hv.1] at e
    obtain rfl : g' = g := by simpa using e
    exact h.neBlkMk hne hgg g' hg rfl
theorem homes_next {l : List Plc} {k : Nat} {a b : Int} (h : l[k]? = some (a, b)) : (l.take (k + 1)).map (·.2) = (l.take k).map (·.2) ++ [b] := by
  rw [List.take_add_one, h]
  simp
def HoRel (w : World) (l : List Plc) (c : Nat) (o i : Value) (wr : World) : Prop :=
  ∃ (k : Nat) (A : Option Addr) (d : Nat), k ≤ c ∧ i = .int .i64 k ∧ o = .slice A k d ∧ Ow eIn wr w.heap.size A k d ((l.take k).map (·.2)) ∧ Below w.heap.size w wr

set_option maxHeartbeats 2000000 in
theorem l6Homes (N c : Nat) (s : Int) (w : World) (hN : N ≤ 4) (hc : c ≤ N) (h0 : 0 ≤ s) (h9 : s ≤ 9) :
    Calls Try.prog 99 #[.int .i64 (N : Int), .int .i64 (c : Int), .int .i64 s] w fun e w' => ∃ A d, e = .returned (.slice A c d) ∧ Ow eIn w' w.heap.size A c d (homesF N c s) ∧ Below w.heap.size w w' := by
  have hpl := places_len s N
  go_enter Try.func99, Try.ntmps99
  go_wp2_with fail
  refine (l6Places N s _ hN h0 h9).mono ?_
  rintro e w1 ⟨A1, c1, rfl, ow1, hb1⟩
  have o2 : Ow eIn (w1.alloc (.cells #[] 2)) w.heap.size (some ⟨w1.heap.size, 0, none⟩) 0 0 [] := Ow.lit w1 [] #[] 0 hb1.size (by unfold maxLen; omega) rfl rfl
  have B2 := hb1.alloc hb1.size (.cells #[] 2)
  have p2 := ow1.alloc (.cells #[] 2)
  clear ow1
  go_wp2
  go_loopw [8, 9] (fun o i wr => HoRel w (placesF s N) c o i wr ∧ Ow ePl wr w.heap.size A1 N c1 (placesF s N)) (fun _ i _ => c - (intOf i).toNat)
  case atStart => exact ⟨⟨0, _, 0, Nat.zero_le _, rfl, rfl, by simpa using o2, B2⟩, p2⟩
  case round =>
    clear o2 B2 p2
    obtain ⟨⟨k, A2, d2, hk, rfl, rfl, ow2, hbel⟩, op⟩ := hrel
    by_cases hlt : k < c
    · have hno := op.neRowPl (by decide) ow2
      obtain ⟨g, o, a0, a1, rfl, hg, hx, q0, q1⟩ := (op.rd okPl).plc (k := k) (by omega)
      have Hq := Lib.hid (homes_next hx)
      clear hx
      have i5 : (k : Int) < (c : Int) := by omega
      have i6 : (k : Int) < (N : Int) := by omega
      have hlo := ow2.len okIn
      go_wp2_with (at_builtin; refine wpList_append_ow okIn _ rfl (.tmp 19) (.tmp 25) _ rfl w.heap.size info_int Try.underlying59 rfl A2 k d2 _ rfl (ow2.alloc _) _ 1 1 _ [a1] rfl ((ow_int _ a1).rd okIn) rfl (by unfold maxLen; omega) (by omega) (by have := hbel.size; simp; omega) ?_; intro A5 c5 w5 ow5 hg5 _; have hB5 := (hbel.alloc hbel.size _).grown hg5 (hbel.alloc hbel.size _).size (fun g hg => by have := (ow2.lt g hg).1; omega); have op5 := (op.alloc _).grown hg5 (fun g hg => (fun e => hno g hg e)))
      exact ⟨⟨⟨k + 1, A5, c5, by omega, by go_num, rfl, by rw [Hq.out]; exact ow5, hB5⟩, op5⟩, by simp [intOf]; omega⟩
    · obtain rfl : k = c := by omega
      go_wp2
      go_ret
      exact ⟨A2, d2, rfl, by unfold homesF; simpa using ow2, hbel⟩

def HasRel (w : World) (xs : List Int) (v : Int) (n : Nat) (i : Value) (wr : World) : Prop :=
  ∃ k : Nat, k ≤ n ∧ i = .int .i64 k ∧ decide (v ∈ xs) = decide (v ∈ xs.drop k) ∧ wr = w
theorem has_drop {xs : List Int} {k : Nat} {x v : Int} (h : xs[k]? = some x) : decide (v ∈ xs.drop k) = (decide (x = v) || decide (v ∈ xs.drop (k + 1))) := by
  have hk := getElem?_some_lt h
  rw [List.drop_eq_getElem_cons hk]
  rw [List.getElem?_eq_getElem hk] at h
  rw [Option.some.inj h]
  by_cases e : x = v
  · simp [e]
  · simp [e, Ne.symm e]

set_option maxHeartbeats 1000000 in
theorem specHas (A : Option Addr) (n c : Nat) (xs : List Int) (v : Int) (w : World) (ha : Rd eIn w w.heap.size A xs) (hn : xs.length = n) (hm : n ≤ 1048576) :
    Calls Try.prog 105 #[.slice A n c, .int .i64 v] w fun e w' => e = .returned (.bool (decide (v ∈ xs))) ∧ Below w.heap.size w w' := by
  have Hn := Lib.hid hn
  clear hn
  go_enter Try.func105, Try.ntmps105
  go_wp2
  go_loopw [5] (fun i wr => HasRel w xs v n i wr) (fun i _ => n - (intOf i).toNat)
  case atStart => exact ⟨0, Nat.zero_le _, rfl, rfl, rfl⟩
  case round =>
    obtain ⟨k, hk, rfl, hal, rfl⟩ := hrel
    have Hal := Lib.hid hal
    clear hal
    by_cases hlt : k < n
    · obtain ⟨g, o, x, rfl, hg, hx, ca⟩ := ha.int (k := k) (by rw [Hn.out]; exact hlt)
      have Hd := Lib.hid (has_drop (v := v) hx)
      clear hx
      have i5 : (k : Int) < (n : Int) := by omega
      by_cases e : x = v
      · have he : (x == v) = true := by simpa using e
        have Hf := Lib.hid (show decide (v ∈ xs) = true by rw [Hal.out, Hd.out, decide_eq_true e]; rfl)
        clear e
        go_wp2
        go_ret
        exact ⟨by rw [Hf.out]; rfl, Below.refl _ _⟩
      · have he : (x == v) = false := by simpa using e
        have Hf := Lib.hid (show decide (v ∈ xs) = decide (v ∈ xs.drop (k + 1)) by rw [Hal.out, Hd.out, decide_eq_false e]; rfl)
        clear e
        go_wp2
        exact ⟨⟨k + 1, by omega, by go_num, Hf.out, rfl⟩, by simp [intOf]; omega⟩
    · have Hf := Lib.hid (show decide (v ∈ xs) = false by rw [Hal.out, List.drop_eq_nil_of_le (by rw [Hn.out]; omega)]; simp)
      go_wp2
      go_ret
      exact ⟨by rw [Hf.out]; rfl, Below.refl _ _⟩
theorem places_code {n s : Int} {l : List Plc} (h : placesM n s = (0, l)) : 1 ≤ n ∧ n ≤ 4 ∧ 0 ≤ s ∧ s ≤ 9 := by
  unfold placesM at h
  by_cases k : (inB (n, 1, 4) && inB (s, 0, 9)) = true
  · simp only [Bool.and_eq_true, inB, decide_eq_true_eq] at k
    omega
  · rw [if_neg k] at h
    cases h

theorem placesM_le (n s : Int) : (placesM n s).2.length ≤ 4 := by
  rcases hp : placesM n s with ⟨z, pl⟩
  unfold placesM at hp
  by_cases k : (inB (n, 1, 4) && inB (s, 0, 9)) = true
  · rw [if_pos k] at hp
    simp only [Bool.and_eq_true, inB, decide_eq_true_eq] at k
    rw [← (Prod.mk.inj hp).2, places_len]
    omega
  · rw [if_neg k] at hp
    rw [← (Prod.mk.inj hp).2]
    exact Nat.zero_le _

set_option maxHeartbeats 1000000 in
theorem specHomesOf (n c s : Int) (w : World) :
    Calls Try.prog 43 #[.int .i64 n, .int .i64 c, .int .i64 s] w fun e w' => RetIn (homesM n c s) w e w' := by
  unfold RetIn
  have F0 := fldPl0
  have SP := fun W => specPlacesOf n s W
  rcases hp : placesM n s with ⟨z, pl⟩
  rw [hp] at SP
  simp only [RetPl] at SP
  have hB0 := (Below.refl w.heap.size w).alloc (Nat.le_refl _) (.cells #[.int .i64 0, .slice none 0 0] 61)
  have z0 := At.new w 61 #[.int .i64 0, .slice none 0 0]
  by_cases hz : z = 0
  rotate_left
  · have hne : (z != 0) = true := by rw [bne_iff_ne]; exact hz
    have Hr := Lib.hid (show homesM n c s = (3, []) by unfold homesM; rw [hp, if_neg (fun h => hz h.1)])
    clear hp hz
    go_enter Try.func43, Try.ntmps43
    go_wp2_with fail
    refine (SP _).mono ?_
    rintro e w1 ⟨A, k, d, rfl, -, hb1⟩
    have z1 := z0.below hb1 z0.lt
    have hB1 := hB0.trans (hb1.mono hB0.size)
    obtain ⟨r0, r1, rf0, rf1⟩ := z1.two
    go_wp2
    refine bodyPost_ret (v := .agg #[.int .i64 3, .slice none 0 0]) (by simp [results, Try.results43, go_sem, r0, r1]) rfl ?_
    refine ⟨none, 0, 0, by rw [Hr.out], by rw [Hr.out]; exact Ow.nil, ?_⟩
    repeat (refine Below.setCell ?_ (by simp) _)
    exact hB1
  subst hz
  obtain ⟨n1, n4, s0, s9⟩ := places_code hp
  rcases hc : inB (c, 1, n)
  · have Hr := Lib.hid (show homesM n c s = (3, []) by unfold homesM; rw [if_neg (fun h => by rw [hc] at h; exact absurd h.2 (by simp))])
    clear hp
    go_enter Try.func43, Try.ntmps43
    go_wp2_with fail
    refine (SP _).mono ?_
    rintro e w1 ⟨A, k, d, rfl, -, hb1⟩
    have z1 := z0.below hb1 z0.lt
    have hB1 := hB0.trans (hb1.mono hB0.size)
    go_wp2_with fail
    refine (l1In_is hc _).mono ?_
    rintro e w2 ⟨rfl, hb2⟩
    have z2 := z1.below hb2 z1.lt
    have hB2 := hB1.trans (hb2.mono hB1.size)
    obtain ⟨r0, r1, rf0, rf1⟩ := z2.two
    go_wp2
    refine bodyPost_ret (v := .agg #[.int .i64 3, .slice none 0 0]) (by simp [results, Try.results43, go_sem, r0, r1]) rfl ?_
    refine ⟨none, 0, 0, by rw [Hr.out], by rw [Hr.out]; exact Ow.nil, ?_⟩
    repeat (refine Below.setCell ?_ (by simp) _)
    exact hB2
  have hcn : 1 ≤ c ∧ c ≤ n := by have := hc; unfold inB at this; simpa using this
  obtain ⟨N, rfl⟩ := Int.eq_ofNat_of_zero_le (show 0 ≤ n by omega)
  obtain ⟨C, rfl⟩ := Int.eq_ofNat_of_zero_le (show 0 ≤ c by omega)
  have Hr := Lib.hid (show homesM (N : Int) (C : Int) s = (0, homesF N C s) by unfold homesM; rw [hp, if_pos ⟨rfl, hc⟩])
  clear hp
  go_enter Try.func43, Try.ntmps43
  go_wp2_with fail
  refine (SP _).mono ?_
  rintro e w1 ⟨A, k, d, rfl, -, hb1⟩
  have z1 := z0.below hb1 z0.lt
  have hB1 := hB0.trans (hb1.mono hB0.size)
  go_wp2_with fail
  refine (l1In_is hc _).mono ?_
  rintro e w2 ⟨rfl, hb2⟩
  have z2 := z1.below hb2 z1.lt
  have hB2 := hB1.trans (hb2.mono hB1.size)
  go_wp2_with fail
  refine (l6Homes N C s _ (by omega) (by omega) s0 s9).mono ?_
  rintro e w3 ⟨A', d', rfl, ow, hb3⟩
  have z3 := z2.below hb3 z2.lt
  have hB3 := hB2.trans (hb3.mono hB2.size)
  obtain ⟨r0, r1, rf0, rf1⟩ := z3.two
  go_wp2
  refine bodyPost_ret (v := .agg #[.int .i64 0, .slice A' C d']) (by simp [results, Try.results43, go_sem, r0, r1]) rfl ?_
  refine ⟨A', C, d', by rw [Hr.out], ?_, ?_⟩
  · rw [Hr.out]
    exact ((ow.from_ hB2.size).apartMk (by decide) z3 0 _).apartMk (by decide) (z3.set 0 _) 1 _
  · repeat (refine Below.setCell ?_ (by simp) _)
    exact hB3
theorem homes_le (n c s : Int) : (homesM n c s).2.length ≤ 4 := by
  unfold homesM
  by_cases h : (placesM n s).1 = 0 ∧ inB (c, 1, n) = true
  · rw [if_pos h]
    rcases hp : placesM n s with ⟨z, pl⟩
    rw [hp] at h
    obtain ⟨h1, h2⟩ := h
    dsimp only at h1
    subst h1
    have := places_code hp
    unfold homesF
    rw [List.length_map, List.length_take, places_len]
    omega
  · rw [if_neg h]
    exact Nat.zero_le _

theorem specIsHome (n c s p : Int) (w : World) :
    Calls Try.prog 48 #[.int .i64 n, .int .i64 c, .int .i64 s, .int .i64 p] w fun e w' => e = .returned (.bool (isHomeM n c s p)) ∧ Below w.heap.size w w' := by
  have F1 := fldIn1
  have hle := homes_le n c s
  go_enter Try.func48, Try.ntmps48
  go_wp2_with fail
  refine (specHomesOf n c s _).mono ?_
  rintro e w1 ⟨A, k, d, rfl, ow, hb1⟩
  have hk := ow.len okIn
  go_wp2_with fail
  refine (specHas A k d _ p _ (ow.rd okIn) hk (by omega)).mono ?_
  rintro e w2 ⟨rfl, hb2⟩
  go_wp2
  go_ret
  exact ⟨rfl, hb1.trans (hb2.mono hb1.size)⟩
end Go.Proofs.Ytbfjfjocangjeaa
