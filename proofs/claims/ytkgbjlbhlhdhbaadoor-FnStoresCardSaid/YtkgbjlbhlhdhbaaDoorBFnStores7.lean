/-
  Texts of one proof, joined: each has its own namespace.
-/
import Derived.Test.YtkgbjlbhlhdhbaaDoorBFnStores6
import Derived.Test.YtkgbjlbhlhdhbaaDoorBFnStores4
import Derived.Deep.DeepCutAuto
import Derived.Test.YtkgbjlbhlhdhbaaDoorBFnStores5
import Derived.Sort.LotA
import Derived.Test.YtkgbjlbhlhdhbaaDoorBFnStores0
import Derived.Sort.Grow
/-
  The program's FindSample.
-/
namespace Go.Proofs.YtkgbjlbhlhdhbaaDoor
set_option maxRecDepth 20000
open Go.RowKit Go.Shelf
set_option linter.unusedSimpArgs false
set_option linter.unusedVariables false

theorem sameKey_symm (a b : Smp) : sameKeyM a b = sameKeyM b a := by
  unfold sameKeyM
  by_cases h0 : a.1 = b.1 <;> by_cases h1 : a.2.1 = b.2.1 <;> by_cases h2 : a.2.2.1 = b.2.2.1 <;> simp [h0, h1, h2, eq_comm]
theorem sameKey_iff {a b : Smp} : sameKeyM a b = true ↔ a.1 = b.1 ∧ a.2.1 = b.2.1 ∧ a.2.2.1 = b.2.2.1 := by simp [sameKeyM]
theorem sameKey_trans {a b c : Smp} (h : sameKeyM a b = true) (k : sameKeyM b c = true) : sameKeyM a c = true := by
  rw [sameKey_iff] at *
  exact ⟨h.1.trans k.1, h.2.1.trans k.2.1, h.2.2.trans k.2.2⟩
theorem first_cons (x : Smp) (L : List Smp) (y : Smp) : firstM (x :: L) y = if sameKeyM y x then some x else firstM L y := by
  unfold firstM
  rw [List.find?_cons]
  cases sameKeyM y x <;> rfl
theorem first_append (L M : List Smp) (y : Smp) : firstM (L ++ M) y = (firstM L y).or (firstM M y) := by
  unfold firstM
  rw [List.find?_append]
theorem first_is {L : List Smp} {y x : Smp} (h : firstM L y = some x) : sameKeyM y x = true ∧ x ∈ L := by
  unfold firstM at h
  exact ⟨List.find?_some h, List.mem_of_find?_eq_some h⟩
theorem first_same {L : List Smp} {y x : Smp} (h : sameKeyM y x = true) : firstM L y = firstM L x := by
  unfold firstM
  congr 1
  funext z
  rw [Bool.eq_iff_iff]
  constructor
  · exact fun k => sameKey_trans (by rw [sameKey_symm]; exact h) k
  · exact fun k => sameKey_trans h k
/-- The first of a key is the same in what samplesByKey keeps. -/
theorem first_step (acc : List Smp) (x y : Smp) : firstM (keyStep acc x) y = firstM (acc ++ [x]) y := by
  unfold keyStep
  split
  · rename_i h
    rw [first_append, first_cons]
    rcases hs : sameKeyM y x
    · simp [firstM]
    · rw [first_same hs]
      obtain ⟨z, hz⟩ := Option.isSome_iff_exists.1 h
      rw [hz]
      rfl
  · rfl
theorem first_fold : ∀ (l acc : List Smp) (y : Smp), firstM (l.foldl keyStep acc) y = firstM (acc ++ l) y
  | [], acc, y => by simp
  | x :: l, acc, y => by
    rw [List.foldl_cons, first_fold l, first_append, first_step, ← first_append]
    simp
theorem first_byKey (l : List Smp) (y : Smp) : firstM (byKeyM l) y = firstM l y := by
  unfold byKeyM
  rw [first_fold]
  rfl
theorem find_is (l : List Smp) (y : Smp) : (match findM l y with | some i => ((0 : Int), (l[i]?).getD (0, 0, 0, 0)) | none => (4, (0, 0, 0, 0))) = match firstM l y with | some x => (0, x) | none => (4, (0, 0, 0, 0)) := by
  rcases hf : findM l y with _ | i
  · have h1 := hf
    unfold findM at h1
    rw [List.find?_range_eq_none] at h1
    have h2 : firstM l y = none := by
      unfold firstM
      rw [List.find?_eq_none]
      intro x hx
      obtain ⟨i, hi⟩ := List.mem_iff_getElem?.1 hx
      have h3 := h1 i (getElem?_some_lt hi)
      rw [hitM_at hi] at h3
      rw [sameKey_symm]
      simpa using h3
    rw [h2]
  · have h1 := hf
    unfold findM at h1
    rw [List.find?_range_eq_some] at h1
    obtain ⟨h1, h2, h3⟩ := h1
    have hi : i < l.length := by simpa using h2
    have hx : l[i]? = some l[i] := List.getElem?_eq_getElem hi
    rw [hitM_at hx] at h1
    have h4 : firstM l y = some l[i] := by
      unfold firstM
      rw [List.find?_eq_some_iff_getElem]
      refine ⟨by rw [sameKey_symm]; exact h1, i, hi, rfl, fun j hj => ?_⟩
      have h5 := h3 j hj
      rw [hitM_at (List.getElem?_eq_getElem (by omega : j < l.length))] at h5
      rw [sameKey_symm]
      simpa using h5
    rw [h4]
    show ((0 : Int), (l[i]?).getD (0, 0, 0, 0)) = (0, l[i])
    rw [hx]
    rfl

theorem flat_one (A : Option Addr) (n c : Nat) (l : List Smp) : flat [(A, n, c, l)] = l := by simp [flat]
theorem rows_one {w : World} {T G : Nat} {A : Option Addr} {n c : Nat} {l : List Smp} (ha : Rd eS w w.heap.size A l) (hn : l.length = n) (hm : n ≤ 1000) (hG : w.heap.size = G) : Rows4 (w.alloc (.cells #[.slice A n c] T)) G [(A, n, c, l)] := fun i r hr => by
  subst hG
  match i, hr with
  | 0, hr =>
    obtain rfl : (A, n, c, l) = r := by simpa using hr
    exact ⟨(At.new w T #[.slice A n c]).cell 0, ha.lift ((Below.refl _ _).alloc (Nat.le_refl _) _), hn, hm⟩
  | i + 1, hr => simp at hr

set_option maxRecDepth 100000 in
set_option maxHeartbeats 8000000 in
theorem implFindSample (A : Option Addr) (n c : Nat) (l : List Smp) (x0 x1 x2 x3 : Int) (w : World) (ha : Rd eS w w.heap.size A l) (hn : l.length = n) (hF : Flds w) :
    Calls Tryd.prog 16 #[.slice A n c, .agg #[.int .i64 x0, .int .i64 x1, .int .i64 x2, .int .i64 x3]] w (RetSR (lookM l (x0, x1, x2, x3)) w) := by
  have hAx := (Below.refl w.heap.size w).alloc (Nat.le_refl _) (.cells #[.int .i64 x0, .int .i64 x1, .int .i64 x2, .int .i64 x3] 26)
  have hB0 := hAx.alloc hAx.size (.cells #[.int .i64 0, .int .i64 0, .int .i64 0, .int .i64 0, .int .i64 0] 38)
  have ax := (At.new w 26 #[.int .i64 x0, .int .i64 x1, .int .i64 x2, .int .i64 x3]).alloc (.cells #[.int .i64 0, .int .i64 0, .int .i64 0, .int .i64 0, .int .i64 0] 38)
  have r0 := At.newAt' (t := 38) (cs := #[.int .i64 0, .int .i64 0, .int .i64 0, .int .i64 0, .int .i64 0]) (show (w.alloc (.cells #[.int .i64 x0, .int .i64 x1, .int .i64 x2, .int .i64 x3] 26)).heap.size = w.heap.size + 1 by simp)
  have ha0 := ha.lift hB0
  have HF := implStoreFault A n c l _ ha0 hn (hF.below hB0)
  by_cases h0 : storeFaultM l = 0
  rotate_left
  · rw [show lookM l (x0, x1, x2, x3) = (storeFaultM l, (0, 0, 0, 0)) from if_pos h0]
    have hne : (storeFaultM l != 0) = true := by rw [bne_iff_ne]; exact h0
    generalize storeFaultM l = sf at *
    clear h0
    go_enter Tryd.func16, Tryd.ntmps16
    go_wp2_with fail
    refine (HF).mono ?_
    rintro e w1 ⟨rfl, hb1⟩
    have hB1 := hB0.trans (hb1.mono hB0.size)
    have r1 := r0.below hb1 r0.lt
    obtain ⟨c0, c1, c2, c3, c4, _⟩ := r1.five
    go_wp2_with fail
    refine bodyPost_ret (v := .agg #[.int .i64 sf, .int .i64 0, .int .i64 0, .int .i64 0, .int .i64 0]) (by simp [results, Tryd.results16, go_sem, c0, c1, c2, c3, c4]) rfl ?_
    refine ⟨rfl, ?_⟩
    have HB := hB1
    repeat (first | exact HB | refine Below.setCell ?_ (p := ⟨w.heap.size + 1, _, none⟩) (Nat.le_succ _) _)
  have hn1000 : n ≤ 1000 := by
    rcases Nat.lt_or_ge 160 n with h | h
    · rw [storeFault_many (by omega)] at h0
      cases h0
    · omega
  have Hlook := Lib.hid (show lookM l (x0, x1, x2, x3) = match firstM l (x0, x1, x2, x3) with | some x => (0, x) | none => (4, (0, 0, 0, 0)) by
    unfold lookM
    rw [if_neg (by simp [h0])]
    exact find_is l _)
  have Hby := Lib.hid (first_byKey l (x0, x1, x2, x3))
  rw [h0] at HF
  clear h0
  obtain ⟨y0, y1, y2, y3, i, hi, hlook⟩ : ∃ (y0 y1 y2 y3 : Int) (i : Bool), (match firstM l (x0, x1, x2, x3) with | some x => ((0 : Int), x) | none => (4, (0, 0, 0, 0))) = (if i then (0, (y0, y1, y2, y3)) else (4, (0, 0, 0, 0))) ∧
      ∀ (u : World) (b : Nat), SMap u b (byKeyM l) → (Instr.lookup 76 (.map (some b)) (.agg #[.int .i64 x0, .int .i64 x1, .int .i64 x2]) true).run Tryd.prog u = .ok (.tuple #[.agg #[.int .i64 y0, .int .i64 y1, .int .i64 y2, .int .i64 y3], .bool i]) u := by
    rcases hf : firstM l (x0, x1, x2, x3) with _ | ⟨y0, y1, y2, y3⟩
    · exact ⟨0, 0, 0, 0, false, rfl, fun u b hs => by have := hs.look (x0, x1, x2, x3); rw [Hby.out, hf] at this; exact this⟩
    · exact ⟨y0, y1, y2, y3, true, rfl, fun u b hs => by have := hs.look (x0, x1, x2, x3); rw [Hby.out, hf] at this; exact this⟩
  have Hi := Lib.hid (Hlook.out.trans hi)
  clear hi Hlook Hby
  go_enter Tryd.func16, Tryd.ntmps16
  go_wp2_with fail
  refine (HF).mono ?_
  rintro e w1 ⟨rfl, hb1⟩
  have hB1 := hB0.trans (hb1.mono hB0.size)
  have ax1 := ax.below hb1 ax.lt
  have r1 := r0.below hb1 r0.lt
  have ha1 := ha0.lift hb1
  go_upto_region 4 with fail
  go_cut [6, 7] (fun s t wx => ∃ g, s = .pointer (some ⟨g, 0, none⟩) ∧ t = .bool i ∧ At wx g 26 #[.int .i64 y0, .int .i64 y1, .int .i64 y2, .int .i64 y3] ∧ At wx (w.heap.size + 1) 38 #[.int .i64 0, .int .i64 0, .int .i64 0, .int .i64 0, .int .i64 0] ∧ Below w.heap.size w wx)
  case first =>
    refine any_start (fun u => At u w.heap.size 26 #[.int .i64 x0, .int .i64 x1, .int .i64 x2, .int .i64 x3]) (by kernel_rfl) ax1.drew (fun _ => ?_)
    have hBd := hB1.drew
    have axd := ax1.drew
    have rd := r1.drew
    have had := ha1.drewN 1
    refine any_pure (v := ?_) 0 rfl (by kernel_rfl) (fun _ _ _ _ _ h => h) (by rfl) (fun u hu => ?_) axd ?_
    rotate_left
    · skip
      go_simp
      (with_reducible rfl)
    (try simp only [Act.put, List.setIfInBounds_toArray, List.set_cons_zero, List.set_cons_succ])
    refine any_pure (v := ?_) 3 rfl (by kernel_rfl) (fun _ _ _ _ _ h => h) (by rfl) (fun u hu => ?_) axd ?_
    rotate_left
    · obtain ⟨_, _, _, _, _, _, _, _⟩ := At.four hu
      go_simp
      (with_reducible rfl)
    (try simp only [Act.put, List.setIfInBounds_toArray, List.set_cons_zero, List.set_cons_succ])
    refine any_two 1 9 rfl rfl (by kernel_rfl) (by rfl) (by rfl) ?_ ?_
    · go_simp
      have hl1 := (Below.refl w1.drew.heap.size w1.drew).alloc (Nat.le_refl _) (.cells #[.slice A n c] 24)
      have hB1 := hBd.alloc hBd.size (.cells #[.slice A n c] 24)
      have ax1 := axd.alloc (.cells #[.slice A n c] 24)
      have r1 := rd.alloc (.cells #[.slice A n c] 24)
      have ha1 := had.lift hl1
      have hR1 : Rows4 (w1.drew.alloc (.cells #[.slice A n c] 24)) (w1.heap.size) [(A, n, c, l)] := rows_one had hn hn1000 (by first | rfl | simp)
      have gl1 : w1.heap.size < (w1.drew.alloc (.cells #[.slice A n c] 24)).heap.size := by simp
      refine ⟨(fun u => At u w.heap.size 26 #[.int .i64 x0, .int .i64 x1, .int .i64 x2, .int .i64 x3]), fun _ h => h, ax1, ?_⟩
      (try simp only [Act.put, List.setIfInBounds_toArray, List.set_cons_zero, List.set_cons_succ])
      refine any_two 2 9 rfl rfl (by kernel_rfl) (by rfl) (by rfl) ?_ ?_
      · go_simp
        refine (byKeyS _ 1 1 [(A, n, c, l)] _ hR1 gl1 rfl (by omega)).mono ?_
        rintro e v2 ⟨b2, rfl, hc2, hs2, hb2⟩
        have hB2 := hB1.trans (hb2.mono hB1.size)
        have ax2 := ax1.below hb2 ax1.lt
        have r2 := r1.below hb2 r1.lt
        have ha2 := ha1.lift hb2
        rw [flat_one] at hs2
        refine ⟨(fun u => At u w.heap.size 26 #[.int .i64 x0, .int .i64 x1, .int .i64 x2, .int .i64 x3] ∧ SMap u b2 (byKeyM l)), fun _ h => h.1, ⟨ax2, hs2⟩, ?_⟩
        (try simp only [Act.put, List.setIfInBounds_toArray, List.set_cons_zero, List.set_cons_succ])
        refine any_two 4 9 rfl rfl (by kernel_rfl) (by rfl) (by rfl) ?_ ?_
        · go_simp
          refine (implKeyOf x0 x1 x2 x3 _).mono ?_
          rintro e v3 ⟨rfl, hb3⟩
          have hB3 := hB2.trans (hb3.mono hB2.size)
          have ax3 := ax2.below hb3 ax2.lt
          have r3 := r2.below hb3 r2.lt
          have hs3 := hs2.below hb3 hs2.lt
          have ha3 := ha2.lift hb3
          refine ⟨(fun u => At u w.heap.size 26 #[.int .i64 x0, .int .i64 x1, .int .i64 x2, .int .i64 x3] ∧ SMap u b2 (byKeyM l)), fun _ h => h, ⟨ax3, hs3⟩, ?_⟩
          (try simp only [Act.put, List.setIfInBounds_toArray, List.set_cons_zero, List.set_cons_succ])
          refine any_pure (v := ?_) 5 rfl (by kernel_rfl) (fun _ _ _ _ _ h => h) (by rfl) (fun u hu => ?_) ⟨ax3, hs3⟩ ?_
          rotate_left
          · have hlk := hlook u _ hu.2
            go_simp
            (with_reducible rfl)
          (try simp only [Act.put, List.setIfInBounds_toArray, List.set_cons_zero, List.set_cons_succ])
          refine any_pure (v := ?_) 6 rfl (by kernel_rfl) (fun _ _ _ _ _ h => h) (by rfl) (fun u hu => ?_) ⟨ax3, hs3⟩ ?_
          rotate_left
          · skip
            go_simp
            (with_reducible rfl)
          (try simp only [Act.put, List.setIfInBounds_toArray, List.set_cons_zero, List.set_cons_succ])
          refine any_pure (v := ?_) 7 rfl (by kernel_rfl) (fun _ _ _ _ _ h => h) (by rfl) (fun u hu => ?_) ⟨ax3, hs3⟩ ?_
          rotate_left
          · skip
            go_simp
            (with_reducible rfl)
          (try simp only [Act.put, List.setIfInBounds_toArray, List.set_cons_zero, List.set_cons_succ])
          refine any_pure (v := ?_) 8 rfl (by kernel_rfl) (fun _ _ _ _ _ h => h) (by rfl) (fun u hu => ?_) ⟨ax3, hs3⟩ ?_
          rotate_left
          · skip
            go_simp
            (with_reducible rfl)
          (try simp only [Act.put, List.setIfInBounds_toArray, List.set_cons_zero, List.set_cons_succ])
          refine any_one 9 rfl (by kernel_rfl) (by rfl) ?_
          go_simp
          have hg4 : v3.heap.size = v3.heap.size := by first | rfl | simp
          have gw4 : w.heap.size + 1 < v3.heap.size := by rw [← hg4]; exact r3.lt
          have bg4 : b2 ≠ v3.heap.size := by rw [← hg4]; exact Nat.ne_of_lt hs3.lt
          have hl4 := (Below.refl v3.heap.size v3).alloc (Nat.le_refl _) (.cells #[.int .i64 0, .int .i64 0, .int .i64 0, .int .i64 0] 26)
          have hB4 := hB3.alloc hB3.size (.cells #[.int .i64 0, .int .i64 0, .int .i64 0, .int .i64 0] 26)
          have ax4 := ax3.alloc (.cells #[.int .i64 0, .int .i64 0, .int .i64 0, .int .i64 0] 26)
          have r4 := r3.alloc (.cells #[.int .i64 0, .int .i64 0, .int .i64 0, .int .i64 0] 26)
          have hs4 := hs3.alloc (.cells #[.int .i64 0, .int .i64 0, .int .i64 0, .int .i64 0] 26)
          have ha4 := ha3.lift hl4
          have ag4 := At.newAt' (t := 26) (cs := #[.int .i64 0, .int .i64 0, .int .i64 0, .int .i64 0]) hg4
          clear hg4
          refine ⟨(fun u => At u w.heap.size 26 #[.int .i64 x0, .int .i64 x1, .int .i64 x2, .int .i64 x3] ∧ SMap u b2 (byKeyM l)), fun _ h => h, ⟨ax4, hs4⟩, ?_⟩
          (try simp only [Act.put, List.setIfInBounds_toArray, List.set_cons_zero, List.set_cons_succ])
          refine any_one 10 rfl (by kernel_rfl) (by rfl) ?_
          go_simp
          have AG := At.new v3 26 #[.int .i64 y0, .int .i64 y1, .int .i64 y2, .int .i64 y3]
          have AXX := ax3.alloc (.cells #[.int .i64 y0, .int .i64 y1, .int .i64 y2, .int .i64 y3] 26)
          have RR := r3.alloc (.cells #[.int .i64 y0, .int .i64 y1, .int .i64 y2, .int .i64 y3] 26)
          have HS := hs3.alloc (.cells #[.int .i64 y0, .int .i64 y1, .int .i64 y2, .int .i64 y3] 26)
          have HB := hB3.alloc hB3.size (.cells #[.int .i64 y0, .int .i64 y1, .int .i64 y2, .int .i64 y3] 26)
          refine ⟨_, fun _ h => h, ⟨AXX, HS⟩, ?_⟩
          (try simp only [Act.put, List.setIfInBounds_toArray, List.set_cons_zero, List.set_cons_succ])
          refine any_pure (v := ?_) 11 rfl (by kernel_rfl) (fun _ _ _ _ _ h => h) (by rfl) (fun u hu => ?_) ⟨AXX, HS⟩ ?_
          rotate_left
          · go_simp
            (with_reducible rfl)
          (try simp only [Act.put, List.setIfInBounds_toArray, List.set_cons_zero, List.set_cons_succ])
          refine any_done (by kernel_rfl) ?_
          go_wp2
          go_meet
          exact ⟨_, rfl, rfl, AG, RR, HB⟩
        · go_simp
          have hg5 : v2.heap.size = v2.heap.size := by first | rfl | simp
          have gw5 : w.heap.size + 1 < v2.heap.size := by rw [← hg5]; exact r2.lt
          have bg5 : b2 ≠ v2.heap.size := by rw [← hg5]; exact Nat.ne_of_lt hs2.lt
          have hl5 := (Below.refl v2.heap.size v2).alloc (Nat.le_refl _) (.cells #[.int .i64 0, .int .i64 0, .int .i64 0, .int .i64 0] 26)
          have hB5 := hB2.alloc hB2.size (.cells #[.int .i64 0, .int .i64 0, .int .i64 0, .int .i64 0] 26)
          have ax5 := ax2.alloc (.cells #[.int .i64 0, .int .i64 0, .int .i64 0, .int .i64 0] 26)
          have r5 := r2.alloc (.cells #[.int .i64 0, .int .i64 0, .int .i64 0, .int .i64 0] 26)
          have hs5 := hs2.alloc (.cells #[.int .i64 0, .int .i64 0, .int .i64 0, .int .i64 0] 26)
          have ha5 := ha2.lift hl5
          have ag5 := At.newAt' (t := 26) (cs := #[.int .i64 0, .int .i64 0, .int .i64 0, .int .i64 0]) hg5
          clear hg5
          refine ⟨(fun u => At u w.heap.size 26 #[.int .i64 x0, .int .i64 x1, .int .i64 x2, .int .i64 x3] ∧ SMap u b2 (byKeyM l)), fun _ h => h, ⟨ax5, hs5⟩, ?_⟩
          (try simp only [Act.put, List.setIfInBounds_toArray, List.set_cons_zero, List.set_cons_succ])
          refine any_one 4 rfl (by kernel_rfl) (by rfl) ?_
          go_simp
          refine (implKeyOf x0 x1 x2 x3 _).mono ?_
          rintro e v6 ⟨rfl, hb6⟩
          have hB6 := hB5.trans (hb6.mono hB5.size)
          have ax6 := ax5.below hb6 ax5.lt
          have r6 := r5.below hb6 r5.lt
          have ag6 := ag5.below hb6 ag5.lt
          have hs6 := hs5.below hb6 hs5.lt
          have ha6 := ha5.lift hb6
          refine ⟨(fun u => At u w.heap.size 26 #[.int .i64 x0, .int .i64 x1, .int .i64 x2, .int .i64 x3] ∧ SMap u b2 (byKeyM l)), fun _ h => h, ⟨ax6, hs6⟩, ?_⟩
          (try simp only [Act.put, List.setIfInBounds_toArray, List.set_cons_zero, List.set_cons_succ])
          refine any_pure (v := ?_) 5 rfl (by kernel_rfl) (fun _ _ _ _ _ h => h) (by rfl) (fun u hu => ?_) ⟨ax6, hs6⟩ ?_
          rotate_left
          · have hlk := hlook u _ hu.2
            go_simp
            (with_reducible rfl)
          (try simp only [Act.put, List.setIfInBounds_toArray, List.set_cons_zero, List.set_cons_succ])
          refine any_pure (v := ?_) 6 rfl (by kernel_rfl) (fun _ _ _ _ _ h => h) (by rfl) (fun u hu => ?_) ⟨ax6, hs6⟩ ?_
          rotate_left
          · skip
            go_simp
            (with_reducible rfl)
          (try simp only [Act.put, List.setIfInBounds_toArray, List.set_cons_zero, List.set_cons_succ])
          refine any_pure (v := ?_) 7 rfl (by kernel_rfl) (fun _ _ _ _ _ h => h) (by rfl) (fun u hu => ?_) ⟨ax6, hs6⟩ ?_
          rotate_left
          · skip
            go_simp
            (with_reducible rfl)
          (try simp only [Act.put, List.setIfInBounds_toArray, List.set_cons_zero, List.set_cons_succ])
          refine any_pure (v := ?_) 8 rfl (by kernel_rfl) (fun _ _ _ _ _ h => h) (by rfl) (fun u hu => ?_) ⟨ax6, hs6⟩ ?_
          rotate_left
          · skip
            go_simp
            (with_reducible rfl)
          (try simp only [Act.put, List.setIfInBounds_toArray, List.set_cons_zero, List.set_cons_succ])
          refine any_one 10 rfl (by kernel_rfl) (by rfl) ?_
          obtain ⟨k0, k1, k2, k3, k4, k5, k6, k7⟩ := ag6.four
          go_simp
          have AG := ag6
          have AXX := ax6
          have RR := r6
          have HS := hs6
          have HB := hB6
          have AG := AG.set 0 (.int .i64 y0)
          have AXX := AXX.far (p := ⟨v2.heap.size, 0, none⟩) (by show w.heap.size ≠ v2.heap.size; omega) (.int .i64 y0)
          have RR := RR.far (p := ⟨v2.heap.size, 0, none⟩) (by show w.heap.size + 1 ≠ v2.heap.size; omega) (.int .i64 y0)
          have HS := HS.kept (grown_setCell _ ⟨v2.heap.size, 0, none⟩ (.int .i64 y0)) (fun e => bg5 (Option.some.inj e))
          have HB := HB.setCell (p := ⟨v2.heap.size, 0, none⟩) (by show w.heap.size ≤ v2.heap.size; omega) (.int .i64 y0)
          have AG := AG.set 1 (.int .i64 y1)
          have AXX := AXX.far (p := ⟨v2.heap.size, 1, none⟩) (by show w.heap.size ≠ v2.heap.size; omega) (.int .i64 y1)
          have RR := RR.far (p := ⟨v2.heap.size, 1, none⟩) (by show w.heap.size + 1 ≠ v2.heap.size; omega) (.int .i64 y1)
          have HS := HS.kept (grown_setCell _ ⟨v2.heap.size, 1, none⟩ (.int .i64 y1)) (fun e => bg5 (Option.some.inj e))
          have HB := HB.setCell (p := ⟨v2.heap.size, 1, none⟩) (by show w.heap.size ≤ v2.heap.size; omega) (.int .i64 y1)
          have AG := AG.set 2 (.int .i64 y2)
          have AXX := AXX.far (p := ⟨v2.heap.size, 2, none⟩) (by show w.heap.size ≠ v2.heap.size; omega) (.int .i64 y2)
          have RR := RR.far (p := ⟨v2.heap.size, 2, none⟩) (by show w.heap.size + 1 ≠ v2.heap.size; omega) (.int .i64 y2)
          have HS := HS.kept (grown_setCell _ ⟨v2.heap.size, 2, none⟩ (.int .i64 y2)) (fun e => bg5 (Option.some.inj e))
          have HB := HB.setCell (p := ⟨v2.heap.size, 2, none⟩) (by show w.heap.size ≤ v2.heap.size; omega) (.int .i64 y2)
          have AG := AG.set 3 (.int .i64 y3)
          have AXX := AXX.far (p := ⟨v2.heap.size, 3, none⟩) (by show w.heap.size ≠ v2.heap.size; omega) (.int .i64 y3)
          have RR := RR.far (p := ⟨v2.heap.size, 3, none⟩) (by show w.heap.size + 1 ≠ v2.heap.size; omega) (.int .i64 y3)
          have HS := HS.kept (grown_setCell _ ⟨v2.heap.size, 3, none⟩ (.int .i64 y3)) (fun e => bg5 (Option.some.inj e))
          have HB := HB.setCell (p := ⟨v2.heap.size, 3, none⟩) (by show w.heap.size ≤ v2.heap.size; omega) (.int .i64 y3)
          refine ⟨_, fun _ h => h, ⟨AXX, HS⟩, ?_⟩
          (try simp only [Act.put, List.setIfInBounds_toArray, List.set_cons_zero, List.set_cons_succ])
          refine any_pure (v := ?_) 11 rfl (by kernel_rfl) (fun _ _ _ _ _ h => h) (by rfl) (fun u hu => ?_) ⟨AXX, HS⟩ ?_
          rotate_left
          · go_simp
            (with_reducible rfl)
          (try simp only [Act.put, List.setIfInBounds_toArray, List.set_cons_zero, List.set_cons_succ])
          refine any_done (by kernel_rfl) ?_
          go_wp2
          go_meet
          exact ⟨_, rfl, rfl, AG, RR, HB⟩
      · go_simp
        have hg7 : (w1.drew.alloc (.cells #[.slice A n c] 24)).heap.size = w1.heap.size + 1 := by first | rfl | simp
        have gw7 : w.heap.size + 1 < w1.heap.size + 1 := by rw [← hg7]; exact r1.lt
        have hl7 := (Below.refl (w1.drew.alloc (.cells #[.slice A n c] 24)).heap.size (w1.drew.alloc (.cells #[.slice A n c] 24))).alloc (Nat.le_refl _) (.cells #[.int .i64 0, .int .i64 0, .int .i64 0, .int .i64 0] 26)
        have hB7 := hB1.alloc hB1.size (.cells #[.int .i64 0, .int .i64 0, .int .i64 0, .int .i64 0] 26)
        have ax7 := ax1.alloc (.cells #[.int .i64 0, .int .i64 0, .int .i64 0, .int .i64 0] 26)
        have r7 := r1.alloc (.cells #[.int .i64 0, .int .i64 0, .int .i64 0, .int .i64 0] 26)
        have ha7 := ha1.lift hl7
        have hR7 := hR1.below hl7 gl1
        have gl7 := Nat.lt_of_lt_of_le gl1 hl7.size
        have ag7 := At.newAt' (t := 26) (cs := #[.int .i64 0, .int .i64 0, .int .i64 0, .int .i64 0]) hg7
        clear hg7
        refine ⟨(fun u => At u w.heap.size 26 #[.int .i64 x0, .int .i64 x1, .int .i64 x2, .int .i64 x3]), fun _ h => h, ax7, ?_⟩
        (try simp only [Act.put, List.setIfInBounds_toArray, List.set_cons_zero, List.set_cons_succ])
        refine any_one 2 rfl (by kernel_rfl) (by rfl) ?_
        go_simp
        refine (byKeyS _ 1 1 [(A, n, c, l)] _ hR7 gl7 rfl (by omega)).mono ?_
        rintro e v8 ⟨b8, rfl, hc8, hs8, hb8⟩
        have bg8 : b8 ≠ w1.heap.size + 1 := by have := ag7.lt; omega
        have hB8 := hB7.trans (hb8.mono hB7.size)
        have ax8 := ax7.below hb8 ax7.lt
        have r8 := r7.below hb8 r7.lt
        have ag8 := ag7.below hb8 ag7.lt
        have ha8 := ha7.lift hb8
        rw [flat_one] at hs8
        refine ⟨(fun u => At u w.heap.size 26 #[.int .i64 x0, .int .i64 x1, .int .i64 x2, .int .i64 x3] ∧ SMap u b8 (byKeyM l)), fun _ h => h.1, ⟨ax8, hs8⟩, ?_⟩
        (try simp only [Act.put, List.setIfInBounds_toArray, List.set_cons_zero, List.set_cons_succ])
        refine any_one 4 rfl (by kernel_rfl) (by rfl) ?_
        go_simp
        refine (implKeyOf x0 x1 x2 x3 _).mono ?_
        rintro e v9 ⟨rfl, hb9⟩
        have hB9 := hB8.trans (hb9.mono hB8.size)
        have ax9 := ax8.below hb9 ax8.lt
        have r9 := r8.below hb9 r8.lt
        have ag9 := ag8.below hb9 ag8.lt
        have hs9 := hs8.below hb9 hs8.lt
        have ha9 := ha8.lift hb9
        refine ⟨(fun u => At u w.heap.size 26 #[.int .i64 x0, .int .i64 x1, .int .i64 x2, .int .i64 x3] ∧ SMap u b8 (byKeyM l)), fun _ h => h, ⟨ax9, hs9⟩, ?_⟩
        (try simp only [Act.put, List.setIfInBounds_toArray, List.set_cons_zero, List.set_cons_succ])
        refine any_pure (v := ?_) 5 rfl (by kernel_rfl) (fun _ _ _ _ _ h => h) (by rfl) (fun u hu => ?_) ⟨ax9, hs9⟩ ?_
        rotate_left
        · have hlk := hlook u _ hu.2
          go_simp
          (with_reducible rfl)
        (try simp only [Act.put, List.setIfInBounds_toArray, List.set_cons_zero, List.set_cons_succ])
        refine any_pure (v := ?_) 6 rfl (by kernel_rfl) (fun _ _ _ _ _ h => h) (by rfl) (fun u hu => ?_) ⟨ax9, hs9⟩ ?_
        rotate_left
        · skip
          go_simp
          (with_reducible rfl)
        (try simp only [Act.put, List.setIfInBounds_toArray, List.set_cons_zero, List.set_cons_succ])
        refine any_pure (v := ?_) 7 rfl (by kernel_rfl) (fun _ _ _ _ _ h => h) (by rfl) (fun u hu => ?_) ⟨ax9, hs9⟩ ?_
        rotate_left
        · skip
          go_simp
          (with_reducible rfl)
        (try simp only [Act.put, List.setIfInBounds_toArray, List.set_cons_zero, List.set_cons_succ])
        refine any_pure (v := ?_) 8 rfl (by kernel_rfl) (fun _ _ _ _ _ h => h) (by rfl) (fun u hu => ?_) ⟨ax9, hs9⟩ ?_
        rotate_left
        · skip
          go_simp
          (with_reducible rfl)
        (try simp only [Act.put, List.setIfInBounds_toArray, List.set_cons_zero, List.set_cons_succ])
        refine any_one 10 rfl (by kernel_rfl) (by rfl) ?_
        obtain ⟨k0, k1, k2, k3, k4, k5, k6, k7⟩ := ag9.four
        go_simp
        have AG := ag9
        have AXX := ax9
        have RR := r9
        have HS := hs9
        have HB := hB9
        have AG := AG.set 0 (.int .i64 y0)
        have AXX := AXX.far (p := ⟨w1.heap.size + 1, 0, none⟩) (by show w.heap.size ≠ w1.heap.size + 1; omega) (.int .i64 y0)
        have RR := RR.far (p := ⟨w1.heap.size + 1, 0, none⟩) (by show w.heap.size + 1 ≠ w1.heap.size + 1; omega) (.int .i64 y0)
        have HS := HS.kept (grown_setCell _ ⟨w1.heap.size + 1, 0, none⟩ (.int .i64 y0)) (fun e => bg8 (Option.some.inj e))
        have HB := HB.setCell (p := ⟨w1.heap.size + 1, 0, none⟩) (by show w.heap.size ≤ w1.heap.size + 1; omega) (.int .i64 y0)
        have AG := AG.set 1 (.int .i64 y1)
        have AXX := AXX.far (p := ⟨w1.heap.size + 1, 1, none⟩) (by show w.heap.size ≠ w1.heap.size + 1; omega) (.int .i64 y1)
        have RR := RR.far (p := ⟨w1.heap.size + 1, 1, none⟩) (by show w.heap.size + 1 ≠ w1.heap.size + 1; omega) (.int .i64 y1)
        have HS := HS.kept (grown_setCell _ ⟨w1.heap.size + 1, 1, none⟩ (.int .i64 y1)) (fun e => bg8 (Option.some.inj e))
        have HB := HB.setCell (p := ⟨w1.heap.size + 1, 1, none⟩) (by show w.heap.size ≤ w1.heap.size + 1; omega) (.int .i64 y1)
        have AG := AG.set 2 (.int .i64 y2)
        have AXX := AXX.far (p := ⟨w1.heap.size + 1, 2, none⟩) (by show w.heap.size ≠ w1.heap.size + 1; omega) (.int .i64 y2)
        have RR := RR.far (p := ⟨w1.heap.size + 1, 2, none⟩) (by show w.heap.size + 1 ≠ w1.heap.size + 1; omega) (.int .i64 y2)
        have HS := HS.kept (grown_setCell _ ⟨w1.heap.size + 1, 2, none⟩ (.int .i64 y2)) (fun e => bg8 (Option.some.inj e))
        have HB := HB.setCell (p := ⟨w1.heap.size + 1, 2, none⟩) (by show w.heap.size ≤ w1.heap.size + 1; omega) (.int .i64 y2)
        have AG := AG.set 3 (.int .i64 y3)
        have AXX := AXX.far (p := ⟨w1.heap.size + 1, 3, none⟩) (by show w.heap.size ≠ w1.heap.size + 1; omega) (.int .i64 y3)
        have RR := RR.far (p := ⟨w1.heap.size + 1, 3, none⟩) (by show w.heap.size + 1 ≠ w1.heap.size + 1; omega) (.int .i64 y3)
        have HS := HS.kept (grown_setCell _ ⟨w1.heap.size + 1, 3, none⟩ (.int .i64 y3)) (fun e => bg8 (Option.some.inj e))
        have HB := HB.setCell (p := ⟨w1.heap.size + 1, 3, none⟩) (by show w.heap.size ≤ w1.heap.size + 1; omega) (.int .i64 y3)
        refine ⟨_, fun _ h => h, ⟨AXX, HS⟩, ?_⟩
        (try simp only [Act.put, List.setIfInBounds_toArray, List.set_cons_zero, List.set_cons_succ])
        refine any_pure (v := ?_) 11 rfl (by kernel_rfl) (fun _ _ _ _ _ h => h) (by rfl) (fun u hu => ?_) ⟨AXX, HS⟩ ?_
        rotate_left
        · go_simp
          (with_reducible rfl)
        (try simp only [Act.put, List.setIfInBounds_toArray, List.set_cons_zero, List.set_cons_succ])
        refine any_done (by kernel_rfl) ?_
        go_wp2
        go_meet
        exact ⟨_, rfl, rfl, AG, RR, HB⟩
    · go_simp
      have hg10 : w1.drew.heap.size = w1.heap.size := by first | rfl | simp
      have gw10 : w.heap.size + 1 < w1.heap.size := by rw [← hg10]; exact rd.lt
      have hl10 := (Below.refl w1.drew.heap.size w1.drew).alloc (Nat.le_refl _) (.cells #[.int .i64 0, .int .i64 0, .int .i64 0, .int .i64 0] 26)
      have hB10 := hBd.alloc hBd.size (.cells #[.int .i64 0, .int .i64 0, .int .i64 0, .int .i64 0] 26)
      have ax10 := axd.alloc (.cells #[.int .i64 0, .int .i64 0, .int .i64 0, .int .i64 0] 26)
      have r10 := rd.alloc (.cells #[.int .i64 0, .int .i64 0, .int .i64 0, .int .i64 0] 26)
      have ha10 := had.lift hl10
      have ag10 := At.newAt' (t := 26) (cs := #[.int .i64 0, .int .i64 0, .int .i64 0, .int .i64 0]) hg10
      clear hg10
      refine ⟨(fun u => At u w.heap.size 26 #[.int .i64 x0, .int .i64 x1, .int .i64 x2, .int .i64 x3]), fun _ h => h, ax10, ?_⟩
      (try simp only [Act.put, List.setIfInBounds_toArray, List.set_cons_zero, List.set_cons_succ])
      refine any_one 1 rfl (by kernel_rfl) (by rfl) ?_
      go_simp
      have hl11 := (Below.refl (w1.drew.alloc (.cells #[.int .i64 0, .int .i64 0, .int .i64 0, .int .i64 0] 26)).heap.size (w1.drew.alloc (.cells #[.int .i64 0, .int .i64 0, .int .i64 0, .int .i64 0] 26))).alloc (Nat.le_refl _) (.cells #[.slice A n c] 24)
      have hB11 := hB10.alloc hB10.size (.cells #[.slice A n c] 24)
      have ax11 := ax10.alloc (.cells #[.slice A n c] 24)
      have r11 := r10.alloc (.cells #[.slice A n c] 24)
      have ag11 := ag10.alloc (.cells #[.slice A n c] 24)
      have ha11 := ha10.lift hl11
      have hR11 : Rows4 ((w1.drew.alloc (.cells #[.int .i64 0, .int .i64 0, .int .i64 0, .int .i64 0] 26)).alloc (.cells #[.slice A n c] 24)) (w1.heap.size + 1) [(A, n, c, l)] := rows_one ha10 hn hn1000 (by first | rfl | simp)
      have gl11 : w1.heap.size + 1 < ((w1.drew.alloc (.cells #[.int .i64 0, .int .i64 0, .int .i64 0, .int .i64 0] 26)).alloc (.cells #[.slice A n c] 24)).heap.size := by simp
      refine ⟨(fun u => At u w.heap.size 26 #[.int .i64 x0, .int .i64 x1, .int .i64 x2, .int .i64 x3]), fun _ h => h, ax11, ?_⟩
      (try simp only [Act.put, List.setIfInBounds_toArray, List.set_cons_zero, List.set_cons_succ])
      refine any_one 2 rfl (by kernel_rfl) (by rfl) ?_
      go_simp
      refine (byKeyS _ 1 1 [(A, n, c, l)] _ hR11 gl11 rfl (by omega)).mono ?_
      rintro e v12 ⟨b12, rfl, hc12, hs12, hb12⟩
      have bg12 : b12 ≠ w1.heap.size := by have := ag11.lt; omega
      have hB12 := hB11.trans (hb12.mono hB11.size)
      have ax12 := ax11.below hb12 ax11.lt
      have r12 := r11.below hb12 r11.lt
      have ag12 := ag11.below hb12 ag11.lt
      have ha12 := ha11.lift hb12
      rw [flat_one] at hs12
      refine ⟨(fun u => At u w.heap.size 26 #[.int .i64 x0, .int .i64 x1, .int .i64 x2, .int .i64 x3] ∧ SMap u b12 (byKeyM l)), fun _ h => h.1, ⟨ax12, hs12⟩, ?_⟩
      (try simp only [Act.put, List.setIfInBounds_toArray, List.set_cons_zero, List.set_cons_succ])
      refine any_one 4 rfl (by kernel_rfl) (by rfl) ?_
      go_simp
      refine (implKeyOf x0 x1 x2 x3 _).mono ?_
      rintro e v13 ⟨rfl, hb13⟩
      have hB13 := hB12.trans (hb13.mono hB12.size)
      have ax13 := ax12.below hb13 ax12.lt
      have r13 := r12.below hb13 r12.lt
      have ag13 := ag12.below hb13 ag12.lt
      have hs13 := hs12.below hb13 hs12.lt
      have ha13 := ha12.lift hb13
      refine ⟨(fun u => At u w.heap.size 26 #[.int .i64 x0, .int .i64 x1, .int .i64 x2, .int .i64 x3] ∧ SMap u b12 (byKeyM l)), fun _ h => h, ⟨ax13, hs13⟩, ?_⟩
      (try simp only [Act.put, List.setIfInBounds_toArray, List.set_cons_zero, List.set_cons_succ])
      refine any_pure (v := ?_) 5 rfl (by kernel_rfl) (fun _ _ _ _ _ h => h) (by rfl) (fun u hu => ?_) ⟨ax13, hs13⟩ ?_
      rotate_left
      · have hlk := hlook u _ hu.2
        go_simp
        (with_reducible rfl)
      (try simp only [Act.put, List.setIfInBounds_toArray, List.set_cons_zero, List.set_cons_succ])
      refine any_pure (v := ?_) 6 rfl (by kernel_rfl) (fun _ _ _ _ _ h => h) (by rfl) (fun u hu => ?_) ⟨ax13, hs13⟩ ?_
      rotate_left
      · skip
        go_simp
        (with_reducible rfl)
      (try simp only [Act.put, List.setIfInBounds_toArray, List.set_cons_zero, List.set_cons_succ])
      refine any_pure (v := ?_) 7 rfl (by kernel_rfl) (fun _ _ _ _ _ h => h) (by rfl) (fun u hu => ?_) ⟨ax13, hs13⟩ ?_
      rotate_left
      · skip
        go_simp
        (with_reducible rfl)
      (try simp only [Act.put, List.setIfInBounds_toArray, List.set_cons_zero, List.set_cons_succ])
      refine any_pure (v := ?_) 8 rfl (by kernel_rfl) (fun _ _ _ _ _ h => h) (by rfl) (fun u hu => ?_) ⟨ax13, hs13⟩ ?_
      rotate_left
      · skip
        go_simp
        (with_reducible rfl)
      (try simp only [Act.put, List.setIfInBounds_toArray, List.set_cons_zero, List.set_cons_succ])
      refine any_one 10 rfl (by kernel_rfl) (by rfl) ?_
      obtain ⟨k0, k1, k2, k3, k4, k5, k6, k7⟩ := ag13.four
      go_simp
      have AG := ag13
      have AXX := ax13
      have RR := r13
      have HS := hs13
      have HB := hB13
      have AG := AG.set 0 (.int .i64 y0)
      have AXX := AXX.far (p := ⟨w1.heap.size, 0, none⟩) (by show w.heap.size ≠ w1.heap.size; omega) (.int .i64 y0)
      have RR := RR.far (p := ⟨w1.heap.size, 0, none⟩) (by show w.heap.size + 1 ≠ w1.heap.size; omega) (.int .i64 y0)
      have HS := HS.kept (grown_setCell _ ⟨w1.heap.size, 0, none⟩ (.int .i64 y0)) (fun e => bg12 (Option.some.inj e))
      have HB := HB.setCell (p := ⟨w1.heap.size, 0, none⟩) (by show w.heap.size ≤ w1.heap.size; omega) (.int .i64 y0)
      have AG := AG.set 1 (.int .i64 y1)
      have AXX := AXX.far (p := ⟨w1.heap.size, 1, none⟩) (by show w.heap.size ≠ w1.heap.size; omega) (.int .i64 y1)
      have RR := RR.far (p := ⟨w1.heap.size, 1, none⟩) (by show w.heap.size + 1 ≠ w1.heap.size; omega) (.int .i64 y1)
      have HS := HS.kept (grown_setCell _ ⟨w1.heap.size, 1, none⟩ (.int .i64 y1)) (fun e => bg12 (Option.some.inj e))
      have HB := HB.setCell (p := ⟨w1.heap.size, 1, none⟩) (by show w.heap.size ≤ w1.heap.size; omega) (.int .i64 y1)
      have AG := AG.set 2 (.int .i64 y2)
      have AXX := AXX.far (p := ⟨w1.heap.size, 2, none⟩) (by show w.heap.size ≠ w1.heap.size; omega) (.int .i64 y2)
      have RR := RR.far (p := ⟨w1.heap.size, 2, none⟩) (by show w.heap.size + 1 ≠ w1.heap.size; omega) (.int .i64 y2)
      have HS := HS.kept (grown_setCell _ ⟨w1.heap.size, 2, none⟩ (.int .i64 y2)) (fun e => bg12 (Option.some.inj e))
      have HB := HB.setCell (p := ⟨w1.heap.size, 2, none⟩) (by show w.heap.size ≤ w1.heap.size; omega) (.int .i64 y2)
      have AG := AG.set 3 (.int .i64 y3)
      have AXX := AXX.far (p := ⟨w1.heap.size, 3, none⟩) (by show w.heap.size ≠ w1.heap.size; omega) (.int .i64 y3)
      have RR := RR.far (p := ⟨w1.heap.size, 3, none⟩) (by show w.heap.size + 1 ≠ w1.heap.size; omega) (.int .i64 y3)
      have HS := HS.kept (grown_setCell _ ⟨w1.heap.size, 3, none⟩ (.int .i64 y3)) (fun e => bg12 (Option.some.inj e))
      have HB := HB.setCell (p := ⟨w1.heap.size, 3, none⟩) (by show w.heap.size ≤ w1.heap.size; omega) (.int .i64 y3)
      refine ⟨_, fun _ h => h, ⟨AXX, HS⟩, ?_⟩
      (try simp only [Act.put, List.setIfInBounds_toArray, List.set_cons_zero, List.set_cons_succ])
      refine any_pure (v := ?_) 11 rfl (by kernel_rfl) (fun _ _ _ _ _ h => h) (by rfl) (fun u hu => ?_) ⟨AXX, HS⟩ ?_
      rotate_left
      · go_simp
        (with_reducible rfl)
      (try simp only [Act.put, List.setIfInBounds_toArray, List.set_cons_zero, List.set_cons_succ])
      refine any_done (by kernel_rfl) ?_
      go_wp2
      go_meet
      exact ⟨_, rfl, rfl, AG, RR, HB⟩
  case rest =>
    obtain ⟨g, rfl, rfl, ag, r, hB⟩ := hcut
    obtain ⟨c0, c1, c2, c3, c4, _⟩ := r.five
    obtain ⟨k0, k1, k2, k3, _⟩ := ag.four
    have HB := hB
    rcases i
    · go_wp2_with fail
      refine bodyPost_ret (v := .agg #[.int .i64 4, .int .i64 0, .int .i64 0, .int .i64 0, .int .i64 0]) (by simp [results, Tryd.results16, go_sem, c0, c1, c2, c3, c4]) rfl ?_
      refine ⟨by rw [Hi.out]; rfl, ?_⟩
      repeat (first | exact HB | refine Below.setCell ?_ (p := ⟨w.heap.size + 1, _, none⟩) (Nat.le_succ _) _)
    · go_wp2_with fail
      refine bodyPost_ret (v := .agg #[.int .i64 0, .int .i64 y0, .int .i64 y1, .int .i64 y2, .int .i64 y3]) (by simp [results, Tryd.results16, go_sem, c0, c1, c2, c3, c4]) rfl ?_
      refine ⟨by rw [Hi.out]; rfl, ?_⟩
      repeat (first | exact HB | refine Below.setCell ?_ (p := ⟨w.heap.size + 1, _, none⟩) (Nat.le_succ _) _)

theorem hiFindSample : ∀ (A : Option Addr) (n c : Nat) (l : List Smp) (x0 x1 x2 x3 : Int) (W : World), Rd eS W W.heap.size A l → l.length = n → n ≤ 1048576 → Flds W → Calls Tryd.prog 16 #[.slice A n c, .agg #[.int .i64 x0, .int .i64 x1, .int .i64 x2, .int .i64 x3]] W (RetSR (lookM l (x0, x1, x2, x3)) W) :=
  fun A n c l x0 x1 x2 x3 W ha hn _ hF => implFindSample A n c l x0 x1 x2 x3 W ha hn hF
end Go.Proofs.YtkgbjlbhlhdhbaaDoor
/-
  What is sorted of what samplesByKey keeps is what the model merges.
-/
namespace Go.Proofs.YtkgbjlbhlhdhbaaDoor
set_option maxRecDepth 20000
open Go.RowKit Go.Sort
set_option linter.unusedSimpArgs false
set_option linter.unusedVariables false

theorem ahead_self (x : Smp) : aheadM x x = false := by
  rcases h : aheadM x x
  · rfl
  · have := (ahead_iff x x).1 h
    omega
theorem ltOf_keys (x y : Smp) : ltOf keysM x y = aheadM x y := keysM_ahead x y
theorem swoKeys : SWO (ltOf keysM) where
  irrefl x := by rw [ltOf_keys]; exact ahead_self x
  trans x y z h k := by rw [ltOf_keys] at *; exact ahead_trans h k
  ntrans x y z h k := by
    rw [ltOf_keys] at *
    rcases hc : aheadM x z
    · rfl
    · have h1 := (ahead_iff x z).1 hc
      have h2 : ¬ (x.1 < y.1 ∨ (x.1 = y.1 ∧ (x.2.1 < y.2.1 ∨ (x.2.1 = y.2.1 ∧ x.2.2.1 < y.2.2.1)))) := fun e => by rw [(ahead_iff x y).2 e] at h; cases h
      have h3 : ¬ (y.1 < z.1 ∨ (y.1 = z.1 ∧ (y.2.1 < z.2.1 ∨ (y.2.1 = z.2.1 ∧ y.2.2.1 < z.2.2.1)))) := fun e => by rw [(ahead_iff y z).2 e] at k; cases k
      omega

def Apart (l : List Smp) : Prop := l.Pairwise fun a b => sameKeyM a b = false
theorem asc_apart {l : List Smp} (h : Asc l) : Apart l := h.imp fun {a b} k => ahead_not_same k
theorem first_none {L : List Smp} {y : Smp} : firstM L y = none ↔ ∀ x ∈ L, sameKeyM y x = false := by
  unfold firstM
  rw [List.find?_eq_none]
  simp
theorem step_apart {acc : List Smp} {x : Smp} (h : Apart acc) : Apart (keyStep acc x) := by
  unfold keyStep
  split
  · exact h
  · rename_i hn
    have hn' : firstM acc x = none := by
      rcases hf : firstM acc x with _ | y
      · rfl
      · rw [hf] at hn; simp at hn
    refine List.pairwise_append.2 ⟨h, List.pairwise_singleton _ _, fun a ha b hb => ?_⟩
    obtain rfl : b = x := by simpa using hb
    rw [same_symm]
    exact first_none.1 hn' a ha
theorem fold_apart : ∀ (l acc : List Smp), Apart acc → Apart (l.foldl keyStep acc)
  | [], _, h => h
  | x :: l, acc, h => fold_apart l _ (step_apart h)
theorem byKey_apart (l : List Smp) : Apart (byKeyM l) := fold_apart l [] List.Pairwise.nil
theorem mem_step (acc : List Smp) (x y : Smp) : y ∈ keyStep acc x ↔ y ∈ acc ∨ (y = x ∧ firstM acc x = none) := by
  unfold keyStep
  split
  · rename_i h
    constructor
    · exact fun k => .inl k
    · rintro (k | ⟨rfl, k⟩)
      · exact k
      · rw [k] at h; cases h
  · rename_i h
    have hn : firstM acc x = none := by
      rcases hf : firstM acc x with _ | z
      · rfl
      · rw [hf] at h; simp at h
    simp [hn]
theorem mem_fold : ∀ (l : List Smp), Apart l → ∀ (acc : List Smp) (y : Smp), y ∈ l.foldl keyStep acc ↔ y ∈ acc ∨ (y ∈ l ∧ firstM acc y = none)
  | [], _, acc, y => by simp
  | x :: l, h, acc, y => by
    obtain ⟨h1, h2⟩ := List.pairwise_cons.1 h
    rw [List.foldl_cons, mem_fold l h2, mem_step]
    have key : y ∈ l → (firstM (keyStep acc x) y = none ↔ firstM acc y = none) := fun hy => by
      rw [first_step, first_append, first_cons, same_symm, h1 y hy]
      simp [firstM]
    constructor
    · rintro ((k | ⟨rfl, k⟩) | ⟨k, k2⟩)
      · exact .inl k
      · exact .inr ⟨List.mem_cons_self, k⟩
      · exact .inr ⟨List.mem_cons_of_mem _ k, (key k).1 k2⟩
    · rintro (k | ⟨k, k2⟩)
      · exact .inl (.inl k)
      · rcases List.mem_cons.1 k with rfl | k
        · exact .inl (.inr ⟨rfl, k2⟩)
        · exact .inr ⟨k, (key k).2 k2⟩
theorem mem_both {a b : List Smp} (ha : Asc a) (hb : Asc b) (y : Smp) : y ∈ byKeyM (a ++ b) ↔ y ∈ a ∨ (y ∈ b ∧ findI a y < 0) := by
  have e : byKeyM (a ++ b) = b.foldl keyStep (byKeyM a) := by unfold byKeyM; rw [List.foldl_append]
  have ea : y ∈ byKeyM a ↔ y ∈ a := by
    unfold byKeyM
    rw [mem_fold a (asc_apart ha)]
    simp [firstM]
  rw [e, mem_fold b (asc_apart hb), ea, first_byKey, first_none, findI_neg]
  constructor
  · rintro (k | ⟨k, k2⟩)
    · exact .inl k
    · exact .inr ⟨k, fun z hz => by rw [same_symm]; exact k2 z hz⟩
  · rintro (k | ⟨k, k2⟩)
    · exact .inl k
    · exact .inr ⟨k, fun z hz => by rw [same_symm]; exact k2 z hz⟩
theorem mem_mergeFold (a : List Smp) : ∀ (b out : List Smp) (y : Smp), y ∈ b.foldl (mergeStep a) out ↔ y ∈ out ∨ (y ∈ b ∧ findI a y < 0)
  | [], out, y => by simp
  | x :: b, out, y => by
    rw [List.foldl_cons, mem_mergeFold a b]
    unfold mergeStep
    by_cases h : findI a x < 0
    · rw [if_pos h, mem_insM]
      constructor
      · rintro ((rfl | k) | ⟨k, k2⟩)
        · exact .inr ⟨List.mem_cons_self, h⟩
        · exact .inl k
        · exact .inr ⟨List.mem_cons_of_mem _ k, k2⟩
      · rintro (k | ⟨k, k2⟩)
        · exact .inl (.inr k)
        · rcases List.mem_cons.1 k with rfl | k
          · exact .inl (.inl rfl)
          · exact .inr ⟨k, k2⟩
    · rw [if_neg h]
      constructor
      · rintro (k | ⟨k, k2⟩)
        · exact .inl k
        · exact .inr ⟨List.mem_cons_of_mem _ k, k2⟩
      · rintro (k | ⟨k, k2⟩)
        · exact .inl k
        · rcases List.mem_cons.1 k with rfl | k
          · exact absurd k2 h
          · exact .inr ⟨k, k2⟩

theorem asc_nodup {l : List Smp} (h : Asc l) : l.Nodup := h.imp fun {a b} k e => by
  subst e
  rw [ahead_self] at k
  cases k
theorem asc_eq {l m : List Smp} (hl : Asc l) (hm : Asc m) (h : ∀ y, y ∈ l ↔ y ∈ m) : l = m := by
  refine List.Perm.eq_of_pairwise (le := fun x y => aheadM x y = true) ?_ hl hm ((List.perm_ext_iff_of_nodup (asc_nodup hl) (asc_nodup hm)).2 h)
  intro a b _ _ h1 h2
  rcases keyOrd a b with ⟨_, k, _⟩ | ⟨k, _⟩ | ⟨k, _⟩
  · rw [k] at h2; cases h2
  · rw [k] at h1; cases h1
  · rw [k] at h1; cases h1
theorem merge_asc {a b : List Smp} (ha : storeFaultM a = 0) (hb : storeFaultM b = 0) : Asc (mergeM a b) := by
  obtain ⟨_, ra, sa⟩ := (storeFault_iff a).1 ha
  obtain ⟨_, rb, sb⟩ := (storeFault_iff b).1 hb
  exact (merge_facts a sa ra b sb rb a sa ra (fun _ h => h) (fun y hy => .inl ⟨y, hy, rfl⟩)).1
/-- What is in order and holds just what samplesByKey keeps is what the model merges. -/
theorem merge_is {a b ys : List Smp} (ha : storeFaultM a = 0) (hb : storeFaultM b = 0) (hp : ys.Perm (byKeyM (a ++ b))) (hs : ys.Pairwise fun x y => aheadM y x = false) : ys = mergeM a b := by
  obtain ⟨_, _, sa⟩ := (storeFault_iff a).1 ha
  obtain ⟨_, _, sb⟩ := (storeFault_iff b).1 hb
  have hap : Apart ys := (hp.symm.pairwise_iff (fun {x y} (k : sameKeyM x y = false) => by rw [same_symm]; exact k)).1 (byKey_apart _)
  have hasc : Asc ys := by
    refine (hs.and hap).imp fun {x y} k => ?_
    rcases keyOrd x y with ⟨k1, _⟩ | ⟨_, k1, _⟩ | ⟨_, _, k1⟩
    · exact k1
    · rw [k.1] at k1; cases k1
    · rw [k.2] at k1; cases k1
  refine asc_eq hasc (merge_asc ha hb) fun y => ?_
  rw [hp.mem_iff, mem_both sa sb]
  unfold mergeM
  rw [mem_mergeFold]
/-- A row as the sort leaves it. -/
theorem sorted_pairs {d : Array Smp} (h : SortedIn (ltOf keysM) 0 d.size d) : d.toList.Pairwise fun x y => aheadM y x = false := by
  rw [List.pairwise_iff_getElem]
  intro i j hi hj hij
  have hi' : i < d.size := by simpa using hi
  have hj' : j < d.size := by simpa using hj
  have := h i j (Nat.zero_le _) hij hj'
  rw [ltOf_keys, getElem!_pos d j hj', getElem!_pos d i hi'] at this
  simpa using this
end Go.Proofs.YtkgbjlbhlhdhbaaDoor
/-
  compareKeys once more, with the very world behind it: what the sort asks of it.
-/
namespace Go.Proofs.YtkgbjlbhlhdhbaaDoor
set_option maxRecDepth 20000
open Go.RowKit Go.Sort
set_option linter.unusedSimpArgs false

theorem grown3 (w : World) (a b c : Obj) : ∃ q os', ((w.alloc a).alloc b |>.alloc c).drew = grow (w.drewN q) os' := by
  refine ⟨1, #[a] ++ #[b] ++ #[c], ?_⟩
  rw [alloc_eq_grow, alloc_eq_grow, alloc_eq_grow, grow_grow, grow_grow]
  rfl

set_option maxHeartbeats 1000000 in
set_option maxRecDepth 20000 in
theorem compareKeysG (a0 a1 a2 a3 b0 b1 b2 b3 : Int) (w : World) :
    Calls Tryd.prog 66 #[.agg #[.int .i64 a0, .int .i64 a1, .int .i64 a2, .int .i64 a3], .agg #[.int .i64 b0, .int .i64 b1, .int .i64 b2, .int .i64 b3]] w fun e w' =>
      e = .returned (.int .i64 (keysM (a0, a1, a2, a3) (b0, b1, b2, b3))) ∧ ∃ q os', w' = grow (w.drewN q) os' := by
  go_enter Tryd.func66, Tryd.ntmps66
  go_wp2
  refine wp_region_mix [(0, false), (1, false), (2, false), (3, false), (5, false), (6, false), (7, false), (8, false), (10, false), (11, false), (12, false), (13, false), (4, true), (9, true), (14, true), (15, true), (16, true), (17, false)] (fun u => u.cell? ⟨w.heap.size, 0, none⟩ = some (.int .i64 a0) ∧ u.cell? ⟨w.heap.size, 1, none⟩ = some (.int .i64 a1) ∧ u.cell? ⟨w.heap.size, 2, none⟩ = some (.int .i64 a2) ∧ u.cell? ⟨w.heap.size + 1, 0, none⟩ = some (.int .i64 b0) ∧ u.cell? ⟨w.heap.size + 1, 1, none⟩ = some (.int .i64 b1) ∧ u.cell? ⟨w.heap.size + 1, 2, none⟩ = some (.int .i64 b2)) (by kernel_rfl) (by kernel_rfl) (fun _ _ _ _ _ h => h) (by go_simp) ?_
  simp only [mixOps, List.map_cons, List.map_nil, List.getElem?_cons_succ, List.getElem?_cons_zero, Option.getD_some]
  repeat (first
    | (refine mix_skip (by rfl) ?_
       (try simp only [Act.put, List.setIfInBounds_toArray, List.set_cons_zero, List.set_cons_succ]))
    | (refine mix_pure (v := ?_) (by rfl) (fun u hu => ?_) ?_
       rotate_left
       · obtain ⟨_, _, _, _, _, _⟩ := hu
         go_simp
         (with_reducible rfl)
       (try simp only [Act.put, List.setIfInBounds_toArray, List.set_cons_zero, List.set_cons_succ])))
  iterate 3
    refine mix_call (by rfl) (fun K hK => ?_)
    go_simp
    refine (cmpCompare _ _ _).mono ?_
    rintro e w1 ⟨rfl, rfl⟩
    refine hK _ _ _ (fun _ h => h) (by go_simp) ?_
    (try simp only [Act.put, List.setIfInBounds_toArray, List.set_cons_zero, List.set_cons_succ])
  refine mix_call (by rfl) (fun K hK => ?_)
  go_simp
  refine hK _ _ _ (fun _ h => h) (by go_simp) ?_
  (try simp only [Act.put, List.setIfInBounds_toArray, List.set_cons_zero, List.set_cons_succ])
  refine mix_call (by rfl) (fun K hK => ?_)
  go_simp
  refine (cmpOr _ 3 _ [cmpM a0 b0, cmpM a1 b1, cmpM a2 b2] _ (ints_three (by simp)) rfl (by omega)).mono ?_
  rintro e w1 ⟨rfl, rfl⟩
  refine hK _ _ _ (fun _ h => h) (by go_simp) ?_
  (try simp only [Act.put, List.setIfInBounds_toArray, List.set_cons_zero, List.set_cons_succ])
  refine mix_pure (v := ?_) (by rfl) (fun u hu => ?_) ?_
  rotate_left
  · go_simp
    (with_reducible rfl)
  (try simp only [Act.put, List.setIfInBounds_toArray, List.set_cons_zero, List.set_cons_succ])
  refine mix_nil ?_
  go_wp2
  go_ret
  exact ⟨rfl, grown3 _ _ _ _⟩
end Go.Proofs.YtkgbjlbhlhdhbaaDoor
/-
  slices.SortFunc over a row of samples of the call's own, by compareKeys.
-/
namespace Go.Proofs.YtkgbjlbhlhdhbaaDoor
set_option maxRecDepth 20000
open Go.RowKit Go.Sort Go.Shelf
set_option linter.unusedSimpArgs false
set_option linter.unusedVariables false

theorem cell_row {x : Smp} {j : Nat} (hj : j < 4) : (smpCells x)[j]? = some ((smpCells x)[j]!) := by
  have : j < (smpCells x).length := hj
  rw [List.getElem?_eq_getElem this, getElem!_pos (smpCells x) j this]
theorem flatK_row (d : Array Smp) : (flatK smpCells 4 d).toList = eS.row d.toList := by
  apply List.ext_getElem?
  intro i
  rcases Nat.lt_or_ge i (d.size * 4) with h | h
  · have hk : i / 4 < d.size := by omega
    have hd : d.toList[i / 4]? = some d[i / 4]! := by
      rw [Array.getElem?_toList, Array.getElem?_eq_getElem hk, getElem!_pos d _ hk]
    have h1 := okS.row_at d.toList (i / 4) (i % 4) _ hd (Nat.mod_lt _ (by decide))
    rw [show i / 4 * eS.size + i % 4 = i by show i / 4 * 4 + i % 4 = i; omega] at h1
    rw [h1, Array.getElem?_toList]
    have hs : i < (flatK smpCells 4 d).size := by simpa using h
    have h2 := get_flatK smpCells 4 d i h
    rw [getElem!_pos (flatK smpCells 4 d) i hs] at h2
    rw [Array.getElem?_eq_getElem hs, h2]
    exact (cell_row (Nat.mod_lt _ (by decide))).symm
  · rw [List.getElem?_eq_none (by simpa using h), List.getElem?_eq_none (by rw [okS.row_len]; simpa [eS] using h)]
theorem holdsK_of {w : World} {base g n c : Nat} {l : List Smp} (how : Ow eS w base (some ⟨g, 0, none⟩) n c l) : HoldsK smpCells 4 w g 0 l.toArray := fun j hj => by
  have hs : (flatK smpCells 4 l.toArray).size = l.length * 4 := by simp
  have hlen := Ow.len okS how
  have h1 : (eS.row l)[j]? = some (flatK smpCells 4 l.toArray)[j]! := by
    have := flatK_row l.toArray
    rw [show (l.toArray).toList = l from rfl] at this
    rw [← this, Array.getElem?_toList, Array.getElem?_eq_getElem hj, getElem!_pos (flatK smpCells 4 l.toArray) j hj]
  refine ⟨?_, how.frozenAt _⟩
  rw [World.ownsRow.cellAt how _ (by rw [hs] at hj; show 0 + j < n * 4; omega), Nat.zero_add, h1]
  rfl
theorem ow_sorted {w : World} {base g n c m : Nat} {l : List Smp} {d : Array Smp} {os : Array Obj} (how : Ow eS w base (some ⟨g, 0, none⟩) n c l) (hd : d.size = n) :
    Ow eS (sortWorldK smpCells 4 w g 0 m d os) base (some ⟨g, 0, none⟩) n c d.toList := by
  refine ⟨by rw [okS.row_len]; simp [hd], .inr ?_⟩
  rcases how.2 with ⟨h0, _⟩ | ⟨g', cap, cur, hv, hb, hg, h1, h2, h3, h4⟩
  · simp at h0
  · simp only [Value.slice.injEq, Option.some.injEq, Addr.mk.injEq, true_and, and_true] at hv
    obtain ⟨rfl, rfl⟩ := hv
    have hF : (flatK smpCells 4 d).size = n * 4 := by simp [hd]
    have hlt : g < w.heap.size := (Array.getElem?_eq_some_iff.1 hg).1
    refine ⟨g, c, putCells id 0 (flatK smpCells 4 d) cur, rfl, hb, ?_, h1, h2, by unfold putCells; simpa using h3, ?_⟩
    · show ((w.heap.modify g (onCells (putCells id 0 (flatK smpCells 4 d)))) ++ os)[g]? = _
      rw [Array.getElem?_append_left (by rw [Array.size_modify]; exact hlt), Array.getElem?_modify, if_pos rfl, hg]
      rfl
    · rw [← flatK_row]
      apply List.ext_getElem?
      intro j
      rw [List.getElem?_take]
      have hcs : n * 4 ≤ cur.size := by
        rw [h3]
        exact Nat.mul_le_mul_right _ h1
      split
      · rename_i hj
        have hj' : j < n * 4 := hj
        have hjc : j < cur.size := by omega
        unfold putCells
        rw [Array.getElem?_toList, Array.getElem?_mapIdx, Array.getElem?_eq_getElem hjc, Option.map_some, if_pos ⟨Nat.zero_le _, by omega⟩, Nat.sub_zero, Array.getElem?_toList, Array.getElem?_eq_getElem (by omega), getElem!_pos (flatK smpCells 4 d) j (by omega)]
        rfl
      · rename_i hj
        rw [List.getElem?_eq_none]
        have : ¬ j < n * 4 := hj
        simp
        omega

set_option maxHeartbeats 1000000 in
theorem sortSmp (A : Option Addr) (n c base : Nat) (l : List Smp) (w : World) (how : Ow eS w base A n c l) (hn : n ≤ 1000) :
    Calls Tryd.prog 77 #[.slice A n c, .func (.func 66) #[] #[]] w fun e w' =>
      e = .returned (.tuple #[]) ∧ ∃ ys : List Smp, ys.Perm l ∧ (ys.Pairwise fun x y => aheadM y x = false) ∧ Ow eS w' base A n c ys ∧ Below base w w' := by
  have hlen := Ow.len okS how
  rcases Nat.eq_zero_or_pos n with h0 | h0
  · subst h0
    obtain rfl : l = [] := List.eq_nil_of_length_eq_zero hlen
    have h : Calls Tryd.prog 77 #[.slice A 0 c, .func (.func 66) #[] #[]] w fun e w' => e = .returned (.tuple #[]) ∧ w' = w :=
      AnyF.slices_SortFunc_none sortS A c _ w
    refine h.mono ?_
    rintro e w' ⟨rfl, rfl⟩
    exact ⟨rfl, [], List.Perm.refl _, List.Pairwise.nil, how, Below.refl _ _⟩
  · obtain ⟨g, rfl, hb, hg⟩ := how.form h0
    have hsz : l.toArray.size = n := by simpa using hlen
    have hcmp : CmpLays Tryd.prog 66 #[] smpCells 4 keysM g 0 l.toArray.size w := fun m os dk _ x y => by
      obtain ⟨a0, a1, a2, a3⟩ := x
      obtain ⟨b0, b1, b2, b3⟩ := y
      exact compareKeysG a0 a1 a2 a3 b0 b1 b2 b3 _
    have h : Calls Tryd.prog 77 #[.slice (some ⟨g, 0, none⟩) l.toArray.size c, .func (.func 66) #[] #[]] w fun e w' =>
        e = .returned (.tuple #[]) ∧ ∃ d' n os, PermIn 0 l.toArray.size l.toArray d' ∧ SortedIn (ltOf keysM) 0 l.toArray.size d' ∧ w' = sortWorldK smpCells 4 w g 0 n d' os :=
      AnyQ.slices_SortFunc sortS 4 (fun w => Tryd.isAgg26 w) (fun w => Tryd.sizeOf26 w) smpCells (fun _ => rfl) (fun x v hv => okS.one x v hv) keysM swoKeys 66 #[] g 0 c l.toArray w
        (enters_of Tryd.func66 (by kernel_rfl) rfl) hcmp (holdsK_of how) hg (by omega)
    rw [hsz] at h
    refine h.mono ?_
    rintro e w' ⟨rfl, d, m, os, ⟨hp1, _, hp2⟩, hso, rfl⟩
    have hds : d.size = n := hp1.trans hsz
    have e1 : d.extract 0 n = d := by rw [← hds]; exact Array.extract_size
    have e2 : l.toArray.extract 0 n = l.toArray := by rw [← hsz]; exact Array.extract_size
    rw [e1, e2] at hp2
    refine ⟨rfl, d.toList, hp2, sorted_pairs (by rw [hds]; exact hso), ow_sorted how hds, ?_⟩
    refine ⟨rfl, rfl, rfl, ?_, fun k hk => ?_⟩
    · show w.heap.size ≤ ((w.heap.modify g (onCells (putCells id 0 (flatK smpCells 4 d)))) ++ os).size
      rw [Array.size_append, Array.size_modify]
      omega
    · show ((w.heap.modify g (onCells (putCells id 0 (flatK smpCells 4 d)))) ++ os)[k]? = w.heap[k]?
      rw [Array.getElem?_append_left (by rw [Array.size_modify]; omega), Array.getElem?_modify, if_neg (by omega)]
end Go.Proofs.YtkgbjlbhlhdhbaaDoor
