/-
  slices.Grow of nothing, and slices.Concat of rows of marks.
-/
import Derived.Test.YtbfjfjocangjeaaMrks
import Derived.Test.YtbfjfjocangjeaaMgS
import Derived.Test.YtbfjfjocangjeaaLaid
namespace Go.Proofs.Ytbfjfjocangjeaa
set_option maxRecDepth 20000
open Go.RowKit Go.Shelf
set_option linter.unusedSimpArgs false
set_option linter.unusedVariables false

theorem growNoneM (n : Nat) (hn : n ≤ 100000) (w : World) :
    Calls Try.prog 113 #[.slice none 0 0, .int .i64 (n : Int)] w fun e w' => ∃ A c, e = .returned (.slice A 0 c) ∧ Ow eMk w' w.heap.size A 0 c [] ∧ Below w.heap.size w w' := by
  rcases Nat.eq_zero_or_pos n with h0 | h0
  · subst h0
    have h : Calls Try.prog 113 #[.slice none 0 0, .int .i64 ((0 : Nat) : Int)] w fun e w' => e = .returned (.slice none 0 0) ∧ w' = w :=
      Any8.slices_Grow_room growM none 0 0 0 w (by omega) (by omega) (by omega) (by omega)
    refine h.mono ?_
    rintro e w' ⟨rfl, rfl⟩
    exact ⟨none, 0, rfl, Ow.nil, Below.refl _ _⟩
  · obtain ⟨i, hi, hz, hsz, hby⟩ := info_parts info_mrk
    have h : Calls Try.prog 113 #[.slice none 0 0, .int .i64 (n : Int)] w fun e w' => e = .returned (.slice (some ⟨w.heap.size, 0, none⟩) 0 (grownCap w (0 + n) 0 25)) ∧
        w' = w.drew.alloc (.cells (([] : List Value).toArray ++ Builtin.zeroCells (Value.agg #[.int .i64 0, .int .i64 0]).cells (0 + n - 0) ++ Builtin.zeroCells (Value.agg #[.int .i64 0, .int .i64 0]).cells (grownCap w (0 + n) 0 25 - (0 + n))) 25) :=
      Any8.slices_Grow_grow growM i _ hi hz (by omega) none 0 0 n [] w (by omega) (by omega) (by rw [hby]; omega) (by omega) (by simp) (fun _ => rfl) (fun a ha => by cases ha)
    refine h.mono ?_
    rintro e w' ⟨rfl, rfl⟩
    have hge := grownCap_ge w (0 + n) 0 25
    have hle := grownCap_le_maxLen w (0 + n) 0 25 (by unfold maxLen; omega)
    generalize grownCap w (0 + n) 0 25 = G at hge hle ⊢
    refine ⟨_, G, rfl, ?_, (Below.refl w.heap.size w).drew.alloc (Nat.le_refl _) _⟩
    have hm := World.ownsRow_made (base := w.heap.size) (e := 25) (size := 2) w.drew (([] : List Value).toArray ++ Builtin.zeroCells (Value.agg #[.int .i64 0, .int .i64 0]).cells (0 + n - 0) ++ Builtin.zeroCells (Value.agg #[.int .i64 0, .int .i64 0]).cells (G - (0 + n))) G (Nat.le_refl _) hle (by
      rw [Array.size_append, Array.size_append, size_zeroCells, size_zeroCells]
      simp [Value.cells]
      omega)
    exact hm

abbrev Row4M := Option Addr × Nat × Nat × List Mrk
def flatM (rows : List Row4M) : List Mrk := rows.flatMap (·.2.2.2)
theorem flatM_next {rows : List Row4M} {j : Nat} {r : Row4M} (h : rows[j]? = some r) : flatM (rows.take (j + 1)) = flatM (rows.take j) ++ r.2.2.2 := by
  unfold flatM
  rw [List.take_add_one, h, List.flatMap_append]
  simp
theorem flatM_len : ∀ {rows : List Row4M}, (∀ r, r ∈ rows → r.2.2.2.length ≤ 1000) → (flatM rows).length ≤ rows.length * 1000
  | [], _ => by simp [flatM]
  | r :: rows, h => by
    have h1 := flatM_len (rows := rows) (fun x hx => h x (by simp [hx]))
    have h2 := h r (by simp)
    unfold flatM at h1 ⊢
    rw [List.flatMap_cons, List.length_append, List.length_cons]
    omega

/-- Block G holds these slices, each of which reads its list. -/
def Rows4M (w : World) (G : Nat) (rows : List Row4M) : Prop :=
  ∀ (i : Nat) (r : Row4M), rows[i]? = some r → w.cell? ⟨G, i, none⟩ = some (.slice r.1 r.2.1 r.2.2.1) ∧ Rd eMk w w.heap.size r.1 r.2.2.2 ∧ r.2.2.2.length = r.2.1 ∧ r.2.1 ≤ 1000
theorem Rows4M.below {w w' : World} {G : Nat} {rows : List Row4M} (h : Rows4M w G rows) (hb : Below w.heap.size w w') (hG : G < w.heap.size) : Rows4M w' G rows := fun i r hr => by
  obtain ⟨h1, h2, h3, h4⟩ := h i r hr
  exact ⟨(hb.cell (p := ⟨G, i, none⟩) hG).trans h1, h2.lift hb, h3, h4⟩

set_option maxHeartbeats 2000000 in
theorem concatM (G k c : Nat) (rows : List Row4M) (w : World) (hR : Rows4M w G rows) (hG : G < w.heap.size) (hk : rows.length = k) (hk4 : k ≤ 4) :
    Calls Try.prog 83 #[.slice (some ⟨G, 0, none⟩) k c] w fun e w' => ∃ A n c', e = .returned (.slice A n c') ∧ Ow eMk w' w.heap.size A n c' (flatM rows) ∧ Below w.heap.size w w' := by
  have hlen : ∀ j, j ≤ k → (flatM (rows.take j)).length ≤ 4000 := fun j hj => by
    have h1 := flatM_len (rows := rows.take j) (fun r hr => by
      obtain ⟨i, hi⟩ := List.mem_iff_getElem?.1 (List.mem_of_mem_take hr)
      obtain ⟨_, _, h3, h4⟩ := hR i r hi
      omega)
    rw [List.length_take] at h1
    have : min j rows.length * 1000 ≤ 4000 := by
      have : min j rows.length ≤ 4 := by omega
      omega
    omega
  have Hlen := Lib.hid hlen
  have Hk := Lib.hid hk
  clear hk hlen
  go_enter Try.func83, Try.ntmps83
  go_wp2
  go_loopw [3, 11] (fun sz i wr => ∃ j : Nat, j ≤ k ∧ i = .int .i64 j ∧ sz = .int .i64 ((flatM (rows.take j)).length : Int) ∧ w = wr) (fun _ i _ => k - (intOf i).toNat)
  case atStart => exact ⟨0, Nat.zero_le _, rfl, rfl, rfl⟩
  case round =>
    obtain ⟨j, hj, rfl, rfl, rfl⟩ := hrel
    by_cases hlt : j < k
    · obtain ⟨r, hr⟩ : ∃ r, rows[j]? = some r := ⟨rows[j]'(by rw [Hk.out]; exact hlt), List.getElem?_eq_getElem _⟩
      obtain ⟨hc, -, h3, -⟩ := hR j r hr
      have h5 := Hlen.out (j + 1) hlt
      have h6 : (flatM (rows.take (j + 1))).length = (flatM (rows.take j)).length + r.2.1 := by rw [flatM_next hr, List.length_append, h3]
      have H6 := Lib.hid h6
      have hw : wrap64 (((flatM (rows.take j)).length : Int) + (r.2.1 : Int)) = ((flatM (rows.take j)).length : Int) + (r.2.1 : Int) := by unfold wrap64; omega
      have hneg : ¬ ((flatM (rows.take j)).length : Int) + (r.2.1 : Int) < 0 := by omega
      clear h3 hr h6
      have Hw := Lib.hid hw
      go_wp2
      exact ⟨⟨j + 1, by omega, by go_num, by rw [Hw.out, H6.out]; simp, trivial⟩, by simp [intOf]; omega⟩
    · obtain rfl : j = k := by omega
      have hz := Hlen.out j (Nat.le_refl _)
      have hq := growNoneM (flatM (rows.take j)).length (by omega) w
      go_wp2_with fail
      refine hq.mono ?_
      rintro e w1 ⟨A0, c0, rfl, ow0, hb0⟩
      go_wp2
      go_loopw [6, 27] (fun o i wr => ∃ (t : Nat) (A : Option Addr) (n c' : Nat), t ≤ j ∧ i = .int .i64 t ∧ o = .slice A n c' ∧ Ow eMk wr w.heap.size A n c' (flatM (rows.take t)) ∧ Below w.heap.size w wr) (fun _ i _ => j - (intOf i).toNat)
      case atStart => exact ⟨0, A0, 0, c0, Nat.zero_le _, rfl, rfl, ow0, hb0⟩
      case round =>
        obtain ⟨t, A, n, c', ht, rfl, rfl, how, hbel⟩ := hrel
        by_cases hlt : t < j
        · obtain ⟨r, hr⟩ : ∃ r, rows[t]? = some r := ⟨rows[t]'(by rw [Hk.out]; exact hlt), List.getElem?_eq_getElem _⟩
          obtain ⟨hc, hX, h3, h4⟩ := (hR.below hbel hG) t r hr
          have hn := Hlen.out t (by omega)
          have hnl := Ow.len okMk how
          have Hf := Lib.hid (flatM_next hr)
          have H3 := Lib.hid h3
          have hn4 : n ≤ 4000 := by omega
          clear hr h3 hn hnl
          go_wp2_with (at_builtin; refine wpList_append_ow okMk _ rfl _ _ 46 rfl w.heap.size info_mrk Try.underlying46 rfl A n c' (flatM (rows.take t)) rfl how r.1 r.2.1 r.2.2.1 wr.heap.size r.2.2.2 rfl hX H3.out (by unfold maxLen; omega) (by omega) hbel.size ?_; intro A1 c1 w2 ow2 hg2 hA2)
          refine ⟨⟨t + 1, A1, n + r.2.1, c1, by omega, by go_num, rfl, by rw [Hf.out]; exact ow2, hbel.grown hg2 hbel.size (fun k e => (how.lt k e).1)⟩, by simp [intOf]; omega⟩
        · obtain rfl : t = j := by omega
          have Hq := Lib.hid (show flatM (rows.take t) = flatM rows by rw [List.take_of_length_le (by rw [Hk.out]; exact Nat.le_refl _)])
          go_wp2
          go_ret
          exact ⟨A, n, c', rfl, by rw [← Hq.out]; exact how, hbel⟩
end Go.Proofs.Ytbfjfjocangjeaa
