/-
  Texts of one proof, joined: each has its own namespace.
-/
import Derived.Test.YtmaillakhhdkfaaGreatDoorBExRecoverDisk1
import Derived.Test.YtmaillakhhdkfaaGreatDoorBExRecoverDisk0
import Derived.Laws.CopyOwn
/-
  A sample's bytes: the model's.
-/
namespace Go.Proofs.YtmaillakhhdkfaaGreatDoor
set_option maxRecDepth 20000
open Go.RowKit

/-- The bytes of four numbers, the last one above its low bound. -/
def encL (n0 n1 n2 n3 : Nat) : List UInt8 := [UInt8.ofNat n0] ++ packL n1 2 ++ packL n2 2 ++ packL n3 2
theorem pack1 (n : Nat) : packL n 1 = [UInt8.ofNat n] := by simp [packL]
theorem pack2 (n : Nat) : packL n 2 = [UInt8.ofNat n, UInt8.ofNat (n / 256)] := by simp [packL, List.range_succ]
theorem encL_eq (n0 n1 n2 n3 : Nat) : encL n0 n1 n2 n3 = [UInt8.ofNat n0, UInt8.ofNat n1, UInt8.ofNat (n1 / 256), UInt8.ofNat n2, UInt8.ofNat (n2 / 256), UInt8.ofNat n3, UInt8.ofNat (n3 / 256)] := by
  simp [encL, pack2]

theorem byte_small1 {n : Nat} (h : n < 256) : ((UInt8.ofNat n).toNat : Int) = (n : Int) := by
  rw [UInt8.toNat_ofNat']
  omega
theorem ow_byte (w : World) (b : UInt8) (v : Int) (hv : v = (b.toNat : Int)) : Ow eB ((w.alloc (.cells #[.int .u8 v] 5)).drew) w.heap.size (some ⟨w.heap.size, 0, none⟩) 1 1 [b] :=
  Ow.lit w [b] _ 1 (Nat.le_refl _) (by unfold maxLen; omega) (by simp [Enc.row, eB, hv]) rfl

/-- append as one step of a region: as 'wpList_append_ow'. -/
theorem wp_append_ow {P : Program} {α : Type} {E : Enc α} (hE : EncOk E) (w : World) {o : Oper} {a : Act} {K : Act → World → Prop} {Q : Exit → Act → World → Prop} (s x : Operand) (t : TypeId)
    (ho : o.op = .call { callee := .builtin .append, args := #[s, x], argTypes := #[t, t] })
    (base : Nat) {z : Value} {bytes : Nat} (hinfo : (P.info? E.tid).map (fun i => (i.zero, i.size, i.bytes)) = some (some z, E.size, bytes)) (ht : P.underlying t = some (.slice E.tid)) (hzs : z.cells.size = E.size)
    (A : Option Addr) (n c : Nat) (l : List α) (hs : a.eval s = .slice A n c) (hown : Ow E w base A n c l)
    (X : Option Addr) (m d hi' : Nat) (news : List α) (hx : a.eval x = .slice X m d) (hX : Rd E w hi' X news) (hm : news.length = m)
    (h63 : n + m ≤ maxLen) (hbytes : (n + m) * bytes ≤ 140737488355328) (hbase : base ≤ w.heap.size)
    (h : ∀ A' c' w', Ow E w' base A' (n + m) c' (l ++ news) → w.grownBy w' (A.map (·.block)) → (A'.map (·.block) = A.map (·.block) ∨ A'.map (·.block) = some w.heap.size) → K (a.put o.dst (.slice A' (n + m) c')) w') : o.wp P a w K Q := by
  obtain ⟨i, hi, hz, hsz, hby⟩ := info_parts hinfo
  obtain ⟨A', c', w', hrun, h2, h3, h4⟩ := run_append_ow (P := P) hE w base t o.type i z bytes ht hi hz hsz hby hzs A n c l hown X m d hi' news hX hm h63 hbytes hbase
  unfold Oper.wp execOp
  simp only [ho, resolve, invoke, builtin, Sem.run_bind, Sem.run_pure, Result.andThen_ok, List.map_toArray, List.map_cons, List.map_nil, hs, hx, hrun]
  exact h A' c' w' h2 h3 h4

set_option maxHeartbeats 2000000 in
theorem l2Encode (g n0 n1 n2 n3 : Nat) (w : World) (hx : At w g 25 #[.int .i64 n0, .int .i64 n1, .int .i64 n2, .int .i64 ((n3 : Int) - 1000)]) (h0 : n0 ≤ 9) (h1 : n1 ≤ 999) (h2 : n2 ≤ 9999) (h3 : n3 ≤ 2000) :
    Calls Tryz.prog 85 #[.pointer (some ⟨g, 0, none⟩)] w fun e w' => ∃ A c, e = .returned (.slice A 7 c) ∧ Ow eB w' w.heap.size A 7 c (encL n0 n1 n2 n3) ∧ Below w.heap.size w w' := by
  have hg := hx.lt
  go_enter Tryz.func85, Tryz.ntmps85
  go_wp2
  refine wp_region_fork2 [(0, false), (1, false), (2, false), (3, false), (4, false), (6, false), (7, false), (8, false), (9, false)] [(10, true), (11, true), (12, false)] [(5, true), (11, true), (12, false)] 5 10 (fun u => At u g 25 #[.int .i64 n0, .int .i64 n1, .int .i64 n2, .int .i64 ((n3 : Int) - 1000)]) (by kernel_rfl) (by kernel_rfl) (fun _ _ _ _ _ h => h) hx.drew ?_
  simp only [mixOps, List.map_cons, List.map_nil, List.getElem?_cons_succ, List.getElem?_cons_zero, Option.getD_some]
  repeat (first
    | (refine mixR_skip (by rfl) ?_
       (try simp only [Act.put, List.setIfInBounds_toArray, List.set_cons_zero, List.set_cons_succ]))
    | (refine mixR_pure (v := ?_) (by rfl) (fun u hu => ?_) ?_
       rotate_left
       · obtain ⟨_, _, _, _, _, _, _, _⟩ := hu.four
         go_simp
         (with_reducible rfl)
       (try simp only [Act.put, List.setIfInBounds_toArray, List.set_cons_zero, List.set_cons_succ])))
  have hx0 := hx.drew
  refine mixR_nil ⟨?_, ?_⟩
  · refine mixR_call (by rfl) (fun K hK => ?_)
    go_simp
    have hx1 := (hx.alloc (.cells #[.int .u8 (IntKind.u8.wrap (n0 : Int))] 5)).drew
    refine hK _ _ _ (fun _ h => h) hx1 ?_
    (try simp only [Act.put, List.setIfInBounds_toArray, List.set_cons_zero, List.set_cons_succ])
    have hB1 : Below w.heap.size w ((w.alloc (.cells #[.int .u8 (IntKind.u8.wrap (n0 : Int))] 5)).drew) := ((Below.refl _ _).alloc (Nat.le_refl _) _).drew
    have ob1 := ow_byte w (UInt8.ofNat n0) (IntKind.u8.wrap (n0 : Int)) (by rw [byte_small1 (by omega)]; exact IntWalk.u8_in _ (by omega))
    refine mixR_call (by rfl) (fun K hK => ?_)
    go_simp
    refine (l1Pack n1 2 _ (by omega) (by omega)).mono ?_
    rintro e w2 ⟨A1, c1, rfl, oa2, hb2⟩
    have hB2 := hB1.trans (hb2.mono hB1.size)
    have hx2 := hx1.below hb2 hx1.lt
    have ob2 := ob1.below hb2 (Nat.le_refl _)
    refine hK _ _ _ (fun _ h => h) hx2 ?_
    (try simp only [Act.put, List.setIfInBounds_toArray, List.set_cons_zero, List.set_cons_succ])
    refine mixR_call (by rfl) (fun K hK => ?_)
    refine wp_append_ow okB _ (.tmp 9) (.tmp 14) _ rfl w.heap.size info_u8 Tryz.underlying22 rfl _ 1 1 [UInt8.ofNat n0] rfl ob2 A1 2 c1 _ (packL n1 2) rfl (oa2.rd okB) (packL_len _ _) (by unfold maxLen; omega) (by omega) hB2.size ?_
    intro A2 c2 w3 ow3 hg3 _
    have hB3 : Below w.heap.size w w3 := hB2.grown hg3 hB2.size (fun g hg => (ob2.lt g hg).1)
    have hx3 := hx2.grown hg3 (fun e => by have := (ob2.lt _ e).1; omega)
    refine hK _ _ _ (fun _ h => h) hx3 ?_
    (try simp only [Act.put, List.setIfInBounds_toArray, List.set_cons_zero, List.set_cons_succ])
    refine mixR_pure (v := ?_) (by rfl) (fun u hu => ?_) ?_
    rotate_left
    · go_simp
      (with_reducible rfl)
    (try simp only [Act.put, List.setIfInBounds_toArray, List.set_cons_zero, List.set_cons_succ])
    refine mixR_nil ?_
    clear hx0
    obtain ⟨_, _, y2, y3, _, _, _, _⟩ := hx3.four
    go_wp2_with fail
    refine (l1Pack n2 2 _ (by omega) (by omega)).mono ?_
    rintro e w4 ⟨A4, c4, rfl, o4, hb4⟩
    have hB4 := hB3.trans (hb4.mono hB3.size)
    have hx4 := hx3.below hb4 hx3.lt
    have ow4 := ow3.below hb4 (Nat.le_refl _)
    clear y2 y3
    obtain ⟨_, _, y2, y3, _, _, _, _⟩ := hx4.four
    go_wp2_with (at_builtin; refine wpList_append_ow okB _ rfl (.tmp 16) (.tmp 21) _ rfl w.heap.size info_u8 Tryz.underlying22 rfl A2 (1 + 2) c2 ([UInt8.ofNat n0] ++ packL n1 2) rfl ow4 A4 2 c4 _ (packL n2 2) rfl (o4.rd okB) (packL_len _ _) (by unfold maxLen; omega) (by omega) hB4.size ?_; intro A5 c5 w5 ow5 hg5 _; have hB5 := hB4.grown hg5 hB4.size (fun g hg => (ow4.lt g hg).1); have hx5 := hx4.grown hg5 (fun e => by have := (ow4.lt _ e).1; omega); clear y2 y3; obtain ⟨_, _, y2, y3, _, _, _, _⟩ := hx5.four)
    refine (l1Pack n3 2 _ (by omega) (by omega)).mono ?_
    rintro e w6 ⟨A6, c6, rfl, o6, hb6⟩
    have hB6 := hB5.trans (hb6.mono hB5.size)
    have ow6 : Ow eB w6 w.heap.size A5 5 c5 ([UInt8.ofNat n0] ++ packL n1 2 ++ packL n2 2) := ow5.below hb6 (Nat.le_refl _)
    go_wp2_with (at_builtin; refine wpList_append_ow okB _ rfl (.tmp 23) (.tmp 29) _ rfl w.heap.size info_u8 Tryz.underlying22 rfl A5 5 c5 ([UInt8.ofNat n0] ++ packL n1 2 ++ packL n2 2) rfl ow6 A6 2 c6 _ (packL n3 2) rfl (o6.rd okB) (packL_len _ _) (by unfold maxLen; omega) (by omega) hB6.size ?_; intro A7 c7 w7 ow7 hg7 _; have hB7 := hB6.grown hg7 hB6.size (fun g hg => (ow6.lt g hg).1))
    go_ret
    exact ⟨A7, c7, rfl, ow7, hB7⟩
  · refine mixR_call (by rfl) (fun K hK => ?_)
    go_simp
    have hB0 : Below w.heap.size w w.drew := (Below.refl _ _).drew
    refine (l1Pack n1 2 _ (by omega) (by omega)).mono ?_
    rintro e w1 ⟨A1, c1, rfl, oa1, hb1⟩
    have hB1 := hB0.trans (hb1.mono hB0.size)
    have hx1 := hx0.below hb1 hx0.lt
    refine hK _ _ _ (fun _ h => h) hx1 ?_
    (try simp only [Act.put, List.setIfInBounds_toArray, List.set_cons_zero, List.set_cons_succ])
    refine mixR_call (by rfl) (fun K hK => ?_)
    go_simp
    have hx2 := (hx1.alloc (.cells #[.int .u8 (IntKind.u8.wrap (n0 : Int))] 5))
    have oa2 := oa1.alloc (.cells #[.int .u8 (IntKind.u8.wrap (n0 : Int))] 5)
    have hB2 := hB1.alloc hB1.size (.cells #[.int .u8 (IntKind.u8.wrap (n0 : Int))] 5)
    have ob2 := (ow_byte w1 (UInt8.ofNat n0) (IntKind.u8.wrap (n0 : Int)) (by rw [byte_small1 (by omega)]; exact IntWalk.u8_in _ (by omega))).from_ hB1.size
    refine hK _ _ _ (fun _ h => h) hx2 ?_
    (try simp only [Act.put, List.setIfInBounds_toArray, List.set_cons_zero, List.set_cons_succ])
    refine mixR_call (by rfl) (fun K hK => ?_)
    refine wp_append_ow okB _ (.tmp 9) (.tmp 14) _ rfl w.heap.size info_u8 Tryz.underlying22 rfl _ 1 1 [UInt8.ofNat n0] rfl ob2 A1 2 c1 _ (packL n1 2) rfl (oa2.rd okB) (packL_len _ _) (by unfold maxLen; omega) (by omega) hB2.size ?_
    intro A2 c2 w3 ow3 hg3 _
    have hB3 : Below w.heap.size w w3 := hB2.grown hg3 hB2.size (fun g hg => (ob2.lt g hg).1)
    have hx3 := hx2.grown hg3 (fun e => by have := (ob2.lt _ e).1; omega)
    refine hK _ _ _ (fun _ h => h) hx3 ?_
    (try simp only [Act.put, List.setIfInBounds_toArray, List.set_cons_zero, List.set_cons_succ])
    refine mixR_pure (v := ?_) (by rfl) (fun u hu => ?_) ?_
    rotate_left
    · go_simp
      (with_reducible rfl)
    (try simp only [Act.put, List.setIfInBounds_toArray, List.set_cons_zero, List.set_cons_succ])
    refine mixR_nil ?_
    clear hx0
    obtain ⟨_, _, y2, y3, _, _, _, _⟩ := hx3.four
    go_wp2_with fail
    refine (l1Pack n2 2 _ (by omega) (by omega)).mono ?_
    rintro e w4 ⟨A4, c4, rfl, o4, hb4⟩
    have hB4 := hB3.trans (hb4.mono hB3.size)
    have hx4 := hx3.below hb4 hx3.lt
    have ow4 := ow3.below hb4 (Nat.le_refl _)
    clear y2 y3
    obtain ⟨_, _, y2, y3, _, _, _, _⟩ := hx4.four
    go_wp2_with (at_builtin; refine wpList_append_ow okB _ rfl (.tmp 16) (.tmp 21) _ rfl w.heap.size info_u8 Tryz.underlying22 rfl A2 (1 + 2) c2 ([UInt8.ofNat n0] ++ packL n1 2) rfl ow4 A4 2 c4 _ (packL n2 2) rfl (o4.rd okB) (packL_len _ _) (by unfold maxLen; omega) (by omega) hB4.size ?_; intro A5 c5 w5 ow5 hg5 _; have hB5 := hB4.grown hg5 hB4.size (fun g hg => (ow4.lt g hg).1); have hx5 := hx4.grown hg5 (fun e => by have := (ow4.lt _ e).1; omega); clear y2 y3; obtain ⟨_, _, y2, y3, _, _, _, _⟩ := hx5.four)
    refine (l1Pack n3 2 _ (by omega) (by omega)).mono ?_
    rintro e w6 ⟨A6, c6, rfl, o6, hb6⟩
    have hB6 := hB5.trans (hb6.mono hB5.size)
    have ow6 : Ow eB w6 w.heap.size A5 5 c5 ([UInt8.ofNat n0] ++ packL n1 2 ++ packL n2 2) := ow5.below hb6 (Nat.le_refl _)
    go_wp2_with (at_builtin; refine wpList_append_ow okB _ rfl (.tmp 23) (.tmp 29) _ rfl w.heap.size info_u8 Tryz.underlying22 rfl A5 5 c5 ([UInt8.ofNat n0] ++ packL n1 2 ++ packL n2 2) rfl ow6 A6 2 c6 _ (packL n3 2) rfl (o6.rd okB) (packL_len _ _) (by unfold maxLen; omega) (by omega) hB6.size ?_; intro A7 c7 w7 ow7 hg7 _; have hB7 := hB6.grown hg7 hB6.size (fun g hg => (ow6.lt g hg).1))
    go_ret
    exact ⟨A7, c7, rfl, ow7, hB7⟩

/-- A sample's answer of code and bytes. -/
def encodeM (x : Smp) : Int × List UInt8 := if faultM x = 0 then (0, encL x.1.toNat x.2.1.toNat x.2.2.1.toNat (x.2.2.2 + 1000).toNat) else (3, [])
theorem faultM_in {a0 a1 a2 a3 : Int} (h : faultM (a0, a1, a2, a3) = 0) : (0 ≤ a0 ∧ a0 ≤ 9) ∧ (0 ≤ a1 ∧ a1 ≤ 999) ∧ (0 ≤ a2 ∧ a2 ≤ 9999) ∧ -1000 ≤ a3 ∧ a3 ≤ 1000 := by
  unfold faultM at h
  split at h
  · rename_i hh
    simpa [bndsM, inB] using hh
  · cases h
/-- No fault: the numbers. -/
theorem faultM_nat {a0 a1 a2 a3 : Int} (h : faultM (a0, a1, a2, a3) = 0) : ∃ n0 n1 n2 n3 : Nat, a0 = n0 ∧ a1 = n1 ∧ a2 = n2 ∧ a3 = (n3 : Int) - 1000 ∧ n0 ≤ 9 ∧ n1 ≤ 999 ∧ n2 ≤ 9999 ∧ n3 ≤ 2000 := by
  obtain ⟨h0, h1, h2, h3⟩ := faultM_in h
  exact ⟨a0.toNat, a1.toNat, a2.toNat, (a3 + 1000).toNat, by omega, by omega, by omega, by omega, by omega, by omega, by omega, by omega⟩
theorem encodeM_nat {n0 n1 n2 n3 : Nat} (h : faultM ((n0 : Int), (n1 : Int), (n2 : Int), (n3 : Int) - 1000) = 0) : encodeM ((n0 : Int), (n1 : Int), (n2 : Int), (n3 : Int) - 1000) = (0, encL n0 n1 n2 n3) := by
  unfold encodeM
  rw [if_pos h]
  simp only [Int.toNat_natCast, Int.sub_add_cancel]
theorem encodeM_len (x : Smp) : (encodeM x).2.length ≤ 7 := by
  unfold encodeM
  split
  · rw [encL_eq]
    simp
  · simp
theorem encodeM_no {x : Smp} (h : faultM x = 3) : encodeM x = (3, []) := by
  unfold encodeM
  rw [h]
  rfl

end Go.Proofs.YtmaillakhhdkfaaGreatDoor
/-
  The model's functions on hints.
-/
namespace Go.Proofs.YtmaillakhhdkfaaGreatDoor
set_option maxRecDepth 20000
open Go.RowKit
set_option linter.unusedSimpArgs false
set_option linter.unusedVariables false

theorem l4Node (p : Int) (w : World) : Calls Tryz.prog 117 #[.int .i64 p] w fun e w' => e = .returned (.bool (inB (p, 0, 3))) ∧ w = w' := by
  go_enter Tryz.func117, Tryz.ntmps117
  go_wp2_with (go_at_call 67; refine (l1In_any p 0 3 _).mono ?_; rintro e w' ⟨rfl, rfl⟩)
  go_ret
  exact ⟨by simp, rfl⟩

def FindRelH (w : World) (l : List Hnt) (p i : Int) (n : Nat) (v : Value) (wr : World) : Prop :=
  ∃ k : Nat, k ≤ n ∧ v = .int .i64 k ∧ (∀ j, j < k → hitH l p i j = false) ∧ wr = w

set_option maxHeartbeats 2000000 in
theorem l4Find (A : Option Addr) (n c : Nat) (l : List Hnt) (p i : Int) (w : World) (ha : Rd eH w w.heap.size A l) (hn : l.length = n) (hm : n ≤ maxLen) :
    Calls Tryz.prog 99 #[.slice A n c, .int .i64 p, .int .i64 i] w fun e w' => e = .returned (.int .i64 (findHI l p i)) ∧ w = w' := by
  have Hn := Lib.hid hn
  clear hn
  unfold maxLen at hm
  go_enter Tryz.func99, Tryz.ntmps99
  go_wp2
  go_loopw [7] (fun v wr => FindRelH w l p i n v wr) (fun v _ => n - (intOf v).toNat)
  case atStart => exact ⟨0, Nat.zero_le _, rfl, fun _ h => absurd h (by omega), rfl⟩
  case round =>
    obtain ⟨k, hk, rfl, hal, rfl⟩ := hrel
    have Hal := Lib.hid hal
    clear hal
    by_cases hlt : k < n
    · obtain ⟨g, o, a0, a1, a2, a3, a4, a5, a6, rfl, hg, hx, ca⟩ := ha.hnt (k := k) (by rw [Hn.out]; exact hlt)
      have Hh := Lib.hid (hitH_at (p := p) (i := i) hx)
      clear hx
      obtain ⟨c0, c1, c2, c3, c4, c5, c6⟩ := ca
      by_cases h0 : a0 = p
      · by_cases h3 : a3 = i
        · have hb0 : (a0 == p) = true := by simpa using h0
          have hb3 : (a3 == i) = true := by simpa using h3
          have Hf := Lib.hid (findHI_some (p := p) (i := i) (by rw [Hn.out]; exact hlt) (by rw [Hh.out]; simp [h0, h3]) Hal.out)
          clear h0 h3
          go_wp2
          go_ret
          exact ⟨by rw [Hf.out]; rfl, by first | rfl | trivial⟩
        · have hb0 : (a0 == p) = true := by simpa using h0
          have hb3 : (a3 == i) = false := by simpa using h3
          have Hs := Lib.hid (show hitH l p i k = false by rw [Hh.out]; simp [h3])
          clear h0 h3
          go_wp2
          refine ⟨⟨k + 1, by omega, by go_num, fun j hj => ?_, by first | rfl | trivial⟩, by simp [intOf]; omega⟩
          rcases Nat.lt_or_ge j k with h | h
          · exact Hal.out j h
          · obtain rfl : j = k := by omega
            exact Hs.out
      · have hb0 : (a0 == p) = false := by simpa using h0
        have Hs := Lib.hid (show hitH l p i k = false by rw [Hh.out]; simp [h0])
        clear h0
        go_wp2
        refine ⟨⟨k + 1, by omega, by go_num, fun j hj => ?_, by first | rfl | trivial⟩, by simp [intOf]; omega⟩
        rcases Nat.lt_or_ge j k with h | h
        · exact Hal.out j h
        · obtain rfl : j = k := by omega
          exact Hs.out
    · obtain rfl : n = k := by omega
      have Hf := Lib.hid (findHI_none Hn.out Hal.out)
      go_wp2
      go_ret
      exact ⟨by rw [Hf.out]; rfl, by first | rfl | trivial⟩

def RightRelH (w : World) (l : List Hnt) (n : Nat) (i : Value) (wr : World) : Prop :=
  ∃ k : Nat, k ≤ n ∧ i = .int .i64 k ∧ (∀ j x, j < k → l[j]? = some x → hfaultM x = 0) ∧ Below w.heap.size w wr
def DisRel (w : World) (l : List Hnt) (n : Nat) (i : Value) (wr : World) : Prop :=
  ∃ k : Nat, k ≤ n ∧ i = .int .i64 k ∧ (∀ j x, j < k → l[j]? = some x → findHI l x.1 (idH x) = (j : Int)) ∧ Below w.heap.size w wr

set_option maxHeartbeats 4000000 in
theorem specHintsFault (A : Option Addr) (n c : Nat) (l : List Hnt) (w : World) (ha : Rd eH w w.heap.size A l) (hn : l.length = n) :
    Calls Tryz.prog 66 #[.slice A n c] w fun e w' => e = .returned (.int .i64 (hintsFaultM l)) ∧ Below w.heap.size w w' := by
  by_cases hbig : 8 < n
  · have hb : (8 : Int) < (n : Int) := by omega
    rw [hintsFault_many (by omega)]
    go_enter Tryz.func66, Tryz.ntmps66
    go_wp2
    go_ret
    exact ⟨rfl, Below.refl _ _⟩
  have hb : (n : Int) ≤ 8 := by omega
  have Hbig := Lib.hid (show ¬ 8 < l.length by omega)
  have Hn := Lib.hid hn
  clear hn hbig
  go_enter Tryz.func66, Tryz.ntmps66
  go_wp2
  go_loopw [3] (fun i wr => RightRelH w l n i wr) (fun i _ => n - (intOf i).toNat)
  case atStart => exact ⟨0, Nat.zero_le _, rfl, fun _ _ h => absurd h (by omega), Below.refl _ _⟩
  case round =>
    obtain ⟨k, hk, rfl, hal, hbel⟩ := hrel
    have Hal := Lib.hid hal
    clear hal
    by_cases hlt : k < n
    · obtain ⟨g, o, a0, a1, a2, a3, a4, a5, a6, rfl, hg, hx, ca⟩ := (ha.below hbel (Nat.le_refl _)).hnt (k := k) (by rw [Hn.out]; exact hlt)
      have Ca := Lib.hid ca
      obtain ⟨c0, c1, c2, c3, c4, c5, c6⟩ := ca
      rcases faultM_or (a1, a2, a3, a4) with hf | hf
      · have hq := specSampleFault a1 a2 a3 a4 wr
        rw [hf] at hq
        have Hx := Lib.hid hx
        have Hf := Lib.hid hf
        clear hx hf
        go_wp2_with fail
        refine hq.mono ?_
        rintro e w2 ⟨rfl, hb2⟩
        have hB2 := hbel.trans (hb2.mono hbel.size)
        clear c0 c1 c2 c3 c4 c5 c6
        obtain ⟨c0, c1, c2, c3, c4, c5, c6⟩ := Ca.out.below hb2 (Nat.lt_of_lt_of_le hg hbel.size)
        rcases h0 : inB (a0, 0, 3)
        · have Hr := Lib.hid (hintsFault_wrong Hbig.out Hx.out (hfault_no Hf.out (by unfold rangeH; simp [h0])))
          go_wp2_with (first | (go_at_call 117; refine (l4Node _ _).mono ?_; rintro e w8 ⟨rfl, rfl⟩) | (go_at_call 67; refine (l1In_any _ _ _ _).mono ?_; rintro e w9 ⟨rfl, rfl⟩))
          go_ret
          exact ⟨by rw [Hr.out]; rfl, hB2⟩
        rcases h5 : inB (a5, 0, 4)
        · have Hr := Lib.hid (hintsFault_wrong Hbig.out Hx.out (hfault_no Hf.out (by unfold rangeH; simp [h5])))
          go_wp2_with (first | (go_at_call 117; refine (l4Node _ _).mono ?_; rintro e w8 ⟨rfl, rfl⟩) | (go_at_call 67; refine (l1In_any _ _ _ _).mono ?_; rintro e w9 ⟨rfl, rfl⟩))
          go_ret
          exact ⟨by rw [Hr.out]; rfl, hB2⟩
        rcases h6 : inB (a6, 0, 200000)
        · have Hr := Lib.hid (hintsFault_wrong Hbig.out Hx.out (hfault_no Hf.out (by unfold rangeH; simp [h6])))
          go_wp2_with (first | (go_at_call 117; refine (l4Node _ _).mono ?_; rintro e w8 ⟨rfl, rfl⟩) | (go_at_call 67; refine (l1In_any _ _ _ _).mono ?_; rintro e w9 ⟨rfl, rfl⟩))
          go_ret
          exact ⟨by rw [Hr.out]; rfl, hB2⟩
        have Hr := Lib.hid (hfault_yes (h := (a0, (a1, a2, a3, a4), a5, a6)) Hf.out (by unfold rangeH; simp [h0, h5, h6]))
        go_wp2_with (first | (go_at_call 117; refine (l4Node _ _).mono ?_; rintro e w8 ⟨rfl, rfl⟩) | (go_at_call 67; refine (l1In_any _ _ _ _).mono ?_; rintro e w9 ⟨rfl, rfl⟩))
        refine ⟨⟨k + 1, by omega, by go_num, fun j x hj hx => ?_, hB2⟩, by simp [intOf]; omega⟩
        rcases Nat.lt_or_ge j k with h | h
        · exact Hal.out j x h hx
        · obtain rfl : j = k := by omega
          obtain rfl := Option.some.inj (Hx.out.symm.trans hx)
          exact Hr.out
      · have hq := specSampleFault a1 a2 a3 a4 wr
        rw [hf] at hq
        have Hr := Lib.hid (hintsFault_wrong Hbig.out hx (hfault_smp (h := (a0, (a1, a2, a3, a4), a5, a6)) hf))
        clear hx hf
        go_wp2_with fail
        refine hq.mono ?_
        rintro e w2 ⟨rfl, hb2⟩
        have hB2 := hbel.trans (hb2.mono hbel.size)
        go_wp2
        go_ret
        exact ⟨by rw [Hr.out]; rfl, hB2⟩
    · obtain rfl : n = k := by omega
      have Hright := Lib.hid (rightHM_of Hn.out Hal.out)
      clear Hal
      go_wp2
      go_loopw [6] (fun i wr => DisRel w l n i wr) (fun i _ => n - (intOf i).toNat)
      case atStart => exact ⟨0, Nat.zero_le _, rfl, fun _ _ h => absurd h (by omega), hbel⟩
      case round =>
        obtain ⟨k, hk, rfl, hal, hbel⟩ := hrel
        have Hal := Lib.hid hal
        clear hal
        by_cases hlt : k < n
        · obtain ⟨g, o, a0, a1, a2, a3, a4, a5, a6, rfl, hg, hx, ca⟩ := (ha.below hbel (Nat.le_refl _)).hnt (k := k) (by rw [Hn.out]; exact hlt)
          have Hx := Lib.hid hx
          clear hx
          have hbd := hbel.drew
          have had := ha.lift hbd
          have hF := l4Find (some ⟨g, o, none⟩) n c l a0 a3 _ had Hn.out (by unfold maxLen; omega)
          obtain ⟨f, hf⟩ : ∃ f, findHI l a0 a3 = f := ⟨_, rfl⟩
          rw [hf] at hF
          have Hf := Lib.hid hf
          clear hf had
          go_wp2
          refine wp_region_mix [(0, false), (1, false), (2, false), (3, false), (4, false), (5, false), (6, false), (7, false), (8, false), (9, false), (10, false), (11, false), (13, false), (12, true), (14, false)] (fun u => S7 u g (o + k * 7) a0 a1 a2 a3 a4 a5 a6) (by kernel_rfl) (by kernel_rfl) (fun _ _ _ _ _ h => h) ca.drew ?_
          simp only [mixOps, List.map_cons, List.map_nil, List.getElem?_cons_succ, List.getElem?_cons_zero, Option.getD_some]
          iterate 13 (
            refine mix_pure (v := ?_) (by rfl) (fun u hu => ?_) ?_
            rotate_left
            · obtain ⟨_, _, _, _, _, _, _⟩ := hu
              go_simp
              (with_reducible rfl)
            (try simp only [Act.put, List.setIfInBounds_toArray, List.set_cons_zero, List.set_cons_succ]))
          refine mix_call (by rfl) (fun K hK => ?_)
          go_simp
          refine hF.mono ?_
          rintro e w1 ⟨rfl, rfl⟩
          refine hK _ _ _ (fun _ h => h) ca.drew ?_
          (try simp only [Act.put, List.setIfInBounds_toArray, List.set_cons_zero, List.set_cons_succ])
          by_cases hfk : f = (k : Int)
          · have hne : (f != (k : Int)) = false := by simpa using hfk
            have Hfk := Lib.hid hfk
            clear hfk
            iterate 1 (
              refine mix_pure (v := ?_) (by rfl) (fun u hu => ?_) ?_
              rotate_left
              · skip
                go_simp
                (with_reducible rfl)
              (try simp only [Act.put, List.setIfInBounds_toArray, List.set_cons_zero, List.set_cons_succ]))
            refine mix_nil ?_
            go_wp2
            refine ⟨⟨k + 1, by omega, by go_num, fun j x hj hx => ?_, hbd⟩, by simp [intOf]; omega⟩
            rcases Nat.lt_or_ge j k with h | h
            · exact Hal.out j x h hx
            · obtain rfl : j = k := by omega
              obtain rfl := Option.some.inj (Hx.out.symm.trans hx)
              exact Hf.out.trans Hfk.out
          · have hne : (f != (k : Int)) = true := by rw [bne_iff_ne]; exact hfk
            have Hr := Lib.hid (hintsFault_taken Hbig.out Hright.out (fun hd => hfk (Hf.out.symm.trans (findHI_self hd Hx.out))))
            clear hfk
            iterate 1 (
              refine mix_pure (v := ?_) (by rfl) (fun u hu => ?_) ?_
              rotate_left
              · skip
                go_simp
                (with_reducible rfl)
              (try simp only [Act.put, List.setIfInBounds_toArray, List.set_cons_zero, List.set_cons_succ]))
            refine mix_nil ?_
            go_wp2
            go_ret
            exact ⟨by rw [Hr.out]; rfl, hbd⟩
        · obtain rfl : n = k := by omega
          have Hr := Lib.hid (hintsFault_ok Hbig.out Hright.out (dis_of fun j x hx => Hal.out j x (by have := getElem?_some_lt hx; have := Hn.out; omega) hx))
          go_wp2
          go_ret
          exact ⟨by rw [Hr.out]; rfl, hbel⟩

set_option maxHeartbeats 1000000 in
theorem l4Copy (A : Option Addr) (n c : Nat) (l : List Hnt) (w : World) (ha : Rd eH w w.heap.size A l) (hn : l.length = n) (hm : n ≤ 1048576) :
    Calls Tryz.prog 98 #[.slice A n c] w fun e w' => ∃ A' c', e = .returned (.slice A' n c') ∧ Ow eH w' w.heap.size A' n c' l ∧ Below w.heap.size w w' := by
  have Hn := Lib.hid hn
  clear hn
  have B1 := (Below.refl w.heap.size w).alloc (Nat.le_refl _) (.cells #[] 75)
  have a1 := ha.lift B1
  have o1 : Ow eH (w.alloc (.cells #[] 75)) w.heap.size (some ⟨w.heap.size, 0, none⟩) 0 0 [] := Ow.lit w [] #[] 0 (Nat.le_refl _) (by unfold maxLen; omega) rfl rfl
  go_enter Tryz.func98, Tryz.ntmps98
  go_wp2_with (at_builtin; refine wpList_append_ow okH _ rfl (.tmp 3) (.tmp 4) _ rfl w.heap.size info_hnt Tryz.underlying37 rfl (some ⟨w.heap.size, 0, none⟩) 0 0 [] rfl o1 A n c _ l rfl a1 Hn.out (by unfold maxLen; omega) (by omega) (by simp) ?_; intro A2 c2 w2 ow2 hg2 _)
  have B2 : Below w.heap.size w w2 := B1.grown hg2 (by simp) (fun g hg => by simp at hg; omega)
  rw [Nat.zero_add, List.nil_append] at ow2
  go_ret
  refine ⟨A2, c2, ?_, ow2, B2⟩
  simp
end Go.Proofs.YtmaillakhhdkfaaGreatDoor
/-
  The model's faults of a record.
-/
namespace Go.Proofs.YtmaillakhhdkfaaGreatDoor
set_option maxRecDepth 20000
open Go.RowKit
set_option linter.unusedSimpArgs false
set_option linter.unusedVariables false

theorem eqlZ (a2 a3 a4 a5 : Int) (u : World) : (binOp .eql 25 (.agg #[.int .i64 a2, .int .i64 a3, .int .i64 a4, .int .i64 a5]) (.agg #[.int .i64 0, .int .i64 0, .int .i64 0, .int .i64 0])).run Tryz.prog u = .ok (.bool (decide ((a2, a3, a4, a5) = ((0 : Int), (0 : Int), (0 : Int), (0 : Int))))) u := by
  go_simp
  (by_cases h0 : a2 = 0; rotate_left; simp [h0]; by_cases h1 : a3 = 0; rotate_left; simp [h0, h1]; by_cases h2 : a4 = 0; rotate_left; simp [h0, h1, h2]; by_cases h3 : a5 = 0; rotate_left; simp [h0, h1, h2, h3]; simp [h0, h1, h2, h3])

set_option maxHeartbeats 4000000 in
theorem l5Form (g : Nat) (a0 a1 a2 a3 a4 a5 a6 : Int) (nd sm nm : Bool) (w : World) (hx : At w g 27 #[.int .i64 a0, .int .i64 a1, .int .i64 a2, .int .i64 a3, .int .i64 a4, .int .i64 a5, .int .i64 a6]) :
    Calls Tryz.prog 102 #[.pointer (some ⟨g, 0, none⟩), .bool nd, .bool sm, .bool nm] w fun e w' => e = .returned (.bool (formM (a0, a1, (a2, a3, a4, a5), a6) nd sm nm)) ∧ w' = w := by
  obtain ⟨x0, x1, x2, x3, x4, x5, x6⟩ := hx.seven
  have Z := eqlZ a2 a3 a4 a5
  have e1 : (a1 == 0) = decide (a1 = 0) := rfl
  have e6 : (a6 == 0) = decide (a6 = 0) := rfl
  rcases h1 : decide (a1 = 0) <;> rcases h2 : decide ((a2, a3, a4, a5) = ((0 : Int), (0 : Int), (0 : Int), (0 : Int))) <;> rcases h6 : decide (a6 = 0) <;> rw [h2] at Z <;> rw [h1] at e1 <;> rw [h6] at e6 <;>
    (have Hr := Lib.hid (show ∀ a b c, formM (a0, a1, (a2, a3, a4, a5), a6) a b c = ((a || decide (a1 = 0)) && ((b || decide ((a2, a3, a4, a5) = ((0 : Int), (0 : Int), (0 : Int), (0 : Int)))) && (c || decide (a6 = 0)))) from fun _ _ _ => rfl)
     rw [h1, h2, h6] at Hr
     clear h1 h2 h6
     rcases nd <;> rcases sm <;> rcases nm <;>
      (go_enter Tryz.func102, Tryz.ntmps102
       go_wp2
       go_ret
       exact ⟨by rw [Hr.out]; rfl, rfl⟩))

set_option maxHeartbeats 4000000 in
theorem l5Range (g : Nat) (a0 a1 a2 a3 a4 a5 a6 m : Int) (w : World) (hx : At w g 27 #[.int .i64 a0, .int .i64 a1, .int .i64 a2, .int .i64 a3, .int .i64 a4, .int .i64 a5, .int .i64 a6]) :
    Calls Tryz.prog 103 #[.pointer (some ⟨g, 0, none⟩), .int .i64 m] w fun e w' => e = .returned (.int .i64 (rrangeM (a0, a1, (a2, a3, a4, a5), a6) m)) ∧ Below w.heap.size w w' := by
  obtain ⟨x0, x1, x2, x3, x4, x5, x6⟩ := hx.seven
  have Hr := Lib.hid (show rrangeM (a0, a1, (a2, a3, a4, a5), a6) m = if (inB (a1, 0, 3) && inB (a6, 0, m)) = true then faultM (a2, a3, a4, a5) else 3 from rfl)
  rcases h1 : inB (a1, 0, 3)
  · go_enter Tryz.func103, Tryz.ntmps103
    go_wp2_with (go_at_call 117; refine (l4Node a1 w).mono ?_; rintro e w1 ⟨rfl, rfl⟩; rw [h1])
    go_ret
    exact ⟨by rw [Hr.out, h1]; rfl, Below.refl _ _⟩
  rcases h2 : inB (a6, 0, m)
  · go_enter Tryz.func103, Tryz.ntmps103
    go_wp2_with (first | (go_at_call 117; refine (l4Node a1 w).mono ?_; rintro e w1 ⟨rfl, rfl⟩; rw [h1]) | (go_at_call 67; refine (l1In_any a6 0 m w).mono ?_; rintro e w1 ⟨rfl, rfl⟩; rw [h2]))
    go_ret
    exact ⟨by rw [Hr.out, h1, h2]; rfl, Below.refl _ _⟩
  · go_enter Tryz.func103, Tryz.ntmps103
    go_wp2_with (first | (go_at_call 117; refine (l4Node a1 w).mono ?_; rintro e w1 ⟨rfl, rfl⟩; rw [h1]) | (go_at_call 67; refine (l1In_any a6 0 m w).mono ?_; rintro e w1 ⟨rfl, rfl⟩; rw [h2]) | (go_at_call 115; refine (specSampleFault a2 a3 a4 a5 w).mono ?_; rintro e w1 ⟨rfl, hb1⟩))
    go_ret
    exact ⟨by rw [Hr.out, h1, h2]; rfl, hb1⟩

set_option maxHeartbeats 4000000 in
theorem specRecordFault (a0 a1 a2 a3 a4 a5 a6 : Int) (w : World) :
    Calls Tryz.prog 53 #[.agg #[.int .i64 a0, .int .i64 a1, .int .i64 a2, .int .i64 a3, .int .i64 a4, .int .i64 a5, .int .i64 a6]] w fun e w' => e = .returned (.int .i64 (recFaultM (a0, a1, (a2, a3, a4, a5), a6))) ∧ Below w.heap.size w w' := by
  have hB0 : Below w.heap.size w (w.alloc (.cells #[.int .i64 a0, .int .i64 a1, .int .i64 a2, .int .i64 a3, .int .i64 a4, .int .i64 a5, .int .i64 a6] 27)) := (Below.refl _ _).alloc (Nat.le_refl _) _
  have r0 := At.new w 27 #[.int .i64 a0, .int .i64 a1, .int .i64 a2, .int .i64 a3, .int .i64 a4, .int .i64 a5, .int .i64 a6]
  obtain ⟨c0, c1, c2, c3, c4, c5, c6⟩ := r0.seven
  have LF := fun a b c => l5Form w.heap.size a0 a1 a2 a3 a4 a5 a6 a b c _ r0
  have LR := fun m => l5Range w.heap.size a0 a1 a2 a3 a4 a5 a6 m _ r0
  by_cases k1 : a0 = 1
  rotate_left
  by_cases k2 : a0 = 2
  rotate_left
  by_cases k3 : a0 = 3
  rotate_left
  by_cases k4 : a0 = 4
  rotate_left
  · have b1 : (a0 == 1) = false := by simpa using k1
    have b2 : (a0 == 2) = false := by simpa using k2
    have b3 : (a0 == 3) = false := by simpa using k3
    have b4 : (a0 == 4) = false := by simpa using k4
    have Hr := Lib.hid (recFault_form (r := (a0, a1, (a2, a3, a4, a5), a6)) (by unfold recFormM; rw [if_neg k1, if_neg k2, if_neg k3, if_neg k4]))
    clear k1 k2 k3 k4
    go_enter Tryz.func53, Tryz.ntmps53
    go_wp2
    go_ret
    exact ⟨by rw [Hr.out]; try rfl, hB0⟩
  · subst k1
    have hform : recFormM (1, a1, (a2, a3, a4, a5), a6) = formM (1, a1, (a2, a3, a4, a5), a6) false true false := by unfold recFormM; rw [if_pos rfl]
    have hmost : mostM (1, a1, (a2, a3, a4, a5), a6) = 9999 := by unfold mostM; rfl
    rcases hf : formM (1, a1, (a2, a3, a4, a5), a6) false true false
    · have Hr := Lib.hid (recFault_form (hform.trans hf))
      have Hf := Lib.hid hf
      clear hf hform hmost
      go_enter Tryz.func53, Tryz.ntmps53
      go_wp2_with (go_at_call 102; refine (LF false true false).mono ?_; rintro e w1 ⟨rfl, rfl⟩; rw [Hf.out])
      go_ret
      exact ⟨by rw [Hr.out]; try rfl, hB0⟩
    · have Hr := Lib.hid (recFault_range (hform.trans hf))
      rw [hmost] at Hr
      have Hf := Lib.hid hf
      clear hf hform hmost
      go_enter Tryz.func53, Tryz.ntmps53
      go_wp2_with (first | (go_at_call 102; refine (LF false true false).mono ?_; rintro e w1 ⟨rfl, rfl⟩; rw [Hf.out]) | (go_at_call 103; refine (LR 9999).mono ?_; rintro e w2 ⟨rfl, hb2⟩))
      go_ret
      exact ⟨by rw [Hr.out]; try rfl, hB0.trans (hb2.mono hB0.size)⟩
  · subst k2
    clear k1
    have hform : recFormM (2, a1, (a2, a3, a4, a5), a6) = formM (2, a1, (a2, a3, a4, a5), a6) true true false := by unfold recFormM; rw [if_neg (show ¬ ((2 : Int) = 1) by decide), if_pos rfl]
    have hmost : mostM (2, a1, (a2, a3, a4, a5), a6) = 9999 := by unfold mostM; rfl
    rcases hf : formM (2, a1, (a2, a3, a4, a5), a6) true true false
    · have Hr := Lib.hid (recFault_form (hform.trans hf))
      have Hf := Lib.hid hf
      clear hf hform hmost
      go_enter Tryz.func53, Tryz.ntmps53
      go_wp2_with (go_at_call 102; refine (LF true true false).mono ?_; rintro e w1 ⟨rfl, rfl⟩; rw [Hf.out])
      go_ret
      exact ⟨by rw [Hr.out]; try rfl, hB0⟩
    · have Hr := Lib.hid (recFault_range (hform.trans hf))
      rw [hmost] at Hr
      have Hf := Lib.hid hf
      clear hf hform hmost
      go_enter Tryz.func53, Tryz.ntmps53
      go_wp2_with (first | (go_at_call 102; refine (LF true true false).mono ?_; rintro e w1 ⟨rfl, rfl⟩; rw [Hf.out]) | (go_at_call 103; refine (LR 9999).mono ?_; rintro e w2 ⟨rfl, hb2⟩))
      go_ret
      exact ⟨by rw [Hr.out]; try rfl, hB0.trans (hb2.mono hB0.size)⟩
  · subst k3
    clear k1 k2
    have hform : recFormM (3, a1, (a2, a3, a4, a5), a6) = formM (3, a1, (a2, a3, a4, a5), a6) true false true := by unfold recFormM; rw [if_neg (show ¬ ((3 : Int) = 1) by decide), if_neg (show ¬ ((3 : Int) = 2) by decide), if_pos rfl]
    have hmost : mostM (3, a1, (a2, a3, a4, a5), a6) = 9999 := by unfold mostM; rfl
    rcases hf : formM (3, a1, (a2, a3, a4, a5), a6) true false true
    · have Hr := Lib.hid (recFault_form (hform.trans hf))
      have Hf := Lib.hid hf
      clear hf hform hmost
      go_enter Tryz.func53, Tryz.ntmps53
      go_wp2_with (go_at_call 102; refine (LF true false true).mono ?_; rintro e w1 ⟨rfl, rfl⟩; rw [Hf.out])
      go_ret
      exact ⟨by rw [Hr.out]; try rfl, hB0⟩
    · have Hr := Lib.hid (recFault_range (hform.trans hf))
      rw [hmost] at Hr
      have Hf := Lib.hid hf
      clear hf hform hmost
      go_enter Tryz.func53, Tryz.ntmps53
      go_wp2_with (first | (go_at_call 102; refine (LF true false true).mono ?_; rintro e w1 ⟨rfl, rfl⟩; rw [Hf.out]) | (go_at_call 103; refine (LR 9999).mono ?_; rintro e w2 ⟨rfl, hb2⟩))
      go_ret
      exact ⟨by rw [Hr.out]; try rfl, hB0.trans (hb2.mono hB0.size)⟩
  · subst k4
    clear k1 k2 k3
    have hform : recFormM (4, a1, (a2, a3, a4, a5), a6) = formM (4, a1, (a2, a3, a4, a5), a6) false false true := by unfold recFormM; rw [if_neg (show ¬ ((4 : Int) = 1) by decide), if_neg (show ¬ ((4 : Int) = 2) by decide), if_neg (show ¬ ((4 : Int) = 3) by decide), if_pos rfl]
    have hmost : mostM (4, a1, (a2, a3, a4, a5), a6) = 60000 := by unfold mostM; rfl
    rcases hf : formM (4, a1, (a2, a3, a4, a5), a6) false false true
    · have Hr := Lib.hid (recFault_form (hform.trans hf))
      have Hf := Lib.hid hf
      clear hf hform hmost
      go_enter Tryz.func53, Tryz.ntmps53
      go_wp2_with (go_at_call 102; refine (LF false false true).mono ?_; rintro e w1 ⟨rfl, rfl⟩; rw [Hf.out])
      go_ret
      exact ⟨by rw [Hr.out]; try rfl, hB0⟩
    · have Hr := Lib.hid (recFault_range (hform.trans hf))
      rw [hmost] at Hr
      have Hf := Lib.hid hf
      clear hf hform hmost
      go_enter Tryz.func53, Tryz.ntmps53
      go_wp2_with (first | (go_at_call 102; refine (LF false false true).mono ?_; rintro e w1 ⟨rfl, rfl⟩; rw [Hf.out]) | (go_at_call 103; refine (LR 60000).mono ?_; rintro e w2 ⟨rfl, hb2⟩))
      go_ret
      exact ⟨by rw [Hr.out]; try rfl, hB0.trans (hb2.mono hB0.size)⟩
end Go.Proofs.YtmaillakhhdkfaaGreatDoor
/-
  Bytes in an array's block: marked and read as the law does it.
-/
namespace Go.Proofs.YtmaillakhhdkfaaGreatDoor
set_option maxRecDepth 20000
open Go.RowKit

/-- Bytes in a block that is an array of seven. -/
def eA : Enc UInt8 := ⟨177, 1, fun b => [.int .u8 (b.toNat : Int)]⟩
theorem okA : EncOk eA := ⟨fun _ => rfl, fun a u hu => by simp only [eA, List.mem_singleton] at hu; subst hu; rfl, Nat.one_pos⟩
theorem Rd.ofA {w : World} {hi : Nat} {A : Option Addr} {l : List UInt8} (h : Rd eA w hi A l) : Rd eB w hi A l := h

section
variable {w w' : World} {base hi n c : Nat} {A : Option Addr} {l : List UInt8}
theorem Ow.byteAtA {g : Nat} (h : Ow eA w base (some ⟨g, 0, none⟩) n c l) {k : Nat} {x : UInt8} (hk : l[k]? = some x) : w.cell? ⟨g, k, none⟩ = some (.int .u8 (x.toNat : Int)) := by
  have := h.cellAt okA hk (j := 0) (u := .int .u8 (x.toNat : Int)) rfl
  simpa [eA] using this
theorem Ow.byteSetA {g : Nat} (h : Ow eA w base (some ⟨g, 0, none⟩) n c l) {k : Nat} (hk : k < n) (y : UInt8) :
    Ow eA (w.setCell ⟨g, k, none⟩ (.int .u8 (y.toNat : Int))) base (some ⟨g, 0, none⟩) n c (l.set k y) ∧ w.grownBy (w.setCell ⟨g, k, none⟩ (.int .u8 (y.toNat : Int))) (some g) := by
  have hl := h.len okA
  have := h.stored okA (k := k) (j := 0) (a' := y) (u := .int .u8 (y.toNat : Int)) (List.getElem?_eq_getElem (by omega)) Nat.one_pos rfl
  simpa [eA] using this
end

set_option maxHeartbeats 400000 in
theorem markByteSA (A : Option Addr) (n c base : Nat) (l : List UInt8) (k : Nat) (w : World) (ha : Ow eA w base A n c l) (hm : n ≤ 4294967296) (hk : k ≤ 4294967296) :
    Calls Tryz.prog 31 #[.slice A n c, .int .i64 k] w fun e w' => e = .returned (.int .i64 ((k : Int) + n)) ∧ Ow eA w' base A n c (marks k n) ∧ w.grownBy w' (A.map (·.block)) := by
  have Hn := Lib.hid (ha.len okA)
  go_enter Tryz.func31, Tryz.ntmps31
  go_wp2
  go_loopw [1, 5] (fun vk i wr => MarkRel eA (fun i => UInt8.ofNat (k + i)) 1 w base A n c l k vk i wr) (fun _ i _ => n - (intOf i).toNat)
  case atStart => exact markRel_start _ _ _ ha
  case round =>
    obtain ⟨j, hj, rfl, rfl, hown, hgr⟩ := hrel
    rw [show (k : Int) + ((1 : Nat) : Int) * (j : Int) = (k : Int) + (j : Int) by omega]
    by_cases hlt : j < n
    · obtain ⟨g, rfl, hg, _⟩ := hown.form (by omega)
      obtain ⟨a, hz⟩ := markRel_at (fun i => UInt8.ofNat (k + i)) l n j hlt Hn.out
      have cb := hown.byteAtA hz
      have fb := hown.frozenAt j
      clear hz
      obtain ⟨hst, hgr2⟩ := hown.byteSetA hlt (UInt8.ofNat (k + j))
      have Hset := Lib.hid (laid_set (fun i => UInt8.ofNat (k + i)) l n j hlt Hn.out)
      have Hgr := Lib.hid (grown_trans hgr hgr2)
      have Hst := Lib.hid hst
      clear hgr hgr2 hst
      go_wp2
      have hcv : ((k : Int) + (j : Int)) % 256 = ((UInt8.ofNat (k + j)).toNat : Int) := by rw [byte_num]; omega
      rw [hcv]
      exact ⟨⟨j + 1, by omega, by go_num, congrArg _ (by omega), by rw [← Hset.out]; exact Hst.out, Hgr.out⟩, by simp [intOf]; omega⟩
    · have hall := markRel_end hown (by omega) Hn.out
      obtain rfl : n = j := by omega
      clear hown
      go_wp2
      go_ret
      exact ⟨rfl, hall, hgr⟩

theorem markByteS1A (A : Option Addr) (n c base : Nat) (l : List UInt8) (w : World) (ha : Ow eA w base A n c l) (hm : n ≤ 4294967296) :
    Calls Tryz.prog 31 #[.slice A n c, .int .i64 1] w fun e w' => e = .returned (.int .i64 (1 + (n : Int))) ∧ Ow eA w' base A n c (marks 1 n) ∧ w.grownBy w' (A.map (·.block)) :=
  markByteSA A n c base l 1 w ha hm (by omega)

end Go.Proofs.YtmaillakhhdkfaaGreatDoor
/-
  A sample's bytes: the program's.
-/
namespace Go.Proofs.YtmaillakhhdkfaaGreatDoor
set_option maxRecDepth 20000
open Go.RowKit
set_option linter.unusedSimpArgs false

/-- copy as one step of a region: as 'step_copy_splice'. -/
theorem copy_wp {P : Program} {o : Oper} {a : Act} {w : World} {K : Act → World → Prop} {Q : Exit → Act → World → Prop} (d s : Operand) (dT sT : TypeId)
    (ho : o.op = .call { callee := .builtin .copy, args := #[d, s], argTypes := #[dT, sT] }) (elem : TypeId) (hu : P.underlying dT = some (.slice elem)) (hsz : (P.info? elem).map (·.size) = some 1)
    (dp sp : Option Addr) (dLen dCap sLen sCap : Nat) (hd : a.eval d = .slice dp dLen dCap) (hs : a.eval s = .slice sp sLen sCap)
    (g off : Nat) (cur : List Value) (t : TypeId) (hg : At w g t cur.toArray) (cs : List Value) (hn : cs.length = Nat.min sLen dLen)
    (hpos : 0 < cs.length → dp = some ⟨g, off, none⟩ ∧ ∃ ad, sp = some ad ∧ ∀ j v, cs[j]? = some v → w.cell? (ad.add j) = some v)
    (hfit : off + cs.length ≤ cur.length) (h1 : ∀ v ∈ cs, v.oneCell' = true) (B : Nat) (w0 : World) (hb : Below B w0 w) (hBg : B ≤ g)
    (h : ∀ w', At w' g t (splice cur off cs).toArray → Below B w0 w' → (∀ g', g' ≠ g → w'.heap[g']? = w.heap[g']?) → K (a.put o.dst (goInt cs.length)) w') : o.wp P a w K Q := by
  by_cases h0 : cs.length = 0
  · obtain rfl : cs = [] := List.eq_nil_of_length_eq_zero h0
    have hrun := run_copy_none (P := P) w dT sT o.type elem dp sp dLen dCap sLen sCap hu hsz (by simpa using hn.symm)
    unfold Oper.wp
    simp [execOp, ho, resolve, invoke, builtin, hd, hs, hrun, Result.andThen]
    exact h w (by simpa [splice] using hg) hb (fun _ _ => rfl)
  · obtain ⟨rfl, ad, rfl, hsrc⟩ := hpos (by omega)
    have hrun := run_copy_row (P := P) w dT sT o.type elem g off dLen dCap ad sLen sCap cur.toArray t cs hu hsz hg hn hsrc (by simpa using hfit) h1
    unfold Oper.wp
    simp [execOp, ho, resolve, invoke, builtin, hd, hs, hrun, Result.andThen]
    exact h _ (show _ = _ by simpa [splice] using setRow_heap w g _ _ t _ hg) (below_setRow hb hBg _) (fun g' hne => setRow_other w g g' _ hne)

theorem Rd.src {w : World} {hi g o : Nat} {l : List UInt8} (h : Rd eB w hi (some ⟨g, o, none⟩) l) : ∀ (j : Nat) (v : Value), (eB.row l)[j]? = some v → w.cell? ((⟨g, o, none⟩ : Addr).add j) = some v := by
  intro j v hj
  have hl : j < l.length := by
    have := getElem?_some_lt hj
    rw [okB.row_len] at this
    simpa [eB] using this
  obtain ⟨g', o', e, _, hc⟩ := h (by intro e; subst e; simp at hl)
  obtain ⟨rfl, rfl⟩ : g = g' ∧ o = o' := by simpa using Option.some.inj e
  have h1 := okB.row_at l j 0 l[j] (List.getElem?_eq_getElem hl) Nat.one_pos
  rw [show j * eB.size + 0 = j by simp [eB]] at h1
  rw [h1] at hj
  have := hc j 0 _ v (List.getElem?_eq_getElem hl) hj
  rw [addr_add]
  simpa [eB] using this

theorem cell_same {w w' : World} {g o : Nat} (h : w'.heap[g]? = w.heap[g]?) : w'.cell? ⟨g, o, none⟩ = w.cell? ⟨g, o, none⟩ := by
  unfold World.cell?
  simp only [h]
theorem fldB1' (z : Int) (A : Option Addr) (k c : Nat) (u : World) : (Instr.field 30 (.agg #[.int .i64 z, .slice A k c]) 1).run Tryz.prog u = .ok (.slice A k c) u := by kernel_rfl
theorem u8_size : (Tryz.prog.info? 5).map (·.size) = some 1 := by kernel_rfl

theorem slAt0 (g : Nat) (u : World) : (Instr.sliceAt 177 (.pointer (some ⟨g, 0, none⟩)) (some (.int .i64 0)) (some (.int .i64 1)) none).run Tryz.prog u = .ok (.slice (some ⟨g, 0, none⟩) 1 7) u := by kernel_rfl
theorem slAt1 (g : Nat) (u : World) : (Instr.sliceAt 177 (.pointer (some ⟨g, 0, none⟩)) (some (.int .i64 1)) (some (.int .i64 3)) none).run Tryz.prog u = .ok (.slice (some ⟨g, 1, none⟩) 2 6) u := by kernel_rfl
theorem slAt2 (g : Nat) (u : World) : (Instr.sliceAt 177 (.pointer (some ⟨g, 0, none⟩)) (some (.int .i64 3)) (some (.int .i64 5)) none).run Tryz.prog u = .ok (.slice (some ⟨g, 3, none⟩) 2 4) u := by kernel_rfl
theorem slAt3 (g : Nat) (u : World) : (Instr.sliceAt 177 (.pointer (some ⟨g, 0, none⟩)) (some (.int .i64 5)) (some (.int .i64 7)) none).run Tryz.prog u = .ok (.slice (some ⟨g, 5, none⟩) 2 2) u := by kernel_rfl
theorem slAll (g : Nat) (u : World) : (Instr.sliceAt 177 (.pointer (some ⟨g, 0, none⟩)) none none none).run Tryz.prog u = .ok (.slice (some ⟨g, 0, none⟩) 7 7) u := by kernel_rfl
def encRow (n0 n1 n2 n3 : Nat) : Nat → List Value
  | 0 => [.int .u8 0, .int .u8 0, .int .u8 0, .int .u8 0, .int .u8 0, .int .u8 0, .int .u8 0]
  | 1 => [.int .u8 ((UInt8.ofNat n0).toNat : Int), .int .u8 0, .int .u8 0, .int .u8 0, .int .u8 0, .int .u8 0, .int .u8 0]
  | 2 => [.int .u8 ((UInt8.ofNat n0).toNat : Int), .int .u8 ((UInt8.ofNat n1).toNat : Int), .int .u8 ((UInt8.ofNat (n1 / 256)).toNat : Int), .int .u8 0, .int .u8 0, .int .u8 0, .int .u8 0]
  | 3 => [.int .u8 ((UInt8.ofNat n0).toNat : Int), .int .u8 ((UInt8.ofNat n1).toNat : Int), .int .u8 ((UInt8.ofNat (n1 / 256)).toNat : Int), .int .u8 ((UInt8.ofNat n2).toNat : Int), .int .u8 ((UInt8.ofNat (n2 / 256)).toNat : Int), .int .u8 0, .int .u8 0]
  | _ => [.int .u8 ((UInt8.ofNat n0).toNat : Int), .int .u8 ((UInt8.ofNat n1).toNat : Int), .int .u8 ((UInt8.ofNat (n1 / 256)).toNat : Int), .int .u8 ((UInt8.ofNat n2).toNat : Int), .int .u8 ((UInt8.ofNat (n2 / 256)).toNat : Int), .int .u8 ((UInt8.ofNat n3).toNat : Int), .int .u8 ((UInt8.ofNat (n3 / 256)).toNat : Int)]

/-- A code and bytes that lie in an array's block of the call's own. -/
def RetBA (r : Int × List UInt8) (w : World) (e : Ending) (w' : World) : Prop :=
  ∃ A n c, e = .returned (.agg #[.int .i64 r.1, .slice A n c]) ∧ Ow eA w' w.heap.size A n c r.2 ∧ Below w.heap.size w w'

def EncRel (w : World) (gp gN gR : Nat) (n0 n1 n2 n3 : Nat) (i : Value) (wr : World) : Prop :=
  ∃ k : Nat, k ≤ 4 ∧ i = .int .i64 k ∧ At wr gp 177 (encRow n0 n1 n2 n3 k).toArray ∧ At wr gN 151 #[.int .i64 (n0 : Int), .int .i64 (n1 : Int), .int .i64 (n2 : Int), .int .i64 ((n3 : Int) - 1000)] ∧ At wr gR 30 #[.int .i64 0, .slice none 0 0] ∧ Below w.heap.size w wr

theorem packs {n : Nat} (h : n ≤ 9999) (w : World) : Calls Tryz.prog 36 #[.int .i64 (n : Int), .int .i64 2] w fun e w' => RetBR (0, [UInt8.ofNat n, UInt8.ofNat (n / 256)]) w e w' := by
  have h1 := implPackWord (n : Int) 2 w
  have h2 : packM (n : Int) 2 = (0, packL n 2) := by simpa using packM_nat (m := n) (s := 2) (by omega) (by omega) (by omega)
  rw [h2, pack2] at h1
  exact h1
theorem packs1 {n : Nat} (h : n ≤ 9) (w : World) : Calls Tryz.prog 36 #[.int .i64 (n : Int), .int .i64 1] w fun e w' => RetBR (0, [UInt8.ofNat n]) w e w' := by
  have h1 := implPackWord (n : Int) 1 w
  have h2 : packM (n : Int) 1 = (0, packL n 1) := by simpa using packM_nat (m := n) (s := 1) (by omega) (by omega) (by omega)
  rw [h2, pack1] at h1
  exact h1

set_option maxHeartbeats 4000000 in
theorem implEncodeSample_ok (n0 n1 n2 n3 : Nat) (w : World) (hF : Flds w) (hf : faultM ((n0 : Int), (n1 : Int), (n2 : Int), ((n3 : Int) - 1000)) = 0) (k0 : n0 ≤ 9) (k1 : n1 ≤ 999) (k2 : n2 ≤ 9999) (k3 : n3 ≤ 2000) :
    Calls Tryz.prog 83 #[.agg #[.int .i64 (n0 : Int), .int .i64 (n1 : Int), .int .i64 (n2 : Int), .int .i64 ((n3 : Int) - 1000)]] w fun e w' => RetBA (0, encL n0 n1 n2 n3) w e w' := by
  have hB0 : Below w.heap.size w ((w.alloc (.cells #[.int .i64 (n0 : Int), .int .i64 (n1 : Int), .int .i64 (n2 : Int), .int .i64 ((n3 : Int) - 1000)] 25)).alloc (.cells #[.int .i64 0, .slice none 0 0] 30)) := ((Below.refl _ _).alloc (Nat.le_refl _) _).alloc (by simp) _
  have x0 := (At.new w 25 #[.int .i64 (n0 : Int), .int .i64 (n1 : Int), .int .i64 (n2 : Int), .int .i64 ((n3 : Int) - 1000)]).alloc (.cells #[.int .i64 0, .slice none 0 0] 30)
  have r0 := At.new (w.alloc (.cells #[.int .i64 (n0 : Int), .int .i64 (n1 : Int), .int .i64 (n2 : Int), .int .i64 ((n3 : Int) - 1000)] 25)) 30 #[.int .i64 0, .slice none 0 0]
  rw [show (w.alloc (.cells #[.int .i64 (n0 : Int), .int .i64 (n1 : Int), .int .i64 (n2 : Int), .int .i64 ((n3 : Int) - 1000)] 25)).heap.size = w.heap.size + 1 by simp] at r0
  have hq := implSampleFault (n0 : Int) (n1 : Int) (n2 : Int) ((n3 : Int) - 1000)
  rw [hf] at hq
  clear hf
  go_enter Tryz.func83, Tryz.ntmps83
  go_wp2_with fail
  refine (hq _ (hF.below hB0)).mono ?_
  rintro e w1 ⟨rfl, hb1⟩
  clear hq
  have hB1 := hB0.trans (hb1.mono hB0.size)
  have x1 := x0.below hb1 x0.lt
  have r1 := r0.below hb1 r0.lt
  obtain ⟨y0, y1, y2, y3, _, _, _, _⟩ := x1.four
  have l1 := x1.lt
  have hp := At.new w1 177 #[.int .u8 0, .int .u8 0, .int .u8 0, .int .u8 0, .int .u8 0, .int .u8 0, .int .u8 0]
  have r2 := r1.alloc (.cells #[.int .u8 0, .int .u8 0, .int .u8 0, .int .u8 0, .int .u8 0, .int .u8 0, .int .u8 0] 177)
  have hB2 := hB1.alloc hB1.size (.cells #[.int .u8 0, .int .u8 0, .int .u8 0, .int .u8 0, .int .u8 0, .int .u8 0, .int .u8 0] 177)
  go_wp2_with fail
  refine (numbersOf _ _ _ _ _).mono ?_
  rintro e w3 ⟨rfl, hb3⟩
  have hB3 := hB2.trans (hb3.mono hB2.size)
  have p3 := hp.below hb3 hp.lt
  have r3 := r2.below hb3 r2.lt
  have hz3 := (hF.below hB3).pos
  obtain ⟨c0, c1, c2, c3, c4, c5, c6, c7, c8, c9, c10, c11, c12, c13, c14, c15⟩ := (hF.below hB3).all
  have hN := At.new w3 151 #[.int .i64 (n0 : Int), .int .i64 (n1 : Int), .int .i64 (n2 : Int), .int .i64 ((n3 : Int) - 1000)]
  have p4 := p3.alloc (.cells #[.int .i64 (n0 : Int), .int .i64 (n1 : Int), .int .i64 (n2 : Int), .int .i64 ((n3 : Int) - 1000)] 151)
  have r4 := r3.alloc (.cells #[.int .i64 (n0 : Int), .int .i64 (n1 : Int), .int .i64 (n2 : Int), .int .i64 ((n3 : Int) - 1000)] 151)
  have hB4 := hB3.alloc hB3.size (.cells #[.int .i64 (n0 : Int), .int .i64 (n1 : Int), .int .i64 (n2 : Int), .int .i64 ((n3 : Int) - 1000)] 151)
  go_wp2_with fail
  clear c0 c1 c2 c3 c4 c5 c6 c7 c8 c9 c10 c11 c12 c13 c14 c15 y0 y1 y2 y3
  have Lp : w.heap.size ≤ w1.heap.size := hB1.size
  have Lr := r1.lt
  have Ln := p3.lt
  go_loopw [17] (fun i wr => EncRel w w1.heap.size w3.heap.size (w.heap.size + 1) n0 n1 n2 n3 i wr) (fun i _ => 4 - (intOf i).toNat)
  case atStart => exact ⟨0, by omega, rfl, p4, hN, r4, hB4⟩
  case round =>
    obtain ⟨k, hk, rfl, hP, hN', hR, hbel⟩ := hrel
    have lP := hP.lt
    have lN := hN'.lt
    have lR := hR.lt
    have hsz := hbel.size
    obtain ⟨m0, m1, m2, m3, _, _, _, _⟩ := hN'.four
    rcases (show k = 0 ∨ k = 1 ∨ k = 2 ∨ k = 3 ∨ k = 4 by omega) with rfl | rfl | rfl | rfl | rfl
    · have hidx := fldAt0 wr
      have hsl := slAt0 w1.heap.size
      have hw1 : IntKind.i64.wrap 1 = 1 := by decide
      have hw2 : IntKind.i64.wrap (n0 : Int) = (n0 : Int) := IntWalk.i64_in _ (by omega)
      go_wp2
      refine wp_region_mix [(0, false), (1, false), (2, false), (3, false), (4, false), (5, false), (6, false), (7, false), (8, false), (9, false), (10, false), (11, false), (12, false), (13, false), (14, false), (15, false), (16, true), (17, false), (18, true)] (fun u => u.cell? ⟨w3.heap.size, 0, none⟩ = some (.int .i64 (n0 : Int)) ∧ u.cell? ⟨wr.heap.size, 0, none⟩ = some (.int .i64 0) ∧ u.cell? ⟨wr.heap.size, 1, none⟩ = some (.int .i64 1) ∧ u.cell? ⟨wr.heap.size, 2, none⟩ = some (.int .i64 0)) (by kernel_rfl) (by kernel_rfl) (fun _ _ _ _ _ h => h) (by go_simp) ?_
      simp only [mixOps, List.map_cons, List.map_nil, List.getElem?_cons_succ, List.getElem?_cons_zero, Option.getD_some]
      repeat (first
        | (refine mix_skip (by rfl) ?_
           (try simp only [Act.put, List.setIfInBounds_toArray, List.set_cons_zero, List.set_cons_succ]))
        | (refine mix_pure (v := ?_) (by rfl) (fun u hu => ?_) ?_
           rotate_left
           · obtain ⟨_, _, _, _⟩ := hu
             go_simp
             (with_reducible rfl)
           (try simp only [Act.put, List.setIfInBounds_toArray, List.set_cons_zero, List.set_cons_succ])))
      refine mix_call (by rfl) (fun K hK => ?_)
      go_simp
      refine (packs1 (n := n0) (by omega) _).mono ?_
      rintro e w5 ⟨A5, j5, c5, rfl, o5, hb5⟩
      obtain rfl : 1 = j5 := o5.len okB
      obtain ⟨g5, rfl, gl5, gh5⟩ := o5.form (by omega)
      have fB5 := fldB1' 0 (some ⟨g5, 0, none⟩) 1 c5
      refine hK _ _ _ (fun _ h => h) ⟨(hb5.cell (p := ⟨w3.heap.size, 0, none⟩) (by simp; omega)).trans (by go_simp), (hb5.cell (p := ⟨wr.heap.size, 0, none⟩) (by simp)).trans (by go_simp), (hb5.cell (p := ⟨wr.heap.size, 1, none⟩) (by simp)).trans (by go_simp), (hb5.cell (p := ⟨wr.heap.size, 2, none⟩) (by simp)).trans (by go_simp)⟩ ?_
      (try simp only [Act.put, List.setIfInBounds_toArray, List.set_cons_zero, List.set_cons_succ])
      refine mix_pure (v := ?_) (by rfl) (fun u hu => ?_) ?_
      rotate_left
      · go_simp
        (with_reducible rfl)
      (try simp only [Act.put, List.setIfInBounds_toArray, List.set_cons_zero, List.set_cons_succ])
      have F5 := (hbel.alloc hbel.size (.cells #[.int .i64 0, .int .i64 1, .int .i64 0, .int .i64 9] 154)).drew
      have hB5 := F5.trans (hb5.mono F5.size)
      have P5 := ((hP.alloc (.cells #[.int .i64 0, .int .i64 1, .int .i64 0, .int .i64 9] 154)).drew).below hb5 (by simp; omega)
      have N5 := ((hN'.alloc (.cells #[.int .i64 0, .int .i64 1, .int .i64 0, .int .i64 9] 154)).drew).below hb5 (by simp; omega)
      have R5 := ((hR.alloc (.cells #[.int .i64 0, .int .i64 1, .int .i64 0, .int .i64 9] 154)).drew).below hb5 (by simp; omega)
      have L5 : wr.heap.size < w5.heap.size := by have := hb5.size; simp at this; omega
      have S0 : w5.cell? ⟨wr.heap.size, 0, none⟩ = some (.int .i64 0) := (hb5.cell (p := ⟨wr.heap.size, 0, none⟩) (by simp)).trans (by go_simp)
      have S1 : w5.cell? ⟨wr.heap.size, 1, none⟩ = some (.int .i64 1) := (hb5.cell (p := ⟨wr.heap.size, 1, none⟩) (by simp)).trans (by go_simp)
      have S2 : w5.cell? ⟨wr.heap.size, 2, none⟩ = some (.int .i64 0) := (hb5.cell (p := ⟨wr.heap.size, 2, none⟩) (by simp)).trans (by go_simp)
      refine mix_call (by rfl) (fun K hK => ?_)
      refine copy_wp (.tmp 28) (.tmp 38) 22 22 rfl 5 Tryz.underlying22 u8_size _ _ _ _ _ _ rfl rfl w1.heap.size 0 (encRow n0 n1 n2 n3 0) 177 P5 (eB.row [UInt8.ofNat n0]) rfl (fun _ => ⟨rfl, _, rfl, Rd.src (o5.rd okB)⟩) (by show 0 + 1 ≤ 7; omega) (okB.row_one _) w.heap.size w hB5 Lp ?_
      intro w6 P6 hB6 hoth
      have N6 : At w6 w3.heap.size 151 #[.int .i64 (n0 : Int), .int .i64 (n1 : Int), .int .i64 (n2 : Int), .int .i64 ((n3 : Int) - 1000)] := (hoth _ (by omega)).trans N5
      have R6 : At w6 (w.heap.size + 1) 30 #[.int .i64 0, .slice none 0 0] := (hoth _ (by omega)).trans R5
      refine hK _ _ _ (fun _ h => h) ⟨(N6.cell 0).trans rfl, (cell_same (hoth _ (by omega))).trans S0, (cell_same (hoth _ (by omega))).trans S1, (cell_same (hoth _ (by omega))).trans S2⟩ ?_
      (try simp only [Act.put, List.setIfInBounds_toArray, List.set_cons_zero, List.set_cons_succ])
      refine mix_nil ?_
      go_wp2
      exact ⟨⟨0 + 1, by omega, by go_num, P6, N6, R6, hB6⟩, by simp [intOf]⟩
    · have hidx := fldAt1 wr
      have hsl := slAt1 w1.heap.size
      have hw1 : IntKind.i64.wrap 3 = 3 := by decide
      have hw2 : IntKind.i64.wrap (n1 : Int) = (n1 : Int) := IntWalk.i64_in _ (by omega)
      go_wp2
      refine wp_region_mix [(0, false), (1, false), (2, false), (3, false), (4, false), (5, false), (6, false), (7, false), (8, false), (9, false), (10, false), (11, false), (12, false), (13, false), (14, false), (15, false), (16, true), (17, false), (18, true)] (fun u => u.cell? ⟨w3.heap.size, 1, none⟩ = some (.int .i64 (n1 : Int)) ∧ u.cell? ⟨wr.heap.size, 0, none⟩ = some (.int .i64 1) ∧ u.cell? ⟨wr.heap.size, 1, none⟩ = some (.int .i64 2) ∧ u.cell? ⟨wr.heap.size, 2, none⟩ = some (.int .i64 0)) (by kernel_rfl) (by kernel_rfl) (fun _ _ _ _ _ h => h) (by go_simp) ?_
      simp only [mixOps, List.map_cons, List.map_nil, List.getElem?_cons_succ, List.getElem?_cons_zero, Option.getD_some]
      repeat (first
        | (refine mix_skip (by rfl) ?_
           (try simp only [Act.put, List.setIfInBounds_toArray, List.set_cons_zero, List.set_cons_succ]))
        | (refine mix_pure (v := ?_) (by rfl) (fun u hu => ?_) ?_
           rotate_left
           · obtain ⟨_, _, _, _⟩ := hu
             go_simp
             (with_reducible rfl)
           (try simp only [Act.put, List.setIfInBounds_toArray, List.set_cons_zero, List.set_cons_succ])))
      refine mix_call (by rfl) (fun K hK => ?_)
      go_simp
      refine (packs (n := n1) (by omega) _).mono ?_
      rintro e w5 ⟨A5, j5, c5, rfl, o5, hb5⟩
      obtain rfl : 2 = j5 := o5.len okB
      obtain ⟨g5, rfl, gl5, gh5⟩ := o5.form (by omega)
      have fB5 := fldB1' 0 (some ⟨g5, 0, none⟩) 2 c5
      refine hK _ _ _ (fun _ h => h) ⟨(hb5.cell (p := ⟨w3.heap.size, 1, none⟩) (by simp; omega)).trans (by go_simp), (hb5.cell (p := ⟨wr.heap.size, 0, none⟩) (by simp)).trans (by go_simp), (hb5.cell (p := ⟨wr.heap.size, 1, none⟩) (by simp)).trans (by go_simp), (hb5.cell (p := ⟨wr.heap.size, 2, none⟩) (by simp)).trans (by go_simp)⟩ ?_
      (try simp only [Act.put, List.setIfInBounds_toArray, List.set_cons_zero, List.set_cons_succ])
      refine mix_pure (v := ?_) (by rfl) (fun u hu => ?_) ?_
      rotate_left
      · go_simp
        (with_reducible rfl)
      (try simp only [Act.put, List.setIfInBounds_toArray, List.set_cons_zero, List.set_cons_succ])
      have F5 := (hbel.alloc hbel.size (.cells #[.int .i64 1, .int .i64 2, .int .i64 0, .int .i64 999] 154)).drew
      have hB5 := F5.trans (hb5.mono F5.size)
      have P5 := ((hP.alloc (.cells #[.int .i64 1, .int .i64 2, .int .i64 0, .int .i64 999] 154)).drew).below hb5 (by simp; omega)
      have N5 := ((hN'.alloc (.cells #[.int .i64 1, .int .i64 2, .int .i64 0, .int .i64 999] 154)).drew).below hb5 (by simp; omega)
      have R5 := ((hR.alloc (.cells #[.int .i64 1, .int .i64 2, .int .i64 0, .int .i64 999] 154)).drew).below hb5 (by simp; omega)
      have L5 : wr.heap.size < w5.heap.size := by have := hb5.size; simp at this; omega
      have S0 : w5.cell? ⟨wr.heap.size, 0, none⟩ = some (.int .i64 1) := (hb5.cell (p := ⟨wr.heap.size, 0, none⟩) (by simp)).trans (by go_simp)
      have S1 : w5.cell? ⟨wr.heap.size, 1, none⟩ = some (.int .i64 2) := (hb5.cell (p := ⟨wr.heap.size, 1, none⟩) (by simp)).trans (by go_simp)
      have S2 : w5.cell? ⟨wr.heap.size, 2, none⟩ = some (.int .i64 0) := (hb5.cell (p := ⟨wr.heap.size, 2, none⟩) (by simp)).trans (by go_simp)
      refine mix_call (by rfl) (fun K hK => ?_)
      refine copy_wp (.tmp 28) (.tmp 38) 22 22 rfl 5 Tryz.underlying22 u8_size _ _ _ _ _ _ rfl rfl w1.heap.size 1 (encRow n0 n1 n2 n3 1) 177 P5 (eB.row [UInt8.ofNat n1, UInt8.ofNat (n1 / 256)]) rfl (fun _ => ⟨rfl, _, rfl, Rd.src (o5.rd okB)⟩) (by show 1 + 2 ≤ 7; omega) (okB.row_one _) w.heap.size w hB5 Lp ?_
      intro w6 P6 hB6 hoth
      have N6 : At w6 w3.heap.size 151 #[.int .i64 (n0 : Int), .int .i64 (n1 : Int), .int .i64 (n2 : Int), .int .i64 ((n3 : Int) - 1000)] := (hoth _ (by omega)).trans N5
      have R6 : At w6 (w.heap.size + 1) 30 #[.int .i64 0, .slice none 0 0] := (hoth _ (by omega)).trans R5
      refine hK _ _ _ (fun _ h => h) ⟨(N6.cell 1).trans rfl, (cell_same (hoth _ (by omega))).trans S0, (cell_same (hoth _ (by omega))).trans S1, (cell_same (hoth _ (by omega))).trans S2⟩ ?_
      (try simp only [Act.put, List.setIfInBounds_toArray, List.set_cons_zero, List.set_cons_succ])
      refine mix_nil ?_
      go_wp2
      exact ⟨⟨1 + 1, by omega, by go_num, P6, N6, R6, hB6⟩, by simp [intOf]⟩
    · have hidx := fldAt2 wr
      have hsl := slAt2 w1.heap.size
      have hw1 : IntKind.i64.wrap 5 = 5 := by decide
      have hw2 : IntKind.i64.wrap (n2 : Int) = (n2 : Int) := IntWalk.i64_in _ (by omega)
      go_wp2
      refine wp_region_mix [(0, false), (1, false), (2, false), (3, false), (4, false), (5, false), (6, false), (7, false), (8, false), (9, false), (10, false), (11, false), (12, false), (13, false), (14, false), (15, false), (16, true), (17, false), (18, true)] (fun u => u.cell? ⟨w3.heap.size, 2, none⟩ = some (.int .i64 (n2 : Int)) ∧ u.cell? ⟨wr.heap.size, 0, none⟩ = some (.int .i64 3) ∧ u.cell? ⟨wr.heap.size, 1, none⟩ = some (.int .i64 2) ∧ u.cell? ⟨wr.heap.size, 2, none⟩ = some (.int .i64 0)) (by kernel_rfl) (by kernel_rfl) (fun _ _ _ _ _ h => h) (by go_simp) ?_
      simp only [mixOps, List.map_cons, List.map_nil, List.getElem?_cons_succ, List.getElem?_cons_zero, Option.getD_some]
      repeat (first
        | (refine mix_skip (by rfl) ?_
           (try simp only [Act.put, List.setIfInBounds_toArray, List.set_cons_zero, List.set_cons_succ]))
        | (refine mix_pure (v := ?_) (by rfl) (fun u hu => ?_) ?_
           rotate_left
           · obtain ⟨_, _, _, _⟩ := hu
             go_simp
             (with_reducible rfl)
           (try simp only [Act.put, List.setIfInBounds_toArray, List.set_cons_zero, List.set_cons_succ])))
      refine mix_call (by rfl) (fun K hK => ?_)
      go_simp
      refine (packs (n := n2) (by omega) _).mono ?_
      rintro e w5 ⟨A5, j5, c5, rfl, o5, hb5⟩
      obtain rfl : 2 = j5 := o5.len okB
      obtain ⟨g5, rfl, gl5, gh5⟩ := o5.form (by omega)
      have fB5 := fldB1' 0 (some ⟨g5, 0, none⟩) 2 c5
      refine hK _ _ _ (fun _ h => h) ⟨(hb5.cell (p := ⟨w3.heap.size, 2, none⟩) (by simp; omega)).trans (by go_simp), (hb5.cell (p := ⟨wr.heap.size, 0, none⟩) (by simp)).trans (by go_simp), (hb5.cell (p := ⟨wr.heap.size, 1, none⟩) (by simp)).trans (by go_simp), (hb5.cell (p := ⟨wr.heap.size, 2, none⟩) (by simp)).trans (by go_simp)⟩ ?_
      (try simp only [Act.put, List.setIfInBounds_toArray, List.set_cons_zero, List.set_cons_succ])
      refine mix_pure (v := ?_) (by rfl) (fun u hu => ?_) ?_
      rotate_left
      · go_simp
        (with_reducible rfl)
      (try simp only [Act.put, List.setIfInBounds_toArray, List.set_cons_zero, List.set_cons_succ])
      have F5 := (hbel.alloc hbel.size (.cells #[.int .i64 3, .int .i64 2, .int .i64 0, .int .i64 9999] 154)).drew
      have hB5 := F5.trans (hb5.mono F5.size)
      have P5 := ((hP.alloc (.cells #[.int .i64 3, .int .i64 2, .int .i64 0, .int .i64 9999] 154)).drew).below hb5 (by simp; omega)
      have N5 := ((hN'.alloc (.cells #[.int .i64 3, .int .i64 2, .int .i64 0, .int .i64 9999] 154)).drew).below hb5 (by simp; omega)
      have R5 := ((hR.alloc (.cells #[.int .i64 3, .int .i64 2, .int .i64 0, .int .i64 9999] 154)).drew).below hb5 (by simp; omega)
      have L5 : wr.heap.size < w5.heap.size := by have := hb5.size; simp at this; omega
      have S0 : w5.cell? ⟨wr.heap.size, 0, none⟩ = some (.int .i64 3) := (hb5.cell (p := ⟨wr.heap.size, 0, none⟩) (by simp)).trans (by go_simp)
      have S1 : w5.cell? ⟨wr.heap.size, 1, none⟩ = some (.int .i64 2) := (hb5.cell (p := ⟨wr.heap.size, 1, none⟩) (by simp)).trans (by go_simp)
      have S2 : w5.cell? ⟨wr.heap.size, 2, none⟩ = some (.int .i64 0) := (hb5.cell (p := ⟨wr.heap.size, 2, none⟩) (by simp)).trans (by go_simp)
      refine mix_call (by rfl) (fun K hK => ?_)
      refine copy_wp (.tmp 28) (.tmp 38) 22 22 rfl 5 Tryz.underlying22 u8_size _ _ _ _ _ _ rfl rfl w1.heap.size 3 (encRow n0 n1 n2 n3 2) 177 P5 (eB.row [UInt8.ofNat n2, UInt8.ofNat (n2 / 256)]) rfl (fun _ => ⟨rfl, _, rfl, Rd.src (o5.rd okB)⟩) (by show 3 + 2 ≤ 7; omega) (okB.row_one _) w.heap.size w hB5 Lp ?_
      intro w6 P6 hB6 hoth
      have N6 : At w6 w3.heap.size 151 #[.int .i64 (n0 : Int), .int .i64 (n1 : Int), .int .i64 (n2 : Int), .int .i64 ((n3 : Int) - 1000)] := (hoth _ (by omega)).trans N5
      have R6 : At w6 (w.heap.size + 1) 30 #[.int .i64 0, .slice none 0 0] := (hoth _ (by omega)).trans R5
      refine hK _ _ _ (fun _ h => h) ⟨(N6.cell 2).trans rfl, (cell_same (hoth _ (by omega))).trans S0, (cell_same (hoth _ (by omega))).trans S1, (cell_same (hoth _ (by omega))).trans S2⟩ ?_
      (try simp only [Act.put, List.setIfInBounds_toArray, List.set_cons_zero, List.set_cons_succ])
      refine mix_nil ?_
      go_wp2
      exact ⟨⟨2 + 1, by omega, by go_num, P6, N6, R6, hB6⟩, by simp [intOf]⟩
    · have hidx := fldAt3 wr
      have hsl := slAt3 w1.heap.size
      have hw1 : IntKind.i64.wrap 7 = 7 := by decide
      have hw2 : IntKind.i64.wrap (n3 : Int) = (n3 : Int) := IntWalk.i64_in _ (by omega)
      go_wp2
      refine wp_region_mix [(0, false), (1, false), (2, false), (3, false), (4, false), (5, false), (6, false), (7, false), (8, false), (9, false), (10, false), (11, false), (12, false), (13, false), (14, false), (15, false), (16, true), (17, false), (18, true)] (fun u => u.cell? ⟨w3.heap.size, 3, none⟩ = some (.int .i64 ((n3 : Int) - 1000)) ∧ u.cell? ⟨wr.heap.size, 0, none⟩ = some (.int .i64 5) ∧ u.cell? ⟨wr.heap.size, 1, none⟩ = some (.int .i64 2) ∧ u.cell? ⟨wr.heap.size, 2, none⟩ = some (.int .i64 (-1000))) (by kernel_rfl) (by kernel_rfl) (fun _ _ _ _ _ h => h) (by go_simp) ?_
      simp only [mixOps, List.map_cons, List.map_nil, List.getElem?_cons_succ, List.getElem?_cons_zero, Option.getD_some]
      repeat (first
        | (refine mix_skip (by rfl) ?_
           (try simp only [Act.put, List.setIfInBounds_toArray, List.set_cons_zero, List.set_cons_succ]))
        | (refine mix_pure (v := ?_) (by rfl) (fun u hu => ?_) ?_
           rotate_left
           · obtain ⟨_, _, _, _⟩ := hu
             go_simp
             (with_reducible rfl)
           (try simp only [Act.put, List.setIfInBounds_toArray, List.set_cons_zero, List.set_cons_succ])))
      refine mix_call (by rfl) (fun K hK => ?_)
      go_simp
      refine (packs (n := n3) (by omega) _).mono ?_
      rintro e w5 ⟨A5, j5, c5, rfl, o5, hb5⟩
      obtain rfl : 2 = j5 := o5.len okB
      obtain ⟨g5, rfl, gl5, gh5⟩ := o5.form (by omega)
      have fB5 := fldB1' 0 (some ⟨g5, 0, none⟩) 2 c5
      refine hK _ _ _ (fun _ h => h) ⟨(hb5.cell (p := ⟨w3.heap.size, 3, none⟩) (by simp; omega)).trans (by go_simp), (hb5.cell (p := ⟨wr.heap.size, 0, none⟩) (by simp)).trans (by go_simp), (hb5.cell (p := ⟨wr.heap.size, 1, none⟩) (by simp)).trans (by go_simp), (hb5.cell (p := ⟨wr.heap.size, 2, none⟩) (by simp)).trans (by go_simp)⟩ ?_
      (try simp only [Act.put, List.setIfInBounds_toArray, List.set_cons_zero, List.set_cons_succ])
      refine mix_pure (v := ?_) (by rfl) (fun u hu => ?_) ?_
      rotate_left
      · go_simp
        (with_reducible rfl)
      (try simp only [Act.put, List.setIfInBounds_toArray, List.set_cons_zero, List.set_cons_succ])
      have F5 := (hbel.alloc hbel.size (.cells #[.int .i64 5, .int .i64 2, .int .i64 (-1000), .int .i64 1000] 154)).drew
      have hB5 := F5.trans (hb5.mono F5.size)
      have P5 := ((hP.alloc (.cells #[.int .i64 5, .int .i64 2, .int .i64 (-1000), .int .i64 1000] 154)).drew).below hb5 (by simp; omega)
      have N5 := ((hN'.alloc (.cells #[.int .i64 5, .int .i64 2, .int .i64 (-1000), .int .i64 1000] 154)).drew).below hb5 (by simp; omega)
      have R5 := ((hR.alloc (.cells #[.int .i64 5, .int .i64 2, .int .i64 (-1000), .int .i64 1000] 154)).drew).below hb5 (by simp; omega)
      have L5 : wr.heap.size < w5.heap.size := by have := hb5.size; simp at this; omega
      have S0 : w5.cell? ⟨wr.heap.size, 0, none⟩ = some (.int .i64 5) := (hb5.cell (p := ⟨wr.heap.size, 0, none⟩) (by simp)).trans (by go_simp)
      have S1 : w5.cell? ⟨wr.heap.size, 1, none⟩ = some (.int .i64 2) := (hb5.cell (p := ⟨wr.heap.size, 1, none⟩) (by simp)).trans (by go_simp)
      have S2 : w5.cell? ⟨wr.heap.size, 2, none⟩ = some (.int .i64 (-1000)) := (hb5.cell (p := ⟨wr.heap.size, 2, none⟩) (by simp)).trans (by go_simp)
      refine mix_call (by rfl) (fun K hK => ?_)
      refine copy_wp (.tmp 28) (.tmp 38) 22 22 rfl 5 Tryz.underlying22 u8_size _ _ _ _ _ _ rfl rfl w1.heap.size 5 (encRow n0 n1 n2 n3 3) 177 P5 (eB.row [UInt8.ofNat n3, UInt8.ofNat (n3 / 256)]) rfl (fun _ => ⟨rfl, _, rfl, Rd.src (o5.rd okB)⟩) (by show 5 + 2 ≤ 7; omega) (okB.row_one _) w.heap.size w hB5 Lp ?_
      intro w6 P6 hB6 hoth
      have N6 : At w6 w3.heap.size 151 #[.int .i64 (n0 : Int), .int .i64 (n1 : Int), .int .i64 (n2 : Int), .int .i64 ((n3 : Int) - 1000)] := (hoth _ (by omega)).trans N5
      have R6 : At w6 (w.heap.size + 1) 30 #[.int .i64 0, .slice none 0 0] := (hoth _ (by omega)).trans R5
      refine hK _ _ _ (fun _ h => h) ⟨(N6.cell 3).trans rfl, (cell_same (hoth _ (by omega))).trans S0, (cell_same (hoth _ (by omega))).trans S1, (cell_same (hoth _ (by omega))).trans S2⟩ ?_
      (try simp only [Act.put, List.setIfInBounds_toArray, List.set_cons_zero, List.set_cons_succ])
      refine mix_nil ?_
      go_wp2
      exact ⟨⟨3 + 1, by omega, by go_num, P6, N6, R6, hB6⟩, by simp [intOf]⟩
    · have hsl := slAll w1.heap.size
      obtain ⟨q0, q1, f0, f1⟩ := hR.two
      have L0 : ¬ w.heap.size + 1 = w1.heap.size := by omega
      go_wp2
      refine bodyPost_ret (v := .agg #[.int .i64 0, .slice (some ⟨w1.heap.size, 0, none⟩) 7 7]) (by simp [results, Tryz.results83, go_sem, q0, q1]) rfl ?_
      refine ⟨_, 7, 7, rfl, ?_, (hbel.setCell (by simp) _).setCell (by simp) _⟩
      have P7 := (hP.far (p := ⟨w.heap.size + 1, 0, none⟩) (fun e => L0 e.symm) (.int .i64 0)).far (p := ⟨w.heap.size + 1, 1, none⟩) (fun e => L0 e.symm) (.slice (some ⟨w1.heap.size, 0, none⟩) 7 7)
      rw [encL_eq]
      exact ⟨rfl, .inr ⟨_, 7, _, rfl, Lp, P7, by omega, by unfold maxLen; omega, rfl, rfl⟩⟩

/-- A code and bytes that lie in an array's block. -/
theorem implEncodeSample (a0 a1 a2 a3 : Int) (w : World) (hF : Flds w) :
    Calls Tryz.prog 83 #[.agg #[.int .i64 a0, .int .i64 a1, .int .i64 a2, .int .i64 a3]] w fun e w' => RetBA (encodeM (a0, a1, a2, a3)) w e w' := by
  rcases faultM_or (a0, a1, a2, a3) with h | h
  · obtain ⟨n0, n1, n2, n3, rfl, rfl, rfl, rfl, k0, k1, k2, k3⟩ := faultM_nat h
    rw [encodeM_nat h]
    exact implEncodeSample_ok n0 n1 n2 n3 w hF h k0 k1 k2 k3
  · have hB0 : Below w.heap.size w ((w.alloc (.cells #[.int .i64 a0, .int .i64 a1, .int .i64 a2, .int .i64 a3] 25)).alloc (.cells #[.int .i64 0, .slice none 0 0] 30)) := ((Below.refl _ _).alloc (Nat.le_refl _) _).alloc (by simp) _
    have r0 := At.new (w.alloc (.cells #[.int .i64 a0, .int .i64 a1, .int .i64 a2, .int .i64 a3] 25)) 30 #[.int .i64 0, .slice none 0 0]
    rw [show (w.alloc (.cells #[.int .i64 a0, .int .i64 a1, .int .i64 a2, .int .i64 a3] 25)).heap.size = w.heap.size + 1 by simp] at r0
    have hq := implSampleFault a0 a1 a2 a3 _ (hF.below hB0)
    rw [h] at hq
    rw [encodeM_no h]
    clear h
    go_enter Tryz.func83, Tryz.ntmps83
    go_wp2_with fail
    refine hq.mono ?_
    rintro e w1 ⟨rfl, hb1⟩
    have hB1 := hB0.trans (hb1.mono hB0.size)
    have r1 := r0.below hb1 r0.lt
    obtain ⟨c0, c1, f0, f1⟩ := r1.two
    go_wp2_with fail
    refine bodyPost_ret (v := .agg #[.int .i64 3, .slice none 0 0]) (by simp [results, Tryz.results83, go_sem, c0, c1]) rfl ?_
    exact ⟨none, 0, 0, rfl, Ow.nil, (hB1.setCell (by simp) _).setCell (by simp) _⟩
end Go.Proofs.YtmaillakhhdkfaaGreatDoor
namespace Go.Proofs.YtmaillakhhdkfaaGreatDoor
set_option maxRecDepth 20000
open Go.RowKit

/-- The number of some bytes, the lowest one first. -/
def readV : List UInt8 → Nat
  | [] => 0
  | b :: l => readV l * 256 + b.toNat
theorem readV_lt (l : List UInt8) : readV l < 256 ^ l.length := by
  induction l with
  | nil => simp [readV]
  | cons b l ih =>
    have hb := b.toNat_lt
    rw [readV, List.length_cons, Nat.pow_succ]
    omega
def readAt (l : List UInt8) (p s i : Nat) : Nat := readV ((l.drop (p + i)).take (s - i))
theorem readAt_step {l : List UInt8} {p s j : Nat} {x : UInt8} (hj : j < s) (hx : l[p + j]? = some x) : readAt l p s j = readAt l p s (j + 1) * 256 + x.toNat := by
  unfold readAt
  have h : (l.drop (p + j)).take (s - j) = x :: (l.drop (p + (j + 1))).take (s - (j + 1)) := by
    have hl := getElem?_some_lt hx
    rw [List.drop_eq_getElem_cons hl, show s - j = (s - (j + 1)) + 1 by omega, List.take_succ_cons, show p + j + 1 = p + (j + 1) by omega]
    rw [List.getElem?_eq_getElem hl] at hx
    rw [Option.some.inj hx]
  rw [h, readV]
theorem readAt_end (l : List UInt8) (p s : Nat) : readAt l p s s = 0 := by simp [readAt, readV]
theorem readAt_lt (l : List UInt8) (p s i : Nat) (hs : s ≤ 4) : readAt l p s i < 4294967296 := by
  refine Nat.lt_of_lt_of_le (readV_lt _) ?_
  refine Nat.le_trans (Nat.pow_le_pow_right (by omega) (show ((l.drop (p + i)).take (s - i)).length ≤ 4 by rw [List.length_take]; omega)) (by omega)
theorem readAt_lt' (l : List UInt8) (p s j : Nat) (hs : s ≤ 4) : readAt l p s (j + 1) < 16777216 := by
  refine Nat.lt_of_lt_of_le (readV_lt _) ?_
  refine Nat.le_trans (Nat.pow_le_pow_right (by omega) (show ((l.drop (p + (j + 1))).take (s - (j + 1))).length ≤ 3 by rw [List.length_take]; omega)) (by omega)

/-- What ReadWord answers. -/
def readM (l : List UInt8) (a s : Int) : Int × Int :=
  if 1 ≤ s ∧ s ≤ 4 ∧ 0 ≤ a ∧ a ≤ (l.length : Int) - s then (0, (readAt l a.toNat s.toNat 0 : Nat)) else (3, 0)
theorem readM_bad {l : List UInt8} {a s : Int} (h : ¬ (1 ≤ s ∧ s ≤ 4 ∧ 0 ≤ a ∧ a ≤ (l.length : Int) - s)) : readM l a s = (3, 0) := if_neg h
theorem readM_nat {l : List UInt8} {p s : Nat} (h : 1 ≤ s ∧ s ≤ 4 ∧ p + s ≤ l.length) : readM l p s = (0, ((readAt l p s 0 : Nat) : Int)) := by
  unfold readM
  rw [if_pos (by omega), Int.toNat_natCast, Int.toNat_natCast]

set_option maxHeartbeats 400000 in
theorem l1Read (A : Option Addr) (n c p s : Nat) (l : List UInt8) (w : World) (ha : Rd eB w w.heap.size A l) (hn : l.length = n) (hs : s ≤ 4) (hp : p + s ≤ n) (hm : n ≤ maxLen) :
    Calls Tryz.prog 105 #[.slice A n c, .int .i64 p, .int .i64 s] w fun e w' => e = .returned (.int .i64 (readAt l p s 0 : Nat)) ∧ w = w' := by
  have Hn := Lib.hid hn
  clear hn
  unfold maxLen at hm
  go_enter Tryz.func105, Tryz.ntmps105
  go_wp2
  go_loop [7, 8] (fun vq vi => ∃ i q : Nat, i ≤ s ∧ vi = .int .i64 ((i : Int) - 1) ∧ vq = .int .i64 q ∧ Hid (q = readAt l p s i)) (fun _ vi => (intOf vi + 1).toNat)
  case atStart => exact ⟨s, 0, Nat.le_refl _, rfl, rfl, Lib.hid (readAt_end l p s).symm⟩
  case round =>
    obtain ⟨i, q, hi, rfl, rfl, Hq⟩ := hrel
    match i, hi, Hq with
    | 0, hi, Hq =>
      go_wp2
      go_ret
      exact ⟨by rw [Hq.out]; rfl, rfl⟩
    | j + 1, hi, Hq =>
      obtain ⟨g, o, x, rfl, hg, hx, ca⟩ := ha.byte (k := p + j) (by rw [Hn.out]; omega)
      have hx8 := x.toNat_lt
      have Hst := Lib.hid (readAt_step (s := s) (by omega) hx)
      have hql : q < 16777216 := by rw [Hq.out]; exact readAt_lt' l p s j hs
      clear hx
      rw [show (((j + 1 : Nat) : Int) - 1) = (j : Int) by omega]
      go_wp2
      exact ⟨⟨j, q * 256 + x.toNat, by omega, rfl, by go_num, Lib.hid (by rw [Hst.out, ← Hq.out])⟩, by simp [intOf]⟩

/-! ### impl.ReadWord -/
set_option maxHeartbeats 400000 in
theorem implReadWord_size (A : Option Addr) (n c : Nat) (l : List UInt8) (a s : Int) (w : World) (h : ¬ (1 ≤ s ∧ s ≤ 4)) :
    Calls Tryz.prog 87 #[.slice A n c, .int .i64 a, .int .i64 s] w fun e w' => RetIR (readM l a s) w e w' := by
  have Hf := Lib.hid (readM_bad (l := l) (a := a) (s := s) (by omega))
  have hin : inB (s, 1, 4) = false := by simp only [inB, Bool.and_eq_false_iff, decide_eq_false_iff_not]; omega
  go_enter Tryz.func87, Tryz.ntmps87
  go_wp2_with (go_at_call 82; refine (isWordSize_any _ _).mono ?_; rintro e w1 ⟨rfl, hb1⟩; have a1 := (At.new w _ _).below hb1 (by simp); obtain ⟨r0, r1, f0, f1⟩ := a1.two)
  have hB1 : Below w.heap.size w w1 := ((Below.refl _ _).alloc (Nat.le_refl _) _).trans (hb1.mono (by simp))
  refine bodyPost_ret (v := .agg #[.int .i64 3, .int .i64 0]) (by simp [results, Tryz.results87, go_sem, r0, r1]) rfl ?_
  rw [Hf.out]
  exact ⟨rfl, (hB1.setCell (Nat.le_refl _) _).setCell (Nat.le_refl _) _⟩

set_option maxHeartbeats 400000 in
theorem implReadWord_no (A : Option Addr) (n c : Nat) (l : List UInt8) (a s : Int) (w : World) (hn : l.length = n) (hm : n ≤ maxLen) (hs1 : 1 ≤ s) (hs4 : s ≤ 4) (h : ¬ (0 ≤ a ∧ a ≤ (n : Int) - s)) :
    Calls Tryz.prog 87 #[.slice A n c, .int .i64 a, .int .i64 s] w fun e w' => RetIR (readM l a s) w e w' := by
  have Hf := Lib.hid (readM_bad (l := l) (a := a) (s := s) (by rw [hn]; omega))
  clear hn
  unfold maxLen at hm
  have hin : inB (s, 1, 4) = true := by simp only [inB, Bool.and_eq_true, decide_eq_true_eq]; omega
  have hno : [(a, (0 : Int), (n : Int) - s)].all inB = false := by simp [inB]; omega
  go_enter Tryz.func87, Tryz.ntmps87
  go_wp2_with (go_at_call 82; refine (isWordSize_any _ _).mono ?_; rintro e w1 ⟨rfl, hb1⟩; have a1 := (At.new w _ _).below hb1 (by simp))
  have z1 := a1.lt
  have hB1 : Below w.heap.size w w1 := ((Below.refl _ _).alloc (Nat.le_refl _) _).trans (hb1.mono (by simp))
  refine (areWithin_any _ _ _ [(a, 0, (n : Int) - s)] _ (bnds_one (by simp)) (by simp) rfl (by simp)).mono ?_
  rintro e w2 ⟨rfl, hb2⟩
  have a2 := (a1.alloc _).below hb2 (by simp; omega)
  have hB2 : Below w.heap.size w w2 := (hB1.alloc (by omega) _).trans (hb2.mono (by simp; omega))
  obtain ⟨r0, r1, f0, f1⟩ := a2.two
  go_wp2
  refine bodyPost_ret (v := .agg #[.int .i64 3, .int .i64 0]) (by simp [results, Tryz.results87, go_sem, r0, r1]) rfl ?_
  rw [Hf.out]
  exact ⟨rfl, (hB2.setCell (Nat.le_refl _) _).setCell (Nat.le_refl _) _⟩
/-- 'n<<8 | b': the byte stands in the room that the shift leaves. -/
theorem shl_or (q b : Nat) (hq : q < 16777216) (hb : b < 256) : bits .or .i64 ((q : Int) * 256) (b : Int) = ((q * 256 + b : Nat) : Int) := by
  have h1 : ((q : Int) * 256) = ((q * 256 : Nat) : Int) := by omega
  have h2 : q * 256 ||| b = q * 256 + b := by
    have := Nat.two_pow_add_eq_or_of_lt (i := 8) (by simpa using hb) q
    rw [Nat.mul_comm]
    simpa using this.symm
  rw [h1]
  show IntKind.i64.wrap ((BitVec.ofInt 64 ((q * 256 : Nat) : Int) ||| BitVec.ofInt 64 ((b : Nat) : Int)).toNat : Int) = _
  have o1 : (BitVec.ofInt 64 ((q * 256 : Nat) : Int)).toNat = q * 256 := by rw [BitVec.ofInt_natCast, BitVec.toNat_ofNat]; exact Nat.mod_eq_of_lt (by omega)
  have o2 : (BitVec.ofInt 64 ((b : Nat) : Int)).toNat = b := by rw [BitVec.ofInt_natCast, BitVec.toNat_ofNat]; exact Nat.mod_eq_of_lt (by omega)
  rw [BitVec.toNat_or, o1, o2, h2, IntKind.wrap_i64]
  omega

set_option maxHeartbeats 800000 in
theorem implReadWord_yes (A : Option Addr) (n c p s : Nat) (l : List UInt8) (w : World) (ha : Rd eB w w.heap.size A l) (hn : l.length = n) (hm : n ≤ maxLen) (hs1 : 1 ≤ s) (hs4 : s ≤ 4) (h1 : p + s ≤ n) :
    Calls Tryz.prog 87 #[.slice A n c, .int .i64 p, .int .i64 s] w fun e w' => RetIR (readM l p s) w e w' := by
  have Hf := Lib.hid (readM_nat (l := l) (p := p) (s := s) ⟨hs1, hs4, by omega⟩)
  have Hn := Lib.hid hn
  clear hn
  unfold maxLen at hm
  have hin : inB ((s : Int), 1, 4) = true := by simp only [inB, Bool.and_eq_true, decide_eq_true_eq]; omega
  have hno : [((p : Int), (0 : Int), (n : Int) - s)].all inB = true := by simp [inB]; omega
  go_enter Tryz.func87, Tryz.ntmps87
  go_wp2_with (go_at_call 82; refine (isWordSize_any _ _).mono ?_; rintro e w1 ⟨rfl, hb1⟩; have a1 := (At.new w _ _).below hb1 (by simp))
  have z1 := a1.lt
  have hB1 : Below w.heap.size w w1 := ((Below.refl _ _).alloc (Nat.le_refl _) _).trans (hb1.mono (by simp))
  refine (areWithin_any _ _ _ [((p : Int), 0, (n : Int) - s)] _ (bnds_one (by simp)) (by simp) rfl (by simp)).mono ?_
  rintro e w2 ⟨rfl, hb2⟩
  have a2 := (a1.alloc _).below hb2 (by simp; omega)
  have hB2 : Below w.heap.size w w2 := (hB1.alloc (by omega) _).trans (hb2.mono (by simp; omega))
  have ha2 := ha.lift hB2
  obtain ⟨r0, r1, f0, f1⟩ := a2.two
  go_wp2
  go_loop [7, 8] (fun vq vi => ∃ i q : Nat, i ≤ s ∧ vi = .int .i64 ((i : Int) - 1) ∧ vq = .int .i64 q ∧ Hid (q = readAt l p s i)) (fun _ vi => (intOf vi + 1).toNat)
  case atStart => exact ⟨s, 0, Nat.le_refl _, rfl, rfl, Lib.hid (readAt_end l p s).symm⟩
  case round =>
    obtain ⟨i, q, hi, rfl, rfl, Hq⟩ := hrel
    match i, hi, Hq with
    | 0, hi, Hq =>
      go_wp2
      refine bodyPost_ret (v := .agg #[.int .i64 0, .int .i64 (q : Nat)]) (by simp [results, Tryz.results87, go_sem, r0, r1]) rfl ?_
      rw [Hf.out, ← Hq.out]
      exact ⟨rfl, (hB2.setCell (Nat.le_refl _) _).setCell (Nat.le_refl _) _⟩
    | j + 1, hi, Hq =>
      obtain ⟨g, o, x, rfl, hg, hx, ca⟩ := ha2.byte (k := p + j) (by rw [Hn.out]; omega)
      have hx8 := x.toNat_lt
      have Hst := Lib.hid (readAt_step (s := s) (by omega) hx)
      have hql : q < 16777216 := by rw [Hq.out]; exact readAt_lt' l p s j hs4
      have hor := shl_or q x.toNat hql hx8
      clear hx
      rw [show (((j + 1 : Nat) : Int) - 1) = (j : Int) by omega]
      go_wp2
      exact ⟨⟨j, q * 256 + x.toNat, by omega, rfl, by go_num, Lib.hid (by rw [Hst.out, ← Hq.out])⟩, by simp [intOf]⟩

theorem implReadWord (A : Option Addr) (n c : Nat) (l : List UInt8) (a s : Int) (w : World) (ha : Rd eB w w.heap.size A l) (hn : l.length = n) (hm : n ≤ maxLen) :
    Calls Tryz.prog 87 #[.slice A n c, .int .i64 a, .int .i64 s] w fun e w' => RetIR (readM l a s) w e w' := by
  by_cases h : 1 ≤ s ∧ s ≤ 4
  · by_cases h0 : 0 ≤ a ∧ a ≤ (n : Int) - s
    · obtain ⟨p, rfl⟩ := Int.eq_ofNat_of_zero_le h0.1
      obtain ⟨t, rfl⟩ := Int.eq_ofNat_of_zero_le (show 0 ≤ s by omega)
      exact implReadWord_yes A n c p t l w ha hn hm (by omega) (by omega) (by omega)
    · exact implReadWord_no A n c l a s w hn hm h.1 h.2 h0
  · exact implReadWord_size A n c l a s w h
end Go.Proofs.YtmaillakhhdkfaaGreatDoor
/-
  A sample out of its bytes: the model's, and what the law compares.
-/
namespace Go.Proofs.YtmaillakhhdkfaaGreatDoor
set_option maxRecDepth 20000
open Go.RowKit
set_option linter.unusedSimpArgs false

/-- The sample of so many bytes, right or not. -/
def unpM (l : List UInt8) : Smp := (((readAt l 0 1 0 : Nat) : Int), ((readAt l 1 2 0 : Nat) : Int), ((readAt l 3 2 0 : Nat) : Int), ((readAt l 5 2 0 : Nat) : Int) - 1000)
def decodeM (l : List UInt8) : Int × Smp := if l.length = 7 then (if faultM (unpM l) = 0 then (0, unpM l) else (5, (0, 0, 0, 0))) else (2, (0, 0, 0, 0))
theorem read_one {l : List UInt8} {x : UInt8} (h : l[0]? = some x) : readAt l 0 1 0 = x.toNat := by
  have := readAt_step (l := l) (p := 0) (s := 1) (j := 0) (by omega) h
  rw [this, readAt_end]
  omega

set_option maxHeartbeats 2000000 in
theorem l2Decode (A : Option Addr) (c : Nat) (l : List UInt8) (w : World) (ha : Rd eB w w.heap.size A l) (hn : l.length = 7) :
    Calls Tryz.prog 104 #[.slice A 7 c] w fun e w' => RetS (unpM l) w e w' := by
  obtain ⟨g, o, x, rfl, hg, hx, cx⟩ := ha.byte (k := 0) (by omega)
  have cx0 : w.cell? ⟨g, o, none⟩ = some (.int .u8 (x.toNat : Int)) := by simpa using cx
  have Hu := Lib.hid (show unpM l = ((x.toNat : Int), ((readAt l 1 2 0 : Nat) : Int), ((readAt l 3 2 0 : Nat) : Int), ((readAt l 5 2 0 : Nat) : Int) - 1000) by rw [unpM, read_one hx])
  have hxb : x.toNat < 256 := x.toNat_lt
  have b3 : readAt l 5 2 0 < 4294967296 := readAt_lt l 5 2 0 (by omega)
  have R1 := fun W (hW : Below w.heap.size w W) => l1Read (some ⟨g, o, none⟩) 7 c 1 2 l W (ha.lift hW) hn (by omega) (by omega) (by unfold maxLen; omega)
  have R2 := fun W (hW : Below w.heap.size w W) => l1Read (some ⟨g, o, none⟩) 7 c 3 2 l W (ha.lift hW) hn (by omega) (by omega) (by unfold maxLen; omega)
  have R3 := fun W (hW : Below w.heap.size w W) => l1Read (some ⟨g, o, none⟩) 7 c 5 2 l W (ha.lift hW) hn (by omega) (by omega) (by unfold maxLen; omega)
  rw [Hu.out]
  generalize readAt l 1 2 0 = v1 at *
  generalize readAt l 3 2 0 = v2 at *
  generalize readAt l 5 2 0 = v3 at *
  clear hn hx cx Hu ha
  generalize x.toNat = x0 at *
  have r0 := At.new w 25 #[.int .i64 0, .int .i64 0, .int .i64 0, .int .i64 0]
  have hB0 : Below w.heap.size w ((w.alloc (.cells #[.int .i64 0, .int .i64 0, .int .i64 0, .int .i64 0] 25)).drew) := ((Below.refl _ _).alloc (Nat.le_refl _) _).drew
  have hw0 : IntKind.i64.wrap (x0 : Int) = (x0 : Int) := IntWalk.i64_in _ (by omega)
  have hw3 : IntKind.i64.wrap ((v3 : Int) - 1000) = (v3 : Int) - 1000 := IntWalk.i64_in _ (by omega)
  have p7 : (0 : Int) < 7 := by omega
  go_enter Tryz.func104, Tryz.ntmps104
  go_wp2
  refine wp_region_mix [(0, false), (1, false), (2, false), (3, false), (4, false), (6, false), (8, false), (5, true), (7, true), (9, true), (10, false), (11, false), (12, true)] (fun u => u.cell? ⟨g, o, none⟩ = some (.int .u8 (x0 : Int))) (by kernel_rfl) (by kernel_rfl) (fun _ _ _ _ _ h => h) (by go_simp) ?_
  simp only [mixOps, List.map_cons, List.map_nil, List.getElem?_cons_succ, List.getElem?_cons_zero, Option.getD_some]
  repeat (first
    | (refine mix_skip (by rfl) ?_
       (try simp only [Act.put, List.setIfInBounds_toArray, List.set_cons_zero, List.set_cons_succ]))
    | (refine mix_pure (v := ?_) (by rfl) (fun u hu => ?_) ?_
       rotate_left
       · (try dsimp only at hu)
         go_simp
         (with_reducible rfl)
       (try simp only [Act.put, List.setIfInBounds_toArray, List.set_cons_zero, List.set_cons_succ])))
  refine mix_call (by rfl) (fun K hK => ?_)
  go_simp
  refine (R1 _ hB0).mono ?_
  rintro e w1 ⟨rfl, rfl⟩
  refine hK _ _ _ (fun _ h => h) (by go_simp) ?_
  (try simp only [Act.put, List.setIfInBounds_toArray, List.set_cons_zero, List.set_cons_succ])
  refine mix_call (by rfl) (fun K hK => ?_)
  go_simp
  refine (R2 _ hB0).mono ?_
  rintro e w1 ⟨rfl, rfl⟩
  refine hK _ _ _ (fun _ h => h) (by go_simp) ?_
  (try simp only [Act.put, List.setIfInBounds_toArray, List.set_cons_zero, List.set_cons_succ])
  refine mix_call (by rfl) (fun K hK => ?_)
  go_simp
  refine (R3 _ hB0).mono ?_
  rintro e w1 ⟨rfl, rfl⟩
  refine hK _ _ _ (fun _ h => h) (by go_simp) ?_
  (try simp only [Act.put, List.setIfInBounds_toArray, List.set_cons_zero, List.set_cons_succ])
  repeat (first
    | (refine mix_pure (v := ?_) (by rfl) (fun u hu => ?_) ?_
       rotate_left
       · go_simp
         (with_reducible rfl)
       (try simp only [Act.put, List.setIfInBounds_toArray, List.set_cons_zero, List.set_cons_succ])))
  refine mix_call (by rfl) (fun K hK => ?_)
  go_simp
  refine hK _ _ _ (fun _ h => h) (by go_simp) ?_
  (try simp only [Act.put, List.setIfInBounds_toArray, List.set_cons_zero, List.set_cons_succ])
  refine mix_nil ?_
  go_wp2
  refine bodyPost_ret (v := .agg #[.int .i64 x0, .int .i64 v1, .int .i64 v2, .int .i64 ((v3 : Int) - 1000)]) (by simp [results, Tryz.results104, go_sem]) rfl ?_
  exact ⟨rfl, ((Below.refl _ _).alloc (Nat.le_refl _) _).drew⟩

theorem decodeM_len {l : List UInt8} (h : l.length ≠ 7) : decodeM l = (2, (0, 0, 0, 0)) := if_neg h
theorem decodeM_no {l : List UInt8} {x : Smp} (h : l.length = 7) (hx : unpM l = x) (hf : faultM x = 3) : decodeM l = (5, (0, 0, 0, 0)) := by
  unfold decodeM
  rw [if_pos h, hx, hf]
  rfl
theorem decodeM_yes {l : List UInt8} {x : Smp} (h : l.length = 7) (hx : unpM l = x) (hf : faultM x = 0) : decodeM l = (0, x) := by
  unfold decodeM
  rw [if_pos h, hx, hf]
  rfl

end Go.Proofs.YtmaillakhhdkfaaGreatDoor
/-
  A sample out of its bytes: the program's.
-/
namespace Go.Proofs.YtmaillakhhdkfaaGreatDoor
set_option maxRecDepth 20000
open Go.RowKit
set_option linter.unusedSimpArgs false

theorem eqSample_same (a0 a1 a2 a3 : Int) (w : World) :
    Calls Tryz.prog 146 #[.agg #[.int .i64 a0, .int .i64 a1, .int .i64 a2, .int .i64 a3], .agg #[.int .i64 a0, .int .i64 a1, .int .i64 a2, .int .i64 a3]] w fun e w' => e = .returned (.bool true) ∧ Below w.heap.size w w' := by
  go_enter Tryz.func146, Tryz.ntmps146
  go_wp2
  go_ret
  exact ⟨rfl, ((Below.refl _ _).alloc (Nat.le_refl _) _).alloc (by simp) _⟩

theorem sampleOf (a0 a1 a2 a3 : Int) (w : World) :
    Calls Tryz.prog 157 #[.agg #[.int .i64 a0, .int .i64 a1, .int .i64 a2, .int .i64 a3]] w fun e w' => e = .returned (.agg #[.int .i64 a0, .int .i64 a1, .int .i64 a2, .int .i64 a3]) ∧ Below w.heap.size w w' := by
  go_enter Tryz.func157, Tryz.ntmps157
  go_wp2
  refine bodyPost_ret (v := .agg #[.int .i64 a0, .int .i64 a1, .int .i64 a2, .int .i64 a3]) (by simp [results, Tryz.results157, go_sem]) rfl ?_
  exact ⟨rfl, ((Below.refl _ _).alloc (Nat.le_refl _) _).alloc (by simp) _⟩

theorem fldI1 (a b : Int) (u : World) : (Instr.field 131 (.agg #[.int .i64 a, .int .i64 b]) 1).run Tryz.prog u = .ok (.int .i64 b) u := by kernel_rfl

/-- The bytes of an array's block read as a list. -/
theorem rd_array {w : World} {g : Nat} {t : TypeId} {cs : Array Value} {l : List UInt8} (h : At w g t cs) (hc : cs.toList = eB.row l) : Rd eB w w.heap.size (some ⟨g, 0, none⟩) l := fun _ => by
  refine ⟨g, 0, rfl, h.lt, fun k j a u hk hu => ?_⟩
  have hj : j < eB.size := by rw [← okB.len a]; exact getElem?_some_lt hu
  rw [h.cell, Nat.zero_add, ← Array.getElem?_toList, hc, okB.row_at l k j a hk hj, hu]

theorem reads {w : World} {A : Option Addr} {l : List UInt8} (p s : Nat) (ha : Rd eB w w.heap.size A l) (hn : l.length = 7) (hs : 1 ≤ s) (hs2 : s ≤ 4) (hp : p + s ≤ 7) :
    Calls Tryz.prog 87 #[.slice A 7 7, .int .i64 p, .int .i64 s] w fun e w' => e = .returned (.agg #[.int .i64 0, .int .i64 ((readAt l p s 0 : Nat) : Int)]) ∧ Below w.heap.size w w' := by
  have h := implReadWord A 7 7 l p s w ha hn (by unfold maxLen; omega)
  rw [readM_nat ⟨hs, hs2, by omega⟩] at h
  exact h

def numRow (v0 v1 v2 v3 : Nat) : Nat → Array Value
  | 0 => #[.int .i64 0, .int .i64 0, .int .i64 0, .int .i64 0]
  | 1 => #[.int .i64 (v0 : Int), .int .i64 0, .int .i64 0, .int .i64 0]
  | 2 => #[.int .i64 (v0 : Int), .int .i64 (v1 : Int), .int .i64 0, .int .i64 0]
  | 3 => #[.int .i64 (v0 : Int), .int .i64 (v1 : Int), .int .i64 (v2 : Int), .int .i64 0]
  | _ => #[.int .i64 (v0 : Int), .int .i64 (v1 : Int), .int .i64 (v2 : Int), .int .i64 ((v3 : Int) - 1000)]

def UnpRel (w : World) (gb gR gN : Nat) (box : Array Value) (v0 v1 v2 v3 : Nat) (i : Value) (wr : World) : Prop :=
  ∃ k : Nat, k ≤ 4 ∧ i = .int .i64 k ∧ At wr gb 177 box ∧ At wr gR 25 #[.int .i64 0, .int .i64 0, .int .i64 0, .int .i64 0] ∧ At wr gN 151 (numRow v0 v1 v2 v3 k) ∧ Below w.heap.size w wr

set_option maxHeartbeats 4000000 in
theorem unpackSample (x0 x1 x2 x3 x4 x5 x6 : UInt8) (w : World) (hF : Flds w) :
    Calls Tryz.prog 148 #[.agg #[.int .u8 (x0.toNat : Int), .int .u8 (x1.toNat : Int), .int .u8 (x2.toNat : Int), .int .u8 (x3.toNat : Int), .int .u8 (x4.toNat : Int), .int .u8 (x5.toNat : Int), .int .u8 (x6.toNat : Int)]] w fun e w' => RetS (unpM [x0, x1, x2, x3, x4, x5, x6]) w e w' := by
  obtain ⟨L, hL⟩ : ∃ L : List UInt8, L = [x0, x1, x2, x3, x4, x5, x6] := ⟨_, rfl⟩
  have hLn : L.length = 7 := by rw [hL]; rfl
  have hLr := Lib.hid (show (#[.int .u8 (x0.toNat : Int), .int .u8 (x1.toNat : Int), .int .u8 (x2.toNat : Int), .int .u8 (x3.toNat : Int), .int .u8 (x4.toNat : Int), .int .u8 (x5.toNat : Int), .int .u8 (x6.toNat : Int)] : Array Value).toList = eB.row L by rw [hL]; rfl)
  rw [← hL]
  have hb0 : readAt L 0 1 0 < 4294967296 := readAt_lt L 0 1 0 (by omega)
  have hb1 : readAt L 1 2 0 < 4294967296 := readAt_lt L 1 2 0 (by omega)
  have hb2 : readAt L 3 2 0 < 4294967296 := readAt_lt L 3 2 0 (by omega)
  have hb3 : readAt L 5 2 0 < 4294967296 := readAt_lt L 5 2 0 (by omega)
  have R0 := fun W A (h : Rd eB W W.heap.size A L) => reads 0 1 h hLn (by omega) (by omega) (by omega)
  have R1 := fun W A (h : Rd eB W W.heap.size A L) => reads 1 2 h hLn (by omega) (by omega) (by omega)
  have R2 := fun W A (h : Rd eB W W.heap.size A L) => reads 3 2 h hLn (by omega) (by omega) (by omega)
  have R3 := fun W A (h : Rd eB W W.heap.size A L) => reads 5 2 h hLn (by omega) (by omega) (by omega)
  unfold unpM
  generalize readAt L 0 1 0 = v0 at *
  generalize readAt L 1 2 0 = v1 at *
  generalize readAt L 3 2 0 = v2 at *
  generalize readAt L 5 2 0 = v3 at *
  clear hL
  obtain ⟨box, hbox⟩ : ∃ box : Array Value, box = #[.int .u8 (x0.toNat : Int), .int .u8 (x1.toNat : Int), .int .u8 (x2.toNat : Int), .int .u8 (x3.toNat : Int), .int .u8 (x4.toNat : Int), .int .u8 (x5.toNat : Int), .int .u8 (x6.toNat : Int)] := ⟨_, rfl⟩
  have HR := Lib.hid (show ∀ W g, At W g 177 box → Rd eB W W.heap.size (some ⟨g, 0, none⟩) L from fun W g h => rd_array h (by rw [hbox]; exact hLr.out))
  have Hp0 := At.new w 177 #[.int .u8 (x0.toNat : Int), .int .u8 (x1.toNat : Int), .int .u8 (x2.toNat : Int), .int .u8 (x3.toNat : Int), .int .u8 (x4.toNat : Int), .int .u8 (x5.toNat : Int), .int .u8 (x6.toNat : Int)]
  have hS0 : (w.alloc (.cells #[.int .u8 (x0.toNat : Int), .int .u8 (x1.toNat : Int), .int .u8 (x2.toNat : Int), .int .u8 (x3.toNat : Int), .int .u8 (x4.toNat : Int), .int .u8 (x5.toNat : Int), .int .u8 (x6.toNat : Int)] 177)).heap.size = w.heap.size + 1 := by simp
  have hB0 : Below w.heap.size w (w.alloc (.cells #[.int .u8 (x0.toNat : Int), .int .u8 (x1.toNat : Int), .int .u8 (x2.toNat : Int), .int .u8 (x3.toNat : Int), .int .u8 (x4.toNat : Int), .int .u8 (x5.toNat : Int), .int .u8 (x6.toNat : Int)] 177)) := (Below.refl _ _).alloc (Nat.le_refl _) _
  have Hr0 := At.new (w.alloc (.cells #[.int .u8 (x0.toNat : Int), .int .u8 (x1.toNat : Int), .int .u8 (x2.toNat : Int), .int .u8 (x3.toNat : Int), .int .u8 (x4.toNat : Int), .int .u8 (x5.toNat : Int), .int .u8 (x6.toNat : Int)] 177)) 25 #[.int .i64 0, .int .i64 0, .int .i64 0, .int .i64 0]
  rw [hS0] at Hr0
  have hB1 := hB0.alloc hB0.size (.cells #[.int .i64 0, .int .i64 0, .int .i64 0, .int .i64 0] 25)
  have Hp1 := Hp0.alloc (.cells #[.int .i64 0, .int .i64 0, .int .i64 0, .int .i64 0] 25)
  have Hn2 := At.new ((w.alloc (.cells #[.int .u8 (x0.toNat : Int), .int .u8 (x1.toNat : Int), .int .u8 (x2.toNat : Int), .int .u8 (x3.toNat : Int), .int .u8 (x4.toNat : Int), .int .u8 (x5.toNat : Int), .int .u8 (x6.toNat : Int)] 177)).alloc (.cells #[.int .i64 0, .int .i64 0, .int .i64 0, .int .i64 0] 25)) 151 #[.int .i64 0, .int .i64 0, .int .i64 0, .int .i64 0]
  rw [show ((w.alloc (.cells #[.int .u8 (x0.toNat : Int), .int .u8 (x1.toNat : Int), .int .u8 (x2.toNat : Int), .int .u8 (x3.toNat : Int), .int .u8 (x4.toNat : Int), .int .u8 (x5.toNat : Int), .int .u8 (x6.toNat : Int)] 177)).alloc (.cells #[.int .i64 0, .int .i64 0, .int .i64 0, .int .i64 0] 25)).heap.size = w.heap.size + 1 + 1 by simp] at Hn2
  have hB2 := hB1.alloc hB1.size (.cells #[.int .i64 0, .int .i64 0, .int .i64 0, .int .i64 0] 151)
  have Hp2 := Hp1.alloc (.cells #[.int .i64 0, .int .i64 0, .int .i64 0, .int .i64 0] 151)
  have Hr2 := Hr0.alloc (.cells #[.int .i64 0, .int .i64 0, .int .i64 0, .int .i64 0] 151)
  clear Hp0 Hp1 hS0 hLr
  have hz := hF.pos
  obtain ⟨c0, c1, c2, c3, c4, c5, c6, c7, c8, c9, c10, c11, c12, c13, c14, c15⟩ := (hF.below hB2).all
  go_enter Tryz.func148, Tryz.ntmps148
  go_wp2_with fail
  clear c0 c1 c2 c3 c4 c5 c6 c7 c8 c9 c10 c11 c12 c13 c14 c15
  go_loopw [7] (fun i wr => UnpRel w w.heap.size (w.heap.size + 1) (w.heap.size + 1 + 1) box v0 v1 v2 v3 i wr) (fun i _ => 4 - (intOf i).toNat)
  case atStart => exact ⟨0, by omega, rfl, by rw [hbox]; exact Hp2, Hr2, Hn2, hB2⟩
  case round =>
    obtain ⟨k, hk, rfl, hP, hR, hN, hbel⟩ := hrel
    have lP := hP.lt
    have lN := hN.lt
    have lR := hR.lt
    rcases (show k = 0 ∨ k = 1 ∨ k = 2 ∨ k = 3 ∨ k = 4 by omega) with rfl | rfl | rfl | rfl | rfl
    · have hidx := fldAt0 wr
      have hsl := slAll w.heap.size
      have hw1 : IntKind.i64.wrap (v0 : Int) = (v0 : Int) := by exact IntWalk.i64_in _ (by omega)
      obtain ⟨m0, m1, m2, m3, f0, f1, f2, f3⟩ := (show At wr (w.heap.size + 1 + 1) 151 #[.int .i64 0, .int .i64 0, .int .i64 0, .int .i64 0] from hN).four
      go_wp2
      refine wp_region_mix [(0, false), (1, false), (2, false), (3, false), (4, false), (5, false), (6, false), (7, false), (8, true), (9, false), (10, false), (11, false), (12, true)] (fun u => u.cell? ⟨wr.heap.size, 0, none⟩ = some (.int .i64 0) ∧ u.cell? ⟨wr.heap.size, 1, none⟩ = some (.int .i64 1) ∧ u.cell? ⟨wr.heap.size, 2, none⟩ = some (.int .i64 0)) (by kernel_rfl) (by kernel_rfl) (fun _ _ _ _ _ h => h) (by go_simp) ?_
      simp only [mixOps, List.map_cons, List.map_nil, List.getElem?_cons_succ, List.getElem?_cons_zero, Option.getD_some]
      repeat (first
        | (refine mix_skip (by rfl) ?_
           (try simp only [Act.put, List.setIfInBounds_toArray, List.set_cons_zero, List.set_cons_succ]))
        | (refine mix_pure (v := ?_) (by rfl) (fun u hu => ?_) ?_
           rotate_left
           · obtain ⟨_, _, _⟩ := hu
             go_simp
             (with_reducible rfl)
           (try simp only [Act.put, List.setIfInBounds_toArray, List.set_cons_zero, List.set_cons_succ])))
      have F5 := (hbel.alloc hbel.size (.cells #[.int .i64 0, .int .i64 1, .int .i64 0, .int .i64 9] 154)).drew
      have P4 := (hP.alloc (.cells #[.int .i64 0, .int .i64 1, .int .i64 0, .int .i64 9] 154)).drew
      refine mix_call (by rfl) (fun K hK => ?_)
      go_simp
      refine (R0 _ _ (HR.out _ _ P4)).mono ?_
      rintro e w5 ⟨rfl, hb5⟩
      have fI := fldI1 0 (v0 : Int)
      have P5 := P4.below hb5 P4.lt
      have N5 := ((hN.alloc (.cells #[.int .i64 0, .int .i64 1, .int .i64 0, .int .i64 9] 154)).drew).below hb5 (by simp; omega)
      have R5 := ((hR.alloc (.cells #[.int .i64 0, .int .i64 1, .int .i64 0, .int .i64 9] 154)).drew).below hb5 (by simp; omega)
      have hB5 := F5.trans (hb5.mono F5.size)
      refine hK _ _ _ (fun _ h => h) ⟨(hb5.cell (p := ⟨wr.heap.size, 0, none⟩) (by simp)).trans (by go_simp), (hb5.cell (p := ⟨wr.heap.size, 1, none⟩) (by simp)).trans (by go_simp), (hb5.cell (p := ⟨wr.heap.size, 2, none⟩) (by simp)).trans (by go_simp)⟩ ?_
      (try simp only [Act.put, List.setIfInBounds_toArray, List.set_cons_zero, List.set_cons_succ])
      iterate 3
        refine mix_pure (v := ?_) (by rfl) (fun u hu => ?_) ?_
        rotate_left
        · go_simp
          (with_reducible rfl)
        (try simp only [Act.put, List.setIfInBounds_toArray, List.set_cons_zero, List.set_cons_succ])
      clear m0 m1 m2 m3 f0 f1 f2 f3
      obtain ⟨m0, m1, m2, m3, f0, f1, f2, f3⟩ := (show At w5 (w.heap.size + 1 + 1) 151 #[.int .i64 0, .int .i64 0, .int .i64 0, .int .i64 0] from N5).four
      have S0 : w5.cell? ⟨wr.heap.size, 0, none⟩ = some (.int .i64 0) := (hb5.cell (p := ⟨wr.heap.size, 0, none⟩) (by simp)).trans (by go_simp)
      have S1 : w5.cell? ⟨wr.heap.size, 1, none⟩ = some (.int .i64 1) := (hb5.cell (p := ⟨wr.heap.size, 1, none⟩) (by simp)).trans (by go_simp)
      have S2 : w5.cell? ⟨wr.heap.size, 2, none⟩ = some (.int .i64 0) := (hb5.cell (p := ⟨wr.heap.size, 2, none⟩) (by simp)).trans (by go_simp)
      have N6 := N5.set 0 (.int .i64 (v0 : Int))
      have P6 := P5.far (p := ⟨w.heap.size + 1 + 1, 0, none⟩) (by show w.heap.size ≠ w.heap.size + 1 + 1; omega) (.int .i64 (v0 : Int))
      have R6 := R5.far (p := ⟨w.heap.size + 1 + 1, 0, none⟩) (by show w.heap.size + 1 ≠ w.heap.size + 1 + 1; omega) (.int .i64 (v0 : Int))
      have hB6 := hB5.setCell (p := ⟨w.heap.size + 1 + 1, 0, none⟩) (by show w.heap.size ≤ w.heap.size + 1 + 1; omega) (.int .i64 (v0 : Int))
      have hne : wr.heap.size ≠ w.heap.size + 1 + 1 := by omega
      refine mix_call (by rfl) (fun K hK => ?_)
      go_simp
      refine hK _ _ _ (fun _ h => h) ⟨(cell_same (Below.heap_setCell _ _ _ _ hne)).trans S0, (cell_same (Below.heap_setCell _ _ _ _ hne)).trans S1, (cell_same (Below.heap_setCell _ _ _ _ hne)).trans S2⟩ ?_
      (try simp only [Act.put, List.setIfInBounds_toArray, List.set_cons_zero, List.set_cons_succ])
      refine mix_nil ?_
      go_wp2
      exact ⟨⟨0 + 1, by omega, by go_num, P6, R6, N6, hB6⟩, by simp [intOf]⟩
    · have hidx := fldAt1 wr
      have hsl := slAll w.heap.size
      have hw1 : IntKind.i64.wrap (v1 : Int) = (v1 : Int) := by exact IntWalk.i64_in _ (by omega)
      obtain ⟨m0, m1, m2, m3, f0, f1, f2, f3⟩ := (show At wr (w.heap.size + 1 + 1) 151 #[.int .i64 (v0 : Int), .int .i64 0, .int .i64 0, .int .i64 0] from hN).four
      go_wp2
      refine wp_region_mix [(0, false), (1, false), (2, false), (3, false), (4, false), (5, false), (6, false), (7, false), (8, true), (9, false), (10, false), (11, false), (12, true)] (fun u => u.cell? ⟨wr.heap.size, 0, none⟩ = some (.int .i64 1) ∧ u.cell? ⟨wr.heap.size, 1, none⟩ = some (.int .i64 2) ∧ u.cell? ⟨wr.heap.size, 2, none⟩ = some (.int .i64 0)) (by kernel_rfl) (by kernel_rfl) (fun _ _ _ _ _ h => h) (by go_simp) ?_
      simp only [mixOps, List.map_cons, List.map_nil, List.getElem?_cons_succ, List.getElem?_cons_zero, Option.getD_some]
      repeat (first
        | (refine mix_skip (by rfl) ?_
           (try simp only [Act.put, List.setIfInBounds_toArray, List.set_cons_zero, List.set_cons_succ]))
        | (refine mix_pure (v := ?_) (by rfl) (fun u hu => ?_) ?_
           rotate_left
           · obtain ⟨_, _, _⟩ := hu
             go_simp
             (with_reducible rfl)
           (try simp only [Act.put, List.setIfInBounds_toArray, List.set_cons_zero, List.set_cons_succ])))
      have F5 := (hbel.alloc hbel.size (.cells #[.int .i64 1, .int .i64 2, .int .i64 0, .int .i64 999] 154)).drew
      have P4 := (hP.alloc (.cells #[.int .i64 1, .int .i64 2, .int .i64 0, .int .i64 999] 154)).drew
      refine mix_call (by rfl) (fun K hK => ?_)
      go_simp
      refine (R1 _ _ (HR.out _ _ P4)).mono ?_
      rintro e w5 ⟨rfl, hb5⟩
      have fI := fldI1 0 (v1 : Int)
      have P5 := P4.below hb5 P4.lt
      have N5 := ((hN.alloc (.cells #[.int .i64 1, .int .i64 2, .int .i64 0, .int .i64 999] 154)).drew).below hb5 (by simp; omega)
      have R5 := ((hR.alloc (.cells #[.int .i64 1, .int .i64 2, .int .i64 0, .int .i64 999] 154)).drew).below hb5 (by simp; omega)
      have hB5 := F5.trans (hb5.mono F5.size)
      refine hK _ _ _ (fun _ h => h) ⟨(hb5.cell (p := ⟨wr.heap.size, 0, none⟩) (by simp)).trans (by go_simp), (hb5.cell (p := ⟨wr.heap.size, 1, none⟩) (by simp)).trans (by go_simp), (hb5.cell (p := ⟨wr.heap.size, 2, none⟩) (by simp)).trans (by go_simp)⟩ ?_
      (try simp only [Act.put, List.setIfInBounds_toArray, List.set_cons_zero, List.set_cons_succ])
      iterate 3
        refine mix_pure (v := ?_) (by rfl) (fun u hu => ?_) ?_
        rotate_left
        · go_simp
          (with_reducible rfl)
        (try simp only [Act.put, List.setIfInBounds_toArray, List.set_cons_zero, List.set_cons_succ])
      clear m0 m1 m2 m3 f0 f1 f2 f3
      obtain ⟨m0, m1, m2, m3, f0, f1, f2, f3⟩ := (show At w5 (w.heap.size + 1 + 1) 151 #[.int .i64 (v0 : Int), .int .i64 0, .int .i64 0, .int .i64 0] from N5).four
      have S0 : w5.cell? ⟨wr.heap.size, 0, none⟩ = some (.int .i64 1) := (hb5.cell (p := ⟨wr.heap.size, 0, none⟩) (by simp)).trans (by go_simp)
      have S1 : w5.cell? ⟨wr.heap.size, 1, none⟩ = some (.int .i64 2) := (hb5.cell (p := ⟨wr.heap.size, 1, none⟩) (by simp)).trans (by go_simp)
      have S2 : w5.cell? ⟨wr.heap.size, 2, none⟩ = some (.int .i64 0) := (hb5.cell (p := ⟨wr.heap.size, 2, none⟩) (by simp)).trans (by go_simp)
      have N6 := N5.set 1 (.int .i64 (v1 : Int))
      have P6 := P5.far (p := ⟨w.heap.size + 1 + 1, 1, none⟩) (by show w.heap.size ≠ w.heap.size + 1 + 1; omega) (.int .i64 (v1 : Int))
      have R6 := R5.far (p := ⟨w.heap.size + 1 + 1, 1, none⟩) (by show w.heap.size + 1 ≠ w.heap.size + 1 + 1; omega) (.int .i64 (v1 : Int))
      have hB6 := hB5.setCell (p := ⟨w.heap.size + 1 + 1, 1, none⟩) (by show w.heap.size ≤ w.heap.size + 1 + 1; omega) (.int .i64 (v1 : Int))
      have hne : wr.heap.size ≠ w.heap.size + 1 + 1 := by omega
      refine mix_call (by rfl) (fun K hK => ?_)
      go_simp
      refine hK _ _ _ (fun _ h => h) ⟨(cell_same (Below.heap_setCell _ _ _ _ hne)).trans S0, (cell_same (Below.heap_setCell _ _ _ _ hne)).trans S1, (cell_same (Below.heap_setCell _ _ _ _ hne)).trans S2⟩ ?_
      (try simp only [Act.put, List.setIfInBounds_toArray, List.set_cons_zero, List.set_cons_succ])
      refine mix_nil ?_
      go_wp2
      exact ⟨⟨1 + 1, by omega, by go_num, P6, R6, N6, hB6⟩, by simp [intOf]⟩
    · have hidx := fldAt2 wr
      have hsl := slAll w.heap.size
      have hw1 : IntKind.i64.wrap (v2 : Int) = (v2 : Int) := by exact IntWalk.i64_in _ (by omega)
      obtain ⟨m0, m1, m2, m3, f0, f1, f2, f3⟩ := (show At wr (w.heap.size + 1 + 1) 151 #[.int .i64 (v0 : Int), .int .i64 (v1 : Int), .int .i64 0, .int .i64 0] from hN).four
      go_wp2
      refine wp_region_mix [(0, false), (1, false), (2, false), (3, false), (4, false), (5, false), (6, false), (7, false), (8, true), (9, false), (10, false), (11, false), (12, true)] (fun u => u.cell? ⟨wr.heap.size, 0, none⟩ = some (.int .i64 3) ∧ u.cell? ⟨wr.heap.size, 1, none⟩ = some (.int .i64 2) ∧ u.cell? ⟨wr.heap.size, 2, none⟩ = some (.int .i64 0)) (by kernel_rfl) (by kernel_rfl) (fun _ _ _ _ _ h => h) (by go_simp) ?_
      simp only [mixOps, List.map_cons, List.map_nil, List.getElem?_cons_succ, List.getElem?_cons_zero, Option.getD_some]
      repeat (first
        | (refine mix_skip (by rfl) ?_
           (try simp only [Act.put, List.setIfInBounds_toArray, List.set_cons_zero, List.set_cons_succ]))
        | (refine mix_pure (v := ?_) (by rfl) (fun u hu => ?_) ?_
           rotate_left
           · obtain ⟨_, _, _⟩ := hu
             go_simp
             (with_reducible rfl)
           (try simp only [Act.put, List.setIfInBounds_toArray, List.set_cons_zero, List.set_cons_succ])))
      have F5 := (hbel.alloc hbel.size (.cells #[.int .i64 3, .int .i64 2, .int .i64 0, .int .i64 9999] 154)).drew
      have P4 := (hP.alloc (.cells #[.int .i64 3, .int .i64 2, .int .i64 0, .int .i64 9999] 154)).drew
      refine mix_call (by rfl) (fun K hK => ?_)
      go_simp
      refine (R2 _ _ (HR.out _ _ P4)).mono ?_
      rintro e w5 ⟨rfl, hb5⟩
      have fI := fldI1 0 (v2 : Int)
      have P5 := P4.below hb5 P4.lt
      have N5 := ((hN.alloc (.cells #[.int .i64 3, .int .i64 2, .int .i64 0, .int .i64 9999] 154)).drew).below hb5 (by simp; omega)
      have R5 := ((hR.alloc (.cells #[.int .i64 3, .int .i64 2, .int .i64 0, .int .i64 9999] 154)).drew).below hb5 (by simp; omega)
      have hB5 := F5.trans (hb5.mono F5.size)
      refine hK _ _ _ (fun _ h => h) ⟨(hb5.cell (p := ⟨wr.heap.size, 0, none⟩) (by simp)).trans (by go_simp), (hb5.cell (p := ⟨wr.heap.size, 1, none⟩) (by simp)).trans (by go_simp), (hb5.cell (p := ⟨wr.heap.size, 2, none⟩) (by simp)).trans (by go_simp)⟩ ?_
      (try simp only [Act.put, List.setIfInBounds_toArray, List.set_cons_zero, List.set_cons_succ])
      iterate 3
        refine mix_pure (v := ?_) (by rfl) (fun u hu => ?_) ?_
        rotate_left
        · go_simp
          (with_reducible rfl)
        (try simp only [Act.put, List.setIfInBounds_toArray, List.set_cons_zero, List.set_cons_succ])
      clear m0 m1 m2 m3 f0 f1 f2 f3
      obtain ⟨m0, m1, m2, m3, f0, f1, f2, f3⟩ := (show At w5 (w.heap.size + 1 + 1) 151 #[.int .i64 (v0 : Int), .int .i64 (v1 : Int), .int .i64 0, .int .i64 0] from N5).four
      have S0 : w5.cell? ⟨wr.heap.size, 0, none⟩ = some (.int .i64 3) := (hb5.cell (p := ⟨wr.heap.size, 0, none⟩) (by simp)).trans (by go_simp)
      have S1 : w5.cell? ⟨wr.heap.size, 1, none⟩ = some (.int .i64 2) := (hb5.cell (p := ⟨wr.heap.size, 1, none⟩) (by simp)).trans (by go_simp)
      have S2 : w5.cell? ⟨wr.heap.size, 2, none⟩ = some (.int .i64 0) := (hb5.cell (p := ⟨wr.heap.size, 2, none⟩) (by simp)).trans (by go_simp)
      have N6 := N5.set 2 (.int .i64 (v2 : Int))
      have P6 := P5.far (p := ⟨w.heap.size + 1 + 1, 2, none⟩) (by show w.heap.size ≠ w.heap.size + 1 + 1; omega) (.int .i64 (v2 : Int))
      have R6 := R5.far (p := ⟨w.heap.size + 1 + 1, 2, none⟩) (by show w.heap.size + 1 ≠ w.heap.size + 1 + 1; omega) (.int .i64 (v2 : Int))
      have hB6 := hB5.setCell (p := ⟨w.heap.size + 1 + 1, 2, none⟩) (by show w.heap.size ≤ w.heap.size + 1 + 1; omega) (.int .i64 (v2 : Int))
      have hne : wr.heap.size ≠ w.heap.size + 1 + 1 := by omega
      refine mix_call (by rfl) (fun K hK => ?_)
      go_simp
      refine hK _ _ _ (fun _ h => h) ⟨(cell_same (Below.heap_setCell _ _ _ _ hne)).trans S0, (cell_same (Below.heap_setCell _ _ _ _ hne)).trans S1, (cell_same (Below.heap_setCell _ _ _ _ hne)).trans S2⟩ ?_
      (try simp only [Act.put, List.setIfInBounds_toArray, List.set_cons_zero, List.set_cons_succ])
      refine mix_nil ?_
      go_wp2
      exact ⟨⟨2 + 1, by omega, by go_num, P6, R6, N6, hB6⟩, by simp [intOf]⟩
    · have hidx := fldAt3 wr
      have hsl := slAll w.heap.size
      have hw1 : IntKind.i64.wrap ((v3 : Int) - 1000) = ((v3 : Int) - 1000) := by exact IntWalk.i64_in _ (by omega)
      obtain ⟨m0, m1, m2, m3, f0, f1, f2, f3⟩ := (show At wr (w.heap.size + 1 + 1) 151 #[.int .i64 (v0 : Int), .int .i64 (v1 : Int), .int .i64 (v2 : Int), .int .i64 0] from hN).four
      go_wp2
      refine wp_region_mix [(0, false), (1, false), (2, false), (3, false), (4, false), (5, false), (6, false), (7, false), (8, true), (9, false), (10, false), (11, false), (12, true)] (fun u => u.cell? ⟨wr.heap.size, 0, none⟩ = some (.int .i64 5) ∧ u.cell? ⟨wr.heap.size, 1, none⟩ = some (.int .i64 2) ∧ u.cell? ⟨wr.heap.size, 2, none⟩ = some (.int .i64 (-1000))) (by kernel_rfl) (by kernel_rfl) (fun _ _ _ _ _ h => h) (by go_simp) ?_
      simp only [mixOps, List.map_cons, List.map_nil, List.getElem?_cons_succ, List.getElem?_cons_zero, Option.getD_some]
      repeat (first
        | (refine mix_skip (by rfl) ?_
           (try simp only [Act.put, List.setIfInBounds_toArray, List.set_cons_zero, List.set_cons_succ]))
        | (refine mix_pure (v := ?_) (by rfl) (fun u hu => ?_) ?_
           rotate_left
           · obtain ⟨_, _, _⟩ := hu
             go_simp
             (with_reducible rfl)
           (try simp only [Act.put, List.setIfInBounds_toArray, List.set_cons_zero, List.set_cons_succ])))
      have F5 := (hbel.alloc hbel.size (.cells #[.int .i64 5, .int .i64 2, .int .i64 (-1000), .int .i64 1000] 154)).drew
      have P4 := (hP.alloc (.cells #[.int .i64 5, .int .i64 2, .int .i64 (-1000), .int .i64 1000] 154)).drew
      refine mix_call (by rfl) (fun K hK => ?_)
      go_simp
      refine (R3 _ _ (HR.out _ _ P4)).mono ?_
      rintro e w5 ⟨rfl, hb5⟩
      have fI := fldI1 0 (v3 : Int)
      have P5 := P4.below hb5 P4.lt
      have N5 := ((hN.alloc (.cells #[.int .i64 5, .int .i64 2, .int .i64 (-1000), .int .i64 1000] 154)).drew).below hb5 (by simp; omega)
      have R5 := ((hR.alloc (.cells #[.int .i64 5, .int .i64 2, .int .i64 (-1000), .int .i64 1000] 154)).drew).below hb5 (by simp; omega)
      have hB5 := F5.trans (hb5.mono F5.size)
      refine hK _ _ _ (fun _ h => h) ⟨(hb5.cell (p := ⟨wr.heap.size, 0, none⟩) (by simp)).trans (by go_simp), (hb5.cell (p := ⟨wr.heap.size, 1, none⟩) (by simp)).trans (by go_simp), (hb5.cell (p := ⟨wr.heap.size, 2, none⟩) (by simp)).trans (by go_simp)⟩ ?_
      (try simp only [Act.put, List.setIfInBounds_toArray, List.set_cons_zero, List.set_cons_succ])
      iterate 3
        refine mix_pure (v := ?_) (by rfl) (fun u hu => ?_) ?_
        rotate_left
        · go_simp
          (with_reducible rfl)
        (try simp only [Act.put, List.setIfInBounds_toArray, List.set_cons_zero, List.set_cons_succ])
      clear m0 m1 m2 m3 f0 f1 f2 f3
      obtain ⟨m0, m1, m2, m3, f0, f1, f2, f3⟩ := (show At w5 (w.heap.size + 1 + 1) 151 #[.int .i64 (v0 : Int), .int .i64 (v1 : Int), .int .i64 (v2 : Int), .int .i64 0] from N5).four
      have S0 : w5.cell? ⟨wr.heap.size, 0, none⟩ = some (.int .i64 5) := (hb5.cell (p := ⟨wr.heap.size, 0, none⟩) (by simp)).trans (by go_simp)
      have S1 : w5.cell? ⟨wr.heap.size, 1, none⟩ = some (.int .i64 2) := (hb5.cell (p := ⟨wr.heap.size, 1, none⟩) (by simp)).trans (by go_simp)
      have S2 : w5.cell? ⟨wr.heap.size, 2, none⟩ = some (.int .i64 (-1000)) := (hb5.cell (p := ⟨wr.heap.size, 2, none⟩) (by simp)).trans (by go_simp)
      have N6 := N5.set 3 (.int .i64 ((v3 : Int) - 1000))
      have P6 := P5.far (p := ⟨w.heap.size + 1 + 1, 3, none⟩) (by show w.heap.size ≠ w.heap.size + 1 + 1; omega) (.int .i64 ((v3 : Int) - 1000))
      have R6 := R5.far (p := ⟨w.heap.size + 1 + 1, 3, none⟩) (by show w.heap.size + 1 ≠ w.heap.size + 1 + 1; omega) (.int .i64 ((v3 : Int) - 1000))
      have hB6 := hB5.setCell (p := ⟨w.heap.size + 1 + 1, 3, none⟩) (by show w.heap.size ≤ w.heap.size + 1 + 1; omega) (.int .i64 ((v3 : Int) - 1000))
      have hne : wr.heap.size ≠ w.heap.size + 1 + 1 := by omega
      refine mix_call (by rfl) (fun K hK => ?_)
      go_simp
      refine hK _ _ _ (fun _ h => h) ⟨(cell_same (Below.heap_setCell _ _ _ _ hne)).trans S0, (cell_same (Below.heap_setCell _ _ _ _ hne)).trans S1, (cell_same (Below.heap_setCell _ _ _ _ hne)).trans S2⟩ ?_
      (try simp only [Act.put, List.setIfInBounds_toArray, List.set_cons_zero, List.set_cons_succ])
      refine mix_nil ?_
      go_wp2
      exact ⟨⟨3 + 1, by omega, by go_num, P6, R6, N6, hB6⟩, by simp [intOf]⟩
    · obtain ⟨m0, m1, m2, m3, _, _, _, _⟩ := (show At wr (w.heap.size + 1 + 1) 151 #[.int .i64 (v0 : Int), .int .i64 (v1 : Int), .int .i64 (v2 : Int), .int .i64 ((v3 : Int) - 1000)] from hN).four
      go_wp2_with fail
      refine (sampleOf _ _ _ _ _).mono ?_
      rintro e w5 ⟨rfl, hb5⟩
      have R5 := hR.below hb5 lR
      have hB5 := hbel.trans (hb5.mono hbel.size)
      obtain ⟨r0, r1, r2, r3, f0, f1, f2, f3⟩ := R5.four
      go_wp2_with fail
      refine bodyPost_ret (v := .agg #[.int .i64 v0, .int .i64 v1, .int .i64 v2, .int .i64 ((v3 : Int) - 1000)]) (by simp [results, Tryz.results148, go_sem, r0, r1, r2, r3]) rfl ?_
      exact ⟨rfl, (((hB5.setCell (by simp) _).setCell (by simp) _).setCell (by simp) _).setCell (by simp) _⟩

theorem seven_of {l : List UInt8} (h : l.length = 7) : ∃ x0 x1 x2 x3 x4 x5 x6, l = [x0, x1, x2, x3, x4, x5, x6] := by
  match l, h with
  | [x0, x1, x2, x3, x4, x5, x6], _ => exact ⟨x0, x1, x2, x3, x4, x5, x6, rfl⟩

set_option maxHeartbeats 2000000 in
theorem implDecodeSample (A : Option Addr) (n c : Nat) (l : List UInt8) (w : World) (ha : Rd eB w w.heap.size A l) (hn : l.length = n) (hm : n ≤ maxLen) (hF : Flds w) :
    Calls Tryz.prog 131 #[.slice A n c] w fun e w' => RetSR (decodeM l) w e w' := by
  have hB0 : Below w.heap.size w (w.alloc (.cells #[.int .i64 0, .int .i64 0, .int .i64 0, .int .i64 0, .int .i64 0] 179)) := (Below.refl _ _).alloc (Nat.le_refl _) _
  by_cases h7 : n = 7
  · subst h7
    obtain ⟨x0, x1, x2, x3, x4, x5, x6, hl⟩ := seven_of hn
    have hS0 : (w.alloc (.cells #[.int .i64 0, .int .i64 0, .int .i64 0, .int .i64 0, .int .i64 0] 179)).heap.size = w.heap.size + 1 := by simp
    have z0 := (At.new w 179 #[.int .i64 0, .int .i64 0, .int .i64 0, .int .i64 0, .int .i64 0]).alloc (.cells #[.int .u8 0, .int .u8 0, .int .u8 0, .int .u8 0, .int .u8 0, .int .u8 0, .int .u8 0] 177)
    have p0 := At.new (w.alloc (.cells #[.int .i64 0, .int .i64 0, .int .i64 0, .int .i64 0, .int .i64 0] 179)) 177 #[.int .u8 0, .int .u8 0, .int .u8 0, .int .u8 0, .int .u8 0, .int .u8 0, .int .u8 0]
    rw [hS0] at p0
    have hB1 := hB0.alloc hB0.size (.cells #[.int .u8 0, .int .u8 0, .int .u8 0, .int .u8 0, .int .u8 0, .int .u8 0, .int .u8 0] 177)
    obtain ⟨g, o, rfl, hg, _⟩ := ha (by rw [hl]; simp)
    have hsrc := Rd.src (ha.lift hB1)
    obtain ⟨u0, u1, u2, u3, hu⟩ : ∃ u0 u1 u2 u3, unpM l = (u0, u1, u2, u3) := ⟨_, _, _, _, rfl⟩
    have e7 : (((7 : Nat) : Int) != 7) = false := by decide
    have hsl := slAll (w.heap.size + 1)
    have hun := fun W (h : Flds W) => unpackSample x0 x1 x2 x3 x4 x5 x6 W h
    rw [← hl, hu] at hun
    have hcs : (eB.row l).length = 7 := by rw [okB.row_len, hn]; rfl
    have Hsp := Lib.hid (show (splice [.int .u8 0, .int .u8 0, .int .u8 0, .int .u8 0, .int .u8 0, .int .u8 0, .int .u8 0] 0 (eB.row l)).toArray = #[.int .u8 (x0.toNat : Int), .int .u8 (x1.toNat : Int), .int .u8 (x2.toNat : Int), .int .u8 (x3.toNat : Int), .int .u8 (x4.toNat : Int), .int .u8 (x5.toNat : Int), .int .u8 (x6.toNat : Int)] by rw [hl]; rfl)
    rcases faultM_or (u0, u1, u2, u3) with hf | hf
    all_goals
      have hq := implSampleFault u0 u1 u2 u3
      rw [hf] at hq
      first | rw [decodeM_yes hn hu hf] | rw [decodeM_no hn hu hf]
      clear hf hu hn hl ha
      go_enter Tryz.func131, Tryz.ntmps131
      go_wp2_with (refine wpList_copy_splice rfl (.tmp 9) (.tmp 10) 22 22 rfl 5 Tryz.underlying22 u8_size _ _ _ _ _ _ rfl rfl (w.heap.size + 1) 0 [.int .u8 0, .int .u8 0, .int .u8 0, .int .u8 0, .int .u8 0, .int .u8 0, .int .u8 0] 177 p0 (eB.row l) (by rw [hcs]; rfl) (fun _ => ⟨rfl, _, rfl, hsrc⟩) (by rw [hcs]; decide) (okB.row_one _) (w.heap.size + 1) _ (Below.refl _ _) (Nat.le_refl _) ?_
                   intro w5 hP5 hB5
                   have P5 : At w5 (w.heap.size + 1) 177 #[.int .u8 (x0.toNat : Int), .int .u8 (x1.toNat : Int), .int .u8 (x2.toNat : Int), .int .u8 (x3.toNat : Int), .int .u8 (x4.toNat : Int), .int .u8 (x5.toNat : Int), .int .u8 (x6.toNat : Int)] := by rw [← Hsp.out]; exact hP5.out
                   have R5 := z0.below hB5 (Nat.lt_succ_self _)
                   have hBw := hB1.trans (hB5.mono (Nat.le_succ _))
                   have q0 := P5.cell 0
                   have q1 := P5.cell 1
                   have q2 := P5.cell 2
                   have q3 := P5.cell 3
                   have q4 := P5.cell 4
                   have q5 := P5.cell 5
                   have q6 := P5.cell 6)
      refine (hun _ (hF.below hBw)).mono ?_
      rintro e w6 ⟨rfl, hb6⟩
      clear q0 q1 q2 q3 q4 q5 q6
      have hB6 := hBw.trans (hb6.mono hBw.size)
      have R6 := (R5.below hb6 R5.lt).alloc (.cells #[.int .i64 u0, .int .i64 u1, .int .i64 u2, .int .i64 u3] 25)
      have x6' := At.new w6 25 #[.int .i64 u0, .int .i64 u1, .int .i64 u2, .int .i64 u3]
      have hB7 := hB6.alloc hB6.size (.cells #[.int .i64 u0, .int .i64 u1, .int .i64 u2, .int .i64 u3] 25)
      go_wp2_with fail
      refine (hq _ (hF.below hB7)).mono ?_
      rintro e w8 ⟨rfl, hb8⟩
      have hB8 := hB7.trans (hb8.mono hB7.size)
      have R8 := R6.below hb8 R6.lt
      have x8 := x6'.below hb8 x6'.lt
      obtain ⟨r0, r1, r2, r3, r4, f0, f1, f2, f3, f4⟩ := R8.five
      obtain ⟨d0, d1, d2, d3, _, _, _, _⟩ := x8.four
      have hne : ¬ w.heap.size = w6.heap.size := by have := R5.lt; have := hb6.size; omega
      go_wp2_with fail
    · refine bodyPost_ret (v := .agg #[.int .i64 0, .int .i64 u0, .int .i64 u1, .int .i64 u2, .int .i64 u3]) (by simp [results, Tryz.results131, go_sem, r0, r1, r2, r3, r4]) rfl ?_
      exact ⟨rfl, ((((hB8.setCell (by simp) _).setCell (by simp) _).setCell (by simp) _).setCell (by simp) _).setCell (by simp) _⟩
    · refine bodyPost_ret (v := .agg #[.int .i64 5, .int .i64 0, .int .i64 0, .int .i64 0, .int .i64 0]) (by simp [results, Tryz.results131, go_sem, r0, r1, r2, r3, r4]) rfl ?_
      exact ⟨rfl, ((((hB8.setCell (by simp) _).setCell (by simp) _).setCell (by simp) _).setCell (by simp) _).setCell (by simp) _⟩
  · have hne : ((n : Int) != 7) = true := by rw [bne_iff_ne]; omega
    rw [decodeM_len (by omega)]
    clear hn ha
    go_enter Tryz.func131, Tryz.ntmps131
    go_wp2
    refine bodyPost_ret (v := .agg #[.int .i64 2, .int .i64 0, .int .i64 0, .int .i64 0, .int .i64 0]) (by simp [results, Tryz.results131, go_sem]) rfl ?_
    exact ⟨rfl, by repeat (first | exact Below.refl _ _ | refine Below.setCell ?_ (Nat.le_refl _) _ | refine Below.alloc ?_ (Nat.le_refl _) _)⟩
end Go.Proofs.YtmaillakhhdkfaaGreatDoor
