/-
  A sample's bytes: the model's.
-/
import Derived.Test.YteiclanlhnccnaaDoorFork2
import Derived.Test.YteiclanlhnccnaaDoorFault
import Derived.Test.YteiclanlhnccnaaDoorWord
namespace Go.Proofs.YteiclanlhnccnaaDoor
set_option maxRecDepth 20000
open Go.RowKit

/-- The bytes of four numbers, the last one above its low bound. -/
def encL (n0 n1 n2 n3 : Nat) : List UInt8 := [UInt8.ofNat n0] ++ packL n1 2 ++ packL n2 2 ++ packL n3 2
theorem pack1 (n : Nat) : packL n 1 = [UInt8.ofNat n] := by simp [packL]
theorem pack2 (n : Nat) : packL n 2 = [UInt8.ofNat n, UInt8.ofNat (n / 256)] := by simp [packL, List.range_succ]
theorem encL_eq (n0 n1 n2 n3 : Nat) : encL n0 n1 n2 n3 = [UInt8.ofNat n0, UInt8.ofNat n1, UInt8.ofNat (n1 / 256), UInt8.ofNat n2, UInt8.ofNat (n2 / 256), UInt8.ofNat n3, UInt8.ofNat (n3 / 256)] := by
  simp [encL, pack2]

theorem byte_small1 {n : Nat} (h : n < 256) : ((UInt8.ofNat n).toNat : Int) = (n : Int) := by
  rw [UInt8.toNat_ofNat']
  omega
theorem ow_byte (w : World) (b : UInt8) (v : Int) (hv : v = (b.toNat : Int)) : Ow eB ((w.alloc (.cells #[.int .u8 v] 5)).drew) w.heap.size (some ⟨w.heap.size, 0, none⟩) 1 1 [b] :=
  Ow.lit w [b] _ 1 (Nat.le_refl _) (by unfold maxLen; omega) (by simp [Enc.row, eB, hv]) rfl

/-- append as one step of a region: as 'wpList_append_ow'. -/
theorem wp_append_ow {P : Program} {α : Type} {E : Enc α} (hE : EncOk E) (w : World) {o : Oper} {a : Act} {K : Act → World → Prop} {Q : Exit → Act → World → Prop} (s x : Operand) (t : TypeId)
    (ho : o.op = .call { callee := .builtin .append, args := #[s, x], argTypes := #[t, t] })
    (base : Nat) {z : Value} {bytes : Nat} (hinfo : (P.info? E.tid).map (fun i => (i.zero, i.size, i.bytes)) = some (some z, E.size, bytes)) (ht : P.underlying t = some (.slice E.tid)) (hzs : z.cells.size = E.size)
    (A : Option Addr) (n c : Nat) (l : List α) (hs : a.eval s = .slice A n c) (hown : Ow E w base A n c l)
    (X : Option Addr) (m d hi' : Nat) (news : List α) (hx : a.eval x = .slice X m d) (hX : Rd E w hi' X news) (hm : news.length = m)
    (h63 : n + m ≤ maxLen) (hbytes : (n + m) * bytes ≤ 140737488355328) (hbase : base ≤ w.heap.size)
    (h : ∀ A' c' w', Ow E w' base A' (n + m) c' (l ++ news) → w.grownBy w' (A.map (·.block)) → (A'.map (·.block) = A.map (·.block) ∨ A'.map (·.block) = some w.heap.size) → K (a.put o.dst (.slice A' (n + m) c')) w') : o.wp P a w K Q := by
  obtain ⟨i, hi, hz, hsz, hby⟩ := info_parts hinfo
  obtain ⟨A', c', w', hrun, h2, h3, h4⟩ := run_append_ow (P := P) hE w base t o.type i z bytes ht hi hz hsz hby hzs A n c l hown X m d hi' news hX hm h63 hbytes hbase
  unfold Oper.wp execOp
  simp only [ho, resolve, invoke, builtin, Sem.run_bind, Sem.run_pure, Result.andThen_ok, List.map_toArray, List.map_cons, List.map_nil, hs, hx, hrun]
  exact h A' c' w' h2 h3 h4

set_option maxHeartbeats 2000000 in
theorem l2Encode (g n0 n1 n2 n3 : Nat) (w : World) (hx : At w g 27 #[.int .i64 n0, .int .i64 n1, .int .i64 n2, .int .i64 ((n3 : Int) - 1000)]) (h0 : n0 ≤ 9) (h1 : n1 ≤ 999) (h2 : n2 ≤ 9999) (h3 : n3 ≤ 2000) :
    Calls Tryd.prog 57 #[.pointer (some ⟨g, 0, none⟩)] w fun e w' => ∃ A c, e = .returned (.slice A 7 c) ∧ Ow eB w' w.heap.size A 7 c (encL n0 n1 n2 n3) ∧ Below w.heap.size w w' := by
  have hg := hx.lt
  go_enter Tryd.func57, Tryd.ntmps57
  go_wp2
  refine wp_region_fork2 [(0, false), (1, false), (2, false), (3, false), (4, false), (6, false), (7, false), (8, false), (9, false)] [(10, true), (11, true), (12, false)] [(5, true), (11, true), (12, false)] 5 10 (fun u => At u g 27 #[.int .i64 n0, .int .i64 n1, .int .i64 n2, .int .i64 ((n3 : Int) - 1000)]) (by kernel_rfl) (by kernel_rfl) (fun _ _ _ _ _ h => h) hx.drew ?_
  simp only [mixOps, List.map_cons, List.map_nil, List.getElem?_cons_succ, List.getElem?_cons_zero, Option.getD_some]
  repeat (first
    | (refine mixR_skip (by rfl) ?_
       (try simp only [Act.put, List.setIfInBounds_toArray, List.set_cons_zero, List.set_cons_succ]))
    | (refine mixR_pure (v := ?_) (by rfl) (fun u hu => ?_) ?_
       rotate_left
       · obtain ⟨_, _, _, _, _, _, _, _⟩ := hu.four
         go_simp
         (with_reducible rfl)
       (try simp only [Act.put, List.setIfInBounds_toArray, List.set_cons_zero, List.set_cons_succ])))
  have hx0 := hx.drew
  refine mixR_nil ⟨?_, ?_⟩
  · refine mixR_call (by rfl) (fun K hK => ?_)
    go_simp
    have hx1 := (hx.alloc (.cells #[.int .u8 (IntKind.u8.wrap (n0 : Int))] 5)).drew
    refine hK _ _ _ (fun _ h => h) hx1 ?_
    (try simp only [Act.put, List.setIfInBounds_toArray, List.set_cons_zero, List.set_cons_succ])
    have hB1 : Below w.heap.size w ((w.alloc (.cells #[.int .u8 (IntKind.u8.wrap (n0 : Int))] 5)).drew) := ((Below.refl _ _).alloc (Nat.le_refl _) _).drew
    have ob1 := ow_byte w (UInt8.ofNat n0) (IntKind.u8.wrap (n0 : Int)) (by rw [byte_small1 (by omega)]; exact IntWalk.u8_in _ (by omega))
    refine mixR_call (by rfl) (fun K hK => ?_)
    go_simp
    refine (l1Pack n1 2 _ (by omega) (by omega)).mono ?_
    rintro e w2 ⟨A1, c1, rfl, oa2, hb2⟩
    have hB2 := hB1.trans (hb2.mono hB1.size)
    have hx2 := hx1.below hb2 hx1.lt
    have ob2 := ob1.below hb2 (Nat.le_refl _)
    refine hK _ _ _ (fun _ h => h) hx2 ?_
    (try simp only [Act.put, List.setIfInBounds_toArray, List.set_cons_zero, List.set_cons_succ])
    refine mixR_call (by rfl) (fun K hK => ?_)
    refine wp_append_ow okB _ (.tmp 9) (.tmp 14) _ rfl w.heap.size info_u8 Tryd.underlying32 rfl _ 1 1 [UInt8.ofNat n0] rfl ob2 A1 2 c1 _ (packL n1 2) rfl (oa2.rd okB) (packL_len _ _) (by unfold maxLen; omega) (by omega) hB2.size ?_
    intro A2 c2 w3 ow3 hg3 _
    have hB3 : Below w.heap.size w w3 := hB2.grown hg3 hB2.size (fun g hg => (ob2.lt g hg).1)
    have hx3 := hx2.grown hg3 (fun e => by have := (ob2.lt _ e).1; omega)
    refine hK _ _ _ (fun _ h => h) hx3 ?_
    (try simp only [Act.put, List.setIfInBounds_toArray, List.set_cons_zero, List.set_cons_succ])
    refine mixR_pure (v := ?_) (by rfl) (fun u hu => ?_) ?_
    rotate_left
    · go_simp
      (with_reducible rfl)
    (try simp only [Act.put, List.setIfInBounds_toArray, List.set_cons_zero, List.set_cons_succ])
    refine mixR_nil ?_
    clear hx0
    obtain ⟨_, _, y2, y3, _, _, _, _⟩ := hx3.four
    go_wp2_with fail
    refine (l1Pack n2 2 _ (by omega) (by omega)).mono ?_
    rintro e w4 ⟨A4, c4, rfl, o4, hb4⟩
    have hB4 := hB3.trans (hb4.mono hB3.size)
    have hx4 := hx3.below hb4 hx3.lt
    have ow4 := ow3.below hb4 (Nat.le_refl _)
    clear y2 y3
    obtain ⟨_, _, y2, y3, _, _, _, _⟩ := hx4.four
    go_wp2_with (at_builtin; refine wpList_append_ow okB _ rfl (.tmp 16) (.tmp 21) _ rfl w.heap.size info_u8 Tryd.underlying32 rfl A2 (1 + 2) c2 ([UInt8.ofNat n0] ++ packL n1 2) rfl ow4 A4 2 c4 _ (packL n2 2) rfl (o4.rd okB) (packL_len _ _) (by unfold maxLen; omega) (by omega) hB4.size ?_; intro A5 c5 w5 ow5 hg5 _; have hB5 := hB4.grown hg5 hB4.size (fun g hg => (ow4.lt g hg).1); have hx5 := hx4.grown hg5 (fun e => by have := (ow4.lt _ e).1; omega); clear y2 y3; obtain ⟨_, _, y2, y3, _, _, _, _⟩ := hx5.four)
    refine (l1Pack n3 2 _ (by omega) (by omega)).mono ?_
    rintro e w6 ⟨A6, c6, rfl, o6, hb6⟩
    have hB6 := hB5.trans (hb6.mono hB5.size)
    have ow6 : Ow eB w6 w.heap.size A5 5 c5 ([UInt8.ofNat n0] ++ packL n1 2 ++ packL n2 2) := ow5.below hb6 (Nat.le_refl _)
    go_wp2_with (at_builtin; refine wpList_append_ow okB _ rfl (.tmp 23) (.tmp 29) _ rfl w.heap.size info_u8 Tryd.underlying32 rfl A5 5 c5 ([UInt8.ofNat n0] ++ packL n1 2 ++ packL n2 2) rfl ow6 A6 2 c6 _ (packL n3 2) rfl (o6.rd okB) (packL_len _ _) (by unfold maxLen; omega) (by omega) hB6.size ?_; intro A7 c7 w7 ow7 hg7 _; have hB7 := hB6.grown hg7 hB6.size (fun g hg => (ow6.lt g hg).1))
    go_ret
    exact ⟨A7, c7, rfl, ow7, hB7⟩
  · refine mixR_call (by rfl) (fun K hK => ?_)
    go_simp
    have hB0 : Below w.heap.size w w.drew := (Below.refl _ _).drew
    refine (l1Pack n1 2 _ (by omega) (by omega)).mono ?_
    rintro e w1 ⟨A1, c1, rfl, oa1, hb1⟩
    have hB1 := hB0.trans (hb1.mono hB0.size)
    have hx1 := hx0.below hb1 hx0.lt
    refine hK _ _ _ (fun _ h => h) hx1 ?_
    (try simp only [Act.put, List.setIfInBounds_toArray, List.set_cons_zero, List.set_cons_succ])
    refine mixR_call (by rfl) (fun K hK => ?_)
    go_simp
    have hx2 := (hx1.alloc (.cells #[.int .u8 (IntKind.u8.wrap (n0 : Int))] 5))
    have oa2 := oa1.alloc (.cells #[.int .u8 (IntKind.u8.wrap (n0 : Int))] 5)
    have hB2 := hB1.alloc hB1.size (.cells #[.int .u8 (IntKind.u8.wrap (n0 : Int))] 5)
    have ob2 := (ow_byte w1 (UInt8.ofNat n0) (IntKind.u8.wrap (n0 : Int)) (by rw [byte_small1 (by omega)]; exact IntWalk.u8_in _ (by omega))).from_ hB1.size
    refine hK _ _ _ (fun _ h => h) hx2 ?_
    (try simp only [Act.put, List.setIfInBounds_toArray, List.set_cons_zero, List.set_cons_succ])
    refine mixR_call (by rfl) (fun K hK => ?_)
    refine wp_append_ow okB _ (.tmp 9) (.tmp 14) _ rfl w.heap.size info_u8 Tryd.underlying32 rfl _ 1 1 [UInt8.ofNat n0] rfl ob2 A1 2 c1 _ (packL n1 2) rfl (oa2.rd okB) (packL_len _ _) (by unfold maxLen; omega) (by omega) hB2.size ?_
    intro A2 c2 w3 ow3 hg3 _
    have hB3 : Below w.heap.size w w3 := hB2.grown hg3 hB2.size (fun g hg => (ob2.lt g hg).1)
    have hx3 := hx2.grown hg3 (fun e => by have := (ob2.lt _ e).1; omega)
    refine hK _ _ _ (fun _ h => h) hx3 ?_
    (try simp only [Act.put, List.setIfInBounds_toArray, List.set_cons_zero, List.set_cons_succ])
    refine mixR_pure (v := ?_) (by rfl) (fun u hu => ?_) ?_
    rotate_left
    · go_simp
      (with_reducible rfl)
    (try simp only [Act.put, List.setIfInBounds_toArray, List.set_cons_zero, List.set_cons_succ])
    refine mixR_nil ?_
    clear hx0
    obtain ⟨_, _, y2, y3, _, _, _, _⟩ := hx3.four
    go_wp2_with fail
    refine (l1Pack n2 2 _ (by omega) (by omega)).mono ?_
    rintro e w4 ⟨A4, c4, rfl, o4, hb4⟩
    have hB4 := hB3.trans (hb4.mono hB3.size)
    have hx4 := hx3.below hb4 hx3.lt
    have ow4 := ow3.below hb4 (Nat.le_refl _)
    clear y2 y3
    obtain ⟨_, _, y2, y3, _, _, _, _⟩ := hx4.four
    go_wp2_with (at_builtin; refine wpList_append_ow okB _ rfl (.tmp 16) (.tmp 21) _ rfl w.heap.size info_u8 Tryd.underlying32 rfl A2 (1 + 2) c2 ([UInt8.ofNat n0] ++ packL n1 2) rfl ow4 A4 2 c4 _ (packL n2 2) rfl (o4.rd okB) (packL_len _ _) (by unfold maxLen; omega) (by omega) hB4.size ?_; intro A5 c5 w5 ow5 hg5 _; have hB5 := hB4.grown hg5 hB4.size (fun g hg => (ow4.lt g hg).1); have hx5 := hx4.grown hg5 (fun e => by have := (ow4.lt _ e).1; omega); clear y2 y3; obtain ⟨_, _, y2, y3, _, _, _, _⟩ := hx5.four)
    refine (l1Pack n3 2 _ (by omega) (by omega)).mono ?_
    rintro e w6 ⟨A6, c6, rfl, o6, hb6⟩
    have hB6 := hB5.trans (hb6.mono hB5.size)
    have ow6 : Ow eB w6 w.heap.size A5 5 c5 ([UInt8.ofNat n0] ++ packL n1 2 ++ packL n2 2) := ow5.below hb6 (Nat.le_refl _)
    go_wp2_with (at_builtin; refine wpList_append_ow okB _ rfl (.tmp 23) (.tmp 29) _ rfl w.heap.size info_u8 Tryd.underlying32 rfl A5 5 c5 ([UInt8.ofNat n0] ++ packL n1 2 ++ packL n2 2) rfl ow6 A6 2 c6 _ (packL n3 2) rfl (o6.rd okB) (packL_len _ _) (by unfold maxLen; omega) (by omega) hB6.size ?_; intro A7 c7 w7 ow7 hg7 _; have hB7 := hB6.grown hg7 hB6.size (fun g hg => (ow6.lt g hg).1))
    go_ret
    exact ⟨A7, c7, rfl, ow7, hB7⟩

/-- A sample's answer of code and bytes. -/
def encodeM (x : Smp) : Int × List UInt8 := if faultM x = 0 then (0, encL x.1.toNat x.2.1.toNat x.2.2.1.toNat (x.2.2.2 + 1000).toNat) else (3, [])
theorem faultM_in {a0 a1 a2 a3 : Int} (h : faultM (a0, a1, a2, a3) = 0) : (0 ≤ a0 ∧ a0 ≤ 9) ∧ (0 ≤ a1 ∧ a1 ≤ 999) ∧ (0 ≤ a2 ∧ a2 ≤ 9999) ∧ -1000 ≤ a3 ∧ a3 ≤ 1000 := by
  unfold faultM at h
  split at h
  · rename_i hh
    simpa [bndsM, inB] using hh
  · cases h
/-- No fault: the numbers. -/
theorem faultM_nat {a0 a1 a2 a3 : Int} (h : faultM (a0, a1, a2, a3) = 0) : ∃ n0 n1 n2 n3 : Nat, a0 = n0 ∧ a1 = n1 ∧ a2 = n2 ∧ a3 = (n3 : Int) - 1000 ∧ n0 ≤ 9 ∧ n1 ≤ 999 ∧ n2 ≤ 9999 ∧ n3 ≤ 2000 := by
  obtain ⟨h0, h1, h2, h3⟩ := faultM_in h
  exact ⟨a0.toNat, a1.toNat, a2.toNat, (a3 + 1000).toNat, by omega, by omega, by omega, by omega, by omega, by omega, by omega, by omega⟩
theorem encodeM_nat {n0 n1 n2 n3 : Nat} (h : faultM ((n0 : Int), (n1 : Int), (n2 : Int), (n3 : Int) - 1000) = 0) : encodeM ((n0 : Int), (n1 : Int), (n2 : Int), (n3 : Int) - 1000) = (0, encL n0 n1 n2 n3) := by
  unfold encodeM
  rw [if_pos h]
  simp only [Int.toNat_natCast, Int.sub_add_cancel]
theorem encodeM_len (x : Smp) : (encodeM x).2.length ≤ 7 := by
  unfold encodeM
  split
  · rw [encL_eq]
    simp
  · simp
theorem encodeM_no {x : Smp} (h : faultM x = 3) : encodeM x = (3, []) := by
  unfold encodeM
  rw [h]
  rfl

end Go.Proofs.YteiclanlhnccnaaDoor
