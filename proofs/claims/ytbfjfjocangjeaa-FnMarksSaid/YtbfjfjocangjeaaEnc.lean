/-
  A sample's bytes: the model's.
-/
import Derived.Test.YtbfjfjocangjeaaFork2
import Derived.Test.YtbfjfjocangjeaaFault
import Derived.Test.YtbfjfjocangjeaaWord
namespace Go.Proofs.Ytbfjfjocangjeaa
set_option maxRecDepth 20000
open Go.RowKit

/-- The bytes of four numbers, the last one above its low bound. -/
def encL (n0 n1 n2 n3 : Nat) : List UInt8 := [UInt8.ofNat n0] ++ packL n1 2 ++ packL n2 2 ++ packL n3 2
theorem pack1 (n : Nat) : packL n 1 = [UInt8.ofNat n] := by simp [packL]
theorem pack2 (n : Nat) : packL n 2 = [UInt8.ofNat n, UInt8.ofNat (n / 256)] := by simp [packL, List.range_succ]
theorem encL_eq (n0 n1 n2 n3 : Nat) : encL n0 n1 n2 n3 = [UInt8.ofNat n0, UInt8.ofNat n1, UInt8.ofNat (n1 / 256), UInt8.ofNat n2, UInt8.ofNat (n2 / 256), UInt8.ofNat n3, UInt8.ofNat (n3 / 256)] := by
  simp [encL, pack2]

theorem byte_small1 {n : Nat} (h : n < 256) : ((UInt8.ofNat n).toNat : Int) = (n : Int) := by
  rw [UInt8.toNat_ofNat']
  omega
theorem ow_byte (w : World) (b : UInt8) (v : Int) (hv : v = (b.toNat : Int)) : Ow eB ((w.alloc (.cells #[.int .u8 v] 5)).drew) w.heap.size (some ⟨w.heap.size, 0, none⟩) 1 1 [b] :=
  Ow.lit w [b] _ 1 (Nat.le_refl _) (by unfold maxLen; omega) (by simp [Enc.row, eB, hv]) rfl

/-- append as one step of a region: as 'wpList_append_ow'. -/
theorem wp_append_ow {P : Program} {α : Type} {E : Enc α} (hE : EncOk E) (w : World) {o : Oper} {a : Act} {K : Act → World → Prop} {Q : Exit → Act → World → Prop} (s x : Operand) (t : TypeId)
    (ho : o.op = .call { callee := .builtin .append, args := #[s, x], argTypes := #[t, t] })
    (base : Nat) {z : Value} {bytes : Nat} (hinfo : (P.info? E.tid).map (fun i => (i.zero, i.size, i.bytes)) = some (some z, E.size, bytes)) (ht : P.underlying t = some (.slice E.tid)) (hzs : z.cells.size = E.size)
    (A : Option Addr) (n c : Nat) (l : List α) (hs : a.eval s = .slice A n c) (hown : Ow E w base A n c l)
    (X : Option Addr) (m d hi' : Nat) (news : List α) (hx : a.eval x = .slice X m d) (hX : Rd E w hi' X news) (hm : news.length = m)
    (h63 : n + m ≤ maxLen) (hbytes : (n + m) * bytes ≤ 140737488355328) (hbase : base ≤ w.heap.size)
    (h : ∀ A' c' w', Ow E w' base A' (n + m) c' (l ++ news) → w.grownBy w' (A.map (·.block)) → (A'.map (·.block) = A.map (·.block) ∨ A'.map (·.block) = some w.heap.size) → K (a.put o.dst (.slice A' (n + m) c')) w') : o.wp P a w K Q := by
  obtain ⟨i, hi, hz, hsz, hby⟩ := info_parts hinfo
  obtain ⟨A', c', w', hrun, h2, h3, h4⟩ := run_append_ow (P := P) hE w base t o.type i z bytes ht hi hz hsz hby hzs A n c l hown X m d hi' news hX hm h63 hbytes hbase
  unfold Oper.wp execOp
  simp only [ho, resolve, invoke, builtin, Sem.run_bind, Sem.run_pure, Result.andThen_ok, List.map_toArray, List.map_cons, List.map_nil, hs, hx, hrun]
  exact h A' c' w' h2 h3 h4

/-- A sample's answer of code and bytes. -/
def encodeM (x : Smp) : Int × List UInt8 := if faultM x = 0 then (0, encL x.1.toNat x.2.1.toNat x.2.2.1.toNat (x.2.2.2 + 1000).toNat) else (3, [])
theorem faultM_in {a0 a1 a2 a3 : Int} (h : faultM (a0, a1, a2, a3) = 0) : (0 ≤ a0 ∧ a0 ≤ 9) ∧ (0 ≤ a1 ∧ a1 ≤ 999) ∧ (0 ≤ a2 ∧ a2 ≤ 9999) ∧ -1000 ≤ a3 ∧ a3 ≤ 1000 := by
  unfold faultM at h
  split at h
  · rename_i hh
    simpa [bndsM, inB] using hh
  · cases h
/-- No fault: the numbers. -/
theorem faultM_nat {a0 a1 a2 a3 : Int} (h : faultM (a0, a1, a2, a3) = 0) : ∃ n0 n1 n2 n3 : Nat, a0 = n0 ∧ a1 = n1 ∧ a2 = n2 ∧ a3 = (n3 : Int) - 1000 ∧ n0 ≤ 9 ∧ n1 ≤ 999 ∧ n2 ≤ 9999 ∧ n3 ≤ 2000 := by
  obtain ⟨h0, h1, h2, h3⟩ := faultM_in h
  exact ⟨a0.toNat, a1.toNat, a2.toNat, (a3 + 1000).toNat, by omega, by omega, by omega, by omega, by omega, by omega, by omega, by omega⟩
theorem encodeM_nat {n0 n1 n2 n3 : Nat} (h : faultM ((n0 : Int), (n1 : Int), (n2 : Int), (n3 : Int) - 1000) = 0) : encodeM ((n0 : Int), (n1 : Int), (n2 : Int), (n3 : Int) - 1000) = (0, encL n0 n1 n2 n3) := by
  unfold encodeM
  rw [if_pos h]
  simp only [Int.toNat_natCast, Int.sub_add_cancel]
theorem encodeM_len (x : Smp) : (encodeM x).2.length ≤ 7 := by
  unfold encodeM
  split
  · rw [encL_eq]
    simp
  · simp
theorem encodeM_no {x : Smp} (h : faultM x = 3) : encodeM x = (3, []) := by
  unfold encodeM
  rw [h]
  rfl

end Go.Proofs.Ytbfjfjocangjeaa
