/-
  The choice that the bytes make.
-/
import Derived.Test.YtkdfbaiolgndeaaSum
import Derived.IntWalk
namespace Go.Proofs.Ytkdfbaiolgndeaa
open Go.RowKit

/-- A choice out of n, and nothing has turned. -/
def RetAt (n : Int) (w : World) (e : Ending) (w' : World) : Prop :=
  ∃ (r : Int) (d : Nat), e = .returned (.int .i64 r) ∧ (1 ≤ n → 0 ≤ r ∧ r < n) ∧ w' = w.drewN d

theorem lwAt_one (A : Option Addr) (m c : Nat) (l : List UInt8) (i n : Int) (w : World) (_ha : Rd eB w w.heap.size A l) (_hn : l.length = m) (h1 : n ≤ 1) :
    Calls Try.prog 29 #[.slice A m c, .int .i64 i, .int .i64 n] w (RetAt n w) := by
  go_enter Try.func29, Try.ntmps29
  go_wp2
  go_ret
  exact ⟨0, 0, rfl, fun _ => ⟨by omega, by omega⟩, rfl⟩

theorem lwAt_zero (A : Option Addr) (m c : Nat) (l : List UInt8) (i n : Int) (w : World) (_ha : Rd eB w w.heap.size A l) (_hn : l.length = m) (h1 : 1 < n) (h0 : m = 0) (hi : 0 ≤ i) (hi' : i ≤ 100) :
    Calls Try.prog 29 #[.slice A m c, .int .i64 i, .int .i64 n] w (RetAt n w) := by
  subst h0
  have m0 : 0 ≤ (i * 7) % n := Int.emod_nonneg _ (by omega)
  have m1 : (i * 7) % n < n := Int.emod_lt_of_pos _ (by omega)
  go_enter Try.func29, Try.ntmps29
  go_wp2
  go_ret
  exact ⟨_, 0, rfl, fun _ => ⟨m0, m1⟩, rfl⟩

set_option maxHeartbeats 800000 in
theorem lwAt_small (A : Option Addr) (m c k : Nat) (l : List UInt8) (n : Int) (w : World) (ha : Rd eB w w.heap.size A l) (hn : l.length = m) (h1 : 1 < n) (h2 : n ≤ 200) (h0 : m ≠ 0) (hm : m ≤ 1048576) (hk : k ≤ 100) :
    Calls Try.prog 29 #[.slice A m c, .int .i64 (k : Nat), .int .i64 n] w (RetAt n w) := by
  have hlt : k % m < m := Nat.mod_lt _ (by omega)
  obtain ⟨g', o', x, rfl, hg', _, ca⟩ := ha.byte (k := k % m) (by rw [hn]; exact hlt)
  have hx := x.toNat_lt
  have hm1 : (1 : Int) ≤ (m : Int) := by omega
  have i0 : 0 ≤ (k : Int) % (m : Int) := Int.emod_nonneg _ (by omega)
  have i1 : (k : Int) % (m : Int) < (m : Int) := Int.emod_lt_of_pos _ (by omega)
  have q0 : 0 ≤ (k : Int) / (m : Int) := Int.ediv_nonneg (by omega) (by omega)
  have q1 : (k : Int) / (m : Int) ≤ (k : Int) := Int.ediv_le_self _ (by omega)
  have m0 : 0 ≤ ((x.toNat : Int) + (k : Int) / (m : Int) * 3) % n := Int.emod_nonneg _ (by omega)
  have m1 : ((x.toNat : Int) + (k : Int) / (m : Int) * 3) % n < n := Int.emod_lt_of_pos _ (by omega)
  go_enter Try.func29, Try.ntmps29
  go_wp2
  go_quiet (fail)
  go_wp2
  go_ret
  exact ⟨_, _, rfl, fun _ => ⟨m0, m1⟩, rfl⟩

theorem lwAt (A : Option Addr) (m c : Nat) (l : List UInt8) (i n : Int) (w : World) (ha : Rd eB w w.heap.size A l) (hn : l.length = m) (h2 : n ≤ 200) (hm : m ≤ 1048576) (hi : 0 ≤ i) (hi' : i ≤ 100) :
    Calls Try.prog 29 #[.slice A m c, .int .i64 i, .int .i64 n] w (RetAt n w) := by
  by_cases h1 : n ≤ 1
  · exact lwAt_one A m c l i n w ha hn h1
  · by_cases h0 : m = 0
    · exact lwAt_zero A m c l i n w ha hn (by omega) h0 hi hi'
    · obtain ⟨k, rfl⟩ := Int.eq_ofNat_of_zero_le hi
      exact lwAt_small A m c k l n w ha hn (by omega) h2 h0 hm (by omega)
end Go.Proofs.Ytkdfbaiolgndeaa
