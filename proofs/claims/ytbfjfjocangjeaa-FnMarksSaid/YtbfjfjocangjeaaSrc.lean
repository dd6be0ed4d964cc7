/-
  The bytes of a code, read one by one: what a draw answers is within its bounds, and only the reader's own block turns.
-/
import Derived.Test.YtbfjfjocangjeaaSum
import Derived.IntWalk
namespace Go.Proofs.Ytbfjfjocangjeaa
set_option maxRecDepth 20000
open Go.RowKit

/-- A reader of the bytes 'l' at the place 'k'; its bytes lie below 'base', its block from there on. -/
structure Src (w : World) (base g : Nat) (A : Option Addr) (n c k : Nat) (l : List UInt8) : Prop where
  at_ : At w g 129 #[.slice A n c, .int .i64 (k : Nat)]
  rd : Rd eB w base A l
  len : l.length = n
  big : n ≤ 1048576
  low : base ≤ g

/-- A number of a draw. -/
def RetDraw (base g : Nat) (A : Option Addr) (m c k : Nat) (l : List UInt8) (n : Int) (w : World) (e : Ending) (w' : World) : Prop :=
  ∃ r : Int, e = .returned (.int .i64 r) ∧ (1 ≤ n → 0 ≤ r ∧ r < n) ∧ (n < 1 → r = 0) ∧ Src w' base g A m c (k + 1) l ∧ Within g (g + 1) w w' ∧ w'.heap.size = w.heap.size

theorem src_next {w : World} {base g n c k : Nat} {A : Option Addr} {l : List UInt8} (h : Src w base g A n c k l) (v : Int) (hv : v = ((k + 1 : Nat) : Int)) (d : Nat) :
    Src ((w.setCell ⟨g, 1, none⟩ (.int .i64 v)).drewN d) base g A n c (k + 1) l ∧ Within g (g + 1) w ((w.setCell ⟨g, 1, none⟩ (.int .i64 v)).drewN d) ∧ ((w.setCell ⟨g, 1, none⟩ (.int .i64 v)).drewN d).heap.size = w.heap.size := by
  subst hv
  refine ⟨⟨by simpa using (h.at_.set 1 _).drewN d, ?_, h.len, h.big, h.low⟩, ?_, by simp [World.setCell, World.drewN]⟩
  · exact (h.rd.keep fun p hp => World.cell?_setCell_other w _ _ _ (by intro e; subst e; have := h.low; simp at hp; omega)).drewN d
  · have := grown_setCell w ⟨g, 1, none⟩ (.int .i64 ((k + 1 : Nat) : Int))
    have h2 := within_of (lo := g) (hi := g + 1) this (fun x e => by simp at e; omega)
    exact ⟨h2.os, h2.tape, h2.output, h2.size, h2.block⟩

theorem l1Next_none (w : World) (base g : Nat) (A : Option Addr) (m c k : Nat) (l : List UInt8) (n : Int) (h : Src w base g A m c k l) (hk : k < 1073741824) (hn : n < 1) :
    Calls Try.prog 81 #[.pointer (some ⟨g, 0, none⟩), .int .i64 n] w (RetDraw base g A m c k l n w) := by
  obtain ⟨r0, r1, f0, f1⟩ := h.at_.two
  go_enter Try.func81, Try.ntmps81
  go_wp2
  go_ret
  exact ⟨0, rfl, fun h => absurd h (by omega), fun _ => rfl, src_next h _ (by omega) 0⟩

set_option maxHeartbeats 800000 in
theorem l1Next_zero (w : World) (base g : Nat) (A : Option Addr) (m c k : Nat) (l : List UInt8) (n : Int) (h : Src w base g A m c k l) (hk : k < 1073741824) (hn : 1 ≤ n) (h0 : m = 0) :
    Calls Try.prog 81 #[.pointer (some ⟨g, 0, none⟩), .int .i64 n] w (RetDraw base g A m c k l n w) := by
  obtain ⟨r0, r1, f0, f1⟩ := h.at_.two
  have h1 := (src_next h ((k : Int) + 1) (by omega) 0).1
  obtain ⟨s0, s1, _, _⟩ := h1.at_.two
  subst h0
  simp only [show ∀ x : World, x.drewN 0 = x from fun x => rfl] at s0 s1
  push_cast at s1
  have m0 : 0 ≤ ((k : Int) * 7) % n := Int.emod_nonneg _ (by omega)
  have m1 : ((k : Int) * 7) % n < n := Int.emod_lt_of_pos _ (by omega)
  go_enter Try.func81, Try.ntmps81
  go_wp2
  go_ret
  exact ⟨_, rfl, fun _ => ⟨m0, m1⟩, fun h => absurd h (by omega), src_next h _ (by omega) 0⟩

set_option maxHeartbeats 800000 in
theorem l1Next_small (w : World) (base g : Nat) (A : Option Addr) (m c k : Nat) (l : List UInt8) (n : Int) (h : Src w base g A m c k l) (hk : k < 1073741824) (hn : 1 ≤ n) (h2 : n ≤ 200) (h0 : m ≠ 0) :
    Calls Try.prog 81 #[.pointer (some ⟨g, 0, none⟩), .int .i64 n] w (RetDraw base g A m c k l n w) := by
  obtain ⟨r0, r1, f0, f1⟩ := h.at_.two
  have h1 := (src_next h ((k : Int) + 1) (by omega) 0).1
  obtain ⟨s0, s1, _, _⟩ := h1.at_.two
  have hlt : k % m < m := Nat.mod_lt _ (by omega)
  obtain ⟨g', o', x, rfl, hg', _, ca⟩ := h1.rd.byte (k := k % m) (by rw [h.len]; exact hlt)
  simp only [show ∀ x : World, x.drewN 0 = x from fun x => rfl] at s0 s1 ca
  push_cast at s1
  have hbig := h.big
  have hx := x.toNat_lt
  have hm1 : (1 : Int) ≤ (m : Int) := by omega
  have i0 : 0 ≤ (k : Int) % (m : Int) := Int.emod_nonneg _ (by omega)
  have i1 : (k : Int) % (m : Int) < (m : Int) := Int.emod_lt_of_pos _ (by omega)
  have q0 : 0 ≤ (k : Int) / (m : Int) := Int.ediv_nonneg (by omega) (by omega)
  have q1 : (k : Int) / (m : Int) ≤ (k : Int) := Int.ediv_le_self _ (by omega)
  have m0 : 0 ≤ ((x.toNat : Int) + (k : Int) / (m : Int) * 37) % n := Int.emod_nonneg _ (by omega)
  have m1 : ((x.toNat : Int) + (k : Int) / (m : Int) * 37) % n < n := Int.emod_lt_of_pos _ (by omega)
  go_enter Try.func81, Try.ntmps81
  go_wp2
  go_quiet (fail)
  go_wp2
  go_ret
  exact ⟨_, rfl, fun _ => ⟨m0, m1⟩, fun h => absurd h (by omega), src_next h _ (by omega) _⟩

set_option maxHeartbeats 1600000 in
theorem l1Next_mid (w : World) (base g : Nat) (A : Option Addr) (m c k : Nat) (l : List UInt8) (n : Int) (h : Src w base g A m c k l) (hk : k < 1073741824) (h2 : 200 < n) (h3 : n ≤ 60000) (h0 : m ≠ 0) :
    Calls Try.prog 81 #[.pointer (some ⟨g, 0, none⟩), .int .i64 n] w (RetDraw base g A m c k l n w) := by
  obtain ⟨r0, r1, f0, f1⟩ := h.at_.two
  have h1 := (src_next h ((k : Int) + 1) (by omega) 0).1
  obtain ⟨s0, s1, _, _⟩ := h1.at_.two
  have hlt : k % m < m := Nat.mod_lt _ (by omega)
  have hlt2 : (k + 1) % m < m := Nat.mod_lt _ (by omega)
  obtain ⟨g', o', x, rfl, hg', _, ca⟩ := h1.rd.byte (k := k % m) (by rw [h.len]; exact hlt)
  obtain ⟨g'', o'', y, e, _, _, cb⟩ := h1.rd.byte (k := (k + 1) % m) (by rw [h.len]; exact hlt2)
  simp only [Option.some.injEq, Addr.mk.injEq, and_true] at e
  obtain ⟨rfl, rfl⟩ := e
  simp only [show ∀ x : World, x.drewN 0 = x from fun x => rfl] at s0 s1 ca cb
  push_cast at s1
  have hbig := h.big
  have hx := x.toNat_lt
  have hy := y.toNat_lt
  have hm1 : (1 : Int) ≤ (m : Int) := by omega
  have i0 : 0 ≤ (k : Int) % (m : Int) := Int.emod_nonneg _ (by omega)
  have i1 : (k : Int) % (m : Int) < (m : Int) := Int.emod_lt_of_pos _ (by omega)
  have j0 : 0 ≤ ((k : Int) + 1) % (m : Int) := Int.emod_nonneg _ (by omega)
  have j1 : ((k : Int) + 1) % (m : Int) < (m : Int) := Int.emod_lt_of_pos _ (by omega)
  have q0 : 0 ≤ (k : Int) / (m : Int) := Int.ediv_nonneg (by omega) (by omega)
  have q1 : (k : Int) / (m : Int) ≤ (k : Int) := Int.ediv_le_self _ (by omega)
  have m0 : 0 ≤ (((x.toNat : Int) + (k : Int) / (m : Int) * 37) * 251 + (y.toNat : Int) * 13 + (k : Int)) % n := Int.emod_nonneg _ (by omega)
  have m1 : (((x.toNat : Int) + (k : Int) / (m : Int) * 37) * 251 + (y.toNat : Int) * 13 + (k : Int)) % n < n := Int.emod_lt_of_pos _ (by omega)
  go_enter Try.func81, Try.ntmps81
  go_wp2
  go_quiet (fail)
  go_wp2
  go_quiet (fail)
  go_wp2
  go_ret
  exact ⟨_, rfl, fun _ => ⟨m0, m1⟩, fun h => absurd h (by omega), src_next h _ (by omega) _⟩

theorem l1Next (w : World) (base g : Nat) (A : Option Addr) (m c k : Nat) (l : List UInt8) (n : Int) (h : Src w base g A m c k l) (hk : k < 1073741824) (h3 : n ≤ 60000) :
    Calls Try.prog 81 #[.pointer (some ⟨g, 0, none⟩), .int .i64 n] w (RetDraw base g A m c k l n w) := by
  by_cases h1 : n < 1
  · exact l1Next_none w base g A m c k l n h hk h1
  · by_cases h0 : m = 0
    · exact l1Next_zero w base g A m c k l n h hk (by omega) h0
    · by_cases h2 : n ≤ 200
      · exact l1Next_small w base g A m c k l n h hk (by omega) h2 h0
      · exact l1Next_mid w base g A m c k l n h hk (by omega) h3 h0

/-- A new reader of a code. -/
theorem l1Source (A : Option Addr) (m c : Nat) (l : List UInt8) (w : World) (ha : Rd eB w w.heap.size A l) (hn : l.length = m) (hm : m ≤ 1048576) :
    Calls Try.prog 61 #[.slice A m c] w fun e w' => e = .returned (.pointer (some ⟨w.heap.size, 0, none⟩)) ∧ Src w' w.heap.size w.heap.size A m c 0 l ∧ Below w.heap.size w w' ∧ w'.heap.size = w.heap.size + 1 := by
  go_enter Try.func61, Try.ntmps61
  go_wp2
  go_ret
  exact ⟨rfl, ⟨At.new _ _ _, ha.alloc (Nat.le_refl _) _, hn, hm, Nat.le_refl _⟩, (Below.refl _ _).alloc (Nat.le_refl _) _, by simp⟩

/-- One chance out of so many. -/
theorem l1Chance (w : World) (base g : Nat) (A : Option Addr) (m c k : Nat) (l : List UInt8) (n : Int) (h : Src w base g A m c k l) (hk : k < 1073741824) (h3 : n ≤ 60000) :
    Calls Try.prog 82 #[.pointer (some ⟨g, 0, none⟩), .int .i64 n] w fun e w' => ∃ b : Bool, e = .returned (.bool b) ∧ Src w' base g A m c (k + 1) l ∧ Within g (g + 1) w w' ∧ w'.heap.size = w.heap.size := by
  go_enter Try.func82, Try.ntmps82
  go_wp2_with (go_at_call 81; refine (l1Next w base g A m c k l n h hk h3).mono ?_; rintro e w1 ⟨r, rfl, _, _, h1⟩)
  go_ret
  exact ⟨_, rfl, h1⟩
end Go.Proofs.Ytbfjfjocangjeaa
