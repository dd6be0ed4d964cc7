/-
  Texts of one proof, joined: each has its own namespace.
-/
import Derived.Test.YtmaillakhhdkfaaGreatDoorBExRecoverDisk9
import Derived.Test.YtmaillakhhdkfaaGreatDoorBExRecoverDisk4
import Derived.Test.YtmaillakhhdkfaaGreatDoorBExRecoverDisk0
import Derived.Test.YtmaillakhhdkfaaGreatDoorBExRecoverDisk1
import Derived.StillTailTactics
import Derived.Test.YtmaillakhhdkfaaGreatDoorBExRecoverDisk2
import Derived.Test.YtmaillakhhdkfaaGreatDoorBExRecoverDisk5
import Derived.Test.YtmaillakhhdkfaaGreatDoorBExRecoverDisk3
import Derived.Test.YtmaillakhhdkfaaGreatDoorBExRecoverDisk6
namespace Go.Proofs.YtmaillakhhdkfaaGreatDoor
set_option maxRecDepth 20000
open Go.RowKit

/-- The body of the frame at the front, if there is one. -/
def firstM (d : List UInt8) : Option (List UInt8) :=
  match d with
  | [] => none
  | b :: r => if 1 ≤ b.toNat ∧ b.toNat ≤ 40 ∧ b.toNat + 2 ≤ r.length ∧ d.take (b.toNat + 3) = frameL (r.take b.toNat) then some (r.take b.toNat) else none
theorem firstM_no {b : UInt8} {r : List UInt8} (h : ¬ (1 ≤ b.toNat ∧ b.toNat ≤ 40 ∧ b.toNat + 2 ≤ r.length ∧ (b :: r).take (b.toNat + 3) = frameL (r.take b.toNat))) : firstM (b :: r) = none := if_neg h
theorem firstM_yes {b : UInt8} {r : List UInt8} (h : 1 ≤ b.toNat ∧ b.toNat ≤ 40 ∧ b.toNat + 2 ≤ r.length ∧ (b :: r).take (b.toNat + 3) = frameL (r.take b.toNat)) : firstM (b :: r) = some (r.take b.toNat) := if_pos h
/-- How many bytes the frame at the front has. -/
def frontM (d : List UInt8) : Nat := match firstM d with | some b => b.length + 3 | none => 0
theorem frontM_no {d : List UInt8} (h : firstM d = none) : frontM d = 0 := by simp [frontM, h]

set_option maxHeartbeats 400000 in
theorem l1Front_nil (A : Option Addr) (c : Nat) (w : World) :
    Calls Tryz.prog 143 #[.slice A 0 c] w fun e w' => e = .returned (.int .i64 0) ∧ Below w.heap.size w w' := by
  go_enter Tryz.func143, Tryz.ntmps143
  go_wp2
  go_ret
  exact ⟨rfl, Below.refl _ _⟩

set_option maxHeartbeats 800000 in
/-- The length is none, or there are not so many bytes. -/
theorem l1Front_len (g o n c : Nat) (x : Nat) (w : World) (hx : x < 256) (cx : w.cell? ⟨g, o, none⟩ = some (.int .u8 (x : Int))) (h0 : 0 < n) (hm : n ≤ 1048576) (h : x < 1 ∨ 40 < x ∨ n < x + 3) :
    Calls Tryz.prog 143 #[.slice (some ⟨g, o, none⟩) n c] w fun e w' => e = .returned (.int .i64 0) ∧ Below w.heap.size w w' := by
  have hne : ((n : Int) == 0) = false := by simp; omega
  have hpos : (0 : Int) < (n : Int) := by omega
  by_cases h1 : x < 1
  · obtain rfl : x = 0 := by omega
    go_enter Tryz.func143, Tryz.ntmps143
    go_wp2
    go_quiet (fail)
    go_wp2
    go_ret
    exact ⟨rfl, bdrewN (Below.refl _ _) _⟩
  by_cases h2 : 40 < x
  · have d1 : decide ((x : Int) < 1) = false := decide_eq_false (by omega)
    have d2 : decide ((40 : Int) < (x : Int)) = true := decide_eq_true (by omega)
    clear h h1
    go_enter Tryz.func143, Tryz.ntmps143
    go_wp2
    go_quiet (fail)
    go_wp2
    go_ret
    exact ⟨rfl, bdrewN (Below.refl _ _) _⟩
  · have h3 : n < x + 3 := by omega
    have d1 : decide ((x : Int) < 1) = false := decide_eq_false (by omega)
    have d2 : decide ((40 : Int) < (x : Int)) = false := decide_eq_false (by omega)
    have d3 : decide ((n : Int) < (x : Int) + 3) = true := decide_eq_true (by omega)
    clear h h1 h2
    go_enter Tryz.func143, Tryz.ntmps143
    go_wp2
    go_quiet (fail)
    go_wp2
    go_ret
    exact ⟨rfl, bdrewN (Below.refl _ _) _⟩

set_option maxHeartbeats 2000000 in
/-- The length is one, and there are as many bytes: the frame's bytes are compared. -/
theorem l1Front_sum (g o n c : Nat) (b : UInt8) (r : List UInt8) (w : World) (hr : Rd eB w w.heap.size (some ⟨g, o, none⟩) (b :: r)) (hn : (b :: r).length = n) (hc : n ≤ c) (hm : n ≤ 1048576) (h1 : 1 ≤ b.toNat) (h2 : b.toNat ≤ 40) (h3 : b.toNat + 3 ≤ n) :
    Calls Tryz.prog 143 #[.slice (some ⟨g, o, none⟩) n c] w fun e w' => e = .returned (.int .i64 (frontM (b :: r) : Nat)) ∧ Below w.heap.size w w' := by
  have hn' : r.length + 1 = n := by simpa using hn
  obtain ⟨_, _, _, e0, hg, hb0, cx⟩ := hr.byte (k := 0) (by simp)
  obtain ⟨rfl, rfl⟩ : _ ∧ _ := by simpa using Option.some.inj e0
  obtain rfl := Option.some.inj hb0
  have cx0 : w.cell? ⟨g, o, none⟩ = some (.int .u8 (b.toNat : Int)) := by simpa using cx
  have hrb : Rd eB w w.heap.size (some ⟨g, o + 1, none⟩) (r.take b.toNat) := by
    obtain ⟨g', o', e', h'⟩ := hr.add (k := 1) (by simp; omega)
    obtain ⟨rfl, rfl⟩ : g = g' ∧ o = o' := by simpa using Option.some.inj e'
    exact h'.take b.toNat
  have hrt := hr.take (b.toNat + 3)
  have hlb : (r.take b.toNat).length = b.toNat := by rw [List.length_take]; omega
  have hlt : ((b :: r).take (b.toNat + 3)).length = b.toNat + 3 := by rw [List.length_take, hn]; omega
  obtain ⟨F, hF⟩ : ∃ F, F = frameL (r.take b.toNat) := ⟨_, rfl⟩
  obtain ⟨K, hK⟩ : ∃ K, K = (b :: r).take (b.toNat + 3) := ⟨_, rfl⟩
  have Hf := Lib.hid (show frontM (b :: r) = if K = F then b.toNat + 3 else 0 by
    by_cases he : K = F
    · rw [if_pos he, frontM, firstM_yes ⟨h1, h2, by omega, by rw [← hK, ← hF]; exact he⟩]
      simp only
      rw [hlb]
    · rw [if_neg he]
      exact frontM_no (firstM_no (by rw [← hK, ← hF]; exact fun h => he h.2.2.2)))
  rw [← hK] at hrt hlt
  have HF := fun W (hW : Below w.heap.size w W) => l1Frame (some ⟨g, o + 1, none⟩) b.toNat (c - 1) (r.take b.toNat) W (hrb.lift hW) hlb h2
  have HS := fun W (hW : Below w.heap.size w W) => conv_bytes (c := c) (hrt.lift hW) hlt
  rw [← hF] at HF
  have HFF := Lib.hid (show F = F from rfl)
  generalize frontM (b :: r) = fm at Hf
  generalize b.toNat = x at *
  have HF' := Lib.hid HF
  have HS' := Lib.hid HS
  clear HF HS hr hn hrb hrt hlb hlt hF hK hb0 cx e0 HFF
  have hbd : Below w.heap.size w w.drew := (Below.refl _ _).drew
  have hne : ((n : Int) == 0) = false := by simp; omega
  have hpos : (0 : Int) < (n : Int) := by omega
  have d1 : decide ((x : Int) < 1) = false := decide_eq_false (by omega)
  have d2 : decide ((40 : Int) < (x : Int)) = false := decide_eq_false (by omega)
  have d3 : decide ((n : Int) < (x : Int) + 3) = false := decide_eq_false (by omega)
  have e3 : IntKind.i64.wrap ((x : Int) + 3) = (x : Int) + 3 := IntWalk.i64_in _ (by omega)
  have e1 : IntKind.i64.wrap ((x : Int) + 1) = (x : Int) + 1 := IntWalk.i64_in _ (by omega)
  have p3 : (0 : Int) ≤ (x : Int) + 3 := by omega
  have p1 : (0 : Int) ≤ (x : Int) + 1 := by omega
  have t3 : ((x : Int) + 3).toNat = x + 3 := by omega
  have t1 : ((x : Int) + 1).toNat = x + 1 := by omega
  have l3 : (x : Int) + 3 ≤ (c : Int) := by omega
  have l1 : (x : Int) + 1 ≤ (c : Int) := by omega
  have s1 : ¬ c = 1 := by omega
  have q1 : (1 : Int) ≤ (x : Int) + 1 := by omega
  by_cases he : K = F
  all_goals
    first
      | (have hq : ((txt F).toList == (txt K).toList) = true := by rw [txt_beq]; simp [he])
      | (have hq : ((txt F).toList == (txt K).toList) = false := by rw [txt_beq]; simp; exact fun h => he h.symm)
    have He := Lib.hid he
    clear he
    go_enter Tryz.func143, Tryz.ntmps143
    go_wp2
    refine wp_region_mix [(0, false), (1, false), (2, false), (3, false), (4, false), (5, false), (6, false), (7, false), (8, false), (9, false), (10, false), (11, false), (12, false), (13, false), (14, false), (15, false), (16, false), (17, false), (20, false), (21, false), (22, false), (23, false), (24, false), (18, true), (19, false), (25, false), (26, false)] (fun u => (convert 22 9 (.slice (some ⟨g, o, none⟩) (x + 3) c)).run Tryz.prog u = .ok (.string (txt K)) u) (by kernel_rfl) (by kernel_rfl) (fun _ _ _ _ _ h => h) (HS'.out _ hbd) ?_
    simp only [mixOps, List.map_cons, List.map_nil, List.getElem?_cons_succ, List.getElem?_cons_zero, Option.getD_some]
    repeat (first
      | (refine mix_skip (by rfl) ?_
         (try simp only [Act.put, List.setIfInBounds_toArray, List.set_cons_zero, List.set_cons_succ]))
      | (refine mix_pure (v := ?_) (by rfl) (fun u hu => ?_) ?_
         rotate_left
         · (try dsimp only at hu)
           go_simp
           (with_reducible rfl)
         (try simp only [Act.put, List.setIfInBounds_toArray, List.set_cons_zero, List.set_cons_succ])))
    refine mix_call (by rfl) (fun K hK => ?_)
    go_simp
    refine (HF'.out _ hbd).mono ?_
    rintro e w1 ⟨A1, c1, rfl, ow1, hb1⟩
    have hB1 : Below w.heap.size w w1 := hbd.trans (hb1.mono hbd.size)
    refine hK _ _ (fun u => u = w1) (fun u hu => by subst hu; exact HS'.out _ hB1) rfl ?_
    have hk1 := conv_bytes (c := c1) (ow1.rd okB) (ow1.len okB)
    clear hK K
    (try simp only [Act.put, List.setIfInBounds_toArray, List.set_cons_zero, List.set_cons_succ])
    repeat (first
      | (refine mix_skip (by rfl) ?_
         (try simp only [Act.put, List.setIfInBounds_toArray, List.set_cons_zero, List.set_cons_succ]))
      | (refine mix_pure (v := ?_) (by rfl) (fun u hu => ?_) ?_
         rotate_left
         · subst hu
           go_simp
           (with_reducible rfl)
         (try simp only [Act.put, List.setIfInBounds_toArray, List.set_cons_zero, List.set_cons_succ])))
    refine mix_nil ?_
    go_wp2
    go_ret
    refine ⟨?_, hB1⟩
    rw [Hf.out]
    first
      | (rw [if_pos He.out]; rfl)
      | (rw [if_neg He.out]; rfl)

/-- spec.l1Front, whatever the bytes. -/
theorem l1Front (A : Option Addr) (n c : Nat) (d : List UInt8) (w : World) (hr : Rd eB w w.heap.size A d) (hn : d.length = n) (hc : n ≤ c) (hm : n ≤ 1048576) :
    Calls Tryz.prog 143 #[.slice A n c] w fun e w' => e = .returned (.int .i64 (frontM d : Nat)) ∧ Below w.heap.size w w' := by
  cases d with
  | nil =>
    subst hn
    exact l1Front_nil A c w
  | cons b r =>
    have hn' : r.length + 1 = n := by simpa using hn
    obtain ⟨g, o, x, rfl, hg, hx, cx⟩ := hr.byte (k := 0) (by simp)
    obtain rfl : b = x := by simpa using hx
    have cx0 : w.cell? ⟨g, o, none⟩ = some (.int .u8 (b.toNat : Int)) := by simpa using cx
    by_cases h : b.toNat < 1 ∨ 40 < b.toNat ∨ n < b.toNat + 3
    · rw [frontM_no (firstM_no (by omega))]
      exact l1Front_len g o n c b.toNat w b.toNat_lt cx0 (by omega) hm h
    · exact l1Front_sum g o n c b r w hr hn hc hm (by omega) (by omega) (by omega)

/-! ### impl -/
set_option maxHeartbeats 400000 in
theorem bytesClone (a : Addr) (n c : Nat) (l : List UInt8) (w : World) (hr : Rd eB w w.heap.size (some a) l) (hn : l.length = n) (hm : n ≤ 1048576) :
    Calls Tryz.prog 142 #[.slice (some a) n c] w fun e w' => ∃ A' c', e = .returned (.slice A' n c') ∧ Ow eB w' w.heap.size A' n c' l ∧ Below w.heap.size w w' := by
  have Hn := Lib.hid hn
  clear hn
  have heq : ∀ u : World, (binOp .eql 22 (.slice (some a) n c) (.slice none 0 0)).run Tryz.prog u = .ok (.bool false) u := fun u => Lib.run_eql_slice_nil (P := Tryz.prog) u 22 5 (some a) n c 0 0 Tryz.underlying22
  have o1 : Ow eB (w.alloc (.cells #[] 5)) w.heap.size (some ⟨w.heap.size, 0, none⟩) 0 0 [] := Ow.lit w [] #[] 0 (Nat.le_refl _) (Nat.zero_le _) rfl rfl
  have B1 := (Below.refl w.heap.size w).alloc (Nat.le_refl _) (.cells #[] 5)
  have a1 := hr.lift B1
  go_enter Tryz.func142, Tryz.ntmps142
  go_wp2_with (at_builtin; refine wpList_append_ow okB _ rfl (.tmp 5) (.tmp 6) _ rfl w.heap.size info_u8 Tryz.underlying22 rfl (some ⟨w.heap.size, 0, none⟩) 0 0 [] rfl o1 (some a) n c _ l rfl a1 Hn.out (by unfold maxLen; omega) (by omega) (by simp) ?_; intro A1 c1 w1 ow1 hg1 _)
  go_ret
  rw [List.nil_append] at ow1
  rw [Nat.zero_add] at ow1
  exact ⟨A1, c1, rfl, ow1, B1.grown hg1 (by simp) (fun g hg => by simp at hg; omega)⟩

/-- A slice's value: nil where there is none. -/
def RetOpt (r : Option (List UInt8)) (w : World) (e : Ending) (w' : World) : Prop :=
  Below w.heap.size w w' ∧ match r with
    | none => e = .returned (.slice none 0 0)
    | some b => ∃ g c, e = .returned (.slice (some ⟨g, 0, none⟩) b.length c) ∧ Ow eB w' w.heap.size (some ⟨g, 0, none⟩) b.length c b

set_option maxHeartbeats 400000 in
theorem firstBody_nil (A : Option Addr) (c : Nat) (w : World) :
    Calls Tryz.prog 119 #[.slice A 0 c] w fun e w' => RetOpt (firstM []) w e w' := by
  go_enter Tryz.func119, Tryz.ntmps119
  go_wp2
  go_ret
  exact ⟨Below.refl _ _, rfl⟩

set_option maxHeartbeats 800000 in
theorem firstBody_len (g o n c : Nat) (b : UInt8) (r : List UInt8) (w : World) (cx : w.cell? ⟨g, o, none⟩ = some (.int .u8 (b.toNat : Int))) (hn : (b :: r).length = n) (hm : n ≤ 1048576) (h : b.toNat < 1 ∨ 40 < b.toNat ∨ n < b.toNat + 3) :
    Calls Tryz.prog 119 #[.slice (some ⟨g, o, none⟩) n c] w fun e w' => RetOpt (firstM (b :: r)) w e w' := by
  have hn' : r.length + 1 = n := by simpa using hn
  have Hf := Lib.hid (firstM_no (b := b) (r := r) (by omega))
  have hne : ((n : Int) == 0) = false := by simp; omega
  have hpos : (0 : Int) < (n : Int) := by omega
  have hb8 := b.toNat_lt
  have hno : [((b.toNat : Int), (1 : Int), (40 : Int)), ((b.toNat : Int) + 3, 0, (n : Int))].all inB = false := by simp [inB]; omega
  clear hn hn' h
  go_enter Tryz.func119, Tryz.ntmps119
  go_wp2_with (go_at_call 73; refine (areWithin_any _ _ _ [((b.toNat : Int), 1, 40), ((b.toNat : Int) + 3, 0, (n : Int))] _ (bnds_two (by simp)) (by simp) rfl (by simp)).mono ?_; rintro e w1 ⟨rfl, hb1⟩)
  go_ret
  refine ⟨((Below.refl _ _).alloc (Nat.le_refl _) _).trans (hb1.mono (by simp)), ?_⟩
  rw [Hf.out]
  rfl

/-- The frame's bytes are its front and its sum. -/
theorem frame_iff {b : UInt8} {r : List UInt8} (h3 : b.toNat + 2 ≤ r.length) :
    (b :: r).take (b.toNat + 3) = frameL (r.take b.toNat) ↔ sumL ((b :: r).take (1 + b.toNat)) = ((b :: r).drop (1 + b.toNat)).take 2 := by
  have hf : frontL (r.take b.toNat) = (b :: r).take (1 + b.toNat) := by
    have hl : (r.take b.toNat).length = b.toNat := by rw [List.length_take]; omega
    rw [frontL, hl, Nat.add_comm, List.take_succ_cons]
    congr 1
    exact UInt8.ofNat_toNat
  have hs : (b :: r).take (b.toNat + 3) = (b :: r).take (1 + b.toNat) ++ ((b :: r).drop (1 + b.toNat)).take 2 := by
    rw [show b.toNat + 3 = (1 + b.toNat) + 2 by omega, List.take_add]
  rw [frameL, hf, hs]
  constructor
  · intro h
    exact (List.append_cancel_left h).symm
  · intro h
    rw [h]

set_option maxHeartbeats 2000000 in
theorem firstBody_sum (g o n c : Nat) (b : UInt8) (r : List UInt8) (w : World) (hr : Rd eB w w.heap.size (some ⟨g, o, none⟩) (b :: r)) (hn : (b :: r).length = n) (hc : n ≤ c) (hm : n ≤ 1048576) (h1 : 1 ≤ b.toNat) (h2 : b.toNat ≤ 40) (h3 : b.toNat + 3 ≤ n) :
    Calls Tryz.prog 119 #[.slice (some ⟨g, o, none⟩) n c] w fun e w' => RetOpt (firstM (b :: r)) w e w' := by
  have hn' : r.length + 1 = n := by simpa using hn
  obtain ⟨_, _, _, e0, hg, hb0, cx⟩ := hr.byte (k := 0) (by simp)
  obtain ⟨rfl, rfl⟩ : _ ∧ _ := by simpa using Option.some.inj e0
  obtain rfl := Option.some.inj hb0
  have cx0 : w.cell? ⟨g, o, none⟩ = some (.int .u8 (b.toNat : Int)) := by simpa using cx
  have hrb : Rd eB w w.heap.size (some ⟨g, o + 1, none⟩) (r.take b.toNat) := by
    obtain ⟨g', o', e', h'⟩ := hr.add (k := 1) (by simp; omega)
    obtain ⟨rfl, rfl⟩ : g = g' ∧ o = o' := by simpa using Option.some.inj e'
    exact h'.take b.toNat
  have hrs : Rd eB w w.heap.size (some ⟨g, o + (1 + b.toNat), none⟩) (((b :: r).drop (1 + b.toNat)).take 2) := by
    obtain ⟨g', o', e', h'⟩ := hr.add (k := 1 + b.toNat) (by simp; omega)
    obtain ⟨rfl, rfl⟩ : g = g' ∧ o = o' := by simpa using Option.some.inj e'
    have := h'.take 2
    simpa [eB] using this
  have hrf := hr.take (1 + b.toNat)
  have hlb : (r.take b.toNat).length = b.toNat := by rw [List.length_take]; omega
  have hls : (((b :: r).drop (1 + b.toNat)).take 2).length = 2 := by rw [List.length_take, List.length_drop, hn]; omega
  have hlf : ((b :: r).take (1 + b.toNat)).length = 1 + b.toNat := by rw [List.length_take, hn]; omega
  have hiff := frame_iff (b := b) (r := r) (by omega)
  have hyes : sumL ((b :: r).take (1 + b.toNat)) = ((b :: r).drop (1 + b.toNat)).take 2 → firstM (b :: r) = some (r.take b.toNat) := fun h => firstM_yes ⟨h1, h2, by omega, hiff.2 h⟩
  have hnot : sumL ((b :: r).take (1 + b.toNat)) ≠ ((b :: r).drop (1 + b.toNat)).take 2 → firstM (b :: r) = none := fun h => firstM_no fun h' => h (hiff.1 h'.2.2.2)
  generalize (b :: r).take (1 + b.toNat) = F at *
  generalize ((b :: r).drop (1 + b.toNat)).take 2 = K at *
  generalize r.take b.toNat = D at *
  generalize firstM (b :: r) = fm at *
  generalize b.toNat = x at *
  have hyes' := Lib.hid hyes
  have hnot' := Lib.hid hnot
  have HB := Lib.hid fun W (hW : Below w.heap.size w W) => bytesClone ⟨g, o + 1, none⟩ x (c - 1) D W (hrb.lift hW) hlb (by omega)
  have HS := Lib.hid fun W (hW : Below w.heap.size w W) => sumBytes (some ⟨g, o, none⟩) (1 + x) c F W (hrf.lift hW) hlf (by omega)
  have HE := Lib.hid fun (A1 : Option Addr) (c1 : Nat) W (hW : Below w.heap.size w W) (h : Rd eB W W.heap.size A1 (sumL F)) => implSameBytes A1 (some ⟨g, o + (1 + x), none⟩) 2 2 c1 (c - (1 + x)) (sumL F) K W h (hrs.lift hW) rfl hls
  have Hl := Lib.hid hlb
  clear hyes hnot hiff hr hn hrb hrs hrf hlb hls hlf hb0 cx e0
  have hne : ((n : Int) == 0) = false := by simp; omega
  have hpos : (0 : Int) < (n : Int) := by omega
  have hno : [((x : Int), (1 : Int), (40 : Int)), ((x : Int) + 3, 0, (n : Int))].all inB = true := by simp [inB]; omega
  have e3 : IntKind.i64.wrap ((x : Int) + 3) = (x : Int) + 3 := IntWalk.i64_in _ (by omega)
  have e1 : IntKind.i64.wrap (1 + (x : Int)) = 1 + (x : Int) := IntWalk.i64_in _ (by omega)
  have p3 : (0 : Int) ≤ (x : Int) + 3 := by omega
  have p1 : (0 : Int) ≤ 1 + (x : Int) := by omega
  have t3 : ((x : Int) + 3).toNat = x + 3 := by omega
  have t1 : (1 + (x : Int)).toNat = 1 + x := by omega
  have l3 : (x : Int) + 3 ≤ (c : Int) := by omega
  have l1 : 1 + (x : Int) ≤ (c : Int) := by omega
  have s1 : ¬ c = 1 + x := by omega
  have s2 : x + 3 - (1 + x) = 2 := by omega
  have s3 : ¬ c = 1 := by omega
  have q1 : 1 + (x : Int) ≤ (x : Int) + 3 := by omega
  go_enter Tryz.func119, Tryz.ntmps119
  go_wp2_with (go_at_call 73; refine (areWithin_any _ _ _ [((x : Int), 1, 40), ((x : Int) + 3, 0, (n : Int))] _ (bnds_two (by simp)) (by simp) rfl (by simp)).mono ?_; rintro e w1 ⟨rfl, hb1⟩)
  have hB1 : Below w.heap.size w w1 := ((Below.refl _ _).alloc (Nat.le_refl _) _).trans (hb1.mono (by simp))
  have hbd : Below w.heap.size w w1.drew := hB1.drew
  refine wp_region_mix [(0, false), (2, false), (3, false), (4, false), (5, false), (6, false), (7, false), (1, true), (8, true), (9, false)] (fun _ => True) (by kernel_rfl) (by kernel_rfl) (fun _ _ _ _ _ h => h) trivial ?_
  simp only [mixOps, List.map_cons, List.map_nil, List.getElem?_cons_succ, List.getElem?_cons_zero, Option.getD_some]
  repeat (first
      | (refine mix_skip (by rfl) ?_
         (try simp only [Act.put, List.setIfInBounds_toArray, List.set_cons_zero, List.set_cons_succ]))
      | (refine mix_pure (v := ?_) (by rfl) (fun u hu => ?_) ?_
         rotate_left
         · clear hu
           go_simp
           (with_reducible rfl)
         (try simp only [Act.put, List.setIfInBounds_toArray, List.set_cons_zero, List.set_cons_succ])))
  refine mix_call (by rfl) (fun K' hK => ?_)
  go_simp
  refine (HS.out _ hbd).mono ?_
  rintro e w2 ⟨A2, c2, rfl, ow2, hb2⟩
  have hB2 : Below w.heap.size w w2 := hbd.trans (hb2.mono hbd.size)
  refine hK _ _ (fun _ => True) (fun _ _ => trivial) trivial ?_
  clear hK K'
  (try simp only [Act.put, List.setIfInBounds_toArray, List.set_cons_zero, List.set_cons_succ])
  refine mix_call (by rfl) (fun K' hK => ?_)
  go_simp
  refine (HE.out A2 c2 _ hB2 (ow2.rd okB)).mono ?_
  rintro e w3 ⟨rfl, rfl⟩
  refine hK _ _ (fun _ => True) (fun _ _ => trivial) trivial ?_
  clear hK K'
  (try simp only [Act.put, List.setIfInBounds_toArray, List.set_cons_zero, List.set_cons_succ])
  repeat (first
      | (refine mix_skip (by rfl) ?_
         (try simp only [Act.put, List.setIfInBounds_toArray, List.set_cons_zero, List.set_cons_succ]))
      | (refine mix_pure (v := ?_) (by rfl) (fun u hu => ?_) ?_
         rotate_left
         · clear hu
           go_simp
           (with_reducible rfl)
         (try simp only [Act.put, List.setIfInBounds_toArray, List.set_cons_zero, List.set_cons_succ])))
  refine mix_nil ?_
  by_cases he : sumL F = K
  · have hd : decide (sumL F = K) = true := by simpa using he
    have Hf := Lib.hid (hyes'.out he)
    clear he
    simp only [hd, Bool.not_true]
    go_wp2_with (go_at_call 142; refine (HB.out _ hB2).mono ?_; rintro e w4 ⟨A4, c4, rfl, ow4, hb4⟩)
    go_ret
    obtain ⟨g4, rfl, _, _⟩ := ow4.form (by omega)
    refine ⟨hB2.trans (hb4.mono hB2.size), ?_⟩
    rw [Hf.out]
    have hx := Hl.out
    subst hx
    exact ⟨g4, c4, rfl, ow4.from_ hB2.size⟩
  · have hd : decide (sumL F = K) = false := by simpa using he
    have Hf := Lib.hid (hnot'.out he)
    clear he
    simp only [hd, Bool.not_false]
    go_wp2
    go_ret
    refine ⟨hB2, ?_⟩
    rw [Hf.out]
    rfl

/-- impl.firstBody, whatever the bytes. -/
theorem firstBody (A : Option Addr) (n c : Nat) (d : List UInt8) (w : World) (hr : Rd eB w w.heap.size A d) (hn : d.length = n) (hc : n ≤ c) (hm : n ≤ 1048576) :
    Calls Tryz.prog 119 #[.slice A n c] w fun e w' => RetOpt (firstM d) w e w' := by
  cases d with
  | nil =>
    subst hn
    exact firstBody_nil A c w
  | cons b r =>
    have hn' : r.length + 1 = n := by simpa using hn
    obtain ⟨g, o, x, rfl, hg, hx, cx⟩ := hr.byte (k := 0) (by simp)
    obtain rfl : b = x := by simpa using hx
    have cx0 : w.cell? ⟨g, o, none⟩ = some (.int .u8 (b.toNat : Int)) := by simpa using cx
    by_cases h : b.toNat < 1 ∨ 40 < b.toNat ∨ n < b.toNat + 3
    · exact firstBody_len g o n c b r w cx0 hn hm h
    · exact firstBody_sum g o n c b r w hr hn hc hm (by omega) (by omega) (by omega)
end Go.Proofs.YtmaillakhhdkfaaGreatDoor
namespace Go.Proofs.YtmaillakhhdkfaaGreatDoor
set_option maxRecDepth 20000
open Go.RowKit

/-- Nothing but the blocks of a list has turned, and what is new. -/
structure Only (S : List Nat) (w w' : World) : Prop where
  os : w'.os = w.os
  tape : w'.tape = w.tape
  output : w'.output = w.output
  size : w.heap.size ≤ w'.heap.size
  block : ∀ k, k < w.heap.size → k ∉ S → w'.heap[k]? = w.heap[k]?
theorem Only.refl (S : List Nat) (w : World) : Only S w w := ⟨rfl, rfl, rfl, Nat.le_refl _, fun _ _ _ => rfl⟩
theorem Only.trans {S : List Nat} {a b c : World} (h : Only S a b) (k : Only S b c) : Only S a c :=
  ⟨k.os.trans h.os, k.tape.trans h.tape, k.output.trans h.output, Nat.le_trans h.size k.size, fun i hi hn => (k.block i (Nat.lt_of_lt_of_le hi h.size) hn).trans (h.block i hi hn)⟩
theorem Only.more {S T : List Nat} {w w' : World} (h : Only S w w') (hs : ∀ b ∈ S, b ∈ T) : Only T w w' := ⟨h.os, h.tape, h.output, h.size, fun k hk hn => h.block k hk (fun e => hn (hs k e))⟩
theorem Only.of_grown {w w' : World} {A : Option Addr} (h : w.grownBy w' (A.map (·.block))) : Only ((A.map (·.block)).toList) w w' :=
  ⟨h.os, h.tape, h.output, h.size, fun k hk hn => h.block k hk (by cases A <;> simp_all)⟩
theorem Only.within {S : List Nat} {w w' : World} {lo hi : Nat} (h : Only S w w') (hs : ∀ b ∈ S, lo ≤ b ∧ b < hi) : Within lo hi w w' :=
  ⟨h.os, h.tape, h.output, h.size, fun k hk hn => h.block k hk (fun e => by have := hs k e; omega)⟩
theorem Only.of_below {S : List Nat} {w w' : World} (h : Below w.heap.size w w') : Only S w w' := ⟨h.os, h.tape, h.output, h.size, fun k hk _ => h.block k hk⟩

/-- A slice's value in parts: where it leads, its length, its capacity. -/
structure Hd where
  A : Option Addr
  n : Nat
  c : Nat
def Hd.val (h : Hd) : Value := .slice h.A h.n h.c
def blkOf (A : Option Addr) : List Nat := (A.map (·.block)).toList
/-- A row within an element: its element type's number, the cells of one, what it holds. -/
structure Part where
  tid : Nat
  size : Nat
  xs : List Value
def Part.at_ (r : Part) (w : World) (base : Nat) (h : Hd) : Prop := w.ownsRow base r.tid r.size h.val h.n r.xs
/-- Elements that bear slices: the cells of one (its slices' values given), and what the slices hold. -/
structure DEnc (α : Type) where
  tid : Nat
  size : Nat
  cells : α → List Hd → List Value
  parts : α → List Part
def DEnc.enc {α : Type} (E : DEnc α) : Enc (α × List Hd) := ⟨E.tid, E.size, fun p => E.cells p.1 p.2⟩
def PartsAt (w : World) (base : Nat) (rs : List Part) (hs : List Hd) : Prop := rs.length = hs.length ∧ ∀ (j : Nat) (r : Part) (h : Hd), rs[j]? = some r → hs[j]? = some h → r.at_ w base h
def blks {α : Type} (ps : List (α × List Hd)) : List Nat := ps.flatMap fun p => p.2.flatMap fun h => blkOf h.A
/-- A row of the call's own whose elements bear rows of the call's own: all in blocks of their own ('fp': these blocks). -/
def DOw {α : Type} (E : DEnc α) (w : World) (base : Nat) (A : Option Addr) (n c : Nat) (ps : List (α × List Hd)) : Prop :=
  Ow E.enc w base A n c ps ∧ (∀ p ∈ ps, PartsAt w base (E.parts p.1) p.2) ∧ (blkOf A ++ blks ps).Nodup

section
variable {α : Type} {E : DEnc α} {w w' : World} {base n c : Nat} {A : Option Addr} {ps : List (α × List Hd)}
theorem blkOf_lt {tid size n c : Nat} {xs : List Value} (h : w.ownsRow base tid size (.slice A n c) n xs) : ∀ b ∈ blkOf A, base ≤ b ∧ b < w.heap.size := by
  intro b hb
  refine World.ownsRow.lt h b ?_
  cases A with
  | none => simp [blkOf] at hb
  | some a => simpa [blkOf, Value.ownBlock, eq_comm] using hb
theorem mem_blks {p : α × List Hd} {h : Hd} {b : Nat} (hp : p ∈ ps) (hh : h ∈ p.2) (hb : b ∈ blkOf h.A) : b ∈ blks ps :=
  List.mem_flatMap.2 ⟨p, hp, List.mem_flatMap.2 ⟨h, hh, hb⟩⟩
theorem PartsAt.mem {rs : List Part} {hs : List Hd} (h : PartsAt w base rs hs) {x : Hd} (hx : x ∈ hs) : ∃ r ∈ rs, r.at_ w base x := by
  obtain ⟨j, hj⟩ := List.mem_iff_getElem?.1 hx
  have hl := getElem?_some_lt hj
  have hl' : j < rs.length := by rw [h.1]; exact hl
  have hr : rs[j]? = some rs[j] := List.getElem?_eq_getElem hl'
  exact ⟨_, List.mem_of_getElem? hr, h.2 j _ _ hr hj⟩
theorem DOw.lt (h : DOw E w base A n c ps) : ∀ b ∈ blkOf A ++ blks ps, base ≤ b ∧ b < w.heap.size := by
  intro b hb
  rcases List.mem_append.1 hb with hb | hb
  · exact blkOf_lt h.1 b hb
  · obtain ⟨p, hp, hb⟩ := List.mem_flatMap.1 hb
    obtain ⟨x, hx, hb⟩ := List.mem_flatMap.1 hb
    obtain ⟨r, _, hr⟩ := (h.2.1 p hp).mem hx
    exact blkOf_lt hr b hb
theorem row_keep {tid size : Nat} {xs : List Value} (h : w.ownsRow base tid size (.slice A n c) n xs) (hk : ∀ b ∈ blkOf A, w'.heap[b]? = w.heap[b]?) : w'.ownsRow base tid size (.slice A n c) n xs := by
  refine ⟨h.1, ?_⟩
  rcases h.2 with h0 | ⟨g, cap, cur, hv, hb, hgg, rest⟩
  · exact .inl h0
  · refine .inr ⟨g, cap, cur, hv, hb, ?_, rest⟩
    simp only [Value.slice.injEq] at hv
    rw [hk g (by rw [hv.1]; simp [blkOf])]
    exact hgg
theorem Ow.keep {β : Type} {F : Enc β} {l : List β} (h : Ow F w base A n c l) (hk : ∀ b ∈ blkOf A, w'.heap[b]? = w.heap[b]?) : Ow F w' base A n c l := row_keep h hk
theorem PartsAt.keep {rs : List Part} {hs : List Hd} (h : PartsAt w base rs hs) (hk : ∀ b ∈ hs.flatMap (fun x => blkOf x.A), w'.heap[b]? = w.heap[b]?) : PartsAt w' base rs hs :=
  ⟨h.1, fun j r x hr hx => row_keep (h.2 j r x hr hx) fun b hb => hk b (List.mem_flatMap.2 ⟨x, List.mem_of_getElem? hx, hb⟩)⟩
theorem DOw.keep (h : DOw E w base A n c ps) (hk : ∀ b ∈ blkOf A ++ blks ps, w'.heap[b]? = w.heap[b]?) : DOw E w' base A n c ps :=
  ⟨h.1.keep fun b hb => hk b (List.mem_append_left _ hb),
   fun p hp => (h.2.1 p hp).keep fun b hb => hk b (List.mem_append_right _ (List.mem_flatMap.2 ⟨p, hp, hb⟩)), h.2.2⟩
theorem DOw.below {B : Nat} (h : DOw E w base A n c ps) (hb : Below B w w') (hB : w.heap.size ≤ B) : DOw E w' base A n c ps :=
  h.keep fun b hb' => hb.block b (Nat.lt_of_lt_of_le (h.lt b hb').2 hB)
theorem DOw.alloc (h : DOw E w base A n c ps) (o : Obj) : DOw E (w.alloc o) base A n c ps :=
  h.keep fun b hb' => Below.heap_alloc w o b (h.lt b hb').2
theorem DOw.grown {row : Option Nat} (h : DOw E w base A n c ps) (hg : w.grownBy w' row) (hr : ∀ g, row = some g → g ∉ blkOf A ++ blks ps) : DOw E w' base A n c ps :=
  h.keep fun b hb' => hg.block b (h.lt b hb').2 (fun e => hr b e.symm hb')
theorem DOw.within {lo hi lo' hi' : Nat} (h : DOw E w base A n c ps) (k : Within lo' hi' w w') (hr : ∀ g ∈ blkOf A ++ blks ps, lo ≤ g ∧ g < hi) (hd : hi ≤ lo' ∨ hi' ≤ lo) : DOw E w' base A n c ps :=
  h.keep fun b hb' => k.block b (h.lt b hb').2 (by have := hr b hb'; omega)
theorem row_from {tid size base' : Nat} {xs : List Value} (h : w.ownsRow base tid size (.slice A n c) n xs) (hb : base' ≤ base) : w.ownsRow base' tid size (.slice A n c) n xs := by
  refine ⟨h.1, ?_⟩
  rcases h.2 with h0 | ⟨g, cap, cur, hv, hb', rest⟩
  · exact .inl h0
  · exact .inr ⟨g, cap, cur, hv, Nat.le_trans hb hb', rest⟩
theorem DOw.from_ {base' : Nat} (h : DOw E w base A n c ps) (hb : base' ≤ base) : DOw E w base' A n c ps :=
  ⟨h.1.from_ hb, fun p hp => ⟨(h.2.1 p hp).1, fun j r x hr hx => row_from ((h.2.1 p hp).2 j r x hr hx) hb⟩, h.2.2⟩
theorem DOw.under (h : DOw E w base A n c ps) {p : Addr} (hp : p.block < base) (u : Value) : DOw E (w.setCell p u) base A n c ps :=
  h.keep fun b hb' => Below.heap_setCell w p u b (by have := (h.lt b hb').1; omega)
theorem DOw.nil : DOw E w base none 0 0 [] := ⟨Ow.nil, fun p hp => absurd hp (by simp), by simp [blkOf, blks]⟩
end

theorem set_same {β γ : Type} (f : β → γ) (l : List β) (k : Nat) (a a' : β) (hk : l[k]? = some a) (h : f a' = f a) : (l.set k a').map f = l.map f := by
  apply List.ext_getElem?
  intro i
  rw [List.getElem?_map, List.getElem?_map, List.getElem?_set]
  have hl := getElem?_some_lt hk
  by_cases hi : k = i
  · subst hi
    rw [if_pos rfl, if_pos hl, hk]
    simpa using h
  · rw [if_neg hi]
theorem flat_same {β γ : Type} (f : β → List γ) (l : List β) (k : Nat) (a a' : β) (hk : l[k]? = some a) (h : f a' = f a) : (l.set k a').flatMap f = l.flatMap f := by
  rw [List.flatMap_def, List.flatMap_def, set_same f l k a a' hk h]
theorem flat_apart {β γ : Type} {f : β → List γ} {l : List β} (hn : (l.flatMap f).Nodup) {i j : Nat} {x y : β} (hi : l[i]? = some x) (hj : l[j]? = some y) (hne : i ≠ j) {b : γ} (hb : b ∈ f x) : b ∉ f y := by
  obtain ⟨_, hp⟩ := List.pairwise_flatMap.1 hn
  have h1 := getElem?_some_lt hi
  have h2 := getElem?_some_lt hj
  rw [List.pairwise_iff_getElem] at hp
  rw [List.getElem?_eq_getElem h1] at hi
  rw [List.getElem?_eq_getElem h2] at hj
  obtain rfl := Option.some.inj hi
  obtain rfl := Option.some.inj hj
  intro hb'
  rcases Nat.lt_or_gt_of_ne hne with h | h
  · exact hp i j h1 h2 h b hb b hb' rfl
  · exact hp j i h2 h1 h b hb' b hb rfl
/-- What an element's rows hold has turned, and nothing else. -/
theorem DOw.setAt {α : Type} {E : DEnc α} {w w' : World} {base n c : Nat} {A : Option Addr} {ps : List (α × List Hd)} (h : DOw E w base A n c ps) {k : Nat} {a a' : α} {hs : List Hd} (hk : ps[k]? = some (a, hs)) (hc : E.cells a' hs = E.cells a hs)
    (hch : ∀ b, b < w.heap.size → b ∉ hs.flatMap (fun x => blkOf x.A) → w'.heap[b]? = w.heap[b]?) (hp : PartsAt w' base (E.parts a') hs) : DOw E w' base A n c (ps.set k (a', hs)) := by
  have hb : blks (ps.set k (a', hs)) = blks ps := flat_same (fun p : α × List Hd => p.2.flatMap fun h : Hd => blkOf h.A) ps k (a, hs) (a', hs) hk rfl
  have hnd := h.2.2
  have hdis : ∀ b ∈ blkOf A, b ∉ hs.flatMap (fun x => blkOf x.A) := fun b hb1 hb2 =>
    (List.nodup_append.1 hnd).2.2 b hb1 b (List.mem_flatMap.2 ⟨(a, hs), List.mem_of_getElem? hk, hb2⟩) rfl
  have hin : (ps.flatMap fun p : α × List Hd => p.2.flatMap fun h => blkOf h.A).Nodup := (List.nodup_append.1 hnd).2.1
  refine ⟨?_, fun p hp' => ?_, by rw [hb]; exact hnd⟩
  · have h1 : Ow E.enc w' base A n c ps := h.1.keep fun b hb1 => hch b (h.lt b (List.mem_append_left _ hb1)).2 (hdis b hb1)
    have h2 : E.enc.row (ps.set k (a', hs)) = E.enc.row ps := flat_same E.enc.cells ps k (a, hs) (a', hs) hk hc
    unfold Ow
    rw [h2]
    exact h1
  · obtain ⟨i, hi⟩ := List.mem_iff_getElem?.1 hp'
    rw [List.getElem?_set] at hi
    by_cases e : k = i
    · subst e
      rw [if_pos rfl, if_pos (getElem?_some_lt hk)] at hi
      obtain rfl := Option.some.inj hi
      exact hp
    · rw [if_neg e] at hi
      refine (h.2.1 p (List.mem_of_getElem? hi)).keep fun b hb1 => hch b (h.lt b (List.mem_append_right _ (List.mem_flatMap.2 ⟨p, List.mem_of_getElem? hi, hb1⟩))).2 ?_
      exact flat_apart (f := fun p : α × List Hd => p.2.flatMap fun x => blkOf x.A) hin hi hk (fun e' => e e'.symm) hb1

theorem blks_snoc {α : Type} (ps : List (α × List Hd)) (p : α × List Hd) : blks (ps ++ [p]) = blks ps ++ p.2.flatMap fun h => blkOf h.A := by simp [blks]
/-- One more element behind the others. -/
theorem DOw.snoc {α : Type} {E : DEnc α} {w w1 : World} {base n c c1 : Nat} {A A1 : Option Addr} {ps : List (α × List Hd)} {a : α} {hs : List Hd} (h : DOw E w base A n c ps) (hp : PartsAt w base (E.parts a) hs)
    (hnd : (hs.flatMap fun x => blkOf x.A).Nodup) (hdis : ∀ b ∈ hs.flatMap (fun x => blkOf x.A), b ∉ blkOf A ++ blks ps) (how : Ow E.enc w1 base A1 (n + 1) c1 (ps ++ [(a, hs)])) (hg : w.grownBy w1 (A.map (·.block)))
    (hat : A1.map (·.block) = A.map (·.block) ∨ A1.map (·.block) = some w.heap.size) : DOw E w1 base A1 (n + 1) c1 (ps ++ [(a, hs)]) := by
  have hlt := h.lt
  have hnA := List.nodup_append.1 h.2.2
  have hsl : ∀ b ∈ hs.flatMap (fun x => blkOf x.A), b < w.heap.size := fun b hb => by
    obtain ⟨x, hx, hb⟩ := List.mem_flatMap.1 hb
    obtain ⟨r, _, hr⟩ := hp.mem hx
    exact (blkOf_lt hr b hb).2
  have hblk : ∀ b, b < w.heap.size → b ∉ blkOf A → w1.heap[b]? = w.heap[b]? := fun b hb hn => hg.block b hb (fun e => hn (by
    unfold blkOf
    rw [← e]
    simp))
  refine ⟨how, fun p hp' => ?_, ?_⟩
  · rcases List.mem_append.1 hp' with h1 | h1
    · refine (h.2.1 p h1).keep fun b hb => ?_
      have hm : b ∈ blks ps := List.mem_flatMap.2 ⟨p, h1, hb⟩
      exact hblk b (hlt b (List.mem_append_right _ hm)).2 (fun e => hnA.2.2 b e b hm rfl)
    · obtain rfl : p = (a, hs) := by simpa using h1
      exact hp.keep fun b hb => hblk b (hsl b hb) (fun e => hdis b hb (List.mem_append_left _ e))
  · rw [blks_snoc]
    have hA1 : ∀ b ∈ blkOf A1, b ∈ blkOf A ∨ b = w.heap.size := fun b hb => by
      unfold blkOf at hb ⊢
      rcases hat with e | e
      · rw [e] at hb; exact .inl hb
      · rw [e] at hb; exact .inr (by simpa using hb)
    refine List.nodup_append.2 ⟨?_, List.nodup_append.2 ⟨hnA.2.1, hnd, fun b hb b' hb' e => ?_⟩, fun b hb b' hb' e => ?_⟩
    · unfold blkOf
      cases A1 <;> simp
    · subst e
      exact hdis b hb' (List.mem_append_right _ hb)
    · subst e
      rcases hA1 b hb with h1 | h1
      · rcases List.mem_append.1 hb' with h2 | h2
        · exact hnA.2.2 b h1 b h2 rfl
        · exact hdis b h2 (List.mem_append_left _ h1)
      · rcases List.mem_append.1 hb' with h2 | h2
        · have := (hlt b (List.mem_append_right _ h2)).2
          omega
        · have := hsl b h2
          omega

/-- Rows of bytes. -/
def eBB : DEnc (List UInt8) := ⟨22, 1, fun _ hs => [(hs.headD ⟨none, 0, 0⟩).val], fun b => [⟨5, 1, eB.row b⟩]⟩
theorem okBB : EncOk eBB.enc := ⟨fun _ => rfl, fun a u hu => by simp only [DEnc.enc, eBB, List.mem_singleton] at hu; subst hu; rfl, Nat.one_pos⟩
theorem info_bb : (Tryz.prog.info? 22).map (fun i => (i.zero, i.size, i.bytes)) = some (some (.slice none 0 0), 1, 24) := by kernel_rfl

theorem part_one {w : World} {base base' : Nat} {x : Hd} {b : List UInt8} (h : Ow eB w base' x.A x.n x.c b) (hb : base ≤ base') : PartsAt w base (eBB.parts b) [x] := by
  refine ⟨rfl, fun i r h' hr hh => ?_⟩
  match i, hr, hh with
  | 0, hr, hh =>
    obtain rfl := Option.some.inj hr
    obtain rfl := Option.some.inj hh
    exact h.from_ hb
  | i + 1, hr, hh => simp at hh
/-- A row that was made behind the others, put behind them. -/
theorem DOw.snocB {w0 w w1 : World} {base n c c1 : Nat} {A A1 : Option Addr} {ps : List (List UInt8 × List Hd)} {b : List UInt8} {x : Hd} (h0 : DOw eBB w0 base A n c ps) (h : DOw eBB w base A n c ps) (hx : Ow eB w w0.heap.size x.A x.n x.c b) (hb : base ≤ w0.heap.size)
    (how : Ow eBB.enc w1 base A1 (n + 1) c1 (ps ++ [(b, [x])])) (hg : w.grownBy w1 (A.map (·.block))) (hat : A1.map (·.block) = A.map (·.block) ∨ A1.map (·.block) = some w.heap.size) : DOw eBB w1 base A1 (n + 1) c1 (ps ++ [(b, [x])]) := by
  refine h.snoc (part_one hx hb) ?_ (fun k hk hk' => ?_) how hg hat
  · simp only [List.flatMap_cons, List.flatMap_nil, List.append_nil, blkOf]
    cases x.A <;> simp
  · have h1 := (h0.lt k hk').2
    simp only [List.flatMap_cons, List.flatMap_nil, List.append_nil] at hk
    have h2 := (blkOf_lt hx k hk).1
    omega
theorem rd_one_row (w : World) (t : TypeId) (b : List UInt8) (x : Hd) : Rd eBB.enc (w.alloc (.cells #[.slice x.A x.n x.c] t)) (w.heap.size + 1) (some ⟨w.heap.size, 0, none⟩) [(b, [x])] := rd_lit okBB w t _ _ rfl

section
variable {w : World} {base n c : Nat} {A : Option Addr} {ps : List (List UInt8 × List Hd)}
/-- One row of it. -/
theorem DOw.row (h : DOw eBB w base A n c ps) {k : Nat} {p : List UInt8 × List Hd} (hk : ps[k]? = some p) :
    ∃ g x, A = some ⟨g, 0, none⟩ ∧ p.2 = [x] ∧ w.cell? ⟨g, k, none⟩ = some (.slice x.A x.n x.c) ∧ Ow eB w base x.A x.n x.c p.1 := by
  have hl := getElem?_some_lt hk
  have hn := Ow.len okBB h.1
  obtain ⟨g, rfl, _, _⟩ := Ow.form h.1 (by omega)
  obtain ⟨h1, h2⟩ := h.2.1 p (List.mem_of_getElem? hk)
  obtain ⟨b, hs⟩ := p
  match hs, h1 with
  | [x], _ =>
    refine ⟨g, x, rfl, rfl, ?_, h2 0 _ x rfl rfl⟩
    have := Ow.cellAt okBB h.1 hk (j := 0) (u := x.val) rfl
    simpa [DEnc.enc, eBB, Hd.val] using this
end
end Go.Proofs.YtmaillakhhdkfaaGreatDoor
namespace Go.Proofs.YtmaillakhhdkfaaGreatDoor
set_option maxRecDepth 20000
open Go.RowKit

theorem rows_no {ps qs : List (List UInt8 × List Hd)} {k : Nat} {p q : List UInt8 × List Hd} (hp : ps[k]? = some p) (hq : qs[k]? = some q) (h : p.1 ≠ q.1) : decide (ps.map (·.1) = qs.map (·.1)) = false := by
  simp only [decide_eq_false_iff_not]
  intro e
  have := congrArg (fun l => l[k]?) e
  simp [hp, hq] at this
  exact h this

def EqRRel (ps qs : List (List UInt8 × List Hd)) (w : World) (n : Nat) (i : Value) (wr : World) : Prop :=
  ∃ k : Nat, k ≤ n ∧ i = .int .i64 k ∧ (∀ i p q, i < k → ps[i]? = some p → qs[i]? = some q → p.1 = q.1) ∧ Below w.heap.size w wr

/-- How many bytes some rows have. -/
def sumLen (ps : List (List UInt8 × List Hd)) : Nat := (ps.map fun p => p.1.length).sum
theorem sumLen_eq {ps : List (List UInt8 × List Hd)} {l : List (List UInt8)} (h : ps.map (·.1) = l) : sumLen ps = (l.map List.length).sum := by
  subst h
  simp only [sumLen, List.map_map]
  rfl
/-- Rows marked from k on. -/
def markRows : Nat → List (List UInt8 × List Hd) → List (List UInt8 × List Hd)
  | _, [] => []
  | k, p :: r => (marks k p.1.length, p.2) :: markRows (k + p.1.length) r
theorem markRows_len (k : Nat) (ps : List (List UInt8 × List Hd)) : (markRows k ps).length = ps.length := by
  induction ps generalizing k with
  | nil => rfl
  | cons p r ih => simp [markRows, ih]
theorem markRows_at {ps : List (List UInt8 × List Hd)} {j : Nat} {p : List UInt8 × List Hd} (k : Nat) (h : ps[j]? = some p) : (markRows k ps)[j]? = some (marks (k + sumLen (ps.take j)) p.1.length, p.2) := by
  induction ps generalizing k j with
  | nil => simp at h
  | cons q r ih =>
    match j, h with
    | 0, h =>
      obtain rfl : q = p := by simpa using h
      simp [markRows, sumLen]
    | j + 1, h =>
      have := ih (j := j) (k + q.1.length) (by simpa using h)
      simp only [markRows, List.getElem?_cons_succ, this, List.take_succ_cons, sumLen, List.map_cons, List.sum_cons]
      simp [Nat.add_assoc]
theorem sumLen_succ {ps : List (List UInt8 × List Hd)} {j : Nat} {p : List UInt8 × List Hd} (h : ps[j]? = some p) : sumLen (ps.take (j + 1)) = sumLen (ps.take j) + p.1.length := by
  have hl := getElem?_some_lt h
  rw [List.take_succ_eq_append_getElem hl]
  rw [List.getElem?_eq_getElem hl] at h
  rw [Option.some.inj h]
  simp [sumLen]
theorem sumLen_le (ps : List (List UInt8 × List Hd)) (j : Nat) : sumLen (ps.take j) ≤ sumLen ps := by
  have h2 : sumLen ps = sumLen (ps.take j) + sumLen (ps.drop j) := by
    unfold sumLen
    rw [← List.sum_append, ← List.map_append, List.take_append_drop]
  omega
/-- The first j rows are marked. -/
def mixed (k : Nat) (ps : List (List UInt8 × List Hd)) (j : Nat) : List (List UInt8 × List Hd) := (markRows k ps).take j ++ ps.drop j
theorem mixed_at {ps : List (List UInt8 × List Hd)} {j : Nat} {p : List UInt8 × List Hd} (k : Nat) (h : ps[j]? = some p) : (mixed k ps j)[j]? = some p := by
  have hl := getElem?_some_lt h
  unfold mixed
  rw [List.getElem?_append_right (by rw [List.length_take, markRows_len]; omega), List.length_take, markRows_len, Nat.min_eq_left (by omega), Nat.sub_self, List.getElem?_drop, Nat.add_zero, h]
theorem mixed_set {ps : List (List UInt8 × List Hd)} {j : Nat} {p : List UInt8 × List Hd} (k : Nat) (h : ps[j]? = some p) : (mixed k ps j).set j (marks (k + sumLen (ps.take j)) p.1.length, p.2) = mixed k ps (j + 1) := by
  have hl := getElem?_some_lt h
  have hm := markRows_at k h
  have h1 : ((markRows k ps).take j).length = j := by rw [List.length_take, markRows_len]; omega
  have h2 : ((markRows k ps).take (j + 1)).length = j + 1 := by rw [List.length_take, markRows_len]; omega
  apply List.ext_getElem?
  intro i
  unfold mixed
  rw [List.getElem?_set]
  by_cases e : j = i
  · subst e
    rw [if_pos rfl, if_pos (by rw [List.length_append, h1, List.length_drop]; omega), List.getElem?_append_left (by omega), List.getElem?_take, if_pos (by omega), hm]
  · rw [if_neg e]
    rcases Nat.lt_or_ge i j with h3 | h3
    · rw [List.getElem?_append_left (by omega), List.getElem?_append_left (by omega), List.getElem?_take, List.getElem?_take, if_pos h3, if_pos (by omega)]
    · rw [List.getElem?_append_right (by omega), List.getElem?_append_right (by omega), h1, h2, List.getElem?_drop, List.getElem?_drop]
      congr 1
      omega

theorem markByteSi (A : Option Addr) (n c base : Nat) (l : List UInt8) (k : Nat) (v : Int) (w : World) (hv : v = (k : Int)) (ha : Ow eB w base A n c l) (hm : n ≤ 4294967296) (hk : k ≤ 4294967296) :
    Calls Tryz.prog 31 #[.slice A n c, .int .i64 v] w fun e w' => e = .returned (.int .i64 (v + n)) ∧ Ow eB w' base A n c (marks k n) ∧ w.grownBy w' (A.map (·.block)) := by
  subst hv
  exact markByteS A n c base l k w ha hm hk
def MarkRRel (w : World) (base : Nat) (A : Option Addr) (n c : Nat) (ps : List (List UInt8 × List Hd)) (k : Nat) (vk i : Value) (wr : World) : Prop :=
  ∃ j : Nat, j ≤ n ∧ i = .int .i64 j ∧ vk = .int .i64 ((k : Int) + (sumLen (ps.take j) : Nat)) ∧ DOw eBB wr base A n c (mixed k ps j) ∧ Only (blks ps) w wr

def HeldRRel (w : World) (n k : Nat) (ps : List (List UInt8 × List Hd)) (vk i : Value) (wr : World) : Prop :=
  ∃ j : Nat, j ≤ n ∧ i = .int .i64 j ∧ vk = .int .i64 ((k : Int) + (sumLen (ps.take j) : Nat)) ∧ Below w.heap.size w wr

/-- An answer of a code, rows of bytes of the call's own, and a number. -/
def RetFR (r : Int × List (List UInt8) × Int) (w : World) (e : Ending) (w' : World) : Prop :=
  ∃ A n c ps, e = .returned (.agg #[.int .i64 r.1, .slice A n c, .int .i64 r.2.2]) ∧ DOw eBB w' w.heap.size A n c ps ∧ ps.map (·.1) = r.2.1 ∧ Below w.heap.size w w'

end Go.Proofs.YtmaillakhhdkfaaGreatDoor
namespace Go.Proofs.YtmaillakhhdkfaaGreatDoor
set_option maxRecDepth 20000
open Go.RowKit

theorem firstM_len {d b : List UInt8} (h : firstM d = some b) : 1 ≤ b.length ∧ b.length + 3 ≤ d.length ∧ b.length ≤ 40 ∧ b = (d.drop 1).take b.length := by
  cases d with
  | nil => simp [firstM] at h
  | cons x r =>
    unfold firstM at h
    simp only at h
    split at h
    · rename_i hc
      obtain rfl := Option.some.inj h
      have hl : (r.take x.toNat).length = x.toNat := by rw [List.length_take]; omega
      refine ⟨by omega, by rw [hl, List.length_cons]; omega, by omega, ?_⟩
      rw [hl]
      rfl
    · cases h
theorem frontM_yes {d b : List UInt8} (h : firstM d = some b) : frontM d = b.length + 3 := by simp [frontM, h]

/-- Where the j-th frame begins; the first j bodies. -/
def posF (d : List UInt8) : Nat → Nat
  | 0 => 0
  | j + 1 => posF d j + frontM (d.drop (posF d j))
def bodF (d : List UInt8) : Nat → List (List UInt8)
  | 0 => []
  | j + 1 => bodF d j ++ (firstM (d.drop (posF d j))).toList
theorem posF_le (d : List UInt8) : ∀ j, posF d j ≤ d.length
  | 0 => Nat.zero_le _
  | j + 1 => by
    have ih := posF_le d j
    unfold posF
    cases h : firstM (d.drop (posF d j)) with
    | none => rw [frontM_no h]; exact ih
    | some b =>
      have := (firstM_len h).2.1
      rw [List.length_drop] at this
      rw [frontM_yes h]
      omega
def Going (d : List UInt8) (J : Nat) : Prop := ∀ i, i < J → firstM (d.drop (posF d i)) ≠ none
def EndF (d : List UInt8) (J : Nat) : Prop := firstM (d.drop (posF d J)) = none ∧ Going d J
theorem posF_ge {d : List UInt8} : ∀ {J : Nat}, Going d J → J ≤ posF d J
  | 0, _ => Nat.zero_le _
  | J + 1, h => by
    have ih := posF_ge (J := J) fun i hi => h i (by omega)
    unfold posF
    cases hf : firstM (d.drop (posF d J)) with
    | none => exact absurd hf (h J (by omega))
    | some b => rw [frontM_yes hf]; omega
def endF (d : List UInt8) : Nat → Nat → Nat
  | 0, j => j
  | k + 1, j => match firstM (d.drop (posF d j)) with
    | none => j
    | some _ => endF d k (j + 1)
theorem endF_of {d : List UInt8} {J : Nat} (h : EndF d J) : ∀ (k j : Nat), j ≤ J → J - j ≤ k → endF d k j = J
  | 0, j, h1, h2 => by simp only [endF]; omega
  | k + 1, j, h1, h2 => by
    unfold endF
    by_cases e : j = J
    · subst e
      rw [h.1]
    · cases hf : firstM (d.drop (posF d j)) with
      | none => exact absurd hf (h.2 j (by omega))
      | some b =>
        simp only
        exact endF_of h k (j + 1) (by omega) (by omega)
/-- What ReadFrames answers. -/
def framesM (d : List UInt8) : Int × List (List UInt8) × Int :=
  if d.length ≤ 20000 then (0, bodF d (endF d d.length 0), (posF d (endF d d.length 0) : Nat)) else (2, [], 0)
theorem framesM_big {d : List UInt8} (h : 20000 < d.length) : framesM d = (2, [], 0) := if_neg (by omega)
theorem framesM_ok {d : List UInt8} {J : Nat} (h : d.length ≤ 20000) (hJ : EndF d J) : framesM d = (0, bodF d J, ((posF d J : Nat) : Int)) := by
  have hle := posF_ge hJ.2
  have := posF_le d J
  unfold framesM
  rw [if_pos h, endF_of hJ d.length 0 (Nat.zero_le _) (by omega)]

theorem bodF_sum (d : List UInt8) : ∀ j, ((bodF d j).map List.length).sum ≤ posF d j
  | 0 => by simp [bodF, posF]
  | j + 1 => by
    have ih := bodF_sum d j
    rw [show bodF d (j + 1) = bodF d j ++ (firstM (d.drop (posF d j))).toList from rfl, show posF d (j + 1) = posF d j + frontM (d.drop (posF d j)) from rfl]
    cases h : firstM (d.drop (posF d j)) with
    | none => rw [frontM_no h]; simpa using ih
    | some b =>
      rw [frontM_yes h]
      simp only [Option.toList_some, List.map_append, List.sum_append, List.map_cons, List.map_nil, List.sum_cons, List.sum_nil]
      omega
theorem framesM_sum (d : List UInt8) : ((framesM d).2.1.map List.length).sum ≤ 20000 := by
  unfold framesM
  split
  · have h1 := bodF_sum d (endF d d.length 0)
    have h2 := posF_le d (endF d d.length 0)
    simp only
    omega
  · simp
/-- A slice of what is read, from a place on. -/
theorem Rd.cut {w : World} {hi : Nat} {A : Option Addr} {l : List UInt8} (h : Rd eB w hi A l) (p : Nat) (c : Nat) (hc : l.length ≤ c) : Rd eB w hi (if c = p then A else A.map (·.add p)) (l.drop p) := by
  rcases Nat.lt_or_ge p l.length with h1 | h1
  · obtain ⟨g, o, rfl, hr⟩ := h.add h1
    rw [if_neg (by omega)]
    simpa [eB, addr_add] using hr
  · rw [List.drop_of_length_le h1]
    exact Rd.nil

set_option maxHeartbeats 400000 in
theorem l1Copy (A : Option Addr) (n c : Nat) (l : List UInt8) (w : World) (hr : Rd eB w w.heap.size A l) (hn : l.length = n) (hm : n ≤ 1048576) :
    Calls Tryz.prog 144 #[.slice A n c] w fun e w' => ∃ A' c', e = .returned (.slice A' n c') ∧ Ow eB w' w.heap.size A' n c' l ∧ Below w.heap.size w w' := by
  have Hn := Lib.hid hn
  clear hn
  have o1 : Ow eB (w.alloc (.cells #[] 5)) w.heap.size (some ⟨w.heap.size, 0, none⟩) 0 0 [] := Ow.lit w [] #[] 0 (Nat.le_refl _) (Nat.zero_le _) rfl rfl
  have B1 := (Below.refl w.heap.size w).alloc (Nat.le_refl _) (.cells #[] 5)
  have a1 := hr.lift B1
  go_enter Tryz.func144, Tryz.ntmps144
  go_wp2_with (at_builtin; refine wpList_append_ow okB _ rfl (.tmp 3) (.tmp 4) _ rfl w.heap.size info_u8 Tryz.underlying22 rfl (some ⟨w.heap.size, 0, none⟩) 0 0 [] rfl o1 A n c _ l rfl a1 Hn.out (by unfold maxLen; omega) (by omega) (by simp) ?_; intro A1 c1 w1 ow1 hg1 _)
  go_ret
  rw [List.nil_append] at ow1
  rw [Nat.zero_add] at ow1
  exact ⟨A1, c1, rfl, ow1, B1.grown hg1 (by simp) (fun g hg => by simp at hg; omega)⟩

def FramesRel (w : World) (d : List UInt8) (out vat : Value) (wr : World) : Prop :=
  ∃ j A c ps, out = .slice A j c ∧ vat = .int .i64 (posF d j : Nat) ∧ DOw eBB wr w.heap.size A j c ps ∧ ps.map (·.1) = bodF d j ∧ Going d j ∧ Below w.heap.size w wr

set_option maxHeartbeats 600000 in
theorem l1Frames (A : Option Addr) (n c : Nat) (d : List UInt8) (w : World) (hr : Rd eB w w.heap.size A d) (hn : d.length = n) (hc : n ≤ c) (hm : n ≤ 1048576) (hcm : c ≤ maxLen) :
    Calls Tryz.prog 122 #[.slice A n c] w fun e w' => ∃ J A' c' ps, e = .returned (.tuple #[.slice A' J c', .int .i64 (posF d J : Nat)]) ∧ EndF d J ∧ DOw eBB w' w.heap.size A' J c' ps ∧ ps.map (·.1) = bodF d J ∧ Below w.heap.size w w' := by
  have Hn := Lib.hid hn
  clear hn
  unfold maxLen at hcm
  go_enter Tryz.func122, Tryz.ntmps122
  go_wp2
  have o1 : DOw eBB (w.alloc (.cells #[] 22)) w.heap.size (some ⟨w.heap.size, 0, none⟩) 0 0 [] :=
    ⟨Ow.lit (E := eBB.enc) w [] #[] 0 (Nat.le_refl _) (Nat.zero_le _) rfl rfl, fun p hp => absurd hp (by simp), by simp [blks, blkOf]⟩
  have B1 := (Below.refl w.heap.size w).alloc (Nat.le_refl _) (.cells #[] 22)
  go_loopw [4, 5, 6] (fun out vat _ wr => FramesRel w d out vat wr) (fun _ vat _ _ => n - (intOf vat).toNat)
  case atStart => exact ⟨0, _, _, [], rfl, rfl, o1, rfl, fun i hi => absurd hi (by omega), B1⟩
  case round =>
    obtain ⟨j, A1, c1, ps, rfl, rfl, how, hps, hgo, hbel⟩ := hrel
    have hpl := posF_le d j
    obtain ⟨p, hp⟩ : ∃ p, p = posF d j := ⟨_, rfl⟩
    rw [← hp] at hpl
    have hpn : p ≤ n := by rw [← Hn.out]; exact hpl
    rw [← hp]
    have Hp := Lib.hid hp
    clear hp hpl
    have HF := Lib.hid (l1Front (if c = p then A else A.map (·.add p)) (n - p) (c - p) (d.drop p) wr ((hr.lift hbel).cut p c (by rw [Hn.out]; exact hc)) (by rw [List.length_drop, Hn.out]) (by omega) (by omega))
    cases hfm : firstM (d.drop p) with
    | none =>
      have HE := Lib.hid (show EndF d j from ⟨by rw [← Hp.out]; exact hfm, hgo⟩)
      have H0 := frontM_no hfm
      rw [H0] at HF
      have Hgo := Lib.hid hgo
      clear hfm H0 hgo
      by_cases hcp : c = p
      · have hnp : n = p := by omega
        subst hnp
        subst hcp
        rw [if_pos rfl, Nat.sub_self] at HF
        go_wp2_with (go_at_call 143; refine HF.out.mono ?_; rintro e w1 ⟨rfl, hb1⟩)
        go_ret2
        refine ⟨j, A1, c1, ps, ?_, HE.out, how.below hb1 (Nat.le_refl _), hps, hbel.trans (hb1.mono hbel.size)⟩
        rw [← Hp.out]
        rfl
      · rw [if_neg hcp] at HF
        go_wp2_with (go_at_call 143; refine HF.out.mono ?_; rintro e w1 ⟨rfl, hb1⟩)
        go_ret2
        refine ⟨j, A1, c1, ps, ?_, HE.out, how.below hb1 (Nat.le_refl _), hps, hbel.trans (hb1.mono hbel.size)⟩
        rw [← Hp.out]
        rfl
    | some b =>
      obtain ⟨hb1, hb3, hb40, hbd⟩ := firstM_len hfm
      rw [List.length_drop, Hn.out] at hb3
      rw [frontM_yes hfm] at HF
      have hcp : ¬ c = p := by omega
      rw [if_neg hcp] at HF
      obtain ⟨g, o, rfl, hra⟩ := (hr.lift hbel).add (k := p + 1) (by rw [Hn.out]; omega)
      have hrb : Rd eB wr wr.heap.size (some ⟨g, o + (p + 1), none⟩) b := by
        have := hra.take b.length
        rw [hbd, List.drop_drop]
        simpa [eB] using this
      have HG := Lib.hid (show Going d (j + 1) from fun i hi => by
        rcases Nat.lt_or_ge i j with h1 | h1
        · exact hgo i h1
        · obtain rfl : i = j := by omega
          rw [← Hp.out, hfm]
          simp)
      have HP := Lib.hid (show posF d (j + 1) = p + (b.length + 3) by rw [posF, ← Hp.out, frontM_yes hfm])
      have HB := Lib.hid (show bodF d (j + 1) = bodF d j ++ [b] by rw [bodF, ← Hp.out, hfm]; rfl)
      have HC := Lib.hid fun (W : World) (h : Below wr.heap.size wr W) => l1Copy (some ⟨g, o + (p + 1), none⟩) b.length (c - (p + 1)) b W (hrb.lift h) rfl (by omega)
      have Hgo := Lib.hid hgo
      have Hps := Lib.hid hps
      obtain ⟨m, hm⟩ : ∃ m, m = b.length := ⟨_, rfl⟩
      rw [← hm] at HF HC hb1 hb3 hb40
      have HM := Lib.hid hm
      rw [Option.map_some, addr_add, show ((m + 3 : Nat) : Int) = (m : Int) + 3 from by omega] at HF
      clear hm hgo hps hfm hbd hra hrb hr
      have t1 : ((p : Int) + 1).toNat = p + 1 := by omega
      have t2 : ((p : Int) + ((m : Int) + 3) - 2).toNat = p + (m + 1) := by omega
      have s1 : ¬ c = p + 1 := by omega
      have s2 : p + (m + 1) - (p + 1) = m := by omega
      have l1 : (p : Int) + ((m : Int) + 3) - 2 ≤ (c : Int) := by omega
      have l2 : (p : Int) + 1 ≤ (p : Int) + ((m : Int) + 3) - 2 := by omega
      have hjn : j ≤ 1048576 := by
        have h1 := posF_ge Hgo.out
        have h2 := Hp.out
        omega
      go_wp2_with (first
        | (go_at_call 143; refine HF.out.mono ?_; rintro e w1 ⟨rfl, hw1⟩)
        | (go_at_call 144
           refine (HC.out _ hw1).mono ?_
           rintro e w2 ⟨A2, c2, rfl, ow2, hw2⟩
           have hB2 : Below w.heap.size w w2 := (hbel.trans (hw1.mono hbel.size)).trans (hw2.mono (Nat.le_trans hbel.size hw1.size))
           have d1 := how.below hw1 (Nat.le_refl _)
           have d3 := (d1.below hw2 (Nat.le_refl _)).alloc (.cells #[.slice A2 m c2] 22)
           have o3 := ow2.alloc (.cells #[.slice A2 m c2] 22)
           have hrd := rd_one_row w2 22 b ⟨A2, m, c2⟩
           have hB3 := hB2.alloc hB2.size (.cells #[.slice A2 m c2] 22))
        | (at_builtin
           refine wpList_append_ow okBB _ rfl (.tmp 16) (.tmp 26) _ rfl w.heap.size info_bb Tryz.underlying105 rfl A1 j c1 ps rfl d3.1 (some ⟨w2.heap.size, 0, none⟩) 1 1 _ [(b, [⟨A2, m, c2⟩])] rfl hrd rfl (by unfold maxLen; omega) (by omega) hB3.size ?_
           intro A4 c4 w4 ow4 hg4 hat4))
      have hB1 := hbel.trans (hw1.mono hbel.size)
      have d4 := d1.snocB d3 o3 hB1.size ow4 hg4 hat4
      have hB4 := hB3.grown hg4 hB3.size (fun g hg => (Ow.lt d3.1 g hg).1)
      refine ⟨⟨j + 1, A4, c4, _, rfl, ?_, d4, by rw [HB.out, List.map_append, Hps.out]; rfl, HG.out, hB4⟩, by simp [intOf]; omega⟩
      rw [HP.out, ← HM.out]
      congr 1

/-! ### impl -/
set_option maxHeartbeats 400000 in
theorem implReadFrames_big (A : Option Addr) (n c : Nat) (d : List UInt8) (w : World) (hn : d.length = n) (h : 20000 < n) :
    Calls Tryz.prog 69 #[.slice A n c] w fun e w' => RetFR (framesM d) w e w' := by
  have Hf := Lib.hid (framesM_big (d := d) (by omega))
  have hgt : (20000 : Int) < (n : Int) := by omega
  clear hn h
  go_enter Tryz.func69, Tryz.ntmps69
  go_wp2
  refine bodyPost_ret (v := .agg #[.int .i64 2, .slice none 0 0, .int .i64 0]) (by simp [results, Tryz.results69, go_sem]) rfl ?_
  rw [Hf.out]
  exact ⟨none, 0, 0, [], rfl, DOw.nil, rfl, (Below.refl _ _).alloc (Nat.le_refl _) _⟩

def IFramesRel (w : World) (d : List UInt8) (wr : World) : Prop :=
  ∃ j A c ps, At wr w.heap.size 107 #[.int .i64 0, .slice none 0 0, .int .i64 0] ∧ At wr (w.heap.size + 1) 107 #[.int .i64 0, .slice A j c, .int .i64 (posF d j : Nat)] ∧ DOw eBB wr (w.heap.size + 2) A j c ps ∧ ps.map (·.1) = bodF d j ∧ Going d j ∧ Below w.heap.size w wr
def posAt (w wr : World) : Nat := (intOf ((wr.cell? ⟨w.heap.size + 1, 2, none⟩).getD undef)).toNat

set_option maxHeartbeats 600000 in
theorem implReadFrames_ok (A : Option Addr) (n c : Nat) (d : List UInt8) (w : World) (hr : Rd eB w w.heap.size A d) (hn : d.length = n) (hc : n ≤ c) (h : n ≤ 20000) :
    Calls Tryz.prog 69 #[.slice A n c] w fun e w' => RetFR (framesM d) w e w' := by
  have Hf := fun J => framesM_ok (d := d) (J := J) (by omega)
  have Hf' := Lib.hid Hf
  have Hn := Lib.hid hn
  have hle : (n : Int) ≤ 20000 := by omega
  clear Hf hn
  have hnil : ∀ u : World, (binOp .eql 22 (.slice none 0 0) (.slice none 0 0)).run Tryz.prog u = .ok (.bool true) u := fun u => Lib.run_eql_slice_nil (P := Tryz.prog) u 22 5 none 0 0 0 0 Tryz.underlying22
  go_enter Tryz.func69, Tryz.ntmps69
  go_wp2
  have B0 := ((Below.refl w.heap.size w).alloc (Nat.le_refl _) (.cells #[.int .i64 0, .slice none 0 0, .int .i64 0] 107)).alloc (by simp) (.cells #[.int .i64 0, .slice none 0 0, .int .i64 0] 107)
  have aR0 := (At.new w 107 #[.int .i64 0, .slice none 0 0, .int .i64 0]).alloc (.cells #[.int .i64 0, .slice none 0 0, .int .i64 0] 107)
  have aV0 := At.new (w.alloc (.cells #[.int .i64 0, .slice none 0 0, .int .i64 0] 107)) 107 #[.int .i64 0, .slice none 0 0, .int .i64 0]
  simp only [World.size_alloc] at aV0
  go_loopw [4] (fun _ wr => IFramesRel w d wr) (fun _ wr => n - posAt w wr)
  case atStart => exact ⟨0, none, 0, [], aR0, aV0, DOw.nil, rfl, fun i hi => absurd hi (by omega), B0⟩
  case round =>
    obtain ⟨j, A1, c1, ps, aR, aV, how, hps, hgo, hbel⟩ := hrel
    have hpl := posF_le d j
    have hpos0 : posAt w wr = posF d j := by
      unfold posAt
      rw [aV.cell 2]
      rfl
    have Hpos := Lib.hid hpos0
    clear hpos0
    obtain ⟨p, hp⟩ : ∃ p, p = posF d j := ⟨_, rfl⟩
    rw [← hp] at hpl aV
    have hpn : p ≤ n := by rw [← Hn.out]; exact hpl
    have Hp := Lib.hid hp
    clear hp hpl
    obtain ⟨v0, v1, v2, _, _, _⟩ := aV.three
    have HF := Lib.hid (firstBody (if c = p then A else A.map (·.add p)) (n - p) (c - p) (d.drop p) wr ((hr.lift hbel).cut p c (by rw [Hn.out]; exact hc)) (by rw [List.length_drop, Hn.out]) (by omega) (by omega))
    cases hfm : firstM (d.drop p) with
    | none =>
      have HE := Lib.hid (Hf'.out j ⟨by rw [← Hp.out]; exact hfm, hgo⟩)
      have Hps := Lib.hid hps
      rw [hfm] at HF
      clear hfm hgo hps
      by_cases hcp : c = p
      all_goals
        first
          | (have hnp : n = p := by omega
             subst hnp
             subst hcp
             rw [if_pos rfl, Nat.sub_self] at HF)
          | (rw [if_neg hcp] at HF)
        go_wp2_with (go_at_call 119; refine HF.out.mono ?_; rintro e w1 ⟨hw1, he1⟩; obtain rfl : e = .returned (.slice none 0 0) := he1; have aR1 := aR.below hw1 aR.lt; have aV1 := aV.below hw1 aV.lt; obtain ⟨r0, r1, r2, _, _, _⟩ := aR1.three; obtain ⟨u0, u1, u2, _, _, _⟩ := aV1.three)
        refine bodyPost_ret (v := .agg #[.int .i64 0, .slice A1 j c1, .int .i64 (posF d j : Nat)]) (by rw [← Hp.out]; simp [results, Tryz.results69, go_sem, r0, r1, r2]) rfl ?_
        rw [HE.out]
        have hB1 := hbel.trans (hw1.mono hbel.size)
        exact ⟨A1, j, c1, ps, rfl, ((((how.below hw1 (Nat.le_refl _)).under (p := ⟨w.heap.size, 0, none⟩) (by simp) _).under (p := ⟨w.heap.size, 1, none⟩) (by simp) _).under (p := ⟨w.heap.size, 2, none⟩) (by simp) _).from_ (by omega), Hps.out,
          ((hB1.setCell (Nat.le_refl _) _).setCell (Nat.le_refl _) _).setCell (Nat.le_refl _) _⟩
    | some b =>
      obtain ⟨hb1, hb3, hb40, _⟩ := firstM_len hfm
      rw [List.length_drop, Hn.out] at hb3
      rw [hfm] at HF
      have hcp : ¬ c = p := by omega
      rw [if_neg hcp] at HF
      have HG := Lib.hid (show Going d (j + 1) from fun i hi => by
        rcases Nat.lt_or_ge i j with h1 | h1
        · exact hgo i h1
        · obtain rfl : i = j := by omega
          rw [← Hp.out, hfm]
          simp)
      have HP := Lib.hid (show posF d (j + 1) = p + (b.length + 3) by rw [posF, ← Hp.out, frontM_yes hfm])
      have HB := Lib.hid (show bodF d (j + 1) = bodF d j ++ [b] by rw [bodF, ← Hp.out, hfm]; rfl)
      have Hps := Lib.hid hps
      have hjn : j ≤ 1048576 := by
        have h1 := posF_ge hgo
        have h2 := Hp.out
        omega
      obtain ⟨m, hm⟩ : ∃ m, m = b.length := ⟨_, rfl⟩
      have HM := Lib.hid hm
      rw [← hm] at hb1 hb3 hb40
      clear hm hgo hps hfm
      go_wp2_with (first
        | (go_at_call 119
           refine HF.out.mono ?_
           rintro e w1 ⟨hw1, g2, c2, he1, ow2⟩
           rw [← HM.out] at he1 ow2
           obtain rfl : e = .returned (.slice (some ⟨g2, 0, none⟩) m c2) := he1
           have heq : ∀ u : World, (binOp .eql 22 (.slice (some ⟨g2, 0, none⟩) m c2) (.slice none 0 0)).run Tryz.prog u = .ok (.bool false) u := fun u => Lib.run_eql_slice_nil (P := Tryz.prog) u 22 5 (some ⟨g2, 0, none⟩) m c2 0 0 Tryz.underlying22
           have aR1 := aR.below hw1 aR.lt
           have aV1 := aV.below hw1 aV.lt
           have z1 := aV1.lt
           obtain ⟨u0, u1, u2, _, _, _⟩ := aV1.three
           have hB1 := hbel.trans (hw1.mono hbel.size)
           have hrd := rd_one_row w1 22 b ⟨some ⟨g2, 0, none⟩, m, c2⟩
           have d3 := (how.below hw1 (Nat.le_refl _)).alloc (.cells #[.slice (some ⟨g2, 0, none⟩) m c2] 22)
           have o3 := ow2.alloc (.cells #[.slice (some ⟨g2, 0, none⟩) m c2] 22)
           have aR3 := aR1.alloc (.cells #[.slice (some ⟨g2, 0, none⟩) m c2] 22)
           have aV3 := aV1.alloc (.cells #[.slice (some ⟨g2, 0, none⟩) m c2] 22)
           have hB3 := hB1.alloc hB1.size (.cells #[.slice (some ⟨g2, 0, none⟩) m c2] 22)
           have hb2 : w.heap.size + 2 ≤ w1.heap.size + 1 := by omega)
        | (at_builtin
           refine wpList_append_ow okBB _ rfl (.tmp 18) (.tmp 20) _ rfl (w.heap.size + 2) info_bb Tryz.underlying105 rfl A1 j c1 ps rfl d3.1 (some ⟨w1.heap.size, 0, none⟩) 1 1 _ [(b, [⟨some ⟨g2, 0, none⟩, m, c2⟩])] rfl hrd rfl (by unfold maxLen; omega) (by omega) (by simpa using hb2) ?_
           intro A4 c4 w4 ow4 hg4 hat4
           have aR4 := aR3.grown hg4 (fun e => by have := (Ow.lt d3.1 _ e).1; omega)
           have aV4 := aV3.grown hg4 (fun e => by have := (Ow.lt d3.1 _ e).1; omega)
           obtain ⟨x0, x1, x2, y0, y1, y2⟩ := aV4.three))
      have hcast : (p : Int) + ((m : Int) + 3) = ((posF d (j + 1) : Nat) : Int) := by rw [HP.out, ← HM.out]; omega
      rw [hcast]
      have aR5 := (aR4.far (p := ⟨w.heap.size + 1, 1, none⟩) (by simp) (.slice A4 (j + 1) c4)).far (p := ⟨w.heap.size + 1, 2, none⟩) (by simp) (.int .i64 ((posF d (j + 1) : Nat) : Int))
      have aV5 := (aV4.set 1 (.slice A4 (j + 1) c4)).set 2 (.int .i64 ((posF d (j + 1) : Nat) : Int))
      have hz := aV.lt
      have d4 := how.snocB d3 o3 (by omega) ow4 hg4 hat4
      have d5 := (d4.under (p := ⟨w.heap.size + 1, 1, none⟩) (by simp) (.slice A4 (j + 1) c4)).under (p := ⟨w.heap.size + 1, 2, none⟩) (by simp) (.int .i64 ((posF d (j + 1) : Nat) : Int))
      have hB4 := hB3.grown hg4 hB3.size (fun g hg => by have := (Ow.lt d3.1 g hg).1; omega)
      have hB5 := (hB4.setCell (p := ⟨w.heap.size + 1, 1, none⟩) (by simp) (.slice A4 (j + 1) c4)).setCell (p := ⟨w.heap.size + 1, 2, none⟩) (by simp) (.int .i64 ((posF d (j + 1) : Nat) : Int))
      refine ⟨⟨j + 1, A4, c4, _, aR5, aV5, d5, by rw [HB.out, List.map_append, Hps.out]; rfl, HG.out, hB5⟩, ?_⟩
      rw [Hpos.out]
      unfold posAt
      rw [aV5.cell 2]
      have h1 := HP.out
      have h2 := HM.out
      have h3 := Hp.out
      simp [intOf]
      omega

theorem implReadFrames (A : Option Addr) (n c : Nat) (d : List UInt8) (w : World) (hr : Rd eB w w.heap.size A d) (hn : d.length = n) (hc : n ≤ c) :
    Calls Tryz.prog 69 #[.slice A n c] w fun e w' => RetFR (framesM d) w e w' := by
  by_cases h : n ≤ 20000
  · exact implReadFrames_ok A n c d w hr hn hc h
  · exact implReadFrames_big A n c d w hn (by omega)
end Go.Proofs.YtmaillakhhdkfaaGreatDoor
/-
  What holds of the pure functions: a word read back; frames read back; one byte that is another one changes the sum.
-/
namespace Go.Proofs.YtmaillakhhdkfaaGreatDoor
set_option maxRecDepth 20000
open Go.RowKit

/-! ### Words -/
theorem packL_cons (m s : Nat) : packL m (s + 1) = UInt8.ofNat m :: packL (m / 256) s := by
  unfold packL
  rw [List.range_succ_eq_map, List.map_cons, List.map_map, Nat.pow_zero, Nat.div_one]
  congr 1
  apply List.map_congr_left
  intro i _
  simp only [Function.comp]
  rw [Nat.div_div_eq_div_mul, Nat.pow_succ, Nat.mul_comm]
theorem readV_pack : ∀ (s m : Nat), readV (packL m s) = m % 256 ^ s
  | 0, m => by rw [Nat.pow_zero, Nat.mod_one]; rfl
  | s + 1, m => by
    rw [packL_cons, readV, readV_pack s (m / 256), UInt8.toNat_ofNat', show 256 ^ (s + 1) = 256 * 256 ^ s by rw [Nat.pow_succ, Nat.mul_comm], Nat.mod_mul]
    omega
theorem read_back {n s : Int} (h : (packM n s).1 = 0) : readM (packM n s).2 0 s = (0, n) := by
  unfold packM at *
  split at h
  · rename_i hc
    rw [if_pos hc]
    obtain ⟨h1, h4, h0, hlt⟩ := hc
    obtain ⟨m, rfl⟩ := Int.eq_ofNat_of_zero_le h0
    obtain ⟨t, rfl⟩ := Int.eq_ofNat_of_zero_le (show 0 ≤ s by omega)
    have hlt' : m < 256 ^ t := by
      have : ((256 ^ t : Nat) : Int) = (256 : Int) ^ (t : Int).toNat := by rw [Int.toNat_natCast, Int.natCast_pow]; rfl
      rw [← this] at hlt
      exact_mod_cast hlt
    simp only [Int.toNat_natCast]
    have := readM_nat (l := packL m t) (p := 0) (s := t) ⟨by omega, by omega, by rw [packL_len]; omega⟩
    simp only [Int.natCast_zero] at this
    rw [this]
    unfold readAt
    rw [Nat.add_zero, List.drop_zero, Nat.sub_zero, List.take_of_length_le (by rw [packL_len]; omega), readV_pack, Nat.mod_eq_of_lt hlt']
  · simp at h

/-! ### Sums -/
theorem xor_cancel {a b c : Nat} (h : a ^^^ c = b ^^^ c) : a = b := by
  have := congrArg (· ^^^ c) h
  simpa [Nat.xor_assoc] using this
theorem crcS_inj {a b : Nat} (ha : a < 65536) (hb : b < 65536) (h : crcS a = crcS b) : a = b := by
  unfold crcS at h
  split at h <;> split at h
  · have := xor_cancel h
    omega
  · have h2 : (a * 2 % 65536 ^^^ 4129) % 2 = 1 := by rw [Nat.xor_mod_two_eq_one]; omega
    rw [h] at h2
    omega
  · have h2 : (b * 2 % 65536 ^^^ 4129) % 2 = 1 := by rw [Nat.xor_mod_two_eq_one]; omega
    rw [← h] at h2
    omega
  · omega
theorem crcK_inj {a b : Nat} (ha : a < 65536) (hb : b < 65536) : ∀ k, crcK k a = crcK k b → a = b
  | 0, h => h
  | k + 1, h => crcK_inj ha hb k (crcS_inj (crcK_lt ha k) (crcK_lt hb k) h)
theorem crcB_inj {a b : Nat} (ha : a < 65536) (hb : b < 65536) (x : UInt8) (h : crcB a x = crcB b x) : a = b := by
  have hx := x.toNat_lt
  exact xor_cancel (crcK_inj (xor16 ha (by omega)) (xor16 hb (by omega)) 8 h)
theorem crcB_byte {a : Nat} (ha : a < 65536) {x y : UInt8} (h : crcB a x = crcB a y) : x = y := by
  have hx := x.toNat_lt
  have hy := y.toNat_lt
  have h1 := crcK_inj (xor16 ha (by omega)) (xor16 ha (by omega)) 8 h
  rw [Nat.xor_comm, Nat.xor_comm a] at h1
  have h2 := xor_cancel h1
  exact UInt8.toNat_inj.1 (by omega)
theorem fold_inj (l : List UInt8) : ∀ {a b : Nat}, a < 65536 → b < 65536 → l.foldl crcB a = l.foldl crcB b → a = b := by
  induction l with
  | nil => intro a b _ _ h; exact h
  | cons x l ih => intro a b ha hb h; rw [List.foldl_cons, List.foldl_cons] at h; exact crcB_inj ha hb x (ih (crcB_lt ha x) (crcB_lt hb x) h)
theorem fold_set (l : List UInt8) : ∀ (i : Nat) {a : Nat} {x y : UInt8}, a < 65536 → l[i]? = some x → l.foldl crcB a = (l.set i y).foldl crcB a → x = y := by
  induction l with
  | nil => intro i a x y _ h; simp at h
  | cons z l ih =>
    intro i a x y ha h he
    cases i with
    | zero =>
      obtain rfl : z = x := by simpa using h
      rw [List.set_cons_zero, List.foldl_cons, List.foldl_cons] at he
      exact crcB_byte ha (fold_inj l (crcB_lt ha z) (crcB_lt ha y) he)
    | succ i =>
      rw [List.set_cons_succ, List.foldl_cons, List.foldl_cons] at he
      exact ih i (crcB_lt ha z) (by simpa using h) he
theorem sumL_inj {f g : List UInt8} (h : sumL f = sumL g) : sumN f = sumN g := by
  unfold sumL at h
  have hf := sumN_lt f
  have hg := sumN_lt g
  simp only [List.cons.injEq, and_true] at h
  have h1 := congrArg UInt8.toNat h.1
  have h2 := congrArg UInt8.toNat h.2
  rw [UInt8.toNat_ofNat', UInt8.toNat_ofNat'] at h1 h2
  omega

/-! ### Frames -/
theorem first_frame {b : List UInt8} (h1 : 1 ≤ b.length) (h2 : b.length ≤ 40) : firstM (frameL b) = some b := by
  have hn : (UInt8.ofNat b.length).toNat = b.length := by rw [UInt8.toNat_ofNat']; omega
  have ht : (b ++ sumL (frontL b)).take b.length = b := by simp
  have := firstM_yes (b := UInt8.ofNat b.length) (r := b ++ sumL (frontL b)) (by
    rw [hn, ht]
    refine ⟨h1, h2, by simp [sumL], ?_⟩
    rw [List.take_of_length_le (by simp [sumL])]
    rfl)
  rw [hn, ht] at this
  exact this
theorem frames_one {b : List UInt8} (h1 : 1 ≤ b.length) (h2 : b.length ≤ 40) : framesM (frameL b) = (0, [b], ((b.length + 3 : Nat) : Int)) := by
  have hf := first_frame h1 h2
  have hl := frameL_len b
  have hp : posF (frameL b) 1 = b.length + 3 := by
    simp only [posF, List.drop_zero, Nat.zero_add]
    exact frontM_yes hf
  have hE : EndF (frameL b) 1 := by
    refine ⟨?_, fun i hi => ?_⟩
    · rw [hp, List.drop_eq_nil_of_le (by omega)]
      rfl
    · obtain rfl : i = 0 := by omega
      simp only [posF, List.drop_zero, hf]
      simp
  rw [framesM_ok (by omega) hE, hp]
  simp only [bodF, posF, List.drop_zero, hf]
  rfl
theorem frames_none {d : List UInt8} (h : firstM d = none) (hl : d.length ≤ 20000) : framesM d = (0, [], 0) := by
  rw [framesM_ok (J := 0) hl ⟨by simpa [posF] using h, fun i hi => absurd hi (by omega)⟩]
  rfl
/-- One byte of a frame, not its first one, is another one: no frame. -/
theorem frames_turned {b : List UInt8} (h1 : 1 ≤ b.length) (h2 : b.length ≤ 40) {i : Nat} {x y : UInt8} (hx : (frameL b)[i + 1]? = some x) (hne : x ≠ y) : framesM ((frameL b).set (i + 1) y) = (0, [], 0) := by
  refine frames_none ?_ (by rw [List.length_set, frameL_len]; omega)
  have hn : (UInt8.ofNat b.length).toNat = b.length := by rw [UInt8.toNat_ofNat']; omega
  have hF : frameL b = UInt8.ofNat b.length :: (b ++ sumL (frontL b)) := rfl
  have hx' : (b ++ sumL (frontL b))[i]? = some x := by rw [hF] at hx; simpa using hx
  rw [hF, List.set_cons_succ]
  refine firstM_no fun hc => ?_
  rw [hn] at hc
  have he := hc.2.2.2
  have hlen : ((b ++ sumL (frontL b)).set i y).length = b.length + 2 := by simp [sumL]
  rw [List.take_of_length_le (by rw [List.length_cons, hlen]; omega)] at he
  have ht : (((b ++ sumL (frontL b)).set i y).take b.length).length = b.length := by rw [List.length_take, hlen]; omega
  have he2 : (b ++ sumL (frontL b)).set i y = ((b ++ sumL (frontL b)).set i y).take b.length ++ sumL (frontL (((b ++ sumL (frontL b)).set i y).take b.length)) := by
    have := congrArg List.tail he
    simpa [frameL, frontL] using this
  rcases Nat.lt_or_ge i b.length with hi | hi
  · rw [List.set_append_left _ _ hi, List.take_left' (by simp)] at he2
    have hs := List.append_cancel_left he2
    have hsum := sumL_inj hs
    have hfr : frontL (b.set i y) = (frontL b).set (i + 1) y := by simp [frontL]
    rw [hfr] at hsum
    rw [List.getElem?_append_left hi] at hx'
    exact hne (fold_set (frontL b) (i + 1) (by omega) (by simpa [frontL] using hx') hsum)
  · rw [List.set_append_right _ _ hi, List.take_left' rfl] at he2
    have hs := List.append_cancel_left he2
    rw [List.getElem?_append_right hi] at hx'
    have hlt := getElem?_some_lt hx'
    have hy : ((sumL (frontL b)).set (i - b.length) y)[i - b.length]? = some y := by rw [List.getElem?_set_self hlt]
    rw [hs, hx'] at hy
    exact hne (Option.some.inj hy)
/-- A frame without its last byte: no frame. -/
theorem frames_torn {b : List UInt8} (h1 : 1 ≤ b.length) (h2 : b.length ≤ 40) : framesM ((frameL b).take (b.length + 2)) = (0, [], 0) := by
  refine frames_none ?_ (by rw [List.length_take]; omega)
  have hn : (UInt8.ofNat b.length).toNat = b.length := by rw [UInt8.toNat_ofNat']; omega
  have hF : frameL b = UInt8.ofNat b.length :: (b ++ sumL (frontL b)) := rfl
  rw [hF, List.take_succ_cons]
  refine firstM_no fun hc => ?_
  have := hc.2.2.1
  rw [hn, List.length_take] at this
  omega
theorem firstM_frame {d b : List UInt8} (h : firstM d = some b) : frameL b = d.take (b.length + 3) := by
  cases d with
  | nil => simp [firstM] at h
  | cons x r =>
    unfold firstM at h
    simp only at h
    split at h
    · rename_i hc
      obtain rfl := Option.some.inj h
      have hl : (r.take x.toNat).length = x.toNat := by rw [List.length_take]; omega
      rw [hl]
      exact hc.2.2.2.symm
    · cases h
/-- What the frames' bodies are packed into is what they were read from. -/
theorem bodF_frames (d : List UInt8) : ∀ J, Going d J → (bodF d J).flatMap frameL = d.take (posF d J) ∧ ∀ b ∈ bodF d J, 1 ≤ b.length ∧ b.length ≤ 40
  | 0, _ => by simp [bodF, posF]
  | J + 1, h => by
    have ih := bodF_frames d J fun i hi => h i (by omega)
    have hJ := h J (by omega)
    cases hf : firstM (d.drop (posF d J)) with
    | none => exact absurd hf hJ
    | some b =>
      have hl := firstM_len hf
      refine ⟨?_, fun b' hb' => ?_⟩
      · simp only [bodF, posF, hf]
        rw [frontM_yes hf, List.take_add, List.flatMap_append, ih.1, ← firstM_frame hf]
        simp
      · simp only [bodF, hf, List.mem_append, Option.mem_toList] at hb'
        rcases hb' with hb' | hb'
        · exact ih.2 b' hb'
        · obtain rfl : b = b' := by simpa using hb'
          exact ⟨hl.1, hl.2.2.1⟩
theorem endF_end (d : List UInt8) : ∀ k j, Going d j → d.length ≤ posF d j + k → EndF d (endF d k j)
  | 0, j, hg, hl => by
    refine ⟨?_, hg⟩
    unfold endF
    rw [List.drop_eq_nil_of_le (by omega)]
    rfl
  | k + 1, j, hg, hl => by
    unfold endF
    cases hf : firstM (d.drop (posF d j)) with
    | none => exact ⟨hf, hg⟩
    | some b =>
      refine endF_end d k (j + 1) (fun i hi => ?_) ?_
      · rcases Nat.lt_or_ge i j with h | h
        · exact hg i h
        · obtain rfl : i = j := by omega
          rw [hf]
          simp
      · have : posF d (j + 1) = posF d j + (b.length + 3) := by rw [← frontM_yes hf]; rfl
        omega
theorem frames_back {d : List UInt8} (hl : d.length ≤ 20000) : ∃ p : Nat, (framesM d).2.2 = (p : Int) ∧ p ≤ d.length ∧ (framesM d).2.1.flatMap frameL = d.take p ∧ ∀ b ∈ (framesM d).2.1, 1 ≤ b.length ∧ b.length ≤ 40 := by
  have hE := endF_end d d.length 0 (fun i hi => absurd hi (by omega)) (by omega)
  rw [framesM_ok hl hE]
  have := bodF_frames d _ hE.2
  exact ⟨_, rfl, posF_le d _, this.1, this.2⟩
end Go.Proofs.YtmaillakhhdkfaaGreatDoor
/-
  What a disk says, of the pure answers; and what the laws of records and of disks say of them.
-/
namespace Go.Proofs.YtmaillakhhdkfaaGreatDoor
set_option maxRecDepth 20000
open Go.RowKit
set_option linter.unusedSimpArgs false
set_option linter.unusedVariables false

/-! ### Records and their bytes -/
theorem form_of {r : Rcd} (h : recFaultM r = 0) : recFormM r = true := by
  rcases hf : recFormM r
  · rw [recFault_form hf] at h; cases h
  · rfl
theorem dec_encSb {x : Smp} (h : faultM x = 0) : decodeM (encSb x) = (0, x) := by
  have := (encode_decode h).2
  rw [encodeM_encSb h] at this
  exact this
theorem node_byte {p : Int} (h : inB (p, 0, 3) = true) : (((UInt8.ofNat p.toNat).toNat : Nat) : Int) = p := by
  unfold inB at h
  simp only [Bool.and_eq_true, decide_eq_true_eq] at h
  rw [UInt8.toNat_ofNat']
  omega
theorem pack2_is (n : Nat) : packL n 2 = [UInt8.ofNat n, UInt8.ofNat (n / 256)] := by
  rw [packL_cons, packL_cons]; rfl
theorem two_bytes {n : Int} (h0 : 0 ≤ n) (h1 : n ≤ 60000) : (((UInt8.ofNat n.toNat).toNat + 256 * (UInt8.ofNat (n.toNat / 256)).toNat : Nat) : Int) = n := by
  rw [UInt8.toNat_ofNat', UInt8.toNat_ofNat']
  omega
theorem read_0 (x : UInt8) (m : List UInt8) : (readM (x :: m) 0 1).2 = (x.toNat : Int) := read1 (p := 0) rfl
theorem read_1 (x y : UInt8) (m : List UInt8) : (readM (x :: y :: m) 1 1).2 = (y.toNat : Int) := read1 (p := 1) rfl
theorem read_12 (x a b : UInt8) (m : List UInt8) : (readM (x :: a :: b :: m) 1 2).2 = ((a.toNat + 256 * b.toNat : Nat) : Int) := read2 (p := 1) rfl rfl
theorem read_22 (x y a b : UInt8) (m : List UInt8) : (readM (x :: y :: a :: b :: m) 2 2).2 = ((a.toNat + 256 * b.toNat : Nat) : Int) := read2 (p := 2) rfl rfl
theorem unp_enc {r : Rcd} (h : recFaultM r = 0) : unpR (encR r) = r := by
  obtain ⟨k, p, x, n⟩ := r
  have hf := form_of h
  unfold recFormM at hf
  by_cases k1 : k = 1
  · subst k1
    rw [if_pos rfl] at hf
    have hz : p = 0 ∧ n = 0 := by simpa [formM] using hf
    obtain ⟨rfl, rfl⟩ := hz
    rw [rec1] at h
    rw [encR_1, unpR_1 (by rw [read_0]; rfl), show (1 :: encSb x).drop 1 = encSb x from rfl, dec_encSb h]
  rw [if_neg k1] at hf
  by_cases k2 : k = 2
  · subst k2
    rw [if_pos rfl] at hf
    have hz : n = 0 := by simpa [formM] using hf
    subst hz
    rw [rec2] at h
    by_cases hp : inB (p, 0, 3) = true
    · rw [if_pos hp] at h
      rw [encR_2, unpR_2 (by rw [read_0]; rfl), read_1, node_byte hp, show (2 :: UInt8.ofNat p.toNat :: encSb x).drop 2 = encSb x from rfl, dec_encSb h]
    · rw [if_neg hp] at h; cases h
  rw [if_neg k2] at hf
  by_cases k3 : k = 3
  · subst k3
    rw [if_pos rfl] at hf
    have hz : x = (0, 0, 0, 0) := by simpa [formM] using hf
    subst hz
    rw [rec3] at h
    by_cases hp : (inB (p, 0, 3) && inB (n, 0, 9999)) = true
    · have hp' := hp
      rw [Bool.and_eq_true] at hp'
      have hn : 0 ≤ n ∧ n ≤ 9999 := by have := hp'.2; unfold inB at this; simpa using this
      rw [encR_3, unpR_3 (by rw [read_0]; rfl), read_1, node_byte hp'.1, pack2_is,
        read_22, two_bytes hn.1 (by omega)]
    · rw [if_neg hp] at h; cases h
  rw [if_neg k3] at hf
  by_cases k4 : k = 4
  · subst k4
    rw [if_pos rfl] at hf
    have hz : p = 0 ∧ x = (0, 0, 0, 0) := by simpa [formM] using hf
    obtain ⟨rfl, rfl⟩ := hz
    rw [rec4] at h
    by_cases hp : inB (n, 0, 60000) = true
    · have hn : 0 ≤ n ∧ n ≤ 60000 := by have := hp; unfold inB at this; simpa using this
      rw [encR_4, unpR_4 (by rw [read_0]; rfl), pack2_is,
        read_12, two_bytes hn.1 hn.2]
    · rw [if_neg hp] at h; cases h
  rw [if_neg k4] at hf
  cases hf
/-- What is written of a record is read. -/
theorem rec_back {r : Rcd} (h : recFaultM r = 0) : decodeRecM (encR r) = (0, r) := by
  rcases dec_or (encR r) with ⟨h1, -, -⟩ | ⟨-, h2⟩
  · rw [h1, unp_enc h]
  · exact absurd ⟨by rw [unp_enc h]; exact h, by rw [unp_enc h]⟩ h2
/-- What is read of a record is written. -/
theorem rec_forth {l : List UInt8} (h : (decodeRecM l).1 = 0) : encRecM (decodeRecM l).2 = (0, l) := by
  rcases dec_or l with ⟨h1, h2, h3⟩ | ⟨h1, -⟩
  · rw [h1]; unfold encRecM; rw [if_pos h2, h3]
  · rw [h1] at h; cases h
theorem encRec_code (r : Rcd) : (encRecM r).1 = recFaultM r := by
  unfold encRecM
  by_cases h : recFaultM r = 0
  · rw [if_pos h, h]
  · rw [if_neg h]
theorem decR_right {l : List UInt8} (h : (decR l).2 = true) : recFaultM (decR l).1 = 0 := by
  have hd : decodeRecM l = (0, (decR l).1) := by unfold decodeRecM; rw [if_pos h]
  rcases dec_or l with ⟨h1, h2, h3⟩ | ⟨h1, -⟩
  · rw [h1] at hd
    rw [← (Prod.mk.inj hd).2]; exact h2
  · rw [h1] at hd; cases (Prod.mk.inj hd).1
theorem decR_enc {r : Rcd} (h : recFaultM r = 0) : decR (encR r) = (r, true) := by
  have hb := rec_back h
  unfold decodeRecM at hb
  rcases hd : decR (encR r) with ⟨q, _ | _⟩
  · rw [hd] at hb; cases (Prod.mk.inj hb).1
  · rw [hd] at hb
    rw [if_pos rfl] at hb
    have he : q = r := (Prod.mk.inj hb).2
    rw [he]
theorem encR_few {r : Rcd} (h : recFaultM r = 0) : 1 ≤ (encR r).length ∧ (encR r).length ≤ 9 := by
  unfold encR encT
  split
  · rw [List.length_cons, encSb_len]; omega
  split
  · rw [List.length_cons, List.length_cons, encSb_len]; omega
  split <;> simp [pack2_is]

/-! ### A record put to a state -/
theorem step_life (s : Sta) (r : Rcd) (h : (stepR s r).1 = 0) : s.2.2 ≤ (stepR s r).2.2.2 ∧ s.1.length ≤ (stepR s r).2.1.length := by
  unfold stepR at h ⊢
  by_cases k1 : r.1 = 1
  · rw [if_pos k1] at h ⊢
    by_cases hc : (insertM s.1 r.2.2.1).1 = 0
    · rw [if_pos hc]
      refine ⟨Int.le_refl _, ?_⟩
      show s.1.length ≤ (insertM s.1 r.2.2.1).2.2.length
      unfold insertM at hc ⊢
      by_cases a1 : storeFaultM s.1 ≠ 0
      · rw [if_pos a1] at hc; exact absurd hc a1
      rw [if_neg a1] at hc ⊢
      by_cases a2 : faultM r.2.2.1 ≠ 0
      · rw [if_pos a2] at hc; exact absurd hc a2
      rw [if_neg a2] at hc ⊢
      by_cases a3 : 0 ≤ findI s.1 r.2.2.1
      · rw [if_pos a3]; exact Nat.le_refl _
      rw [if_neg a3] at hc ⊢
      by_cases a4 : 160 ≤ s.1.length
      · rw [if_pos a4] at hc; cases hc
      rw [if_neg a4]
      show s.1.length ≤ (insM s.1 r.2.2.1).length
      rw [insM_len]
      omega
    · rw [if_neg hc] at h; exact absurd h hc
  rw [if_neg k1] at h ⊢
  by_cases k2 : r.1 = 2
  · rw [if_pos k2] at h ⊢
    by_cases hc : (addM s.2.1 r.2.1 r.2.2.1).1 = 0
    · rw [if_pos hc]; exact ⟨Int.le_refl _, Nat.le_refl _⟩
    · rw [if_neg hc] at h; exact absurd h hc
  rw [if_neg k2] at h ⊢
  by_cases k3 : r.1 = 3
  · rw [if_pos k3] at h ⊢
    by_cases hc : (doneM s.2.1 r.2.1 r.2.2.2).1 = 0
    · rw [if_pos hc]; exact ⟨Int.le_refl _, Nat.le_refl _⟩
    · rw [if_neg hc] at h; exact absurd h hc
  rw [if_neg k3] at h ⊢
  by_cases k4 : r.2.2.2 < s.2.2
  · rw [if_pos k4] at h; cases h
  · rw [if_neg k4]; exact ⟨by show s.2.2 ≤ r.2.2.2; omega, Nat.le_refl _⟩
theorem step_no (s : Sta) (r : Rcd) (h : (stepR s r).1 ≠ 0) : (stepR s r).2 = s := by
  unfold stepR at h ⊢
  by_cases k1 : r.1 = 1
  · rw [if_pos k1] at h ⊢
    by_cases hc : (insertM s.1 r.2.2.1).1 = 0
    · rw [if_pos hc] at h; exact absurd rfl h
    · rw [if_neg hc]
  rw [if_neg k1] at h ⊢
  by_cases k2 : r.1 = 2
  · rw [if_pos k2] at h ⊢
    by_cases hc : (addM s.2.1 r.2.1 r.2.2.1).1 = 0
    · rw [if_pos hc] at h; exact absurd rfl h
    · rw [if_neg hc]
  rw [if_neg k2] at h ⊢
  by_cases k3 : r.1 = 3
  · rw [if_pos k3] at h ⊢
    by_cases hc : (doneM s.2.1 r.2.1 r.2.2.2).1 = 0
    · rw [if_pos hc] at h; exact absurd rfl h
    · rw [if_neg hc]
  rw [if_neg k3] at h ⊢
  by_cases k4 : r.2.2.2 < s.2.2
  · rw [if_pos k4]
  · rw [if_neg k4] at h; exact absurd rfl h
/-- What the law of records says of an applied record. -/
theorem apply_said {s s' : Sta} {r : Rcd} (h : applyM s r = (0, s')) : stateFaultM s' = 0 ∧ s.2.2 ≤ s'.2.2 ∧ s.1.length ≤ s'.1.length := by
  unfold applyM at h
  by_cases a1 : stateFaultM s ≠ 0
  · rw [if_pos a1] at h; exact absurd (Prod.mk.inj h).1 a1
  rw [if_neg a1] at h
  by_cases a2 : recFaultM r ≠ 0
  · rw [if_pos a2] at h; exact absurd (Prod.mk.inj h).1 a2
  rw [if_neg a2] at h
  by_cases a3 : (stepR s r).1 = 0
  · rw [if_pos a3] at h
    rw [← (Prod.mk.inj h).2]
    exact ⟨step_right (by simpa using a1) (by simpa using a2) a3, step_life s r a3⟩
  · rw [if_neg a3] at h; exact absurd (Prod.mk.inj h).1 a3

/-! ### What a disk says -/
def recF : Sta → List Rcd → Nat → List (List UInt8) → Sta × List Rcd × Nat
  | s, rs, n, [] => (s, rs, n)
  | s, rs, n, b :: bs => if (decR b).2 = true ∧ (stepR s (decR b).1).1 = 0 then recF (stepR s (decR b).1).2 (rs ++ [(decR b).1]) (n + b.length + 3) bs else (s, rs, n)
theorem recF_yes {s : Sta} {rs : List Rcd} {n : Nat} {b : List UInt8} {bs : List (List UInt8)} (h1 : (decR b).2 = true) (h2 : (stepR s (decR b).1).1 = 0) :
    recF s rs n (b :: bs) = recF (stepR s (decR b).1).2 (rs ++ [(decR b).1]) (n + b.length + 3) bs := by
  rw [recF, if_pos ⟨h1, h2⟩]
theorem recF_no {s : Sta} {rs : List Rcd} {n : Nat} {b : List UInt8} {bs : List (List UInt8)} (h : ¬ ((decR b).2 = true ∧ (stepR s (decR b).1).1 = 0)) : recF s rs n (b :: bs) = (s, rs, n) := by
  rw [recF, if_neg h]
/-- What RecoverDisk answers: the code, the state, the records, the size. -/
def recoverM (d : List UInt8) : Int × Sta × List Rcd × Nat :=
  if d.length ≤ 20000 then (0, recF zeroSta [] 0 (framesM d).2.1) else (2, zeroSta, [], 0)
/-- The program's way of one body. -/
theorem say_yes {s : Sta} {b : List UInt8} (hs : stateFaultM s = 0) (h1 : (decodeRecM b).1 = 0) (h2 : (applyM s (decodeRecM b).2).1 = 0) :
    (decR b).2 = true ∧ (stepR s (decR b).1).1 = 0 ∧ (decodeRecM b).2 = (decR b).1 ∧ (applyM s (decodeRecM b).2).2 = (stepR s (decR b).1).2 ∧ stateFaultM (stepR s (decR b).1).2 = 0 := by
  unfold decodeRecM at h1 h2 ⊢
  by_cases hd : (decR b).2 = true
  · rw [if_pos hd] at h2 ⊢
    have hr := decR_right hd
    have hc : (stepR s (decR b).1).1 = 0 := by rw [← apply_code hs hr]; exact h2
    refine ⟨hd, hc, rfl, ?_, step_right hs hr hc⟩
    show (applyM s (decR b).1).2 = _
    rw [apply_right hs hr, if_pos hc]
  · rw [if_neg hd] at h1; cases h1
theorem say_no {s : Sta} {b : List UInt8} (hs : stateFaultM s = 0) (h : (decodeRecM b).1 ≠ 0 ∨ (applyM s (decodeRecM b).2).1 ≠ 0) : ¬ ((decR b).2 = true ∧ (stepR s (decR b).1).1 = 0) := by
  rintro ⟨hd, hc⟩
  have hdd : decodeRecM b = (0, (decR b).1) := by unfold decodeRecM; rw [if_pos hd]
  rw [hdd] at h
  rcases h with h | h
  · exact h rfl
  · exact h (by show (applyM s (decR b).1).1 = 0; rw [apply_code hs (decR_right hd)]; exact hc)
/-- The records, put to a state one after another, lead to another one. -/
def Plays : Sta → List Rcd → Sta → Prop
  | s, [], t => s = t
  | s, r :: rs, t => recFaultM r = 0 ∧ (stepR s r).1 = 0 ∧ Plays (stepR s r).2 rs t
theorem plays_right : ∀ (rs : List Rcd) {s t : Sta}, Plays s rs t → stateFaultM s = 0 → stateFaultM t = 0
  | [], s, t, h, hs => by rw [← (show s = t from h)]; exact hs
  | r :: rs, s, t, h, hs => plays_right rs h.2.2 (step_right hs h.1 h.2.1)
theorem plays_apply {s t : Sta} {r : Rcd} {rs : List Rcd} (h : Plays s (r :: rs) t) (hs : stateFaultM s = 0) : applyM s r = (0, (stepR s r).2) ∧ stateFaultM (stepR s r).2 = 0 ∧ Plays (stepR s r).2 rs t := by
  refine ⟨?_, step_right hs h.1 h.2.1, h.2.2⟩
  rw [apply_right hs h.1, if_pos h.2.1]
/-- A disk's bodies, cut where the first one stands that says nothing. -/
theorem recF_cut : ∀ (bs : List (List UInt8)) (s : Sta) (rs : List Rcd) (n : Nat), ∃ (k : Nat) (t : Sta) (qs : List Rcd), k ≤ bs.length ∧ qs.length = k ∧ recF s rs n bs = (t, rs ++ qs, n + ((bs.take k).flatMap frameL).length) ∧ Plays s qs t
      ∧ ∀ more, recF s rs n (bs.take k ++ more) = recF t (rs ++ qs) (n + ((bs.take k).flatMap frameL).length) more
  | [], s, rs, n => ⟨0, s, [], Nat.le_refl _, rfl, by simp [recF], rfl, fun more => by simp⟩
  | b :: bs, s, rs, n => by
    by_cases h : (decR b).2 = true ∧ (stepR s (decR b).1).1 = 0
    · obtain ⟨k, t, qs, h1, h2, h3, h4, h5⟩ := recF_cut bs (stepR s (decR b).1).2 (rs ++ [(decR b).1]) (n + b.length + 3)
      have hl : n + b.length + 3 + ((bs.take k).flatMap frameL).length = n + (((b :: bs).take (k + 1)).flatMap frameL).length := by
        rw [List.take_succ_cons, List.flatMap_cons, List.length_append, frameL_len]; omega
      have ha : rs ++ [(decR b).1] ++ qs = rs ++ (decR b).1 :: qs := by simp
      refine ⟨k + 1, t, (decR b).1 :: qs, by simp; omega, by simp [h2], ?_, ⟨decR_right h.1, h.2, h4⟩, fun more => ?_⟩
      · rw [recF_yes h.1 h.2, h3, ha, hl]
      · rw [List.take_succ_cons, List.cons_append, recF_yes h.1 h.2, h5 more, ha, ← List.take_succ_cons, hl]
    · exact ⟨0, s, [], Nat.zero_le _, rfl, by rw [recF_no h]; simp, rfl, fun more => by simp⟩

/-! ### Frames one behind another -/
theorem firstM_append {b : List UInt8} (h1 : 1 ≤ b.length) (h2 : b.length ≤ 40) (rest : List UInt8) : firstM (frameL b ++ rest) = some b := by
  have hn : (UInt8.ofNat b.length).toNat = b.length := by rw [UInt8.toNat_ofNat']; omega
  have hF : frameL b ++ rest = UInt8.ofNat b.length :: (b ++ (sumL (frontL b) ++ rest)) := by simp [frameL, frontL]
  have ht : (b ++ (sumL (frontL b) ++ rest)).take b.length = b := by simp
  have := firstM_yes (b := UInt8.ofNat b.length) (r := b ++ (sumL (frontL b) ++ rest)) (by
    rw [hn, ht]
    refine ⟨h1, h2, by simp [sumL], ?_⟩
    rw [← hF, ← frameL_len b]
    exact List.take_left)
  rw [hn, ht] at this
  rw [hF]
  exact this
theorem pos_frames (rest : List UInt8) : ∀ (l : List (List UInt8)), (∀ b ∈ l, 1 ≤ b.length ∧ b.length ≤ 40) → ∀ j, j ≤ l.length → posF (l.flatMap frameL ++ rest) j = ((l.take j).flatMap frameL).length ∧ bodF (l.flatMap frameL ++ rest) j = l.take j := by
  intro l hl j
  induction j with
  | zero => intro _; simp [posF, bodF]
  | succ j ih =>
    intro hj
    obtain ⟨i1, i2⟩ := ih (by omega)
    have hd : (l.flatMap frameL ++ rest).drop (posF (l.flatMap frameL ++ rest) j) = frameL l[j] ++ ((l.drop (j + 1)).flatMap frameL ++ rest) := by
      rw [i1]
      conv => lhs; rw [← List.take_append_drop j l]
      rw [List.flatMap_append, List.append_assoc, List.take_left' (by simp; omega), List.drop_left, List.drop_eq_getElem_cons (by omega), List.flatMap_cons, List.append_assoc]
    have hb := hl l[j] (List.getElem_mem _)
    have hf : firstM ((l.flatMap frameL ++ rest).drop (posF (l.flatMap frameL ++ rest) j)) = some l[j] := by rw [hd]; exact firstM_append hb.1 hb.2 _
    constructor
    · rw [posF, frontM_yes hf, i1, List.take_succ_eq_append_getElem (by omega), List.flatMap_append, List.length_append]
      simp [frameL_len]
    · rw [bodF, hf, i2, List.take_succ_eq_append_getElem (by omega)]; rfl
/-- Frames, and behind them what is none. -/
theorem frames_many {l : List (List UInt8)} {rest : List UInt8} (hl : ∀ b ∈ l, 1 ≤ b.length ∧ b.length ≤ 40) (hr : firstM rest = none) (hm : (l.flatMap frameL ++ rest).length ≤ 20000) :
    framesM (l.flatMap frameL ++ rest) = (0, l, (((l.flatMap frameL).length : Nat) : Int)) := by
  have hp := pos_frames rest l hl
  have hE : EndF (l.flatMap frameL ++ rest) l.length := by
    refine ⟨?_, fun i hi => ?_⟩
    · rw [(hp l.length (Nat.le_refl _)).1, List.take_length, List.drop_left]; exact hr
    · have hs := (hp (i + 1) (by omega)).1
      intro hno
      rw [posF, frontM_no hno, (hp i (by omega)).1, List.take_succ_eq_append_getElem (by omega), List.flatMap_append, List.length_append] at hs
      simp [frameL_len] at hs
  rw [framesM_ok hm hE, (hp _ (Nat.le_refl _)).1, (hp _ (Nat.le_refl _)).2, List.take_length]
/-- A torn frame is none. -/
theorem first_torn {b : List UInt8} (h2 : b.length ≤ 40) {k : Nat} (hk : k < b.length + 3) : firstM ((frameL b).take k) = none := by
  rcases k with _ | k
  · rfl
  have hn : (UInt8.ofNat b.length).toNat = b.length := by rw [UInt8.toNat_ofNat']; omega
  have hF : (frameL b).take (k + 1) = UInt8.ofNat b.length :: (b ++ sumL (frontL b)).take k := by simp [frameL, frontL]
  rw [hF]
  refine firstM_no fun hc => ?_
  have := hc.2.2.1
  rw [hn, List.length_take] at this
  omega

/-! ### What the law of disks says -/
theorem recover_said {d : List UInt8} (hd : d.length ≤ 20000) : ∃ (l : List (List UInt8)) (t : Sta) (qs : List Rcd), recoverM d = (0, t, qs, (l.flatMap frameL).length) ∧ l.flatMap frameL = d.take (l.flatMap frameL).length ∧ (l.flatMap frameL).length ≤ d.length
    ∧ (∀ b ∈ l, 1 ≤ b.length ∧ b.length ≤ 40) ∧ qs.length = l.length ∧ Plays zeroSta qs t ∧ stateFaultM t = 0 ∧ ∀ more, recF zeroSta [] 0 (l ++ more) = recF t qs (l.flatMap frameL).length more := by
  obtain ⟨p, hp, hpl, hfl, hbs⟩ := frames_back hd
  obtain ⟨k, t, qs, h1, h2, h3, h4, h5⟩ := recF_cut (framesM d).2.1 zeroSta [] 0
  simp only [List.nil_append, Nat.zero_add] at h3 h5
  have hcat : ((framesM d).2.1.take k).flatMap frameL ++ ((framesM d).2.1.drop k).flatMap frameL = d.take p := by rw [← List.flatMap_append, List.take_append_drop]; exact hfl
  have hle : (((framesM d).2.1.take k).flatMap frameL).length ≤ p := by
    have := congrArg List.length hcat
    rw [List.length_append, List.length_take] at this
    omega
  refine ⟨(framesM d).2.1.take k, t, qs, ?_, ?_, by omega, fun b hb => hbs b (List.mem_of_mem_take hb), by rw [List.length_take]; omega, h4, plays_right qs h4 zero_state, h5⟩
  · unfold recoverM; rw [if_pos hd, h3]
  · have := congrArg (List.take (((framesM d).2.1.take k).flatMap frameL).length) hcat
    rw [List.take_left, List.take_take, Nat.min_eq_left hle] at this
    exact this
/-- A frame of the life behind what is said: one record more; the frame torn: what was said. -/
theorem recover_more {d : List UInt8} (hd : d.length ≤ 20000) : ∃ (n : Nat) (t : Sta) (qs : List Rcd), recoverM d = (0, t, qs, n) ∧ n ≤ d.length ∧ Plays zeroSta qs t ∧ stateFaultM t = 0
    ∧ (n + (frameL (encR (4, 0, (0, 0, 0, 0), t.2.2))).length ≤ 20000 → (recoverM (d.take n ++ frameL (encR (4, 0, (0, 0, 0, 0), t.2.2)))).2.2.1.length = qs.length + 1
      ∧ ∀ k, k < (frameL (encR (4, 0, (0, 0, 0, 0), t.2.2))).length → (recoverM (d.take n ++ (frameL (encR (4, 0, (0, 0, 0, 0), t.2.2))).take k)).2.2.2 = n) := by
  obtain ⟨l, t, qs, h1, h2, h3, h4, h5, h6, h7, h8⟩ := recover_said hd
  refine ⟨_, t, qs, h1, h3, h6, h7, fun hm => ?_⟩
  have hlife : recFaultM (4, 0, (0, 0, 0, 0), t.2.2) = 0 := by rw [rec4, if_pos ((stateFault_iff t).1 h7).2.2]
  obtain ⟨e1, e2⟩ := encR_few hlife
  rw [← h2]
  constructor
  · have hf := frames_many (l := l ++ [encR (4, 0, (0, 0, 0, 0), t.2.2)]) (rest := []) (fun b hb => by
      rcases List.mem_append.1 hb with hb | hb
      · exact h4 b hb
      · rw [List.mem_singleton.1 hb]; exact ⟨e1, by omega⟩) rfl (by simpa using hm)
    rw [List.flatMap_append, List.append_nil] at hf
    simp only [List.flatMap_cons, List.flatMap_nil, List.append_nil] at hf
    unfold recoverM
    rw [if_pos (by rw [List.length_append]; exact hm), hf]
    show (recF zeroSta [] 0 (l ++ [encR (4, 0, (0, 0, 0, 0), t.2.2)])).2.1.length = _
    rw [h8, recF_yes (by rw [decR_enc hlife]) (by rw [decR_enc hlife]; unfold stepR; simp), recF]
    simp
  · intro k hk
    rw [frameL_len] at hk
    have hf := frames_many (l := l) (rest := (frameL (encR (4, 0, (0, 0, 0, 0), t.2.2))).take k) h4 (first_torn (by omega) hk) (by
      rw [List.length_append, List.length_take]; omega)
    unfold recoverM
    rw [if_pos (by rw [List.length_append, List.length_take]; omega), hf]
    show (recF zeroSta [] 0 l).2.2 = _
    have := h8 []
    rw [List.append_nil, recF] at this
    rw [this]
end Go.Proofs.YtmaillakhhdkfaaGreatDoor
/-
  What a disk says: the model's.
-/
namespace Go.Proofs.YtmaillakhhdkfaaGreatDoor
set_option maxRecDepth 20000
open Go.RowKit
set_option linter.unusedSimpArgs false
set_option linter.unusedVariables false

/-- Blocks of two types are two. -/
theorem Ow.neBlk {α : Type} {E : Enc α} {w : World} {base n c : Nat} {A : Option Addr} {l : List α} {g : Nat} {t : TypeId} {cs : Array Value} (h : Ow E w base A n c l) (hne : E.tid ≠ t) (hx : At w g t cs) : ∀ k, A.map (·.block) = some k → (some g : Option Nat) ≠ some k := by
  intro k hk e
  obtain rfl : g = k := by simpa using e
  rcases h.2 with ⟨h0, _⟩ | ⟨g', cap, cur, hv, hb, hgg, rest⟩
  · simp only [Value.slice.injEq] at h0
    rw [h0.1] at hk
    simp at hk
  · simp only [Value.slice.injEq] at hv
    rw [hv.1] at hk
    obtain rfl : g' = g := by simpa using hk
    unfold At at hx
    rw [hx] at hgg
    simp only [Option.some.injEq, Obj.cells.injEq] at hgg
    exact hne hgg.2.1.symm
theorem Ow.neRow {α β : Type} {E : Enc α} {F : Enc β} {w : World} {base base' n c m d : Nat} {A B : Option Addr} {l : List α} {q : List β} (h : Ow E w base A n c l) (hne : E.tid ≠ F.tid) (k : Ow F w base' B m d q) : ∀ g, A.map (·.block) = some g → B.map (·.block) ≠ some g := by
  intro g hg e
  rcases k.2 with ⟨h0, _⟩ | ⟨g', cap, cur, hv, hb, hgg, rest⟩
  · simp only [Value.slice.injEq] at h0
    rw [h0.1] at e
    simp at e
  · simp only [Value.slice.injEq] at hv
    rw [hv.1] at e
    obtain rfl : g' = g := by simpa using e
    exact h.neBlk hne hgg g' hg rfl
theorem StaAt.below {w w' : World} {g base B : Nat} {s : Sta} (h : StaAt w g base s) (hb : Below B w w') (hB : w.heap.size ≤ B) : StaAt w' g base s := by
  obtain ⟨A, n, c, A', m, d, h1, h2, h3⟩ := h
  exact ⟨A, n, c, A', m, d, h1.below hb (Nat.lt_of_lt_of_le h1.lt hB), h2.below hb hB, h3.below hb hB⟩
theorem StaAt.alloc {w : World} {g base : Nat} {s : Sta} (h : StaAt w g base s) (o : Obj) : StaAt (w.alloc o) g base s := by
  obtain ⟨A, n, c, A', m, d, h1, h2, h3⟩ := h
  exact ⟨A, n, c, A', m, d, h1.alloc o, h2.alloc o, h3.alloc o⟩
/-- A row of records grows: the state stays. -/
theorem StaAt.grownR {w w' : World} {g base base' k kc : Nat} {R : Option Addr} {rs : List Rcd} {s : Sta} (h : StaAt w g base s) (ho : Ow eR w base' R k kc rs) (hg : w.grownBy w' (R.map (·.block))) : StaAt w' g base s := by
  obtain ⟨A, n, c, A', m, d, h1, h2, h3⟩ := h
  exact ⟨A, n, c, A', m, d, h1.grown hg (fun e => ho.neBlk (by decide) h1 g e rfl), h2.grown hg (h2.neRow (by decide) ho), h3.grown hg (h3.neRow (by decide) ho)⟩
theorem DOw.neRow {w : World} {base base' n c m d : Nat} {A B : Option Addr} {ps : List (List UInt8 × List Hd)} {q : List Rcd} (h : DOw eBB w base A n c ps) (k : Ow eR w base' B m d q) : ∀ g, B.map (·.block) = some g → g ∉ blkOf A ++ blks ps := by
  intro g hg hm
  rcases List.mem_append.1 hm with hm | hm
  · cases A with
    | none => simp [blkOf] at hm
    | some a => exact Ow.neRow h.1 (by decide) k g (by simpa [blkOf, eq_comm] using hm) hg
  · obtain ⟨p, hp, hm⟩ := List.mem_flatMap.1 hm
    obtain ⟨x, hx, hm⟩ := List.mem_flatMap.1 hm
    obtain ⟨r, hr, hat⟩ := (h.2.1 p hp).mem hx
    have hr' : r = ⟨5, 1, eB.row p.1⟩ := by simpa [eBB] using hr
    subst hr'
    have ho : Ow eB w base x.A x.n x.c p.1 := hat
    rcases hxa : x.A with _ | a
    · rw [hxa] at hm; simp [blkOf] at hm
    · rw [hxa] at hm ho
      exact ho.neRow (by decide) k g (by simpa [blkOf, eq_comm] using hm) hg
theorem right_small {s : Sta} (h : stateFaultM s = 0) : s.1.length ≤ 160 := by
  have h1 := ((stateFault_iff s).1 h).1
  rcases Nat.lt_or_ge 160 s.1.length with h2 | h2
  · rw [storeFault_many h2] at h1; cases h1
  · exact h2
/-- A disk's state, records, size. -/
def RetRcv (r : Sta × List Rcd × Nat) (w : World) (e : Ending) (w' : World) : Prop :=
  ∃ A n c B m d R k kc, e = .returned (.tuple #[.agg #[.slice A n c, .slice B m d, .int .i64 r.1.2.2], .slice R k kc, .int .i64 (r.2.2 : Nat)]) ∧ Ow eS w' w.heap.size A n c r.1.1 ∧ Ow eH w' w.heap.size B m d r.1.2.1 ∧ Ow eR w' w.heap.size R k kc r.2.1 ∧ Below w.heap.size w w'
def RcvRel (w : World) (bs : List (List UInt8)) (B1 : Option Addr) (J c1 : Nat) (ps : List (List UInt8 × List Hd)) (out size at_ : Value) (wr : World) : Prop :=
  ∃ (i : Nat) (s : Sta) (rs : List Rcd) (n : Nat) (R : Option Addr) (k kc : Nat), out = .slice R k kc ∧ size = .int .i64 (n : Nat) ∧ at_ = .int .i64 (i : Nat) ∧ StaAt wr (w.heap.size + 1) w.heap.size s ∧ Ow eR wr (w.heap.size + 2) R k kc rs ∧ k ≤ i ∧ i ≤ J ∧ n ≤ 43 * i
    ∧ recF zeroSta [] 0 bs = recF s rs n (bs.drop i) ∧ stateFaultM s = 0 ∧ DOw eBB wr (w.heap.size + 3) B1 J c1 ps ∧ At wr w.heap.size 39 #[.slice none 0 0, .slice none 0 0, .int .i64 0] ∧ Below w.heap.size w wr

set_option maxHeartbeats 4000000 in
theorem l5Recover (A : Option Addr) (n c : Nat) (d : List UInt8) (w : World) (hr : Rd eB w w.heap.size A d) (hn : d.length = n) (hc : n ≤ c) (hm : n ≤ 1048576) (hcm : c ≤ maxLen) :
    Calls Tryz.prog 72 #[.slice A n c] w fun e w' => ∃ J, EndF d J ∧ RetRcv (recF zeroSta [] 0 (bodF d J)) w e w' := by
  have H := Lib.hid fun (W : World) (hb : Below w.heap.size w W) => l1Frames A n c d W (hr.lift hb) hn hc hm hcm
  have Hj := Lib.hid fun (J : Nat) (hJ : EndF d J) => show J ≤ n ∧ ∀ b ∈ bodF d J, b.length ≤ 40 from ⟨by have := posF_ge hJ.2; have := posF_le d J; omega, fun b hb => ((bodF_frames d J hJ.2).2 b hb).2⟩
  clear hr hn
  have hB0 : Below w.heap.size w (((w.alloc (.cells #[.slice none 0 0, .slice none 0 0, .int .i64 0] 39)).alloc (.cells #[.slice none 0 0, .slice none 0 0, .int .i64 0] 39)).alloc (.cells #[] 27)) := (((Below.refl _ _).alloc (Nat.le_refl _) _).alloc (by simp) _).alloc (by simp; omega) _
  have az0 := ((At.new w 39 #[.slice none 0 0, .slice none 0 0, .int .i64 0]).alloc (.cells #[.slice none 0 0, .slice none 0 0, .int .i64 0] 39)).alloc (.cells #[] 27)
  have as0 : At (((w.alloc (.cells #[.slice none 0 0, .slice none 0 0, .int .i64 0] 39)).alloc (.cells #[.slice none 0 0, .slice none 0 0, .int .i64 0] 39)).alloc (.cells #[] 27)) (w.heap.size + 1) 39 #[.slice none 0 0, .slice none 0 0, .int .i64 0] := by
    have := (At.new (w.alloc (.cells #[.slice none 0 0, .slice none 0 0, .int .i64 0] 39)) 39 #[.slice none 0 0, .slice none 0 0, .int .i64 0]).alloc (.cells #[] 27)
    simpa using this
  have or0 : Ow eR (((w.alloc (.cells #[.slice none 0 0, .slice none 0 0, .int .i64 0] 39)).alloc (.cells #[.slice none 0 0, .slice none 0 0, .int .i64 0] 39)).alloc (.cells #[] 27)) (w.heap.size + 2) (some ⟨w.heap.size + 1 + 1, 0, none⟩) 0 0 [] := by
    have := Ow.lit (E := eR) (base := w.heap.size + 2) ((w.alloc (.cells #[.slice none 0 0, .slice none 0 0, .int .i64 0] 39)).alloc (.cells #[.slice none 0 0, .slice none 0 0, .int .i64 0] 39)) [] #[] 0 (by simp) (Nat.zero_le _) rfl rfl
    simpa [eR] using this
  go_enter Tryz.func72, Tryz.ntmps72
  go_wp2_with (go_at_call 122; refine (H.out _ hB0).mono ?_; rintro e w1 ⟨J, A1, c1, ps, rfl, hJ, dw, hps, hb1⟩)
  have hJn := (Hj.out J hJ).1
  have H40 := Lib.hid (Hj.out J hJ).2
  have HJ := Lib.hid hJ
  have hB1 := hB0.trans (hb1.mono hB0.size)
  have az1 := az0.below hb1 (by simp; omega)
  have as1 : StaAt w1 (w.heap.size + 1) w.heap.size zeroSta := ⟨none, 0, 0, none, 0, 0, as0.below hb1 (by simp), Ow.nil, Ow.nil⟩
  have or1 := or0.below hb1 (Nat.le_refl _)
  have dw1 : DOw eBB w1 (w.heap.size + 3) A1 J c1 ps := dw.from_ (by simp)
  have hpl : ps.length = J := Ow.len okBB dw.1
  clear hJ Hj H hb1 az0 as0 or0 dw hB0
  go_loopw [6, 7, 10, 11, 12] (fun out size i _ _ wr => RcvRel w (bodF d J) A1 J c1 ps out size i wr) (fun _ _ i _ _ _ => J - (intOf i).toNat)
  case atStart => exact ⟨0, zeroSta, [], 0, _, 0, 0, rfl, rfl, rfl, as1, or1, Nat.le_refl _, Nat.zero_le _, Nat.zero_le _, rfl, zero_state, dw1, az1, hB1⟩
  case round =>
    obtain ⟨i, s, rs, m, R, k, kc, rfl, rfl, rfl, ST, OR, hki, hiJ, hmi, hrec, hsr, dwi, AZ, HB⟩ := hrel
    clear as1 or1 dw1 az1 hB1
    by_cases hi : i < J
    rotate_left
    · obtain rfl : J = i := by omega
      obtain ⟨SA, sn, sc, SB, sm, sd, sx, sa, sb⟩ := ST
      obtain ⟨x0, x1, x2, xf0, xf1, xf2⟩ := sx.three
      obtain ⟨z0, z1, z2, zf0, zf1, zf2⟩ := AZ.three
      have F1 := AZ.set 0 (.slice SA sn sc)
      have F2 := F1.set 1 (.slice SB sm sd)
      have hfin : recF zeroSta [] 0 (bodF d J) = (s, rs, m) := by rw [hrec, List.drop_of_length_le (by rw [← hps, List.length_map]; omega)]; rfl
      go_wp2
      refine bodyPost_ret (v := .tuple #[.agg #[.slice SA sn sc, .slice SB sm sd, .int .i64 s.2.2], .slice R k kc, .int .i64 (m : Nat)]) (by simp [results, Tryz.results72, go_sem, z0, z1, z2]) rfl ?_
      refine ⟨J, HJ.out, ?_⟩
      rw [hfin]
      exact ⟨SA, sn, sc, SB, sm, sd, R, k, kc, rfl, ((sa.apart (by decide) AZ 0 _).apart (by decide) F1 1 _).apart (by decide) F2 2 _, ((sb.apart (by decide) AZ 0 _).apart (by decide) F1 1 _).apart (by decide) F2 2 _, (((OR.apart (by decide) AZ 0 _).apart (by decide) F1 1 _).apart (by decide) F2 2 _).from_ (by omega), ((HB.setCell (Nat.le_refl _) _).setCell (Nat.le_refl _) _).setCell (Nat.le_refl _) _⟩
    · obtain ⟨q, hq⟩ : ∃ q, ps[i]? = some q := ⟨_, List.getElem?_eq_getElem (by omega)⟩
      have hq1 : (bodF d J)[i]? = some q.1 := by rw [← hps, List.getElem?_map, hq]; rfl
      have hdr : (bodF d J).drop i = q.1 :: (bodF d J).drop (i + 1) := by
        obtain ⟨h1, h2⟩ := List.getElem?_eq_some_iff.1 hq1
        rw [List.drop_eq_getElem_cons h1, h2]
      have hq40 := H40.out q.1 (List.mem_of_getElem? hq1)
      have hrec2 : recF zeroSta [] 0 (bodF d J) = recF s rs m (q.1 :: (bodF d J).drop (i + 1)) := by rw [hrec, hdr]
      obtain ⟨g1, x, hA1, hx2, hcell, hrow⟩ := dwi.row hq
      subst hA1
      have hxl := hrow.len okB
      have hc3 := hrow.cap
      have D := l5Decode x.A x.n x.c q.1 wr (hrow.rd okB) hxl hc3 hrow.capMax
      obtain ⟨r, b, hrb⟩ : ∃ r b, decR q.1 = (r, b) := ⟨_, _, rfl⟩
      rw [hrb] at D
      have Hrb := Lib.hid hrb
      obtain ⟨a0, a1, ⟨a2, a3, a4, a5⟩, a6⟩ := r
      have hlt : (i : Int) < (J : Int) := by omega
      clear hrec hdr hrb hq1
      have hwr : w.heap.size + 2 ≤ wr.heap.size := by
        obtain ⟨_, _, _, _, _, _, hx, _, _⟩ := ST
        have := hx.lt
        omega
      have hx40 : x.n ≤ 40 := by omega
      rcases b
      · have hfn : recF s rs m (q.1 :: (bodF d J).drop (i + 1)) = (s, rs, m) := recF_no (by rw [Hrb.out]; rintro ⟨h, -⟩; cases h)
        go_wp2_with (
          go_at_call 54
          refine D.mono ?_
          rintro e w2 ⟨rfl, hb2⟩
          have hsz2 := Nat.le_trans hwr hb2.size
          have ST3 := (ST.below hb2 (Nat.le_refl _)).alloc (.cells #[.int .i64 a0, .int .i64 a1, .int .i64 a2, .int .i64 a3, .int .i64 a4, .int .i64 a5, .int .i64 a6] 27)
          have AZ3 := (AZ.below hb2 AZ.lt).alloc (.cells #[.int .i64 a0, .int .i64 a1, .int .i64 a2, .int .i64 a3, .int .i64 a4, .int .i64 a5, .int .i64 a6] 27)
          have OR3 := (OR.below hb2 (Nat.le_refl _)).alloc (.cells #[.int .i64 a0, .int .i64 a1, .int .i64 a2, .int .i64 a3, .int .i64 a4, .int .i64 a5, .int .i64 a6] 27)
          have DW3 := (dwi.below hb2 (Nat.le_refl _)).alloc (.cells #[.int .i64 a0, .int .i64 a1, .int .i64 a2, .int .i64 a3, .int .i64 a4, .int .i64 a5, .int .i64 a6] 27)
          have HB2 := HB.trans (hb2.mono HB.size)
          have HB3 := HB2.alloc HB2.size (.cells #[.int .i64 a0, .int .i64 a1, .int .i64 a2, .int .i64 a3, .int .i64 a4, .int .i64 a5, .int .i64 a6] 27)
          have AZ4 := AZ3
          have OR4 := OR3
          have HB4 := HB3
          obtain ⟨TA, tn, tc, TB, tm, td, tx, ta, tb⟩ := ST3
          obtain ⟨x0, x1, x2, xf0, xf1, xf2⟩ := tx.three
          obtain ⟨z0, z1, z2, zf0, zf1, zf2⟩ := AZ4.three)
        have F1 := AZ4.set 0 (.slice TA tn tc)
        have F2 := F1.set 1 (.slice TB tm td)
        have hfin : recF zeroSta [] 0 (bodF d J) = (s, rs, m) := by rw [hrec2, hfn]
        refine bodyPost_ret (v := .tuple #[.agg #[.slice TA tn tc, .slice TB tm td, .int .i64 s.2.2], .slice R k kc, .int .i64 (m : Nat)]) (by simp [results, Tryz.results72, go_sem, z0, z1, z2]) rfl ?_
        refine ⟨J, HJ.out, ?_⟩
        rw [hfin]
        exact ⟨TA, tn, tc, TB, tm, td, R, k, kc, rfl, ((ta.apart (by decide) AZ4 0 _).apart (by decide) F1 1 _).apart (by decide) F2 2 _, ((tb.apart (by decide) AZ4 0 _).apart (by decide) F1 1 _).apart (by decide) F2 2 _, (((OR4.apart (by decide) AZ4 0 _).apart (by decide) F1 1 _).apart (by decide) F2 2 _).from_ (by omega), ((HB4.setCell (Nat.le_refl _) _).setCell (Nat.le_refl _) _).setCell (Nat.le_refl _) _⟩
      · obtain ⟨sl, sh, slf⟩ := s
        obtain ⟨z, s', hz⟩ : ∃ z s', stepR (sl, sh, slf) (a0, a1, (a2, a3, a4, a5), a6) = (z, s') := ⟨_, _, rfl⟩
        have Hz := Lib.hid hz
        have hsm : sl.length ≤ 160 := right_small hsr
        have AP := fun (W : World) (SA SB : Option Addr) (sn sc sm sd : Nat) => l5Apply (w.heap.size + 1) W.heap.size w.heap.size SA SB sn sc sm sd sl sh slf a0 a1 a2 a3 a4 a5 a6 (W.alloc (.cells #[.int .i64 a0, .int .i64 a1, .int .i64 a2, .int .i64 a3, .int .i64 a4, .int .i64 a5, .int .i64 a6] 27))
        rw [hz] at AP
        clear hz
        have HAP := Lib.hid AP
        clear AP
        by_cases hz0 : z = 0
        · subst hz0
          go_wp2_with (first
            | (
               go_at_call 54
               refine D.mono ?_
               rintro e w2 ⟨rfl, hb2⟩
               have hsz2 := Nat.le_trans hwr hb2.size
               have ST3 := (ST.below hb2 (Nat.le_refl _)).alloc (.cells #[.int .i64 a0, .int .i64 a1, .int .i64 a2, .int .i64 a3, .int .i64 a4, .int .i64 a5, .int .i64 a6] 27)
               have AZ3 := (AZ.below hb2 AZ.lt).alloc (.cells #[.int .i64 a0, .int .i64 a1, .int .i64 a2, .int .i64 a3, .int .i64 a4, .int .i64 a5, .int .i64 a6] 27)
               have OR3 := (OR.below hb2 (Nat.le_refl _)).alloc (.cells #[.int .i64 a0, .int .i64 a1, .int .i64 a2, .int .i64 a3, .int .i64 a4, .int .i64 a5, .int .i64 a6] 27)
               have DW3 := (dwi.below hb2 (Nat.le_refl _)).alloc (.cells #[.int .i64 a0, .int .i64 a1, .int .i64 a2, .int .i64 a3, .int .i64 a4, .int .i64 a5, .int .i64 a6] 27)
               have HB2 := HB.trans (hb2.mono HB.size)
               have HB3 := HB2.alloc HB2.size (.cells #[.int .i64 a0, .int .i64 a1, .int .i64 a2, .int .i64 a3, .int .i64 a4, .int .i64 a5, .int .i64 a6] 27)
               obtain ⟨SA, sn, sc, SB, sm, sd, sx, sa, sb⟩ := ST3)
            | (go_at_call 55
               refine (HAP.out _ SA SB sn sc sm sd sx (At.new _ _ _) sa sb HB3.size (by have := sa.len okS; omega)).mono ?_
               rintro e w4 ⟨rfl, ST4, hg4⟩
               have hr4 := (At.new w2 27 #[.int .i64 a0, .int .i64 a1, .int .i64 a2, .int .i64 a3, .int .i64 a4, .int .i64 a5, .int .i64 a6]).grown hg4 (fun e => by have := Option.some.inj e; omega)
               obtain ⟨r0, r1, r2, r3, r4, r5, r6⟩ := hr4.seven
               have AZ4 := AZ3.grown hg4 (fun e => by have := Option.some.inj e; omega)
               have OR4 := OR3.grown hg4 (OR3.neBlk (by decide) sx)
               have DW4 := DW3.grown hg4 (fun g hg hmm => by have := (DOw.lt DW3 g hmm).1; have := Option.some.inj hg; omega)
               have HB4 := HB3.grown hg4 HB3.size (fun g hg => by have := Option.some.inj hg; omega)
               have OR5 := OR4.alloc (.cells #[.int .i64 a0, .int .i64 a1, .int .i64 a2, .int .i64 a3, .int .i64 a4, .int .i64 a5, .int .i64 a6] 27)
               have DW5 := DW4.alloc (.cells #[.int .i64 a0, .int .i64 a1, .int .i64 a2, .int .i64 a3, .int .i64 a4, .int .i64 a5, .int .i64 a6] 27)
               have HB5 := HB4.alloc HB4.size (.cells #[.int .i64 a0, .int .i64 a1, .int .i64 a2, .int .i64 a3, .int .i64 a4, .int .i64 a5, .int .i64 a6] 27)
               have rd5 := rd_lit okR w4 27 [(a0, a1, (a2, a3, a4, a5), a6)] #[.int .i64 a0, .int .i64 a1, .int .i64 a2, .int .i64 a3, .int .i64 a4, .int .i64 a5, .int .i64 a6] rfl)
            | (at_builtin
               refine wpList_append_ow okR _ rfl (.tmp 40) (.tmp 42) _ rfl (w.heap.size + 2) info_rcd Tryz.underlying51 rfl R k kc rs rfl OR5 (some ⟨w4.heap.size, 0, none⟩) 1 1 _ [(a0, a1, (a2, a3, a4, a5), a6)] rfl rd5 rfl (by unfold maxLen; omega) (by omega) (by have := ST4; have := hg4.size; simp at this ⊢; omega) ?_
               intro R6 kc6 w6 ow6 hg6 hat6
               have DW6 := DW5.grown hg6 (DW5.neRow OR5)
               have AZ6 := (AZ4.alloc (.cells #[.int .i64 a0, .int .i64 a1, .int .i64 a2, .int .i64 a3, .int .i64 a4, .int .i64 a5, .int .i64 a6] 27)).grown hg6 (OR5.neBlk (by decide) (AZ4.alloc (.cells #[.int .i64 a0, .int .i64 a1, .int .i64 a2, .int .i64 a3, .int .i64 a4, .int .i64 a5, .int .i64 a6] 27)) |> fun f e => f _ e rfl)
               have HB6 := HB5.grown hg6 HB5.size (fun g hg => by have := (OR5.lt g hg).1; omega)
               obtain ⟨g2, x', hA2, hx2', hcell6, hrow6⟩ := DW6.row hq
               obtain rfl : x = x' := by rw [hx2] at hx2'; simpa using hx2'
               obtain rfl : g2 = g1 := by simpa using hA2.symm))
          have h1 : (decR q.1).2 = true := by rw [Hrb.out]
          have h2 : (stepR (sl, sh, slf) (decR q.1).1).1 = 0 := by rw [Hrb.out, Hz.out]
          have hyes := recF_yes (rs := rs) (n := m) (bs := (bodF d J).drop (i + 1)) h1 h2
          have hright := step_right hsr (decR_right h1) h2
          rw [Hrb.out] at hyes hright
          dsimp only at hyes hright
          rw [Hz.out] at hyes hright
          rw [hxl] at hyes
          refine ⟨⟨i + 1, s', rs ++ [(a0, a1, (a2, a3, a4, a5), a6)], m + x.n + 3, R6, k + 1, kc6, rfl, ?_, ?_, (ST4.alloc (.cells #[.int .i64 a0, .int .i64 a1, .int .i64 a2, .int .i64 a3, .int .i64 a4, .int .i64 a5, .int .i64 a6] 27)).grownR OR5 hg6, ow6, by omega, by omega, by omega, by rw [hrec2, hyes], hright, DW6, AZ6, HB6⟩, by simp [intOf]; omega⟩
          · simp
          · simp
        · go_wp2_with (first
            | (
               go_at_call 54
               refine D.mono ?_
               rintro e w2 ⟨rfl, hb2⟩
               have hsz2 := Nat.le_trans hwr hb2.size
               have ST3 := (ST.below hb2 (Nat.le_refl _)).alloc (.cells #[.int .i64 a0, .int .i64 a1, .int .i64 a2, .int .i64 a3, .int .i64 a4, .int .i64 a5, .int .i64 a6] 27)
               have AZ3 := (AZ.below hb2 AZ.lt).alloc (.cells #[.int .i64 a0, .int .i64 a1, .int .i64 a2, .int .i64 a3, .int .i64 a4, .int .i64 a5, .int .i64 a6] 27)
               have OR3 := (OR.below hb2 (Nat.le_refl _)).alloc (.cells #[.int .i64 a0, .int .i64 a1, .int .i64 a2, .int .i64 a3, .int .i64 a4, .int .i64 a5, .int .i64 a6] 27)
               have DW3 := (dwi.below hb2 (Nat.le_refl _)).alloc (.cells #[.int .i64 a0, .int .i64 a1, .int .i64 a2, .int .i64 a3, .int .i64 a4, .int .i64 a5, .int .i64 a6] 27)
               have HB2 := HB.trans (hb2.mono HB.size)
               have HB3 := HB2.alloc HB2.size (.cells #[.int .i64 a0, .int .i64 a1, .int .i64 a2, .int .i64 a3, .int .i64 a4, .int .i64 a5, .int .i64 a6] 27)
               obtain ⟨SA, sn, sc, SB, sm, sd, sx, sa, sb⟩ := ST3)
            | (go_at_call 55
               refine (HAP.out _ SA SB sn sc sm sd sx (At.new _ _ _) sa sb HB3.size (by have := sa.len okS; omega)).mono ?_
               rintro e w4 ⟨rfl, ST4, hg4⟩
               have hss : s' = (sl, sh, slf) := by have := step_no (sl, sh, slf) (a0, a1, (a2, a3, a4, a5), a6) (by rw [Hz.out]; exact hz0); rw [Hz.out] at this; exact this
               subst hss
               have AZ4 := AZ3.grown hg4 (fun e => by have := Option.some.inj e; omega)
               have OR4 := OR3.grown hg4 (OR3.neBlk (by decide) sx)
               have HB4 := HB3.grown hg4 HB3.size (fun g hg => by have := Option.some.inj hg; omega)
               obtain ⟨TA, tn, tc, TB, tm, td, tx, ta, tb⟩ := ST4
               obtain ⟨x0, x1, x2, xf0, xf1, xf2⟩ := tx.three
               obtain ⟨z0, z1, z2, zf0, zf1, zf2⟩ := AZ4.three))
          have hfn : recF (sl, sh, slf) rs m (q.1 :: (bodF d J).drop (i + 1)) = ((sl, sh, slf), rs, m) := recF_no (by rw [Hrb.out, Hz.out]; exact fun h => hz0 h.2)
          have F1 := AZ4.set 0 (.slice TA tn tc)
          have F2 := F1.set 1 (.slice TB tm td)
          have hfin : recF zeroSta [] 0 (bodF d J) = ((sl, sh, slf), rs, m) := by rw [hrec2, hfn]
          refine bodyPost_ret (v := .tuple #[.agg #[.slice TA tn tc, .slice TB tm td, .int .i64 (sl, sh, slf).2.2], .slice R k kc, .int .i64 (m : Nat)]) (by simp [results, Tryz.results72, go_sem, z0, z1, z2]) rfl ?_
          refine ⟨J, HJ.out, ?_⟩
          rw [hfin]
          exact ⟨TA, tn, tc, TB, tm, td, R, k, kc, rfl, ((ta.apart (by decide) AZ4 0 _).apart (by decide) F1 1 _).apart (by decide) F2 2 _, ((tb.apart (by decide) AZ4 0 _).apart (by decide) F1 1 _).apart (by decide) F2 2 _, (((OR4.apart (by decide) AZ4 0 _).apart (by decide) F1 1 _).apart (by decide) F2 2 _).from_ (by omega), ((HB4.setCell (Nat.le_refl _) _).setCell (Nat.le_refl _) _).setCell (Nat.le_refl _) _⟩
end Go.Proofs.YtmaillakhhdkfaaGreatDoor
