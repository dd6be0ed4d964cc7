import Derived.Test.YtkdfbaiolgndeaaFrame
import Derived.Test.YtkdfbaiolgndeaaSame
import Derived.Test.YtkdfbaiolgndeaaMix
import Derived.Test.YtkdfbaiolgndeaaPack
namespace Go.Proofs.Ytkdfbaiolgndeaa
open Go.RowKit

/-- The body of the frame at the front, if there is one. -/
def firstM (d : List UInt8) : Option (List UInt8) :=
  match d with
  | [] => none
  | b :: r => if 1 ≤ b.toNat ∧ b.toNat ≤ 40 ∧ b.toNat + 2 ≤ r.length ∧ d.take (b.toNat + 3) = frameL (r.take b.toNat) then some (r.take b.toNat) else none
theorem firstM_no {b : UInt8} {r : List UInt8} (h : ¬ (1 ≤ b.toNat ∧ b.toNat ≤ 40 ∧ b.toNat + 2 ≤ r.length ∧ (b :: r).take (b.toNat + 3) = frameL (r.take b.toNat))) : firstM (b :: r) = none := if_neg h
theorem firstM_yes {b : UInt8} {r : List UInt8} (h : 1 ≤ b.toNat ∧ b.toNat ≤ 40 ∧ b.toNat + 2 ≤ r.length ∧ (b :: r).take (b.toNat + 3) = frameL (r.take b.toNat)) : firstM (b :: r) = some (r.take b.toNat) := if_pos h
/-- How many bytes the frame at the front has. -/
def frontM (d : List UInt8) : Nat := match firstM d with | some b => b.length + 3 | none => 0
theorem frontM_no {d : List UInt8} (h : firstM d = none) : frontM d = 0 := by simp [frontM, h]

set_option maxHeartbeats 400000 in
theorem l1Front_nil (A : Option Addr) (c : Nat) (w : World) :
    Calls Try.prog 64 #[.slice A 0 c] w fun e w' => e = .returned (.int .i64 0) ∧ Below w.heap.size w w' := by
  go_enter Try.func64, Try.ntmps64
  go_wp2
  go_ret
  exact ⟨rfl, Below.refl _ _⟩

set_option maxHeartbeats 800000 in
/-- The length is none, or there are not so many bytes. -/
theorem l1Front_len (g o n c : Nat) (x : Nat) (w : World) (hx : x < 256) (cx : w.cell? ⟨g, o, none⟩ = some (.int .u8 (x : Int))) (h0 : 0 < n) (hm : n ≤ 1048576) (h : x < 1 ∨ 40 < x ∨ n < x + 3) :
    Calls Try.prog 64 #[.slice (some ⟨g, o, none⟩) n c] w fun e w' => e = .returned (.int .i64 0) ∧ Below w.heap.size w w' := by
  have hne : ((n : Int) == 0) = false := by simp; omega
  have hpos : (0 : Int) < (n : Int) := by omega
  by_cases h1 : x < 1
  · obtain rfl : x = 0 := by omega
    go_enter Try.func64, Try.ntmps64
    go_wp2
    go_quiet (fail)
    go_wp2
    go_ret
    exact ⟨rfl, bdrewN (Below.refl _ _) _⟩
  by_cases h2 : 40 < x
  · have d1 : decide ((x : Int) < 1) = false := decide_eq_false (by omega)
    have d2 : decide ((40 : Int) < (x : Int)) = true := decide_eq_true (by omega)
    clear h h1
    go_enter Try.func64, Try.ntmps64
    go_wp2
    go_quiet (fail)
    go_wp2
    go_ret
    exact ⟨rfl, bdrewN (Below.refl _ _) _⟩
  · have h3 : n < x + 3 := by omega
    have d1 : decide ((x : Int) < 1) = false := decide_eq_false (by omega)
    have d2 : decide ((40 : Int) < (x : Int)) = false := decide_eq_false (by omega)
    have d3 : decide ((n : Int) < (x : Int) + 3) = true := decide_eq_true (by omega)
    clear h h1 h2
    go_enter Try.func64, Try.ntmps64
    go_wp2
    go_quiet (fail)
    go_wp2
    go_ret
    exact ⟨rfl, bdrewN (Below.refl _ _) _⟩

set_option maxHeartbeats 2000000 in
/-- The length is one, and there are as many bytes: the frame's bytes are compared. -/
theorem l1Front_sum (g o n c : Nat) (b : UInt8) (r : List UInt8) (w : World) (hr : Rd eB w w.heap.size (some ⟨g, o, none⟩) (b :: r)) (hn : (b :: r).length = n) (hc : n ≤ c) (hm : n ≤ 1048576) (h1 : 1 ≤ b.toNat) (h2 : b.toNat ≤ 40) (h3 : b.toNat + 3 ≤ n) :
    Calls Try.prog 64 #[.slice (some ⟨g, o, none⟩) n c] w fun e w' => e = .returned (.int .i64 (frontM (b :: r) : Nat)) ∧ Below w.heap.size w w' := by
  have hn' : r.length + 1 = n := by simpa using hn
  obtain ⟨_, _, _, e0, hg, hb0, cx⟩ := hr.byte (k := 0) (by simp)
  obtain ⟨rfl, rfl⟩ : _ ∧ _ := by simpa using Option.some.inj e0
  obtain rfl := Option.some.inj hb0
  have cx0 : w.cell? ⟨g, o, none⟩ = some (.int .u8 (b.toNat : Int)) := by simpa using cx
  have hrb : Rd eB w w.heap.size (some ⟨g, o + 1, none⟩) (r.take b.toNat) := by
    obtain ⟨g', o', e', h'⟩ := hr.add (k := 1) (by simp; omega)
    obtain ⟨rfl, rfl⟩ : g = g' ∧ o = o' := by simpa using Option.some.inj e'
    exact h'.take b.toNat
  have hrt := hr.take (b.toNat + 3)
  have hlb : (r.take b.toNat).length = b.toNat := by rw [List.length_take]; omega
  have hlt : ((b :: r).take (b.toNat + 3)).length = b.toNat + 3 := by rw [List.length_take, hn]; omega
  obtain ⟨F, hF⟩ : ∃ F, F = frameL (r.take b.toNat) := ⟨_, rfl⟩
  obtain ⟨K, hK⟩ : ∃ K, K = (b :: r).take (b.toNat + 3) := ⟨_, rfl⟩
  have Hf := Lib.hid (show frontM (b :: r) = if K = F then b.toNat + 3 else 0 by
    by_cases he : K = F
    · rw [if_pos he, frontM, firstM_yes ⟨h1, h2, by omega, by rw [← hK, ← hF]; exact he⟩]
      simp only
      rw [hlb]
    · rw [if_neg he]
      exact frontM_no (firstM_no (by rw [← hK, ← hF]; exact fun h => he h.2.2.2)))
  rw [← hK] at hrt hlt
  have HF := fun W (hW : Below w.heap.size w W) => l1Frame (some ⟨g, o + 1, none⟩) b.toNat (c - 1) (r.take b.toNat) W (hrb.lift hW) hlb h2
  have HS := fun W (hW : Below w.heap.size w W) => conv_bytes (c := c) (hrt.lift hW) hlt
  rw [← hF] at HF
  have HFF := Lib.hid (show F = F from rfl)
  generalize frontM (b :: r) = fm at Hf
  generalize b.toNat = x at *
  have HF' := Lib.hid HF
  have HS' := Lib.hid HS
  clear HF HS hr hn hrb hrt hlb hlt hF hK hb0 cx e0 HFF
  have hbd : Below w.heap.size w w.drew := (Below.refl _ _).drew
  have hne : ((n : Int) == 0) = false := by simp; omega
  have hpos : (0 : Int) < (n : Int) := by omega
  have d1 : decide ((x : Int) < 1) = false := decide_eq_false (by omega)
  have d2 : decide ((40 : Int) < (x : Int)) = false := decide_eq_false (by omega)
  have d3 : decide ((n : Int) < (x : Int) + 3) = false := decide_eq_false (by omega)
  have e3 : IntKind.i64.wrap ((x : Int) + 3) = (x : Int) + 3 := IntWalk.i64_in _ (by omega)
  have e1 : IntKind.i64.wrap ((x : Int) + 1) = (x : Int) + 1 := IntWalk.i64_in _ (by omega)
  have p3 : (0 : Int) ≤ (x : Int) + 3 := by omega
  have p1 : (0 : Int) ≤ (x : Int) + 1 := by omega
  have t3 : ((x : Int) + 3).toNat = x + 3 := by omega
  have t1 : ((x : Int) + 1).toNat = x + 1 := by omega
  have l3 : (x : Int) + 3 ≤ (c : Int) := by omega
  have l1 : (x : Int) + 1 ≤ (c : Int) := by omega
  have s1 : ¬ c = 1 := by omega
  have q1 : (1 : Int) ≤ (x : Int) + 1 := by omega
  by_cases he : K = F
  all_goals
    first
      | (have hq : ((txt F).toList == (txt K).toList) = true := by rw [txt_beq]; simp [he])
      | (have hq : ((txt F).toList == (txt K).toList) = false := by rw [txt_beq]; simp; exact fun h => he h.symm)
    have He := Lib.hid he
    clear he
    go_enter Try.func64, Try.ntmps64
    go_wp2
    refine wp_region_mix [(0, false), (1, false), (2, false), (3, false), (4, false), (5, false), (6, false), (7, false), (8, false), (9, false), (10, false), (11, false), (12, false), (13, false), (14, false), (15, false), (16, false), (17, false), (20, false), (21, false), (22, false), (23, false), (24, false), (18, true), (19, false), (25, false), (26, false)] (fun u => (convert 22 9 (.slice (some ⟨g, o, none⟩) (x + 3) c)).run Try.prog u = .ok (.string (txt K)) u) (by kernel_rfl) (by kernel_rfl) (fun _ _ _ _ _ h => h) (HS'.out _ hbd) ?_
    simp only [mixOps, List.map_cons, List.map_nil, List.getElem?_cons_succ, List.getElem?_cons_zero, Option.getD_some]
    repeat (first
      | (refine mix_skip (by rfl) ?_
         (try simp only [Act.put, List.setIfInBounds_toArray, List.set_cons_zero, List.set_cons_succ]))
      | (refine mix_pure (v := ?_) (by rfl) (fun u hu => ?_) ?_
         rotate_left
         · (try dsimp only at hu)
           go_simp
           (with_reducible rfl)
         (try simp only [Act.put, List.setIfInBounds_toArray, List.set_cons_zero, List.set_cons_succ])))
    refine mix_call (by rfl) (fun K hK => ?_)
    go_simp
    refine (HF'.out _ hbd).mono ?_
    rintro e w1 ⟨A1, c1, rfl, ow1, hb1⟩
    have hB1 : Below w.heap.size w w1 := hbd.trans (hb1.mono hbd.size)
    refine hK _ _ (fun u => u = w1) (fun u hu => by subst hu; exact HS'.out _ hB1) rfl ?_
    have hk1 := conv_bytes (c := c1) (ow1.rd okB) (ow1.len okB)
    clear hK K
    (try simp only [Act.put, List.setIfInBounds_toArray, List.set_cons_zero, List.set_cons_succ])
    repeat (first
      | (refine mix_skip (by rfl) ?_
         (try simp only [Act.put, List.setIfInBounds_toArray, List.set_cons_zero, List.set_cons_succ]))
      | (refine mix_pure (v := ?_) (by rfl) (fun u hu => ?_) ?_
         rotate_left
         · subst hu
           go_simp
           (with_reducible rfl)
         (try simp only [Act.put, List.setIfInBounds_toArray, List.set_cons_zero, List.set_cons_succ])))
    refine mix_nil ?_
    go_wp2
    go_ret
    refine ⟨?_, hB1⟩
    rw [Hf.out]
    first
      | (rw [if_pos He.out]; rfl)
      | (rw [if_neg He.out]; rfl)

/-- spec.l1Front, whatever the bytes. -/
theorem l1Front (A : Option Addr) (n c : Nat) (d : List UInt8) (w : World) (hr : Rd eB w w.heap.size A d) (hn : d.length = n) (hc : n ≤ c) (hm : n ≤ 1048576) :
    Calls Try.prog 64 #[.slice A n c] w fun e w' => e = .returned (.int .i64 (frontM d : Nat)) ∧ Below w.heap.size w w' := by
  cases d with
  | nil =>
    subst hn
    exact l1Front_nil A c w
  | cons b r =>
    have hn' : r.length + 1 = n := by simpa using hn
    obtain ⟨g, o, x, rfl, hg, hx, cx⟩ := hr.byte (k := 0) (by simp)
    obtain rfl : b = x := by simpa using hx
    have cx0 : w.cell? ⟨g, o, none⟩ = some (.int .u8 (b.toNat : Int)) := by simpa using cx
    by_cases h : b.toNat < 1 ∨ 40 < b.toNat ∨ n < b.toNat + 3
    · rw [frontM_no (firstM_no (by omega))]
      exact l1Front_len g o n c b.toNat w b.toNat_lt cx0 (by omega) hm h
    · exact l1Front_sum g o n c b r w hr hn hc hm (by omega) (by omega) (by omega)

/-! ### impl -/
set_option maxHeartbeats 400000 in
theorem bytesClone (a : Addr) (n c : Nat) (l : List UInt8) (w : World) (hr : Rd eB w w.heap.size (some a) l) (hn : l.length = n) (hm : n ≤ 1048576) :
    Calls Try.prog 63 #[.slice (some a) n c] w fun e w' => ∃ A' c', e = .returned (.slice A' n c') ∧ Ow eB w' w.heap.size A' n c' l ∧ Below w.heap.size w w' := by
  have Hn := Lib.hid hn
  clear hn
  have heq : ∀ u : World, (binOp .eql 22 (.slice (some a) n c) (.slice none 0 0)).run Try.prog u = .ok (.bool false) u := fun u => Lib.run_eql_slice_nil (P := Try.prog) u 22 5 (some a) n c 0 0 Try.underlying22
  have o1 : Ow eB (w.alloc (.cells #[] 5)) w.heap.size (some ⟨w.heap.size, 0, none⟩) 0 0 [] := Ow.lit w [] #[] 0 (Nat.le_refl _) (Nat.zero_le _) rfl rfl
  have B1 := (Below.refl w.heap.size w).alloc (Nat.le_refl _) (.cells #[] 5)
  have a1 := hr.lift B1
  go_enter Try.func63, Try.ntmps63
  go_wp2_with (at_builtin; refine wpList_append_ow okB _ rfl (.tmp 5) (.tmp 6) _ rfl w.heap.size info_u8 Try.underlying22 rfl (some ⟨w.heap.size, 0, none⟩) 0 0 [] rfl o1 (some a) n c _ l rfl a1 Hn.out (by unfold maxLen; omega) (by omega) (by simp) ?_; intro A1 c1 w1 ow1 hg1 _)
  go_ret
  rw [List.nil_append] at ow1
  rw [Nat.zero_add] at ow1
  exact ⟨A1, c1, rfl, ow1, B1.grown hg1 (by simp) (fun g hg => by simp at hg; omega)⟩

/-- A slice's value: nil where there is none. -/
def RetOpt (r : Option (List UInt8)) (w : World) (e : Ending) (w' : World) : Prop :=
  Below w.heap.size w w' ∧ match r with
    | none => e = .returned (.slice none 0 0)
    | some b => ∃ g c, e = .returned (.slice (some ⟨g, 0, none⟩) b.length c) ∧ Ow eB w' w.heap.size (some ⟨g, 0, none⟩) b.length c b

set_option maxHeartbeats 400000 in
theorem firstBody_nil (A : Option Addr) (c : Nat) (w : World) :
    Calls Try.prog 47 #[.slice A 0 c] w fun e w' => RetOpt (firstM []) w e w' := by
  go_enter Try.func47, Try.ntmps47
  go_wp2
  go_ret
  exact ⟨Below.refl _ _, rfl⟩

set_option maxHeartbeats 800000 in
theorem firstBody_len (g o n c : Nat) (b : UInt8) (r : List UInt8) (w : World) (cx : w.cell? ⟨g, o, none⟩ = some (.int .u8 (b.toNat : Int))) (hn : (b :: r).length = n) (hm : n ≤ 1048576) (h : b.toNat < 1 ∨ 40 < b.toNat ∨ n < b.toNat + 3) :
    Calls Try.prog 47 #[.slice (some ⟨g, o, none⟩) n c] w fun e w' => RetOpt (firstM (b :: r)) w e w' := by
  have hn' : r.length + 1 = n := by simpa using hn
  have Hf := Lib.hid (firstM_no (b := b) (r := r) (by omega))
  have hne : ((n : Int) == 0) = false := by simp; omega
  have hpos : (0 : Int) < (n : Int) := by omega
  have hb8 := b.toNat_lt
  have hno : [((b.toNat : Int), (1 : Int), (40 : Int)), ((b.toNat : Int) + 3, 0, (n : Int))].all inB = false := by simp [inB]; omega
  clear hn hn' h
  go_enter Try.func47, Try.ntmps47
  go_wp2_with (go_at_call 49; refine (areWithin_any _ _ _ [((b.toNat : Int), 1, 40), ((b.toNat : Int) + 3, 0, (n : Int))] _ (bnds_two (by simp)) (by simp) rfl (by simp)).mono ?_; rintro e w1 ⟨rfl, hb1⟩)
  go_ret
  refine ⟨((Below.refl _ _).alloc (Nat.le_refl _) _).trans (hb1.mono (by simp)), ?_⟩
  rw [Hf.out]
  rfl

/-- The frame's bytes are its front and its sum. -/
theorem frame_iff {b : UInt8} {r : List UInt8} (h3 : b.toNat + 2 ≤ r.length) :
    (b :: r).take (b.toNat + 3) = frameL (r.take b.toNat) ↔ sumL ((b :: r).take (1 + b.toNat)) = ((b :: r).drop (1 + b.toNat)).take 2 := by
  have hf : frontL (r.take b.toNat) = (b :: r).take (1 + b.toNat) := by
    have hl : (r.take b.toNat).length = b.toNat := by rw [List.length_take]; omega
    rw [frontL, hl, Nat.add_comm, List.take_succ_cons]
    congr 1
    exact UInt8.ofNat_toNat
  have hs : (b :: r).take (b.toNat + 3) = (b :: r).take (1 + b.toNat) ++ ((b :: r).drop (1 + b.toNat)).take 2 := by
    rw [show b.toNat + 3 = (1 + b.toNat) + 2 by omega, List.take_add]
  rw [frameL, hf, hs]
  constructor
  · intro h
    exact (List.append_cancel_left h).symm
  · intro h
    rw [h]

set_option maxHeartbeats 2000000 in
theorem firstBody_sum (g o n c : Nat) (b : UInt8) (r : List UInt8) (w : World) (hr : Rd eB w w.heap.size (some ⟨g, o, none⟩) (b :: r)) (hn : (b :: r).length = n) (hc : n ≤ c) (hm : n ≤ 1048576) (h1 : 1 ≤ b.toNat) (h2 : b.toNat ≤ 40) (h3 : b.toNat + 3 ≤ n) :
    Calls Try.prog 47 #[.slice (some ⟨g, o, none⟩) n c] w fun e w' => RetOpt (firstM (b :: r)) w e w' := by
  have hn' : r.length + 1 = n := by simpa using hn
  obtain ⟨_, _, _, e0, hg, hb0, cx⟩ := hr.byte (k := 0) (by simp)
  obtain ⟨rfl, rfl⟩ : _ ∧ _ := by simpa using Option.some.inj e0
  obtain rfl := Option.some.inj hb0
  have cx0 : w.cell? ⟨g, o, none⟩ = some (.int .u8 (b.toNat : Int)) := by simpa using cx
  have hrb : Rd eB w w.heap.size (some ⟨g, o + 1, none⟩) (r.take b.toNat) := by
    obtain ⟨g', o', e', h'⟩ := hr.add (k := 1) (by simp; omega)
    obtain ⟨rfl, rfl⟩ : g = g' ∧ o = o' := by simpa using Option.some.inj e'
    exact h'.take b.toNat
  have hrs : Rd eB w w.heap.size (some ⟨g, o + (1 + b.toNat), none⟩) (((b :: r).drop (1 + b.toNat)).take 2) := by
    obtain ⟨g', o', e', h'⟩ := hr.add (k := 1 + b.toNat) (by simp; omega)
    obtain ⟨rfl, rfl⟩ : g = g' ∧ o = o' := by simpa using Option.some.inj e'
    have := h'.take 2
    simpa [eB] using this
  have hrf := hr.take (1 + b.toNat)
  have hlb : (r.take b.toNat).length = b.toNat := by rw [List.length_take]; omega
  have hls : (((b :: r).drop (1 + b.toNat)).take 2).length = 2 := by rw [List.length_take, List.length_drop, hn]; omega
  have hlf : ((b :: r).take (1 + b.toNat)).length = 1 + b.toNat := by rw [List.length_take, hn]; omega
  have hiff := frame_iff (b := b) (r := r) (by omega)
  have hyes : sumL ((b :: r).take (1 + b.toNat)) = ((b :: r).drop (1 + b.toNat)).take 2 → firstM (b :: r) = some (r.take b.toNat) := fun h => firstM_yes ⟨h1, h2, by omega, hiff.2 h⟩
  have hnot : sumL ((b :: r).take (1 + b.toNat)) ≠ ((b :: r).drop (1 + b.toNat)).take 2 → firstM (b :: r) = none := fun h => firstM_no fun h' => h (hiff.1 h'.2.2.2)
  generalize (b :: r).take (1 + b.toNat) = F at *
  generalize ((b :: r).drop (1 + b.toNat)).take 2 = K at *
  generalize r.take b.toNat = D at *
  generalize firstM (b :: r) = fm at *
  generalize b.toNat = x at *
  have hyes' := Lib.hid hyes
  have hnot' := Lib.hid hnot
  have HB := Lib.hid fun W (hW : Below w.heap.size w W) => bytesClone ⟨g, o + 1, none⟩ x (c - 1) D W (hrb.lift hW) hlb (by omega)
  have HS := Lib.hid fun W (hW : Below w.heap.size w W) => sumBytes (some ⟨g, o, none⟩) (1 + x) c F W (hrf.lift hW) hlf (by omega)
  have HE := Lib.hid fun (A1 : Option Addr) (c1 : Nat) W (hW : Below w.heap.size w W) (h : Rd eB W W.heap.size A1 (sumL F)) => implSameBytes A1 (some ⟨g, o + (1 + x), none⟩) 2 2 c1 (c - (1 + x)) (sumL F) K W h (hrs.lift hW) rfl hls
  have Hl := Lib.hid hlb
  clear hyes hnot hiff hr hn hrb hrs hrf hlb hls hlf hb0 cx e0
  have hne : ((n : Int) == 0) = false := by simp; omega
  have hpos : (0 : Int) < (n : Int) := by omega
  have hno : [((x : Int), (1 : Int), (40 : Int)), ((x : Int) + 3, 0, (n : Int))].all inB = true := by simp [inB]; omega
  have e3 : IntKind.i64.wrap ((x : Int) + 3) = (x : Int) + 3 := IntWalk.i64_in _ (by omega)
  have e1 : IntKind.i64.wrap (1 + (x : Int)) = 1 + (x : Int) := IntWalk.i64_in _ (by omega)
  have p3 : (0 : Int) ≤ (x : Int) + 3 := by omega
  have p1 : (0 : Int) ≤ 1 + (x : Int) := by omega
  have t3 : ((x : Int) + 3).toNat = x + 3 := by omega
  have t1 : (1 + (x : Int)).toNat = 1 + x := by omega
  have l3 : (x : Int) + 3 ≤ (c : Int) := by omega
  have l1 : 1 + (x : Int) ≤ (c : Int) := by omega
  have s1 : ¬ c = 1 + x := by omega
  have s2 : x + 3 - (1 + x) = 2 := by omega
  have s3 : ¬ c = 1 := by omega
  have q1 : 1 + (x : Int) ≤ (x : Int) + 3 := by omega
  go_enter Try.func47, Try.ntmps47
  go_wp2_with (go_at_call 49; refine (areWithin_any _ _ _ [((x : Int), 1, 40), ((x : Int) + 3, 0, (n : Int))] _ (bnds_two (by simp)) (by simp) rfl (by simp)).mono ?_; rintro e w1 ⟨rfl, hb1⟩)
  have hB1 : Below w.heap.size w w1 := ((Below.refl _ _).alloc (Nat.le_refl _) _).trans (hb1.mono (by simp))
  have hbd : Below w.heap.size w w1.drew := hB1.drew
  refine wp_region_mix [(0, false), (2, false), (3, false), (4, false), (5, false), (6, false), (7, false), (1, true), (8, true), (9, false)] (fun _ => True) (by kernel_rfl) (by kernel_rfl) (fun _ _ _ _ _ h => h) trivial ?_
  simp only [mixOps, List.map_cons, List.map_nil, List.getElem?_cons_succ, List.getElem?_cons_zero, Option.getD_some]
  repeat (first
      | (refine mix_skip (by rfl) ?_
         (try simp only [Act.put, List.setIfInBounds_toArray, List.set_cons_zero, List.set_cons_succ]))
      | (refine mix_pure (v := ?_) (by rfl) (fun u hu => ?_) ?_
         rotate_left
         · clear hu
           go_simp
           (with_reducible rfl)
         (try simp only [Act.put, List.setIfInBounds_toArray, List.set_cons_zero, List.set_cons_succ])))
  refine mix_call (by rfl) (fun K' hK => ?_)
  go_simp
  refine (HS.out _ hbd).mono ?_
  rintro e w2 ⟨A2, c2, rfl, ow2, hb2⟩
  have hB2 : Below w.heap.size w w2 := hbd.trans (hb2.mono hbd.size)
  refine hK _ _ (fun _ => True) (fun _ _ => trivial) trivial ?_
  clear hK K'
  (try simp only [Act.put, List.setIfInBounds_toArray, List.set_cons_zero, List.set_cons_succ])
  refine mix_call (by rfl) (fun K' hK => ?_)
  go_simp
  refine (HE.out A2 c2 _ hB2 (ow2.rd okB)).mono ?_
  rintro e w3 ⟨rfl, rfl⟩
  refine hK _ _ (fun _ => True) (fun _ _ => trivial) trivial ?_
  clear hK K'
  (try simp only [Act.put, List.setIfInBounds_toArray, List.set_cons_zero, List.set_cons_succ])
  repeat (first
      | (refine mix_skip (by rfl) ?_
         (try simp only [Act.put, List.setIfInBounds_toArray, List.set_cons_zero, List.set_cons_succ]))
      | (refine mix_pure (v := ?_) (by rfl) (fun u hu => ?_) ?_
         rotate_left
         · clear hu
           go_simp
           (with_reducible rfl)
         (try simp only [Act.put, List.setIfInBounds_toArray, List.set_cons_zero, List.set_cons_succ])))
  refine mix_nil ?_
  by_cases he : sumL F = K
  · have hd : decide (sumL F = K) = true := by simpa using he
    have Hf := Lib.hid (hyes'.out he)
    clear he
    simp only [hd, Bool.not_true]
    go_wp2_with (go_at_call 63; refine (HB.out _ hB2).mono ?_; rintro e w4 ⟨A4, c4, rfl, ow4, hb4⟩)
    go_ret
    obtain ⟨g4, rfl, _, _⟩ := ow4.form (by omega)
    refine ⟨hB2.trans (hb4.mono hB2.size), ?_⟩
    rw [Hf.out]
    have hx := Hl.out
    subst hx
    exact ⟨g4, c4, rfl, ow4.from_ hB2.size⟩
  · have hd : decide (sumL F = K) = false := by simpa using he
    have Hf := Lib.hid (hnot'.out he)
    clear he
    simp only [hd, Bool.not_false]
    go_wp2
    go_ret
    refine ⟨hB2, ?_⟩
    rw [Hf.out]
    rfl

/-- impl.firstBody, whatever the bytes. -/
theorem firstBody (A : Option Addr) (n c : Nat) (d : List UInt8) (w : World) (hr : Rd eB w w.heap.size A d) (hn : d.length = n) (hc : n ≤ c) (hm : n ≤ 1048576) :
    Calls Try.prog 47 #[.slice A n c] w fun e w' => RetOpt (firstM d) w e w' := by
  cases d with
  | nil =>
    subst hn
    exact firstBody_nil A c w
  | cons b r =>
    have hn' : r.length + 1 = n := by simpa using hn
    obtain ⟨g, o, x, rfl, hg, hx, cx⟩ := hr.byte (k := 0) (by simp)
    obtain rfl : b = x := by simpa using hx
    have cx0 : w.cell? ⟨g, o, none⟩ = some (.int .u8 (b.toNat : Int)) := by simpa using cx
    by_cases h : b.toNat < 1 ∨ 40 < b.toNat ∨ n < b.toNat + 3
    · exact firstBody_len g o n c b r w cx0 hn hm h
    · exact firstBody_sum g o n c b r w hr hn hc hm (by omega) (by omega) (by omega)
end Go.Proofs.Ytkdfbaiolgndeaa
