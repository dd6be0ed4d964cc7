/-
  Texts of one proof, joined: each has its own namespace.
-/
import Derived.Shelf.Spec.SlicesGrow
import Derived.Shelf.SlSortCmp.NoneTotal
import Derived.Test.YtmaillakhhdkfaaGreatDoorRows
import Derived.Test.YtmaillakhhdkfaaGreatDoorBFnRecovers6
import Derived.Test.YtmaillakhhdkfaaGreatDoorBFnRecovers7
import Derived.Deep.DeepCutAuto
import Derived.Sort.LotA
import Derived.Test.YtmaillakhhdkfaaGreatDoorBFnRecovers14
import Derived.Test.YtmaillakhhdkfaaGreatDoorBFnRecovers16
import Derived.Sort.Grow
/-
  The shelf's contracts of slices.Grow and slices.SortFunc, laid at this seat, in plain words (made by the kit's own tool).
-/
namespace Go.Proofs.YtmaillakhhdkfaaGreatDoor
set_option maxRecDepth 20000
open Go.Shelf
def growS_ren : Go.Shelf.Ren := ⟨fun | 4 => 137 | n => n, fun | 22 => 36 | 25 => 25 | 3 => 3 | 4 => 4 | 9 => 9 | 20 => 20 | 0 => 0 | n => n, fun | n => n⟩
theorem growS : Go.Proofs.Lays8.n4 Tryz.prog growS_ren := {
  mixed := by kernel_rfl
  f4 := ⟨Tryz.f137.name, by decide, Tryz.func137.trans (congrArg some (by kernel_rfl))⟩
  t0 := Tryz.underlying0
  a0 := Tryz.isAgg0
  z0 := Tryz.sizeOf0
  v0 := Tryz.zeroValue0
  t3 := Tryz.underlying3
  a3 := Tryz.isAgg3
  z3 := Tryz.sizeOf3
  v3 := Tryz.zeroValue3
  t4 := Tryz.underlying4
  a4 := Tryz.isAgg4
  z4 := Tryz.sizeOf4
  v4 := Tryz.zeroValue4
  t9 := Tryz.underlying9
  a9 := Tryz.isAgg9
  z9 := Tryz.sizeOf9
  v9 := Tryz.zeroValue9
  t20 := Tryz.underlying20
  a20 := Tryz.isAgg20
  z20 := Tryz.sizeOf20
  v20 := Tryz.zeroValue20
  t22 := Tryz.underlying36
  a22 := Tryz.isAgg36
  z22 := Tryz.sizeOf36
  v22 := Tryz.zeroValue36 }
def sortS_ren : Go.Shelf.Ren := ⟨fun | 6 => 160 | 15 => 169 | 14 => 168 | 28 => 180 | 29 => 181 | 20 => 172 | 21 => 173 | 22 => 174 | 23 => 175 | 24 => 176 | 25 => 177 | 26 => 178 | 27 => 179 | 46 => 190 | 47 => 191 | 48 => 192 | 49 => 193 | 50 => 194 | 57 => 198 | n => n, fun | 22 => 36 | 24 => 25 | 25 => 220 | 3 => 3 | 39 => 173 | 0 => 0 | 53 => 256 | 55 => 258 | 4 => 4 | 46 => 249 | 45 => 248 | 50 => 253 | 5 => 5 | 9 => 9 | 66 => 264 | 70 => 268 | 76 => 272 | 77 => 273 | n => n, fun | n => n⟩
theorem sortS : Go.Proofs.SlLaysF0.n6 Tryz.prog sortS_ren := {
  mixed := by kernel_rfl
  f6 := ⟨Tryz.f160.name, by decide, Tryz.func160.trans (congrArg some (by kernel_rfl))⟩
  f14 := ⟨Tryz.f168.name, by decide, Tryz.func168.trans (congrArg some (by kernel_rfl))⟩
  f15 := Tryz.func169.trans (congrArg some (by kernel_rfl))
  f20 := ⟨Tryz.f172.name, by decide, Tryz.func172.trans (congrArg some (by kernel_rfl))⟩
  f21 := ⟨Tryz.f173.name, by decide, Tryz.func173.trans (congrArg some (by kernel_rfl))⟩
  f22 := ⟨Tryz.f174.name, by decide, Tryz.func174.trans (congrArg some (by kernel_rfl))⟩
  f23 := ⟨Tryz.f175.name, by decide, Tryz.func175.trans (congrArg some (by kernel_rfl))⟩
  f24 := ⟨Tryz.f176.name, by decide, Tryz.func176.trans (congrArg some (by kernel_rfl))⟩
  f25 := ⟨Tryz.f177.name, by decide, Tryz.func177.trans (congrArg some (by kernel_rfl))⟩
  f26 := ⟨Tryz.f178.name, by decide, Tryz.func178.trans (congrArg some (by kernel_rfl))⟩
  f27 := ⟨Tryz.f179.name, by decide, Tryz.func179.trans (congrArg some (by kernel_rfl))⟩
  f28 := Tryz.func180.trans (congrArg some (by kernel_rfl))
  f29 := Tryz.func181.trans (congrArg some (by kernel_rfl))
  f46 := ⟨Tryz.f190.name, by decide, Tryz.func190.trans (congrArg some (by kernel_rfl))⟩
  f47 := Tryz.func191.trans (congrArg some (by kernel_rfl))
  f48 := Tryz.func192.trans (congrArg some (by kernel_rfl))
  f49 := ⟨Tryz.f193.name, by decide, Tryz.func193.trans (congrArg some (by kernel_rfl))⟩
  f50 := ⟨Tryz.f194.name, by decide, Tryz.func194.trans (congrArg some (by kernel_rfl))⟩
  f57 := ⟨Tryz.f198.name, by decide, Tryz.func198.trans (congrArg some (by kernel_rfl))⟩
  t0 := Tryz.underlying0
  a0 := Tryz.isAgg0
  z0 := Tryz.sizeOf0
  v0 := Tryz.zeroValue0
  t3 := Tryz.underlying3
  a3 := Tryz.isAgg3
  z3 := Tryz.sizeOf3
  v3 := Tryz.zeroValue3
  t4 := Tryz.underlying4
  a4 := Tryz.isAgg4
  z4 := Tryz.sizeOf4
  v4 := Tryz.zeroValue4
  t5 := Tryz.underlying5
  a5 := Tryz.isAgg5
  z5 := Tryz.sizeOf5
  v5 := Tryz.zeroValue5
  t9 := Tryz.underlying9
  a9 := Tryz.isAgg9
  z9 := Tryz.sizeOf9
  v9 := Tryz.zeroValue9
  t22 := Tryz.underlying36
  a22 := Tryz.isAgg36
  z22 := Tryz.sizeOf36
  v22 := Tryz.zeroValue36
  t25 := Tryz.underlying220
  a25 := Tryz.isAgg220
  z25 := Tryz.sizeOf220
  v25 := Tryz.zeroValue220
  t39 := Tryz.underlying173
  a39 := Tryz.isAgg173
  z39 := Tryz.sizeOf173
  v39 := Tryz.zeroValue173
  t45 := Tryz.underlying248
  a45 := Tryz.isAgg248
  z45 := Tryz.sizeOf248
  v45 := Tryz.zeroValue248
  t46 := Tryz.underlying249
  a46 := Tryz.isAgg249
  z46 := Tryz.sizeOf249
  v46 := Tryz.zeroValue249
  t50 := Tryz.underlying253
  a50 := Tryz.isAgg253
  z50 := Tryz.sizeOf253
  v50 := Tryz.zeroValue253
  t53 := Tryz.underlying256
  a53 := Tryz.isAgg256
  z53 := Tryz.sizeOf256
  v53 := Tryz.zeroValue256
  t55 := Tryz.underlying258
  a55 := Tryz.isAgg258
  z55 := Tryz.sizeOf258
  v55 := Tryz.zeroValue258
  t66 := Tryz.underlying264
  a66 := Tryz.isAgg264
  z66 := Tryz.sizeOf264
  v66 := Tryz.zeroValue264
  t70 := Tryz.underlying268
  a70 := Tryz.isAgg268
  z70 := Tryz.sizeOf268
  v70 := Tryz.zeroValue268
  t76 := Tryz.underlying272
  a76 := Tryz.isAgg272
  z76 := Tryz.sizeOf272
  v76 := Tryz.zeroValue272
  t77 := Tryz.underlying273
  a77 := Tryz.isAgg273
  z77 := Tryz.sizeOf273
  v77 := Tryz.zeroValue273 }
def growH_ren : Go.Shelf.Ren := ⟨fun | 4 => 138 | n => n, fun | 22 => 37 | 25 => 75 | 3 => 3 | 4 => 4 | 9 => 9 | 20 => 20 | 0 => 0 | n => n, fun | n => n⟩
theorem growH : Go.Proofs.Lays8.n4 Tryz.prog growH_ren := {
  mixed := by kernel_rfl
  f4 := ⟨Tryz.f138.name, by decide, Tryz.func138.trans (congrArg some (by kernel_rfl))⟩
  t0 := Tryz.underlying0
  a0 := Tryz.isAgg0
  z0 := Tryz.sizeOf0
  v0 := Tryz.zeroValue0
  t3 := Tryz.underlying3
  a3 := Tryz.isAgg3
  z3 := Tryz.sizeOf3
  v3 := Tryz.zeroValue3
  t4 := Tryz.underlying4
  a4 := Tryz.isAgg4
  z4 := Tryz.sizeOf4
  v4 := Tryz.zeroValue4
  t9 := Tryz.underlying9
  a9 := Tryz.isAgg9
  z9 := Tryz.sizeOf9
  v9 := Tryz.zeroValue9
  t20 := Tryz.underlying20
  a20 := Tryz.isAgg20
  z20 := Tryz.sizeOf20
  v20 := Tryz.zeroValue20
  t22 := Tryz.underlying37
  a22 := Tryz.isAgg37
  z22 := Tryz.sizeOf37
  v22 := Tryz.zeroValue37 }
def sortQ_ren : Go.Shelf.Ren := ⟨fun | 6 => 164 | 15 => 169 | 14 => 171 | 28 => 180 | 29 => 181 | 20 => 182 | 21 => 183 | 22 => 184 | 23 => 185 | 24 => 186 | 25 => 187 | 26 => 188 | 27 => 189 | 46 => 195 | 47 => 191 | 48 => 192 | 49 => 196 | 50 => 197 | 57 => 199 | n => n, fun | 22 => 224 | 24 => 222 | 25 => 230 | 3 => 3 | 39 => 173 | 0 => 0 | 53 => 256 | 55 => 258 | 4 => 4 | 46 => 249 | 45 => 248 | 50 => 253 | 5 => 5 | 9 => 9 | 66 => 264 | 70 => 268 | 76 => 272 | 77 => 273 | n => n, fun | n => n⟩
theorem sortQ : Go.Proofs.SlLaysF0.n6 Tryz.prog sortQ_ren := {
  mixed := by kernel_rfl
  f6 := ⟨Tryz.f164.name, by decide, Tryz.func164.trans (congrArg some (by kernel_rfl))⟩
  f14 := ⟨Tryz.f171.name, by decide, Tryz.func171.trans (congrArg some (by kernel_rfl))⟩
  f15 := Tryz.func169.trans (congrArg some (by kernel_rfl))
  f20 := ⟨Tryz.f182.name, by decide, Tryz.func182.trans (congrArg some (by kernel_rfl))⟩
  f21 := ⟨Tryz.f183.name, by decide, Tryz.func183.trans (congrArg some (by kernel_rfl))⟩
  f22 := ⟨Tryz.f184.name, by decide, Tryz.func184.trans (congrArg some (by kernel_rfl))⟩
  f23 := ⟨Tryz.f185.name, by decide, Tryz.func185.trans (congrArg some (by kernel_rfl))⟩
  f24 := ⟨Tryz.f186.name, by decide, Tryz.func186.trans (congrArg some (by kernel_rfl))⟩
  f25 := ⟨Tryz.f187.name, by decide, Tryz.func187.trans (congrArg some (by kernel_rfl))⟩
  f26 := ⟨Tryz.f188.name, by decide, Tryz.func188.trans (congrArg some (by kernel_rfl))⟩
  f27 := ⟨Tryz.f189.name, by decide, Tryz.func189.trans (congrArg some (by kernel_rfl))⟩
  f28 := Tryz.func180.trans (congrArg some (by kernel_rfl))
  f29 := Tryz.func181.trans (congrArg some (by kernel_rfl))
  f46 := ⟨Tryz.f195.name, by decide, Tryz.func195.trans (congrArg some (by kernel_rfl))⟩
  f47 := Tryz.func191.trans (congrArg some (by kernel_rfl))
  f48 := Tryz.func192.trans (congrArg some (by kernel_rfl))
  f49 := ⟨Tryz.f196.name, by decide, Tryz.func196.trans (congrArg some (by kernel_rfl))⟩
  f50 := ⟨Tryz.f197.name, by decide, Tryz.func197.trans (congrArg some (by kernel_rfl))⟩
  f57 := ⟨Tryz.f199.name, by decide, Tryz.func199.trans (congrArg some (by kernel_rfl))⟩
  t0 := Tryz.underlying0
  a0 := Tryz.isAgg0
  z0 := Tryz.sizeOf0
  v0 := Tryz.zeroValue0
  t3 := Tryz.underlying3
  a3 := Tryz.isAgg3
  z3 := Tryz.sizeOf3
  v3 := Tryz.zeroValue3
  t4 := Tryz.underlying4
  a4 := Tryz.isAgg4
  z4 := Tryz.sizeOf4
  v4 := Tryz.zeroValue4
  t5 := Tryz.underlying5
  a5 := Tryz.isAgg5
  z5 := Tryz.sizeOf5
  v5 := Tryz.zeroValue5
  t9 := Tryz.underlying9
  a9 := Tryz.isAgg9
  z9 := Tryz.sizeOf9
  v9 := Tryz.zeroValue9
  t22 := Tryz.underlying224
  a22 := Tryz.isAgg224
  z22 := Tryz.sizeOf224
  v22 := Tryz.zeroValue224
  t25 := Tryz.underlying230
  a25 := Tryz.isAgg230
  z25 := Tryz.sizeOf230
  v25 := Tryz.zeroValue230
  t39 := Tryz.underlying173
  a39 := Tryz.isAgg173
  z39 := Tryz.sizeOf173
  v39 := Tryz.zeroValue173
  t45 := Tryz.underlying248
  a45 := Tryz.isAgg248
  z45 := Tryz.sizeOf248
  v45 := Tryz.zeroValue248
  t46 := Tryz.underlying249
  a46 := Tryz.isAgg249
  z46 := Tryz.sizeOf249
  v46 := Tryz.zeroValue249
  t50 := Tryz.underlying253
  a50 := Tryz.isAgg253
  z50 := Tryz.sizeOf253
  v50 := Tryz.zeroValue253
  t53 := Tryz.underlying256
  a53 := Tryz.isAgg256
  z53 := Tryz.sizeOf256
  v53 := Tryz.zeroValue256
  t55 := Tryz.underlying258
  a55 := Tryz.isAgg258
  z55 := Tryz.sizeOf258
  v55 := Tryz.zeroValue258
  t66 := Tryz.underlying264
  a66 := Tryz.isAgg264
  z66 := Tryz.sizeOf264
  v66 := Tryz.zeroValue264
  t70 := Tryz.underlying268
  a70 := Tryz.isAgg268
  z70 := Tryz.sizeOf268
  v70 := Tryz.zeroValue268
  t76 := Tryz.underlying272
  a76 := Tryz.isAgg272
  z76 := Tryz.sizeOf272
  v76 := Tryz.zeroValue272
  t77 := Tryz.underlying273
  a77 := Tryz.isAgg273
  z77 := Tryz.sizeOf273
  v77 := Tryz.zeroValue273 }
end Go.Proofs.YtmaillakhhdkfaaGreatDoor
/-
  slices.Grow of nothing, and slices.Concat of rows of samples.
-/
namespace Go.Proofs.YtmaillakhhdkfaaGreatDoor
set_option maxRecDepth 20000
open Go.RowKit Go.Shelf
set_option linter.unusedSimpArgs false
set_option linter.unusedVariables false

theorem growNone (n : Nat) (hn : n ≤ 100000) (w : World) :
    Calls Tryz.prog 137 #[.slice none 0 0, .int .i64 (n : Int)] w fun e w' => ∃ A c, e = .returned (.slice A 0 c) ∧ Ow eS w' w.heap.size A 0 c [] ∧ Below w.heap.size w w' := by
  rcases Nat.eq_zero_or_pos n with h0 | h0
  · subst h0
    have h : Calls Tryz.prog 137 #[.slice none 0 0, .int .i64 ((0 : Nat) : Int)] w fun e w' => e = .returned (.slice none 0 0) ∧ w' = w :=
      Any8.slices_Grow_room growS none 0 0 0 w (by omega) (by omega) (by omega) (by omega)
    refine h.mono ?_
    rintro e w' ⟨rfl, rfl⟩
    exact ⟨none, 0, rfl, Ow.nil, Below.refl _ _⟩
  · obtain ⟨i, hi, hz, hsz, hby⟩ := info_parts info_smp
    have h : Calls Tryz.prog 137 #[.slice none 0 0, .int .i64 (n : Int)] w fun e w' => e = .returned (.slice (some ⟨w.heap.size, 0, none⟩) 0 (grownCap w (0 + n) 0 25)) ∧
        w' = w.drew.alloc (.cells (([] : List Value).toArray ++ Builtin.zeroCells (Value.agg #[.int .i64 0, .int .i64 0, .int .i64 0, .int .i64 0]).cells (0 + n - 0) ++ Builtin.zeroCells (Value.agg #[.int .i64 0, .int .i64 0, .int .i64 0, .int .i64 0]).cells (grownCap w (0 + n) 0 25 - (0 + n))) 25) :=
      Any8.slices_Grow_grow growS i _ hi hz (by omega) none 0 0 n [] w (by omega) (by omega) (by rw [hby]; omega) (by omega) (by simp) (fun _ => rfl) (fun a ha => by cases ha)
    refine h.mono ?_
    rintro e w' ⟨rfl, rfl⟩
    have hge := grownCap_ge w (0 + n) 0 25
    have hle := grownCap_le_maxLen w (0 + n) 0 25 (by unfold maxLen; omega)
    generalize grownCap w (0 + n) 0 25 = G at hge hle ⊢
    refine ⟨_, G, rfl, ?_, (Below.refl w.heap.size w).drew.alloc (Nat.le_refl _) _⟩
    have hm := World.ownsRow_made (base := w.heap.size) (e := 25) (size := 4) w.drew (([] : List Value).toArray ++ Builtin.zeroCells (Value.agg #[.int .i64 0, .int .i64 0, .int .i64 0, .int .i64 0]).cells (0 + n - 0) ++ Builtin.zeroCells (Value.agg #[.int .i64 0, .int .i64 0, .int .i64 0, .int .i64 0]).cells (G - (0 + n))) G (Nat.le_refl _) hle (by
      rw [Array.size_append, Array.size_append, size_zeroCells, size_zeroCells]
      simp [Value.cells]
      omega)
    exact hm

abbrev Row4 := Option Addr × Nat × Nat × List Smp
def flat (rows : List Row4) : List Smp := rows.flatMap (·.2.2.2)
theorem flat_next {rows : List Row4} {j : Nat} {r : Row4} (h : rows[j]? = some r) : flat (rows.take (j + 1)) = flat (rows.take j) ++ r.2.2.2 := by
  unfold flat
  rw [List.take_add_one, h, List.flatMap_append]
  simp
theorem flat_len : ∀ {rows : List Row4}, (∀ r, r ∈ rows → r.2.2.2.length ≤ 1000) → (flat rows).length ≤ rows.length * 1000
  | [], _ => by simp [flat]
  | r :: rows, h => by
    have h1 := flat_len (rows := rows) (fun x hx => h x (by simp [hx]))
    have h2 := h r (by simp)
    unfold flat at h1 ⊢
    rw [List.flatMap_cons, List.length_append, List.length_cons]
    omega

/-- Block G holds these slices, each of which reads its list. -/
def Rows4 (w : World) (G : Nat) (rows : List Row4) : Prop :=
  ∀ (i : Nat) (r : Row4), rows[i]? = some r → w.cell? ⟨G, i, none⟩ = some (.slice r.1 r.2.1 r.2.2.1) ∧ Rd eS w w.heap.size r.1 r.2.2.2 ∧ r.2.2.2.length = r.2.1 ∧ r.2.1 ≤ 1000
theorem Rows4.below {w w' : World} {G : Nat} {rows : List Row4} (h : Rows4 w G rows) (hb : Below w.heap.size w w') (hG : G < w.heap.size) : Rows4 w' G rows := fun i r hr => by
  obtain ⟨h1, h2, h3, h4⟩ := h i r hr
  exact ⟨(hb.cell (p := ⟨G, i, none⟩) hG).trans h1, h2.lift hb, h3, h4⟩

set_option maxHeartbeats 2000000 in
theorem concatS (G k c : Nat) (rows : List Row4) (w : World) (hR : Rows4 w G rows) (hG : G < w.heap.size) (hk : rows.length = k) (hk4 : k ≤ 4) :
    Calls Tryz.prog 95 #[.slice (some ⟨G, 0, none⟩) k c] w fun e w' => ∃ A n c', e = .returned (.slice A n c') ∧ Ow eS w' w.heap.size A n c' (flat rows) ∧ Below w.heap.size w w' := by
  have hlen : ∀ j, j ≤ k → (flat (rows.take j)).length ≤ 4000 := fun j hj => by
    have h1 := flat_len (rows := rows.take j) (fun r hr => by
      obtain ⟨i, hi⟩ := List.mem_iff_getElem?.1 (List.mem_of_mem_take hr)
      obtain ⟨_, _, h3, h4⟩ := hR i r hi
      omega)
    rw [List.length_take] at h1
    have : min j rows.length * 1000 ≤ 4000 := by
      have : min j rows.length ≤ 4 := by omega
      omega
    omega
  have Hlen := Lib.hid hlen
  have Hk := Lib.hid hk
  clear hk hlen
  go_enter Tryz.func95, Tryz.ntmps95
  go_wp2
  go_loopw [3, 11] (fun sz i wr => ∃ j : Nat, j ≤ k ∧ i = .int .i64 j ∧ sz = .int .i64 ((flat (rows.take j)).length : Int) ∧ w = wr) (fun _ i _ => k - (intOf i).toNat)
  case atStart => exact ⟨0, Nat.zero_le _, rfl, rfl, rfl⟩
  case round =>
    obtain ⟨j, hj, rfl, rfl, rfl⟩ := hrel
    by_cases hlt : j < k
    · obtain ⟨r, hr⟩ : ∃ r, rows[j]? = some r := ⟨rows[j]'(by rw [Hk.out]; exact hlt), List.getElem?_eq_getElem _⟩
      obtain ⟨hc, -, h3, -⟩ := hR j r hr
      have h5 := Hlen.out (j + 1) hlt
      have h6 : (flat (rows.take (j + 1))).length = (flat (rows.take j)).length + r.2.1 := by rw [flat_next hr, List.length_append, h3]
      have H6 := Lib.hid h6
      have hw : wrap64 (((flat (rows.take j)).length : Int) + (r.2.1 : Int)) = ((flat (rows.take j)).length : Int) + (r.2.1 : Int) := by unfold wrap64; omega
      have hneg : ¬ ((flat (rows.take j)).length : Int) + (r.2.1 : Int) < 0 := by omega
      clear h3 hr h6
      have Hw := Lib.hid hw
      go_wp2
      exact ⟨⟨j + 1, by omega, by go_num, by rw [Hw.out, H6.out]; simp, trivial⟩, by simp [intOf]; omega⟩
    · obtain rfl : j = k := by omega
      have hz := Hlen.out j (Nat.le_refl _)
      have hq := growNone (flat (rows.take j)).length (by omega) w
      go_wp2_with fail
      refine hq.mono ?_
      rintro e w1 ⟨A0, c0, rfl, ow0, hb0⟩
      go_wp2
      go_loopw [6, 27] (fun o i wr => ∃ (t : Nat) (A : Option Addr) (n c' : Nat), t ≤ j ∧ i = .int .i64 t ∧ o = .slice A n c' ∧ Ow eS wr w.heap.size A n c' (flat (rows.take t)) ∧ Below w.heap.size w wr) (fun _ i _ => j - (intOf i).toNat)
      case atStart => exact ⟨0, A0, 0, c0, Nat.zero_le _, rfl, rfl, ow0, hb0⟩
      case round =>
        obtain ⟨t, A, n, c', ht, rfl, rfl, how, hbel⟩ := hrel
        by_cases hlt : t < j
        · obtain ⟨r, hr⟩ : ∃ r, rows[t]? = some r := ⟨rows[t]'(by rw [Hk.out]; exact hlt), List.getElem?_eq_getElem _⟩
          obtain ⟨hc, hX, h3, h4⟩ := (hR.below hbel hG) t r hr
          have hn := Hlen.out t (by omega)
          have hnl := Ow.len okS how
          have Hf := Lib.hid (flat_next hr)
          have H3 := Lib.hid h3
          have hn4 : n ≤ 4000 := by omega
          clear hr h3 hn hnl
          go_wp2_with (at_builtin; refine wpList_append_ow okS _ rfl _ _ 36 rfl w.heap.size info_smp Tryz.underlying36 rfl A n c' (flat (rows.take t)) rfl how r.1 r.2.1 r.2.2.1 wr.heap.size r.2.2.2 rfl hX H3.out (by unfold maxLen; omega) (by omega) hbel.size ?_; intro A1 c1 w2 ow2 hg2 hA2)
          refine ⟨⟨t + 1, A1, n + r.2.1, c1, by omega, by go_num, rfl, by rw [Hf.out]; exact ow2, hbel.grown hg2 hbel.size (fun k e => (how.lt k e).1)⟩, by simp [intOf]; omega⟩
        · obtain rfl : t = j := by omega
          have Hq := Lib.hid (show flat (rows.take t) = flat rows by rw [List.take_of_length_le (by rw [Hk.out]; exact Nat.le_refl _)])
          go_wp2
          go_ret
          exact ⟨A, n, c', rfl, by rw [← Hq.out]; exact how, hbel⟩
end Go.Proofs.YtmaillakhhdkfaaGreatDoor
/-
  slices.Grow of nothing, and slices.Concat of rows of hints.
-/
namespace Go.Proofs.YtmaillakhhdkfaaGreatDoor
set_option maxRecDepth 20000
open Go.RowKit Go.Shelf
set_option linter.unusedSimpArgs false
set_option linter.unusedVariables false

theorem growNoneH (n : Nat) (hn : n ≤ 100000) (w : World) :
    Calls Tryz.prog 138 #[.slice none 0 0, .int .i64 (n : Int)] w fun e w' => ∃ A c, e = .returned (.slice A 0 c) ∧ Ow eH w' w.heap.size A 0 c [] ∧ Below w.heap.size w w' := by
  rcases Nat.eq_zero_or_pos n with h0 | h0
  · subst h0
    have h : Calls Tryz.prog 138 #[.slice none 0 0, .int .i64 ((0 : Nat) : Int)] w fun e w' => e = .returned (.slice none 0 0) ∧ w' = w :=
      Any8.slices_Grow_room growH none 0 0 0 w (by omega) (by omega) (by omega) (by omega)
    refine h.mono ?_
    rintro e w' ⟨rfl, rfl⟩
    exact ⟨none, 0, rfl, Ow.nil, Below.refl _ _⟩
  · obtain ⟨i, hi, hz, hsz, hby⟩ := info_parts info_hnt
    have h : Calls Tryz.prog 138 #[.slice none 0 0, .int .i64 (n : Int)] w fun e w' => e = .returned (.slice (some ⟨w.heap.size, 0, none⟩) 0 (grownCap w (0 + n) 0 75)) ∧
        w' = w.drew.alloc (.cells (([] : List Value).toArray ++ Builtin.zeroCells (Value.agg #[.int .i64 0, .int .i64 0, .int .i64 0, .int .i64 0, .int .i64 0, .int .i64 0, .int .i64 0]).cells (0 + n - 0) ++ Builtin.zeroCells (Value.agg #[.int .i64 0, .int .i64 0, .int .i64 0, .int .i64 0, .int .i64 0, .int .i64 0, .int .i64 0]).cells (grownCap w (0 + n) 0 75 - (0 + n))) 75) :=
      Any8.slices_Grow_grow growH i _ hi hz (by omega) none 0 0 n [] w (by omega) (by omega) (by rw [hby]; omega) (by omega) (by simp) (fun _ => rfl) (fun a ha => by cases ha)
    refine h.mono ?_
    rintro e w' ⟨rfl, rfl⟩
    have hge := grownCap_ge w (0 + n) 0 75
    have hle := grownCap_le_maxLen w (0 + n) 0 75 (by unfold maxLen; omega)
    generalize grownCap w (0 + n) 0 75 = G at hge hle ⊢
    refine ⟨_, G, rfl, ?_, (Below.refl w.heap.size w).drew.alloc (Nat.le_refl _) _⟩
    have hm := World.ownsRow_made (base := w.heap.size) (e := 75) (size := 7) w.drew (([] : List Value).toArray ++ Builtin.zeroCells (Value.agg #[.int .i64 0, .int .i64 0, .int .i64 0, .int .i64 0, .int .i64 0, .int .i64 0, .int .i64 0]).cells (0 + n - 0) ++ Builtin.zeroCells (Value.agg #[.int .i64 0, .int .i64 0, .int .i64 0, .int .i64 0, .int .i64 0, .int .i64 0, .int .i64 0]).cells (G - (0 + n))) G (Nat.le_refl _) hle (by
      rw [Array.size_append, Array.size_append, size_zeroCells, size_zeroCells]
      simp [Value.cells]
      omega)
    exact hm

abbrev Row4H := Option Addr × Nat × Nat × List Hnt
def flatH (rows : List Row4H) : List Hnt := rows.flatMap (·.2.2.2)
theorem flatH_next {rows : List Row4H} {j : Nat} {r : Row4H} (h : rows[j]? = some r) : flatH (rows.take (j + 1)) = flatH (rows.take j) ++ r.2.2.2 := by
  unfold flatH
  rw [List.take_add_one, h, List.flatMap_append]
  simp
theorem flatH_len : ∀ {rows : List Row4H}, (∀ r, r ∈ rows → r.2.2.2.length ≤ 1000) → (flatH rows).length ≤ rows.length * 1000
  | [], _ => by simp [flatH]
  | r :: rows, h => by
    have h1 := flatH_len (rows := rows) (fun x hx => h x (by simp [hx]))
    have h2 := h r (by simp)
    unfold flatH at h1 ⊢
    rw [List.flatMap_cons, List.length_append, List.length_cons]
    omega

/-- Block G holds these slices, each of which reads its list. -/
def Rows4H (w : World) (G : Nat) (rows : List Row4H) : Prop :=
  ∀ (i : Nat) (r : Row4H), rows[i]? = some r → w.cell? ⟨G, i, none⟩ = some (.slice r.1 r.2.1 r.2.2.1) ∧ Rd eH w w.heap.size r.1 r.2.2.2 ∧ r.2.2.2.length = r.2.1 ∧ r.2.1 ≤ 1000
theorem Rows4H.below {w w' : World} {G : Nat} {rows : List Row4H} (h : Rows4H w G rows) (hb : Below w.heap.size w w') (hG : G < w.heap.size) : Rows4H w' G rows := fun i r hr => by
  obtain ⟨h1, h2, h3, h4⟩ := h i r hr
  exact ⟨(hb.cell (p := ⟨G, i, none⟩) hG).trans h1, h2.lift hb, h3, h4⟩

set_option maxHeartbeats 2000000 in
theorem concatH (G k c : Nat) (rows : List Row4H) (w : World) (hR : Rows4H w G rows) (hG : G < w.heap.size) (hk : rows.length = k) (hk4 : k ≤ 4) :
    Calls Tryz.prog 96 #[.slice (some ⟨G, 0, none⟩) k c] w fun e w' => ∃ A n c', e = .returned (.slice A n c') ∧ Ow eH w' w.heap.size A n c' (flatH rows) ∧ Below w.heap.size w w' := by
  have hlen : ∀ j, j ≤ k → (flatH (rows.take j)).length ≤ 4000 := fun j hj => by
    have h1 := flatH_len (rows := rows.take j) (fun r hr => by
      obtain ⟨i, hi⟩ := List.mem_iff_getElem?.1 (List.mem_of_mem_take hr)
      obtain ⟨_, _, h3, h4⟩ := hR i r hi
      omega)
    rw [List.length_take] at h1
    have : min j rows.length * 1000 ≤ 4000 := by
      have : min j rows.length ≤ 4 := by omega
      omega
    omega
  have Hlen := Lib.hid hlen
  have Hk := Lib.hid hk
  clear hk hlen
  go_enter Tryz.func96, Tryz.ntmps96
  go_wp2
  go_loopw [3, 11] (fun sz i wr => ∃ j : Nat, j ≤ k ∧ i = .int .i64 j ∧ sz = .int .i64 ((flatH (rows.take j)).length : Int) ∧ w = wr) (fun _ i _ => k - (intOf i).toNat)
  case atStart => exact ⟨0, Nat.zero_le _, rfl, rfl, rfl⟩
  case round =>
    obtain ⟨j, hj, rfl, rfl, rfl⟩ := hrel
    by_cases hlt : j < k
    · obtain ⟨r, hr⟩ : ∃ r, rows[j]? = some r := ⟨rows[j]'(by rw [Hk.out]; exact hlt), List.getElem?_eq_getElem _⟩
      obtain ⟨hc, -, h3, -⟩ := hR j r hr
      have h5 := Hlen.out (j + 1) hlt
      have h6 : (flatH (rows.take (j + 1))).length = (flatH (rows.take j)).length + r.2.1 := by rw [flatH_next hr, List.length_append, h3]
      have H6 := Lib.hid h6
      have hw : wrap64 (((flatH (rows.take j)).length : Int) + (r.2.1 : Int)) = ((flatH (rows.take j)).length : Int) + (r.2.1 : Int) := by unfold wrap64; omega
      have hneg : ¬ ((flatH (rows.take j)).length : Int) + (r.2.1 : Int) < 0 := by omega
      clear h3 hr h6
      have Hw := Lib.hid hw
      go_wp2
      exact ⟨⟨j + 1, by omega, by go_num, by rw [Hw.out, H6.out]; simp, trivial⟩, by simp [intOf]; omega⟩
    · obtain rfl : j = k := by omega
      have hz := Hlen.out j (Nat.le_refl _)
      have hq := growNoneH (flatH (rows.take j)).length (by omega) w
      go_wp2_with fail
      refine hq.mono ?_
      rintro e w1 ⟨A0, c0, rfl, ow0, hb0⟩
      go_wp2
      go_loopw [6, 27] (fun o i wr => ∃ (t : Nat) (A : Option Addr) (n c' : Nat), t ≤ j ∧ i = .int .i64 t ∧ o = .slice A n c' ∧ Ow eH wr w.heap.size A n c' (flatH (rows.take t)) ∧ Below w.heap.size w wr) (fun _ i _ => j - (intOf i).toNat)
      case atStart => exact ⟨0, A0, 0, c0, Nat.zero_le _, rfl, rfl, ow0, hb0⟩
      case round =>
        obtain ⟨t, A, n, c', ht, rfl, rfl, how, hbel⟩ := hrel
        by_cases hlt : t < j
        · obtain ⟨r, hr⟩ : ∃ r, rows[t]? = some r := ⟨rows[t]'(by rw [Hk.out]; exact hlt), List.getElem?_eq_getElem _⟩
          obtain ⟨hc, hX, h3, h4⟩ := (hR.below hbel hG) t r hr
          have hn := Hlen.out t (by omega)
          have hnl := Ow.len okH how
          have Hf := Lib.hid (flatH_next hr)
          have H3 := Lib.hid h3
          have hn4 : n ≤ 4000 := by omega
          clear hr h3 hn hnl
          go_wp2_with (at_builtin; refine wpList_append_ow okH _ rfl _ _ 37 rfl w.heap.size info_hnt Tryz.underlying37 rfl A n c' (flatH (rows.take t)) rfl how r.1 r.2.1 r.2.2.1 wr.heap.size r.2.2.2 rfl hX H3.out (by unfold maxLen; omega) (by omega) hbel.size ?_; intro A1 c1 w2 ow2 hg2 hA2)
          refine ⟨⟨t + 1, A1, n + r.2.1, c1, by omega, by go_num, rfl, by rw [Hf.out]; exact ow2, hbel.grown hg2 hbel.size (fun k e => (how.lt k e).1)⟩, by simp [intOf]; omega⟩
        · obtain rfl : t = j := by omega
          have Hq := Lib.hid (show flatH (rows.take t) = flatH rows by rw [List.take_of_length_le (by rw [Hk.out]; exact Nat.le_refl _)])
          go_wp2
          go_ret
          exact ⟨A, n, c', rfl, by rw [← Hq.out]; exact how, hbel⟩
end Go.Proofs.YtmaillakhhdkfaaGreatDoor
/-
  A state copied: the program's.
-/
namespace Go.Proofs.YtmaillakhhdkfaaGreatDoor
set_option maxRecDepth 20000
open Go.RowKit
set_option linter.unusedSimpArgs false
set_option linter.unusedVariables false
attribute [local irreducible] mixW

theorem rowsOneS {w : World} {G n c : Nat} {A : Option Addr} {t : TypeId} {l : List Smp} (h : At w G t #[.slice A n c]) (ha : Rd eS w w.heap.size A l) (hn : l.length = n) (h1 : n ≤ 1000) : Rows4 w G [(A, n, c, l)] := by
  intro i r hr
  match i, hr with
  | 0, hr =>
    obtain rfl : (A, n, c, l) = r := by simpa using hr
    exact ⟨h.cell 0, ha, hn, h1⟩
  | i + 1, hr => simp at hr
theorem rowsOneH {w : World} {G n c : Nat} {A : Option Addr} {t : TypeId} {l : List Hnt} (h : At w G t #[.slice A n c]) (ha : Rd eH w w.heap.size A l) (hn : l.length = n) (h1 : n ≤ 1000) : Rows4H w G [(A, n, c, l)] := by
  intro i r hr
  match i, hr with
  | 0, hr =>
    obtain rfl : (A, n, c, l) = r := by simpa using hr
    exact ⟨h.cell 0, ha, hn, h1⟩
  | i + 1, hr => simp at hr
theorem concatOne (G n c d : Nat) (A : Option Addr) (t : TypeId) (l : List Smp) (w : World) (h : At w G t #[.slice A n c]) (ha : Rd eS w w.heap.size A l) (hn : l.length = n) (h1 : n ≤ 1000) :
    Calls Tryz.prog 95 #[.slice (some ⟨G, 0, none⟩) 1 d] w fun e w' => ∃ A' c', e = .returned (.slice A' n c') ∧ Ow eS w' w.heap.size A' n c' l ∧ Below w.heap.size w w' := by
  refine (concatS G 1 d [(A, n, c, l)] w (rowsOneS h ha hn h1) h.lt rfl (by omega)).mono ?_
  rintro e w' ⟨A', n', c', rfl, ow, hb⟩
  have hf : flat [(A, n, c, l)] = l := by simp [flat]
  rw [hf] at ow
  obtain rfl : n = n' := hn.symm.trans (ow.len okS)
  exact ⟨A', c', rfl, ow, hb⟩
theorem concatOneH (G n c d : Nat) (A : Option Addr) (t : TypeId) (l : List Hnt) (w : World) (h : At w G t #[.slice A n c]) (ha : Rd eH w w.heap.size A l) (hn : l.length = n) (h1 : n ≤ 1000) :
    Calls Tryz.prog 96 #[.slice (some ⟨G, 0, none⟩) 1 d] w fun e w' => ∃ A' c', e = .returned (.slice A' n c') ∧ Ow eH w' w.heap.size A' n c' l ∧ Below w.heap.size w w' := by
  refine (concatH G 1 d [(A, n, c, l)] w (rowsOneH h ha hn h1) h.lt rfl (by omega)).mono ?_
  rintro e w' ⟨A', n', c', rfl, ow, hb⟩
  have hf : flatH [(A, n, c, l)] = l := by simp [flatH]
  rw [hf] at ow
  obtain rfl : n = n' := hn.symm.trans (ow.len okH)
  exact ⟨A', c', rfl, ow, hb⟩

set_option maxHeartbeats 8000000 in
theorem copyState (A B : Option Addr) (n c m d : Nat) (l : List Smp) (h : List Hnt) (x : Int) (w : World) (ha : Rd eS w w.heap.size A l) (hb : Rd eH w w.heap.size B h) (hn : l.length = n) (hm : h.length = m) (hn1 : n ≤ 1000) (hm1 : m ≤ 1000) :
    Calls Tryz.prog 49 #[.agg #[.slice A n c, .slice B m d, .int .i64 x]] w fun e w' => ∃ A' c' B' d', e = .returned (.agg #[.slice A' n c', .slice B' m d', .int .i64 x]) ∧ Ow eS w' w.heap.size A' n c' l ∧ Ow eH w' w.heap.size B' m d' h ∧ Below w.heap.size w w' := by
  have hB0 : Below w.heap.size w ((w.alloc (.cells #[.slice A n c, .slice B m d, .int .i64 x] 39)).alloc (.cells #[.slice none 0 0, .slice none 0 0, .int .i64 0] 39)) := ((Below.refl _ _).alloc (Nat.le_refl _) _).alloc (by simp) _
  have x0 := (At.new w 39 #[.slice A n c, .slice B m d, .int .i64 x]).alloc (.cells #[.slice none 0 0, .slice none 0 0, .int .i64 0] 39)
  have zz : At ((w.alloc (.cells #[.slice A n c, .slice B m d, .int .i64 x] 39)).alloc (.cells #[.slice none 0 0, .slice none 0 0, .int .i64 0] 39)) (w.heap.size + 1) 39 #[.slice none 0 0, .slice none 0 0, .int .i64 0] := by
    have := At.new (w.alloc (.cells #[.slice A n c, .slice B m d, .int .i64 x] 39)) 39 #[.slice none 0 0, .slice none 0 0, .int .i64 0]
    simpa using this
  have ha0 := ha.lift hB0
  have hb0 := hb.lift hB0
  have Hn := Lib.hid hn
  have Hm := Lib.hid hm
  have lzz := zz.lt
  clear hn hm ha hb
  go_enter Tryz.func49, Tryz.ntmps49
  go_wp2
  refine any_start (fun u => At u w.heap.size 39 #[.slice A n c, .slice B m d, .int .i64 x]) (by kernel_rfl) x0.drew (fun _ => ?_)
  have bxd := x0.drew
  have hBd := hB0.drew
  have ha0d : _ := ha0.lift ((Below.refl _ _).drew)
  have hb0d : _ := hb0.lift ((Below.refl _ _).drew)
  have zzd := zz.drew
  refine any_pure (v := ?_) 0 rfl (by kernel_rfl) (fun _ _ _ _ _ h => h) (by rfl) (fun u hu => ?_) bxd ?_
  rotate_left
  · obtain ⟨_, _, _, _, _, _⟩ := At.three hu
    go_simp
    (with_reducible rfl)
  (try simp only [Act.put, List.setIfInBounds_toArray, List.set_cons_zero, List.set_cons_succ])
  refine any_pure (v := ?_) 1 rfl (by kernel_rfl) (fun _ _ _ _ _ h => h) (by rfl) (fun u hu => ?_) bxd ?_
  rotate_left
  · obtain ⟨_, _, _, _, _, _⟩ := At.three hu
    go_simp
    (with_reducible rfl)
  (try simp only [Act.put, List.setIfInBounds_toArray, List.set_cons_zero, List.set_cons_succ])
  refine any_pure (v := ?_) 4 rfl (by kernel_rfl) (fun _ _ _ _ _ h => h) (by rfl) (fun u hu => ?_) bxd ?_
  rotate_left
  · obtain ⟨_, _, _, _, _, _⟩ := At.three hu
    go_simp
    (with_reducible rfl)
  (try simp only [Act.put, List.setIfInBounds_toArray, List.set_cons_zero, List.set_cons_succ])
  refine any_pure (v := ?_) 5 rfl (by kernel_rfl) (fun _ _ _ _ _ h => h) (by rfl) (fun u hu => ?_) bxd ?_
  rotate_left
  · obtain ⟨_, _, _, _, _, _⟩ := At.three hu
    go_simp
    (with_reducible rfl)
  (try simp only [Act.put, List.setIfInBounds_toArray, List.set_cons_zero, List.set_cons_succ])
  refine any_pure (v := ?_) 8 rfl (by kernel_rfl) (fun _ _ _ _ _ h => h) (by rfl) (fun u hu => ?_) bxd ?_
  rotate_left
  · obtain ⟨_, _, _, _, _, _⟩ := At.three hu
    go_simp
    (with_reducible rfl)
  (try simp only [Act.put, List.setIfInBounds_toArray, List.set_cons_zero, List.set_cons_succ])
  refine any_pure (v := ?_) 9 rfl (by kernel_rfl) (fun _ _ _ _ _ h => h) (by rfl) (fun u hu => ?_) bxd ?_
  rotate_left
  · obtain ⟨_, _, _, _, _, _⟩ := At.three hu
    go_simp
    (with_reducible rfl)
  (try simp only [Act.put, List.setIfInBounds_toArray, List.set_cons_zero, List.set_cons_succ])
  refine any_two 2 6 rfl rfl (by kernel_rfl) (by rfl) (by rfl) ?_ ?_
  · go_simp
    have bs101 := At.newAt' (w := ((w.alloc (.cells #[.slice A n c, .slice B m d, .int .i64 x] 39)).alloc (.cells #[.slice none 0 0, .slice none 0 0, .int .i64 0] 39)).drew) (t := 36) (cs := #[.slice A n c]) (show ((w.alloc (.cells #[.slice A n c, .slice B m d, .int .i64 x] 39)).alloc (.cells #[.slice none 0 0, .slice none 0 0, .int .i64 0] 39)).drew.heap.size = w.heap.size + 1 + 1 by first | rfl | simp)
    have gl101 : w.heap.size ≤ w.heap.size + 1 + 1 := by first | exact hBd.size | exact Nat.le_refl _ | (have := hBd.size; simp at this ⊢; try omega)
    have hal101 := (Below.refl ((w.alloc (.cells #[.slice A n c, .slice B m d, .int .i64 x] 39)).alloc (.cells #[.slice none 0 0, .slice none 0 0, .int .i64 0] 39)).drew.heap.size ((w.alloc (.cells #[.slice A n c, .slice B m d, .int .i64 x] 39)).alloc (.cells #[.slice none 0 0, .slice none 0 0, .int .i64 0] 39)).drew).alloc (Nat.le_refl _) (.cells #[.slice A n c] 36)
    have hB101 := hBd.alloc hBd.size (.cells #[.slice A n c] 36)
    have bx101 := bxd.alloc (.cells #[.slice A n c] 36)
    have zz_101 := zzd.alloc (.cells #[.slice A n c] 36)
    have ha0_101 := ha0d.lift hal101
    have hb0_101 := hb0d.lift hal101
    refine ⟨(fun u => At u w.heap.size 39 #[.slice A n c, .slice B m d, .int .i64 x]), fun _ h => h, bx101, ?_⟩
    (try simp only [Act.put, List.setIfInBounds_toArray, List.set_cons_zero, List.set_cons_succ])
    refine any_two 3 6 rfl rfl (by kernel_rfl) (by rfl) (by rfl) ?_ ?_
    · go_simp
      refine (concatOne _ n c _ A _ l _ bs101 ha0_101 Hn.out hn1).mono ?_
      rintro e w102 ⟨A102, c102, rfl, oa102, hb102⟩
      have hB102 := hB101.trans (hb102.mono hB101.size)
      have bx102 := bx101.below hb102 bx101.lt
      have zz_102 := zz_101.below hb102 zz_101.lt
      have bs_102 := bs101.below hb102 bs101.lt
      have ha0_102 := ha0_101.lift hb102
      have hb0_102 := hb0_101.lift hb102
      refine ⟨(fun u => At u w.heap.size 39 #[.slice A n c, .slice B m d, .int .i64 x]), fun _ h => h, bx102, ?_⟩
      (try simp only [Act.put, List.setIfInBounds_toArray, List.set_cons_zero, List.set_cons_succ])
      refine any_one 6 rfl (by kernel_rfl) (by rfl) ?_
      go_simp
      have bh103 := At.newAt' (w := w102) (t := 37) (cs := #[.slice B m d]) (show w102.heap.size = w102.heap.size by first | rfl | simp)
      have gl103 : w.heap.size ≤ w102.heap.size := by first | exact hB102.size | exact Nat.le_refl _ | (have := hB102.size; simp at this ⊢; try omega)
      have hal103 := (Below.refl w102.heap.size w102).alloc (Nat.le_refl _) (.cells #[.slice B m d] 37)
      have hB103 := hB102.alloc hB102.size (.cells #[.slice B m d] 37)
      have bx103 := bx102.alloc (.cells #[.slice B m d] 37)
      have zz_103 := zz_102.alloc (.cells #[.slice B m d] 37)
      have bs_103 := bs_102.alloc (.cells #[.slice B m d] 37)
      have oa_103 := oa102.alloc (.cells #[.slice B m d] 37)
      have ha0_103 := ha0_102.lift hal103
      have hb0_103 := hb0_102.lift hal103
      refine ⟨(fun u => At u w.heap.size 39 #[.slice A n c, .slice B m d, .int .i64 x]), fun _ h => h, bx103, ?_⟩
      (try simp only [Act.put, List.setIfInBounds_toArray, List.set_cons_zero, List.set_cons_succ])
      refine any_one 7 rfl (by kernel_rfl) (by rfl) ?_
      go_simp
      refine (concatOneH _ m d _ B _ h _ bh103 hb0_103 Hm.out hm1).mono ?_
      rintro e w104 ⟨B104, d104, rfl, ob104, hb104⟩
      have hB104 := hB103.trans (hb104.mono hB103.size)
      have bx104 := bx103.below hb104 bx103.lt
      have zz_104 := zz_103.below hb104 zz_103.lt
      have bs_104 := bs_103.below hb104 bs_103.lt
      have bh_104 := bh103.below hb104 bh103.lt
      have oa_104 := oa_103.below hb104 (Nat.le_refl _)
      have ha0_104 := ha0_103.lift hb104
      have hb0_104 := hb0_103.lift hb104
      refine ⟨(fun u => At u w.heap.size 39 #[.slice A n c, .slice B m d, .int .i64 x]), fun _ h => h, bx104, ?_⟩
      (try simp only [Act.put, List.setIfInBounds_toArray, List.set_cons_zero, List.set_cons_succ])
      refine any_pure (v := ?_) 10 rfl (by kernel_rfl) (fun _ _ _ _ _ h => h) (by rfl) (fun u hu => ?_) bx104 ?_
      rotate_left
      · skip
        go_simp
        (with_reducible rfl)
      (try simp only [Act.put, List.setIfInBounds_toArray, List.set_cons_zero, List.set_cons_succ])
      obtain ⟨p0, p1, p2, f0, f1, f2⟩ := zz_104.three
      skip
      refine any_one 11 rfl (by kernel_rfl) (by rfl) ?_
      go_simp
      refine ⟨(fun u => At u w.heap.size 39 #[.slice A n c, .slice B m d, .int .i64 x]), fun _ h => h, (((bx104.far (p := ⟨w.heap.size + 1, 0, none⟩) (by simp) _).far (p := ⟨w.heap.size + 1, 1, none⟩) (by simp) _).far (p := ⟨w.heap.size + 1, 2, none⟩) (by simp) _), ?_⟩
      (try simp only [Act.put, List.setIfInBounds_toArray, List.set_cons_zero, List.set_cons_succ])
      refine any_done (by kernel_rfl) ?_
      go_wp2
      refine bodyPost_ret (v := .agg #[.slice A102 n c102, .slice B104 m d104, .int .i64 x]) (by simp [results, Tryz.results49, go_sem, p0, p1, p2]) rfl ?_
      exact ⟨A102, c102, B104, d104, rfl, (((oa_104.under (p := ⟨w.heap.size + 1, 0, none⟩) zz_101.lt _).under (p := ⟨w.heap.size + 1, 1, none⟩) zz_101.lt _).under (p := ⟨w.heap.size + 1, 2, none⟩) zz_101.lt _).from_ hB101.size, (((ob104.under (p := ⟨w.heap.size + 1, 0, none⟩) zz_103.lt _).under (p := ⟨w.heap.size + 1, 1, none⟩) zz_103.lt _).under (p := ⟨w.heap.size + 1, 2, none⟩) zz_103.lt _).from_ hB103.size, (((hB104.setCell (by simp) _).setCell (by simp) _).setCell (by simp) _)⟩
    · go_simp
      have bh105 := At.newAt' (w := (((w.alloc (.cells #[.slice A n c, .slice B m d, .int .i64 x] 39)).alloc (.cells #[.slice none 0 0, .slice none 0 0, .int .i64 0] 39)).drew.alloc (.cells #[.slice A n c] 36))) (t := 37) (cs := #[.slice B m d]) (show (((w.alloc (.cells #[.slice A n c, .slice B m d, .int .i64 x] 39)).alloc (.cells #[.slice none 0 0, .slice none 0 0, .int .i64 0] 39)).drew.alloc (.cells #[.slice A n c] 36)).heap.size = w.heap.size + 1 + 1 + 1 by first | rfl | simp)
      have gl105 : w.heap.size ≤ w.heap.size + 1 + 1 + 1 := by first | exact hB101.size | exact Nat.le_refl _ | (have := hB101.size; simp at this ⊢; try omega)
      have hal105 := (Below.refl (((w.alloc (.cells #[.slice A n c, .slice B m d, .int .i64 x] 39)).alloc (.cells #[.slice none 0 0, .slice none 0 0, .int .i64 0] 39)).drew.alloc (.cells #[.slice A n c] 36)).heap.size (((w.alloc (.cells #[.slice A n c, .slice B m d, .int .i64 x] 39)).alloc (.cells #[.slice none 0 0, .slice none 0 0, .int .i64 0] 39)).drew.alloc (.cells #[.slice A n c] 36))).alloc (Nat.le_refl _) (.cells #[.slice B m d] 37)
      have hB105 := hB101.alloc hB101.size (.cells #[.slice B m d] 37)
      have bx105 := bx101.alloc (.cells #[.slice B m d] 37)
      have zz_105 := zz_101.alloc (.cells #[.slice B m d] 37)
      have bs_105 := bs101.alloc (.cells #[.slice B m d] 37)
      have ha0_105 := ha0_101.lift hal105
      have hb0_105 := hb0_101.lift hal105
      refine ⟨(fun u => At u w.heap.size 39 #[.slice A n c, .slice B m d, .int .i64 x]), fun _ h => h, bx105, ?_⟩
      (try simp only [Act.put, List.setIfInBounds_toArray, List.set_cons_zero, List.set_cons_succ])
      refine any_one 3 rfl (by kernel_rfl) (by rfl) ?_
      go_simp
      refine (concatOne _ n c _ A _ l _ bs_105 ha0_105 Hn.out hn1).mono ?_
      rintro e w106 ⟨A106, c106, rfl, oa106, hb106⟩
      have hB106 := hB105.trans (hb106.mono hB105.size)
      have bx106 := bx105.below hb106 bx105.lt
      have zz_106 := zz_105.below hb106 zz_105.lt
      have bs_106 := bs_105.below hb106 bs_105.lt
      have bh_106 := bh105.below hb106 bh105.lt
      have ha0_106 := ha0_105.lift hb106
      have hb0_106 := hb0_105.lift hb106
      refine ⟨(fun u => At u w.heap.size 39 #[.slice A n c, .slice B m d, .int .i64 x]), fun _ h => h, bx106, ?_⟩
      (try simp only [Act.put, List.setIfInBounds_toArray, List.set_cons_zero, List.set_cons_succ])
      refine any_one 7 rfl (by kernel_rfl) (by rfl) ?_
      go_simp
      refine (concatOneH _ m d _ B _ h _ bh_106 hb0_106 Hm.out hm1).mono ?_
      rintro e w107 ⟨B107, d107, rfl, ob107, hb107⟩
      have hB107 := hB106.trans (hb107.mono hB106.size)
      have bx107 := bx106.below hb107 bx106.lt
      have zz_107 := zz_106.below hb107 zz_106.lt
      have bs_107 := bs_106.below hb107 bs_106.lt
      have bh_107 := bh_106.below hb107 bh_106.lt
      have oa_107 := oa106.below hb107 (Nat.le_refl _)
      have ha0_107 := ha0_106.lift hb107
      have hb0_107 := hb0_106.lift hb107
      refine ⟨(fun u => At u w.heap.size 39 #[.slice A n c, .slice B m d, .int .i64 x]), fun _ h => h, bx107, ?_⟩
      (try simp only [Act.put, List.setIfInBounds_toArray, List.set_cons_zero, List.set_cons_succ])
      refine any_pure (v := ?_) 10 rfl (by kernel_rfl) (fun _ _ _ _ _ h => h) (by rfl) (fun u hu => ?_) bx107 ?_
      rotate_left
      · skip
        go_simp
        (with_reducible rfl)
      (try simp only [Act.put, List.setIfInBounds_toArray, List.set_cons_zero, List.set_cons_succ])
      obtain ⟨p0, p1, p2, f0, f1, f2⟩ := zz_107.three
      skip
      refine any_one 11 rfl (by kernel_rfl) (by rfl) ?_
      go_simp
      refine ⟨(fun u => At u w.heap.size 39 #[.slice A n c, .slice B m d, .int .i64 x]), fun _ h => h, (((bx107.far (p := ⟨w.heap.size + 1, 0, none⟩) (by simp) _).far (p := ⟨w.heap.size + 1, 1, none⟩) (by simp) _).far (p := ⟨w.heap.size + 1, 2, none⟩) (by simp) _), ?_⟩
      (try simp only [Act.put, List.setIfInBounds_toArray, List.set_cons_zero, List.set_cons_succ])
      refine any_done (by kernel_rfl) ?_
      go_wp2
      refine bodyPost_ret (v := .agg #[.slice A106 n c106, .slice B107 m d107, .int .i64 x]) (by simp [results, Tryz.results49, go_sem, p0, p1, p2]) rfl ?_
      exact ⟨A106, c106, B107, d107, rfl, (((oa_107.under (p := ⟨w.heap.size + 1, 0, none⟩) zz_105.lt _).under (p := ⟨w.heap.size + 1, 1, none⟩) zz_105.lt _).under (p := ⟨w.heap.size + 1, 2, none⟩) zz_105.lt _).from_ hB105.size, (((ob107.under (p := ⟨w.heap.size + 1, 0, none⟩) zz_106.lt _).under (p := ⟨w.heap.size + 1, 1, none⟩) zz_106.lt _).under (p := ⟨w.heap.size + 1, 2, none⟩) zz_106.lt _).from_ hB106.size, (((hB107.setCell (by simp) _).setCell (by simp) _).setCell (by simp) _)⟩
  · go_simp
    have bh108 := At.newAt' (w := ((w.alloc (.cells #[.slice A n c, .slice B m d, .int .i64 x] 39)).alloc (.cells #[.slice none 0 0, .slice none 0 0, .int .i64 0] 39)).drew) (t := 37) (cs := #[.slice B m d]) (show ((w.alloc (.cells #[.slice A n c, .slice B m d, .int .i64 x] 39)).alloc (.cells #[.slice none 0 0, .slice none 0 0, .int .i64 0] 39)).drew.heap.size = w.heap.size + 1 + 1 by first | rfl | simp)
    have gl108 : w.heap.size ≤ w.heap.size + 1 + 1 := by first | exact hBd.size | exact Nat.le_refl _ | (have := hBd.size; simp at this ⊢; try omega)
    have hal108 := (Below.refl ((w.alloc (.cells #[.slice A n c, .slice B m d, .int .i64 x] 39)).alloc (.cells #[.slice none 0 0, .slice none 0 0, .int .i64 0] 39)).drew.heap.size ((w.alloc (.cells #[.slice A n c, .slice B m d, .int .i64 x] 39)).alloc (.cells #[.slice none 0 0, .slice none 0 0, .int .i64 0] 39)).drew).alloc (Nat.le_refl _) (.cells #[.slice B m d] 37)
    have hB108 := hBd.alloc hBd.size (.cells #[.slice B m d] 37)
    have bx108 := bxd.alloc (.cells #[.slice B m d] 37)
    have zz_108 := zzd.alloc (.cells #[.slice B m d] 37)
    have ha0_108 := ha0d.lift hal108
    have hb0_108 := hb0d.lift hal108
    refine ⟨(fun u => At u w.heap.size 39 #[.slice A n c, .slice B m d, .int .i64 x]), fun _ h => h, bx108, ?_⟩
    (try simp only [Act.put, List.setIfInBounds_toArray, List.set_cons_zero, List.set_cons_succ])
    refine any_one 2 rfl (by kernel_rfl) (by rfl) ?_
    go_simp
    have bs109 := At.newAt' (w := (((w.alloc (.cells #[.slice A n c, .slice B m d, .int .i64 x] 39)).alloc (.cells #[.slice none 0 0, .slice none 0 0, .int .i64 0] 39)).drew.alloc (.cells #[.slice B m d] 37))) (t := 36) (cs := #[.slice A n c]) (show (((w.alloc (.cells #[.slice A n c, .slice B m d, .int .i64 x] 39)).alloc (.cells #[.slice none 0 0, .slice none 0 0, .int .i64 0] 39)).drew.alloc (.cells #[.slice B m d] 37)).heap.size = w.heap.size + 1 + 1 + 1 by first | rfl | simp)
    have gl109 : w.heap.size ≤ w.heap.size + 1 + 1 + 1 := by first | exact hB108.size | exact Nat.le_refl _ | (have := hB108.size; simp at this ⊢; try omega)
    have hal109 := (Below.refl (((w.alloc (.cells #[.slice A n c, .slice B m d, .int .i64 x] 39)).alloc (.cells #[.slice none 0 0, .slice none 0 0, .int .i64 0] 39)).drew.alloc (.cells #[.slice B m d] 37)).heap.size (((w.alloc (.cells #[.slice A n c, .slice B m d, .int .i64 x] 39)).alloc (.cells #[.slice none 0 0, .slice none 0 0, .int .i64 0] 39)).drew.alloc (.cells #[.slice B m d] 37))).alloc (Nat.le_refl _) (.cells #[.slice A n c] 36)
    have hB109 := hB108.alloc hB108.size (.cells #[.slice A n c] 36)
    have bx109 := bx108.alloc (.cells #[.slice A n c] 36)
    have zz_109 := zz_108.alloc (.cells #[.slice A n c] 36)
    have bh_109 := bh108.alloc (.cells #[.slice A n c] 36)
    have ha0_109 := ha0_108.lift hal109
    have hb0_109 := hb0_108.lift hal109
    refine ⟨(fun u => At u w.heap.size 39 #[.slice A n c, .slice B m d, .int .i64 x]), fun _ h => h, bx109, ?_⟩
    (try simp only [Act.put, List.setIfInBounds_toArray, List.set_cons_zero, List.set_cons_succ])
    refine any_one 3 rfl (by kernel_rfl) (by rfl) ?_
    go_simp
    refine (concatOne _ n c _ A _ l _ bs109 ha0_109 Hn.out hn1).mono ?_
    rintro e w110 ⟨A110, c110, rfl, oa110, hb110⟩
    have hB110 := hB109.trans (hb110.mono hB109.size)
    have bx110 := bx109.below hb110 bx109.lt
    have zz_110 := zz_109.below hb110 zz_109.lt
    have bh_110 := bh_109.below hb110 bh_109.lt
    have bs_110 := bs109.below hb110 bs109.lt
    have ha0_110 := ha0_109.lift hb110
    have hb0_110 := hb0_109.lift hb110
    refine ⟨(fun u => At u w.heap.size 39 #[.slice A n c, .slice B m d, .int .i64 x]), fun _ h => h, bx110, ?_⟩
    (try simp only [Act.put, List.setIfInBounds_toArray, List.set_cons_zero, List.set_cons_succ])
    refine any_one 7 rfl (by kernel_rfl) (by rfl) ?_
    go_simp
    refine (concatOneH _ m d _ B _ h _ bh_110 hb0_110 Hm.out hm1).mono ?_
    rintro e w111 ⟨B111, d111, rfl, ob111, hb111⟩
    have hB111 := hB110.trans (hb111.mono hB110.size)
    have bx111 := bx110.below hb111 bx110.lt
    have zz_111 := zz_110.below hb111 zz_110.lt
    have bh_111 := bh_110.below hb111 bh_110.lt
    have bs_111 := bs_110.below hb111 bs_110.lt
    have oa_111 := oa110.below hb111 (Nat.le_refl _)
    have ha0_111 := ha0_110.lift hb111
    have hb0_111 := hb0_110.lift hb111
    refine ⟨(fun u => At u w.heap.size 39 #[.slice A n c, .slice B m d, .int .i64 x]), fun _ h => h, bx111, ?_⟩
    (try simp only [Act.put, List.setIfInBounds_toArray, List.set_cons_zero, List.set_cons_succ])
    refine any_pure (v := ?_) 10 rfl (by kernel_rfl) (fun _ _ _ _ _ h => h) (by rfl) (fun u hu => ?_) bx111 ?_
    rotate_left
    · skip
      go_simp
      (with_reducible rfl)
    (try simp only [Act.put, List.setIfInBounds_toArray, List.set_cons_zero, List.set_cons_succ])
    obtain ⟨p0, p1, p2, f0, f1, f2⟩ := zz_111.three
    skip
    refine any_one 11 rfl (by kernel_rfl) (by rfl) ?_
    go_simp
    refine ⟨(fun u => At u w.heap.size 39 #[.slice A n c, .slice B m d, .int .i64 x]), fun _ h => h, (((bx111.far (p := ⟨w.heap.size + 1, 0, none⟩) (by simp) _).far (p := ⟨w.heap.size + 1, 1, none⟩) (by simp) _).far (p := ⟨w.heap.size + 1, 2, none⟩) (by simp) _), ?_⟩
    (try simp only [Act.put, List.setIfInBounds_toArray, List.set_cons_zero, List.set_cons_succ])
    refine any_done (by kernel_rfl) ?_
    go_wp2
    refine bodyPost_ret (v := .agg #[.slice A110 n c110, .slice B111 m d111, .int .i64 x]) (by simp [results, Tryz.results49, go_sem, p0, p1, p2]) rfl ?_
    exact ⟨A110, c110, B111, d111, rfl, (((oa_111.under (p := ⟨w.heap.size + 1, 0, none⟩) zz_109.lt _).under (p := ⟨w.heap.size + 1, 1, none⟩) zz_109.lt _).under (p := ⟨w.heap.size + 1, 2, none⟩) zz_109.lt _).from_ hB109.size, (((ob111.under (p := ⟨w.heap.size + 1, 0, none⟩) zz_110.lt _).under (p := ⟨w.heap.size + 1, 1, none⟩) zz_110.lt _).under (p := ⟨w.heap.size + 1, 2, none⟩) zz_110.lt _).from_ hB110.size, (((hB111.setCell (by simp) _).setCell (by simp) _).setCell (by simp) _)⟩
end Go.Proofs.YtmaillakhhdkfaaGreatDoor
/-
  samplesByKey: the first sample of each key, in a map.
-/
namespace Go.Proofs.YtmaillakhhdkfaaGreatDoor
set_option maxRecDepth 20000
open Go.RowKit Go.Shelf
set_option linter.unusedSimpArgs false
set_option linter.unusedVariables false

def keyStep (acc : List Smp) (x : Smp) : List Smp := if (firstS acc x).isSome then acc else acc ++ [x]
def byKeyM (l : List Smp) : List Smp := l.foldl keyStep []
theorem byKey_next {l : List Smp} {k : Nat} {x : Smp} (h : l[k]? = some x) : byKeyM (l.take (k + 1)) = keyStep (byKeyM (l.take k)) x := by
  unfold byKeyM
  rw [take_next h, List.foldl_append]
  rfl

theorem implKeyOf (a0 a1 a2 a3 : Int) (w : World) :
    Calls Tryz.prog 158 #[.agg #[.int .i64 a0, .int .i64 a1, .int .i64 a2, .int .i64 a3]] w fun e w' => e = .returned (.agg #[.int .i64 a0, .int .i64 a1, .int .i64 a2]) ∧ Below w.heap.size w w' := by
  go_enter Tryz.func158, Tryz.ntmps158
  go_wp2
  refine bodyPost_ret (v := .agg #[.int .i64 a0, .int .i64 a1, .int .i64 a2]) (by simp [results, Tryz.results158, go_sem]) rfl ?_
  exact ⟨rfl, ((Below.refl _ _).alloc (Nat.le_refl _) _).alloc (by simp) _⟩

theorem S4.grown {w w' : World} {row : Option Nat} {g p : Nat} {a0 a1 a2 a3 : Int} (h : S4 w g p a0 a1 a2 a3) (hg : w.grownBy w' row) (hne : some g ≠ row) : S4 w' g p a0 a1 a2 a3 :=
  ⟨hg.cell h.1 hne, hg.cell h.2.1 hne, hg.cell h.2.2.1 hne, hg.cell h.2.2.2 hne⟩

theorem wp_mapPut {P : Program} {o : Oper} {a : Act} {w w' : World} {K : Act → World → Prop} {Q : Exit → Act → World → Prop} (m k v : Operand) (t : TypeId) (hop : o.op = Op.mapUpdate t m k v) {mv kv vv : Value} (hm : a.eval m = mv) (hk : a.eval k = kv) (hv : a.eval v = vv)
    (hrun : (Instr.mapUpdate t mv kv vv).run P w = .ok () w') (h : K (a.put o.dst undef) w') : o.wp P a w K Q := by
  unfold Oper.wp
  simp [execOp, hop, hm, hk, hv, hrun, Result.andThen]
  exact h

set_option maxRecDepth 100000 in
set_option maxHeartbeats 4000000 in
theorem byKeyS (G k c : Nat) (rows : List Row4) (w : World) (hR : Rows4 w G rows) (hG : G < w.heap.size) (hk : rows.length = k) (hk4 : k ≤ 4) :
    Calls Tryz.prog 149 #[.slice (some ⟨G, 0, none⟩) k c] w fun e w' => ∃ b, e = .returned (.map (some b)) ∧ w.heap.size ≤ b ∧ SMap w' b (byKeyM (flat rows)) ∧ Below w.heap.size w w' := by
  have hB0 : Below w.heap.size w (w.alloc (.map #[] 0)) := (Below.refl _ _).alloc (Nat.le_refl _) _
  have hC := concatS G k c rows (w.alloc (.map #[] 0)) (hR.below hB0 hG) (Nat.lt_of_lt_of_le hG hB0.size) hk hk4
  have hmm := @run_makeMap Tryz.prog
  have s0 := SMap.made w
  clear hR hk
  go_enter Tryz.func149, Tryz.ntmps149
  go_wp2_with fail
  refine hC.mono ?_
  rintro e w1 ⟨A, n, c', rfl, ow1, hb1⟩
  have s1 := s0.below hb1 (by simp)
  have hB1 := hB0.trans (hb1.mono hB0.size)
  have hnl := Ow.len okS ow1
  have hnm := ow1.small
  rw [World.size_alloc] at ow1
  obtain ⟨l, hl0⟩ : ∃ l, flat rows = l := ⟨_, rfl⟩
  rw [hl0] at ow1 hnl
  have Hl := Lib.hid hl0
  clear hl0
  have Hn := Lib.hid hnl
  clear hC hnl s0 hmm
  unfold maxLen at hnm
  go_wp2
  go_loopw [12] (fun i wr => ∃ t : Nat, t ≤ n ∧ i = .int .i64 t ∧ SMap wr w.heap.size (byKeyM (l.take t)) ∧ Ow eS wr (w.heap.size + 1) A n c' l ∧ Below w.heap.size w wr) (fun i _ => n - (intOf i).toNat)
  case atStart => exact ⟨0, Nat.zero_le _, rfl, s1, ow1, hB1⟩
  case round =>
    obtain ⟨t, ht, rfl, hs, how, hbel⟩ := hrel
    by_cases hlt : t < n
    · obtain ⟨g, o, a0, a1, a2, a3, rfl, hg, hx, c0, c1, c2, c3⟩ := (how.rd okS).smp (k := t) (by rw [Hn.out]; exact hlt)
      have hAl := (Below.refl wr.heap.size wr).alloc (Nat.le_refl _) (.cells #[.int .i64 a0, .int .i64 a1, .int .i64 a2, .int .i64 a3] 25)
      have hbA := hbel.trans (hAl.mono hbel.size)
      have hsA := hs.alloc (.cells #[.int .i64 a0, .int .i64 a1, .int .i64 a2, .int .i64 a3] 25)
      have owA := how.alloc (.cells #[.int .i64 a0, .int .i64 a1, .int .i64 a2, .int .i64 a3] 25)
      have atX := At.new wr 25 #[.int .i64 a0, .int .i64 a1, .int .i64 a2, .int .i64 a3]
      have Hx := Lib.hid (byKey_next hx)
      clear hx
      go_wp2_with fail
      refine (implKeyOf a0 a1 a2 a3 _).mono ?_
      rintro e w2 ⟨rfl, hb2⟩
      have hs2 := hsA.below hb2 hsA.lt
      have ow2 := owA.below hb2 (Nat.le_refl _)
      have hB2 := hbA.trans (hb2.mono hbA.size)
      have atX2 := atX.below hb2 atX.lt
      have hl : (Instr.lookup 212 (.map (some w.heap.size)) (.agg #[.int .i64 a0, .int .i64 a1, .int .i64 a2]) true).run Tryz.prog w2 = _ := hs2.look (a0, a1, a2, a3)
      rcases hf : firstS (byKeyM (l.take t)) (a0, a1, a2, a3) with _ | ⟨y0, y1, y2, y3⟩
      · rw [hf] at hl
        simp only [Option.getD_none, Option.isSome_none] at hl
        have Hst := Lib.hid (show byKeyM (l.take (t + 1)) = byKeyM (l.take t) ++ [(a0, a1, a2, a3)] by rw [Hx.out]; unfold keyStep; rw [hf]; rfl)
        have Hf := Lib.hid hf
        clear hf
        go_wp2
        have hAl5 := (Below.refl w2.heap.size w2).alloc (Nat.le_refl _) (.cells #[.int .i64 0, .int .i64 0, .int .i64 0, .int .i64 0] 25)
        have hB5 := hB2.alloc hB2.size (.cells #[.int .i64 0, .int .i64 0, .int .i64 0, .int .i64 0] 25)
        have hs5 := hs2.alloc (.cells #[.int .i64 0, .int .i64 0, .int .i64 0, .int .i64 0] 25)
        have ow5 := ow2.alloc (.cells #[.int .i64 0, .int .i64 0, .int .i64 0, .int .i64 0] 25)
        have atX5 := atX2.alloc (.cells #[.int .i64 0, .int .i64 0, .int .i64 0, .int .i64 0] 25)
        have c5 : S4 (w2.alloc (.cells #[.int .i64 0, .int .i64 0, .int .i64 0, .int .i64 0] 25)) wr.heap.size 0 a0 a1 a2 a3 := by
          obtain ⟨h0, h1, h2, h3, _⟩ := atX5.four
          exact ⟨h0, h1, h2, h3⟩
        have hg5 := atX5.lt
        refine wp_region_mix [(0, false), (1, false), (3, false), (2, true), (4, true)] (fun u => S4 u wr.heap.size 0 a0 a1 a2 a3) (by kernel_rfl) (by kernel_rfl) (fun _ _ _ _ _ h => h) c5.drew ?_
        simp only [mixOps, List.map_cons, List.map_nil, List.getElem?_cons_succ, List.getElem?_cons_zero, Option.getD_some]
        iterate 3 (
          refine mix_pure (v := ?_) (by rfl) (fun u hu => ?_) ?_
          rotate_left
          · obtain ⟨_, _, _, _⟩ := hu
            go_simp
            (with_reducible rfl)
          (try simp only [Act.put, List.setIfInBounds_toArray, List.set_cons_zero, List.set_cons_succ]))
        refine mix_call (by rfl) (fun K hK => ?_)
        go_simp
        refine (implKeyOf a0 a1 a2 a3 _).mono ?_
        rintro e w6 ⟨rfl, hb6⟩
        have hs6 := hs5.drew.below hb6 hs5.lt
        have ow6 := (ow5.drewN 1).below hb6 (Nat.le_refl _)
        have hB6 := hB5.drew.trans (hb6.mono hB5.size)
        have c6 := c5.drew.below hb6 hg5
        obtain ⟨w7, hrun, hs7, hg7⟩ := hs6.put (a0, a1, a2, a3) Hf.out
        have ow7 := ow6.grown hg7 (fun x hx e => by
          have := (ow6.lt x hx).1
          simp only [Option.some.injEq] at e
          omega)
        have hB7 := hB6.grown hg7 hB6.size (fun x e => by cases e; exact Nat.le_refl _)
        refine hK _ _ _ (fun _ h => h) c6 ?_
        (try simp only [Act.put, List.setIfInBounds_toArray, List.set_cons_zero, List.set_cons_succ])
        refine mix_call (by rfl) (fun K hK => ?_)
        refine wp_mapPut _ _ _ _ rfl rfl rfl rfl hrun ?_
        refine hK _ _ _ (fun _ h => h) (c6.grown hg7 (fun e => by
          have := hbel.size
          have := hs.lt
          simp only [Option.some.injEq] at e
          omega)) ?_
        (try simp only [Act.put, List.setIfInBounds_toArray, List.set_cons_zero, List.set_cons_succ])
        refine mix_nil ?_
        go_wp2
        exact ⟨⟨t + 1, by omega, by go_num, by rw [Hst.out]; exact hs7, ow7, hB7⟩, by simp [intOf]; omega⟩
      · rw [hf] at hl
        simp only [Option.getD_some, Option.isSome_some] at hl
        have Hst := Lib.hid (show byKeyM (l.take (t + 1)) = byKeyM (l.take t) by rw [Hx.out]; unfold keyStep; rw [hf]; rfl)
        clear hf
        go_wp2
        exact ⟨⟨t + 1, by omega, by go_num, by rw [Hst.out]; exact hs2.alloc _, ow2.alloc _, hB2.alloc hB2.size _⟩, by simp [intOf]; omega⟩
    · obtain rfl : t = n := by omega
      have Hq := Lib.hid (show l.take t = l by rw [List.take_of_length_le (by rw [Hn.out]; exact Nat.le_refl _)])
      go_wp2
      go_ret
      exact ⟨_, rfl, Nat.le_refl _, by rw [Hl.out, ← Hq.out]; exact hs, hbel⟩
end Go.Proofs.YtmaillakhhdkfaaGreatDoor
/-
  The program's FindSample.
-/
namespace Go.Proofs.YtmaillakhhdkfaaGreatDoor
set_option maxRecDepth 20000
open Go.RowKit Go.Shelf
set_option linter.unusedSimpArgs false
set_option linter.unusedVariables false

theorem sameKey_symm (a b : Smp) : sameKeyM a b = sameKeyM b a := by
  unfold sameKeyM
  by_cases h0 : a.1 = b.1 <;> by_cases h1 : a.2.1 = b.2.1 <;> by_cases h2 : a.2.2.1 = b.2.2.1 <;> simp [h0, h1, h2, eq_comm]
theorem sameKey_iff {a b : Smp} : sameKeyM a b = true ↔ a.1 = b.1 ∧ a.2.1 = b.2.1 ∧ a.2.2.1 = b.2.2.1 := by simp [sameKeyM]
theorem sameKey_trans {a b c : Smp} (h : sameKeyM a b = true) (k : sameKeyM b c = true) : sameKeyM a c = true := by
  rw [sameKey_iff] at *
  exact ⟨h.1.trans k.1, h.2.1.trans k.2.1, h.2.2.trans k.2.2⟩
theorem first_cons (x : Smp) (L : List Smp) (y : Smp) : firstS (x :: L) y = if sameKeyM y x then some x else firstS L y := by
  unfold firstS
  rw [List.find?_cons]
  cases sameKeyM y x <;> rfl
theorem first_append (L M : List Smp) (y : Smp) : firstS (L ++ M) y = (firstS L y).or (firstS M y) := by
  unfold firstS
  rw [List.find?_append]
theorem first_same {L : List Smp} {y x : Smp} (h : sameKeyM y x = true) : firstS L y = firstS L x := by
  unfold firstS
  congr 1
  funext z
  rw [Bool.eq_iff_iff]
  constructor
  · exact fun k => sameKey_trans (by rw [sameKey_symm]; exact h) k
  · exact fun k => sameKey_trans h k
/-- The first of a key is the same in what samplesByKey keeps. -/
theorem first_step (acc : List Smp) (x y : Smp) : firstS (keyStep acc x) y = firstS (acc ++ [x]) y := by
  unfold keyStep
  split
  · rename_i h
    rw [first_append, first_cons]
    rcases hs : sameKeyM y x
    · simp [firstS]
    · rw [first_same hs]
      obtain ⟨z, hz⟩ := Option.isSome_iff_exists.1 h
      rw [hz]
      rfl
  · rfl
theorem first_fold : ∀ (l acc : List Smp) (y : Smp), firstS (l.foldl keyStep acc) y = firstS (acc ++ l) y
  | [], acc, y => by simp
  | x :: l, acc, y => by
    rw [List.foldl_cons, first_fold l, first_append, first_step, ← first_append]
    simp
theorem first_byKey (l : List Smp) (y : Smp) : firstS (byKeyM l) y = firstS l y := by
  unfold byKeyM
  rw [first_fold]
  rfl
end Go.Proofs.YtmaillakhhdkfaaGreatDoor
/-
  What is sorted of what samplesByKey keeps is what the model merges.
-/
namespace Go.Proofs.YtmaillakhhdkfaaGreatDoor
set_option maxRecDepth 20000
open Go.RowKit Go.Sort
set_option linter.unusedSimpArgs false
set_option linter.unusedVariables false

theorem ahead_self (x : Smp) : aheadM x x = false := by
  rcases h : aheadM x x
  · rfl
  · have := (ahead_iff x x).1 h
    omega
theorem ltOf_keys (x y : Smp) : ltOf keysM x y = aheadM x y := keysM_ahead x y
theorem swoKeys : SWO (ltOf keysM) where
  irrefl x := by rw [ltOf_keys]; exact ahead_self x
  trans x y z h k := by rw [ltOf_keys] at *; exact ahead_trans h k
  ntrans x y z h k := by
    rw [ltOf_keys] at *
    rcases hc : aheadM x z
    · rfl
    · have h1 := (ahead_iff x z).1 hc
      have h2 : ¬ (x.1 < y.1 ∨ (x.1 = y.1 ∧ (x.2.1 < y.2.1 ∨ (x.2.1 = y.2.1 ∧ x.2.2.1 < y.2.2.1)))) := fun e => by rw [(ahead_iff x y).2 e] at h; cases h
      have h3 : ¬ (y.1 < z.1 ∨ (y.1 = z.1 ∧ (y.2.1 < z.2.1 ∨ (y.2.1 = z.2.1 ∧ y.2.2.1 < z.2.2.1)))) := fun e => by rw [(ahead_iff y z).2 e] at k; cases k
      omega

def Apart (l : List Smp) : Prop := l.Pairwise fun a b => sameKeyM a b = false
theorem asc_apart {l : List Smp} (h : Asc l) : Apart l := h.imp fun {a b} k => ahead_not_same k
theorem first_none {L : List Smp} {y : Smp} : firstS L y = none ↔ ∀ x ∈ L, sameKeyM y x = false := by
  unfold firstS
  rw [List.find?_eq_none]
  simp
theorem step_apart {acc : List Smp} {x : Smp} (h : Apart acc) : Apart (keyStep acc x) := by
  unfold keyStep
  split
  · exact h
  · rename_i hn
    have hn' : firstS acc x = none := by
      rcases hf : firstS acc x with _ | y
      · rfl
      · rw [hf] at hn; simp at hn
    refine List.pairwise_append.2 ⟨h, List.pairwise_singleton _ _, fun a ha b hb => ?_⟩
    obtain rfl : b = x := by simpa using hb
    rw [same_symm]
    exact first_none.1 hn' a ha
theorem fold_apart : ∀ (l acc : List Smp), Apart acc → Apart (l.foldl keyStep acc)
  | [], _, h => h
  | x :: l, acc, h => fold_apart l _ (step_apart h)
theorem byKey_apart (l : List Smp) : Apart (byKeyM l) := fold_apart l [] List.Pairwise.nil
theorem mem_step (acc : List Smp) (x y : Smp) : y ∈ keyStep acc x ↔ y ∈ acc ∨ (y = x ∧ firstS acc x = none) := by
  unfold keyStep
  split
  · rename_i h
    constructor
    · exact fun k => .inl k
    · rintro (k | ⟨rfl, k⟩)
      · exact k
      · rw [k] at h; cases h
  · rename_i h
    have hn : firstS acc x = none := by
      rcases hf : firstS acc x with _ | z
      · rfl
      · rw [hf] at h; simp at h
    simp [hn]
theorem mem_fold : ∀ (l : List Smp), Apart l → ∀ (acc : List Smp) (y : Smp), y ∈ l.foldl keyStep acc ↔ y ∈ acc ∨ (y ∈ l ∧ firstS acc y = none)
  | [], _, acc, y => by simp
  | x :: l, h, acc, y => by
    obtain ⟨h1, h2⟩ := List.pairwise_cons.1 h
    rw [List.foldl_cons, mem_fold l h2, mem_step]
    have key : y ∈ l → (firstS (keyStep acc x) y = none ↔ firstS acc y = none) := fun hy => by
      rw [first_step, first_append, first_cons, same_symm, h1 y hy]
      simp [firstS]
    constructor
    · rintro ((k | ⟨rfl, k⟩) | ⟨k, k2⟩)
      · exact .inl k
      · exact .inr ⟨List.mem_cons_self, k⟩
      · exact .inr ⟨List.mem_cons_of_mem _ k, (key k).1 k2⟩
    · rintro (k | ⟨k, k2⟩)
      · exact .inl (.inl k)
      · rcases List.mem_cons.1 k with rfl | k
        · exact .inl (.inr ⟨rfl, k2⟩)
        · exact .inr ⟨k, (key k).2 k2⟩
theorem mem_both {a b : List Smp} (ha : Asc a) (hb : Asc b) (y : Smp) : y ∈ byKeyM (a ++ b) ↔ y ∈ a ∨ (y ∈ b ∧ findI a y < 0) := by
  have e : byKeyM (a ++ b) = b.foldl keyStep (byKeyM a) := by unfold byKeyM; rw [List.foldl_append]
  have ea : y ∈ byKeyM a ↔ y ∈ a := by
    unfold byKeyM
    rw [mem_fold a (asc_apart ha)]
    simp [firstS]
  rw [e, mem_fold b (asc_apart hb), ea, first_byKey, first_none, findI_neg]
  constructor
  · rintro (k | ⟨k, k2⟩)
    · exact .inl k
    · exact .inr ⟨k, fun z hz => by rw [same_symm]; exact k2 z hz⟩
  · rintro (k | ⟨k, k2⟩)
    · exact .inl k
    · exact .inr ⟨k, fun z hz => by rw [same_symm]; exact k2 z hz⟩
theorem mem_mergeFold (a : List Smp) : ∀ (b out : List Smp) (y : Smp), y ∈ b.foldl (mergeStep a) out ↔ y ∈ out ∨ (y ∈ b ∧ findI a y < 0)
  | [], out, y => by simp
  | x :: b, out, y => by
    rw [List.foldl_cons, mem_mergeFold a b]
    unfold mergeStep
    by_cases h : findI a x < 0
    · rw [if_pos h, mem_insM]
      constructor
      · rintro ((rfl | k) | ⟨k, k2⟩)
        · exact .inr ⟨List.mem_cons_self, h⟩
        · exact .inl k
        · exact .inr ⟨List.mem_cons_of_mem _ k, k2⟩
      · rintro (k | ⟨k, k2⟩)
        · exact .inl (.inr k)
        · rcases List.mem_cons.1 k with rfl | k
          · exact .inl (.inl rfl)
          · exact .inr ⟨k, k2⟩
    · rw [if_neg h]
      constructor
      · rintro (k | ⟨k, k2⟩)
        · exact .inl k
        · exact .inr ⟨List.mem_cons_of_mem _ k, k2⟩
      · rintro (k | ⟨k, k2⟩)
        · exact .inl k
        · rcases List.mem_cons.1 k with rfl | k
          · exact absurd k2 h
          · exact .inr ⟨k, k2⟩

theorem asc_nodup {l : List Smp} (h : Asc l) : l.Nodup := h.imp fun {a b} k e => by
  subst e
  rw [ahead_self] at k
  cases k
theorem asc_eq {l m : List Smp} (hl : Asc l) (hm : Asc m) (h : ∀ y, y ∈ l ↔ y ∈ m) : l = m := by
  refine List.Perm.eq_of_pairwise (le := fun x y => aheadM x y = true) ?_ hl hm ((List.perm_ext_iff_of_nodup (asc_nodup hl) (asc_nodup hm)).2 h)
  intro a b _ _ h1 h2
  rcases keyOrd a b with ⟨_, k, _⟩ | ⟨k, _⟩ | ⟨k, _⟩
  · rw [k] at h2; cases h2
  · rw [k] at h1; cases h1
  · rw [k] at h1; cases h1
theorem merge_asc {a b : List Smp} (ha : storeFaultM a = 0) (hb : storeFaultM b = 0) : Asc (mergeM a b) := by
  obtain ⟨_, ra, sa⟩ := (storeFault_iff a).1 ha
  obtain ⟨_, rb, sb⟩ := (storeFault_iff b).1 hb
  exact (merge_facts a sa ra b sb rb a sa ra (fun _ h => h) (fun y hy => .inl ⟨y, hy, rfl⟩)).1
/-- What is in order and holds just what samplesByKey keeps is what the model merges. -/
theorem merge_is {a b ys : List Smp} (ha : storeFaultM a = 0) (hb : storeFaultM b = 0) (hp : ys.Perm (byKeyM (a ++ b))) (hs : ys.Pairwise fun x y => aheadM y x = false) : ys = mergeM a b := by
  obtain ⟨_, _, sa⟩ := (storeFault_iff a).1 ha
  obtain ⟨_, _, sb⟩ := (storeFault_iff b).1 hb
  have hap : Apart ys := (hp.symm.pairwise_iff (fun {x y} (k : sameKeyM x y = false) => by rw [same_symm]; exact k)).1 (byKey_apart _)
  have hasc : Asc ys := by
    refine (hs.and hap).imp fun {x y} k => ?_
    rcases keyOrd x y with ⟨k1, _⟩ | ⟨_, k1, _⟩ | ⟨_, _, k1⟩
    · exact k1
    · rw [k.1] at k1; cases k1
    · rw [k.2] at k1; cases k1
  refine asc_eq hasc (merge_asc ha hb) fun y => ?_
  rw [hp.mem_iff, mem_both sa sb]
  unfold mergeM
  rw [mem_mergeFold]
/-- A row as the sort leaves it. -/
theorem sorted_pairs {d : Array Smp} (h : SortedIn (ltOf keysM) 0 d.size d) : d.toList.Pairwise fun x y => aheadM y x = false := by
  rw [List.pairwise_iff_getElem]
  intro i j hi hj hij
  have hi' : i < d.size := by simpa using hi
  have hj' : j < d.size := by simpa using hj
  have := h i j (Nat.zero_le _) hij hj'
  rw [ltOf_keys, getElem!_pos d j hj', getElem!_pos d i hi'] at this
  simpa using this
end Go.Proofs.YtmaillakhhdkfaaGreatDoor
/-
  slices.SortFunc over a row of samples of the call's own, by compareKeys.
-/
namespace Go.Proofs.YtmaillakhhdkfaaGreatDoor
set_option maxRecDepth 20000
open Go.RowKit Go.Sort Go.Shelf
set_option linter.unusedSimpArgs false
set_option linter.unusedVariables false

theorem cell_row {x : Smp} {j : Nat} (hj : j < 4) : (smpCells x)[j]? = some ((smpCells x)[j]!) := by
  have : j < (smpCells x).length := hj
  rw [List.getElem?_eq_getElem this, getElem!_pos (smpCells x) j this]
theorem flatK_row (d : Array Smp) : (flatK smpCells 4 d).toList = eS.row d.toList := by
  apply List.ext_getElem?
  intro i
  rcases Nat.lt_or_ge i (d.size * 4) with h | h
  · have hk : i / 4 < d.size := by omega
    have hd : d.toList[i / 4]? = some d[i / 4]! := by
      rw [Array.getElem?_toList, Array.getElem?_eq_getElem hk, getElem!_pos d _ hk]
    have h1 := okS.row_at d.toList (i / 4) (i % 4) _ hd (Nat.mod_lt _ (by decide))
    rw [show i / 4 * eS.size + i % 4 = i by show i / 4 * 4 + i % 4 = i; omega] at h1
    rw [h1, Array.getElem?_toList]
    have hs : i < (flatK smpCells 4 d).size := by simpa using h
    have h2 := get_flatK smpCells 4 d i h
    rw [getElem!_pos (flatK smpCells 4 d) i hs] at h2
    rw [Array.getElem?_eq_getElem hs, h2]
    exact (cell_row (Nat.mod_lt _ (by decide))).symm
  · rw [List.getElem?_eq_none (by simpa using h), List.getElem?_eq_none (by rw [okS.row_len]; simpa [eS] using h)]
theorem holdsK_of {w : World} {base g n c : Nat} {l : List Smp} (how : Ow eS w base (some ⟨g, 0, none⟩) n c l) : HoldsK smpCells 4 w g 0 l.toArray := fun j hj => by
  have hs : (flatK smpCells 4 l.toArray).size = l.length * 4 := by simp
  have hlen := Ow.len okS how
  have h1 : (eS.row l)[j]? = some (flatK smpCells 4 l.toArray)[j]! := by
    have := flatK_row l.toArray
    rw [show (l.toArray).toList = l from rfl] at this
    rw [← this, Array.getElem?_toList, Array.getElem?_eq_getElem hj, getElem!_pos (flatK smpCells 4 l.toArray) j hj]
  refine ⟨?_, how.frozenAt _⟩
  rw [World.ownsRow.cellAt how _ (by rw [hs] at hj; show 0 + j < n * 4; omega), Nat.zero_add, h1]
  rfl
theorem ow_sorted {w : World} {base g n c m : Nat} {l : List Smp} {d : Array Smp} {os : Array Obj} (how : Ow eS w base (some ⟨g, 0, none⟩) n c l) (hd : d.size = n) :
    Ow eS (sortWorldK smpCells 4 w g 0 m d os) base (some ⟨g, 0, none⟩) n c d.toList := by
  refine ⟨by rw [okS.row_len]; simp [hd], .inr ?_⟩
  rcases how.2 with ⟨h0, _⟩ | ⟨g', cap, cur, hv, hb, hg, h1, h2, h3, h4⟩
  · simp at h0
  · simp only [Value.slice.injEq, Option.some.injEq, Addr.mk.injEq, true_and, and_true] at hv
    obtain ⟨rfl, rfl⟩ := hv
    have hF : (flatK smpCells 4 d).size = n * 4 := by simp [hd]
    have hlt : g < w.heap.size := (Array.getElem?_eq_some_iff.1 hg).1
    refine ⟨g, c, putCells id 0 (flatK smpCells 4 d) cur, rfl, hb, ?_, h1, h2, by unfold putCells; simpa using h3, ?_⟩
    · show ((w.heap.modify g (onCells (putCells id 0 (flatK smpCells 4 d)))) ++ os)[g]? = _
      rw [Array.getElem?_append_left (by rw [Array.size_modify]; exact hlt), Array.getElem?_modify, if_pos rfl, hg]
      rfl
    · rw [← flatK_row]
      apply List.ext_getElem?
      intro j
      rw [List.getElem?_take]
      have hcs : n * 4 ≤ cur.size := by
        rw [h3]
        exact Nat.mul_le_mul_right _ h1
      split
      · rename_i hj
        have hj' : j < n * 4 := hj
        have hjc : j < cur.size := by omega
        unfold putCells
        rw [Array.getElem?_toList, Array.getElem?_mapIdx, Array.getElem?_eq_getElem hjc, Option.map_some, if_pos ⟨Nat.zero_le _, by omega⟩, Nat.sub_zero, Array.getElem?_toList, Array.getElem?_eq_getElem (by omega), getElem!_pos (flatK smpCells 4 d) j (by omega)]
        rfl
      · rename_i hj
        rw [List.getElem?_eq_none]
        have : ¬ j < n * 4 := hj
        simp
        omega

set_option maxHeartbeats 1000000 in
theorem sortSmp (A : Option Addr) (n c base : Nat) (l : List Smp) (w : World) (how : Ow eS w base A n c l) (hn : n ≤ 1000) :
    Calls Tryz.prog 160 #[.slice A n c, .func (.func 152) #[] #[]] w fun e w' =>
      e = .returned (.tuple #[]) ∧ ∃ ys : List Smp, ys.Perm l ∧ (ys.Pairwise fun x y => aheadM y x = false) ∧ Ow eS w' base A n c ys ∧ Below base w w' := by
  have hlen := Ow.len okS how
  rcases Nat.eq_zero_or_pos n with h0 | h0
  · subst h0
    obtain rfl : l = [] := List.eq_nil_of_length_eq_zero hlen
    have h : Calls Tryz.prog 160 #[.slice A 0 c, .func (.func 152) #[] #[]] w fun e w' => e = .returned (.tuple #[]) ∧ w' = w :=
      AnyF.slices_SortFunc_none sortS A c _ w
    refine h.mono ?_
    rintro e w' ⟨rfl, rfl⟩
    exact ⟨rfl, [], List.Perm.refl _, List.Pairwise.nil, how, Below.refl _ _⟩
  · obtain ⟨g, rfl, hb, hg⟩ := how.form h0
    have hsz : l.toArray.size = n := by simpa using hlen
    have hcmp : CmpLays Tryz.prog 152 #[] smpCells 4 keysM g 0 l.toArray.size w := fun m os dk _ x y => by
      obtain ⟨a0, a1, a2, a3⟩ := x
      obtain ⟨b0, b1, b2, b3⟩ := y
      exact compareKeysG a0 a1 a2 a3 b0 b1 b2 b3 _
    have h : Calls Tryz.prog 160 #[.slice (some ⟨g, 0, none⟩) l.toArray.size c, .func (.func 152) #[] #[]] w fun e w' =>
        e = .returned (.tuple #[]) ∧ ∃ d' n os, PermIn 0 l.toArray.size l.toArray d' ∧ SortedIn (ltOf keysM) 0 l.toArray.size d' ∧ w' = sortWorldK smpCells 4 w g 0 n d' os :=
      AnyQ.slices_SortFunc sortS 4 (fun w => Tryz.isAgg25 w) (fun w => Tryz.sizeOf25 w) smpCells (fun _ => rfl) (fun x v hv => okS.one x v hv) keysM swoKeys 152 #[] g 0 c l.toArray w
        (enters_of Tryz.func152 (by kernel_rfl) rfl) hcmp (holdsK_of how) hg (by omega)
    rw [hsz] at h
    refine h.mono ?_
    rintro e w' ⟨rfl, d, m, os, ⟨hp1, _, hp2⟩, hso, rfl⟩
    have hds : d.size = n := hp1.trans hsz
    have e1 : d.extract 0 n = d := by rw [← hds]; exact Array.extract_size
    have e2 : l.toArray.extract 0 n = l.toArray := by rw [← hsz]; exact Array.extract_size
    rw [e1, e2] at hp2
    refine ⟨rfl, d.toList, hp2, sorted_pairs (by rw [hds]; exact hso), ow_sorted how hds, ?_⟩
    refine ⟨rfl, rfl, rfl, ?_, fun k hk => ?_⟩
    · show w.heap.size ≤ ((w.heap.modify g (onCells (putCells id 0 (flatK smpCells 4 d)))) ++ os).size
      rw [Array.size_append, Array.size_modify]
      omega
    · show ((w.heap.modify g (onCells (putCells id 0 (flatK smpCells 4 d)))) ++ os)[k]? = w.heap[k]?
      rw [Array.getElem?_append_left (by rw [Array.size_modify]; omega), Array.getElem?_modify, if_neg (by omega)]
end Go.Proofs.YtmaillakhhdkfaaGreatDoor
/-
  The program's MergeLists and InsertSample.
-/
namespace Go.Proofs.YtmaillakhhdkfaaGreatDoor
set_option maxRecDepth 20000
open Go.RowKit Go.Shelf
set_option linter.unusedSimpArgs false
set_option linter.unusedVariables false

theorem valuesOf (b : Nat) (w : World) :
    Calls Tryz.prog 151 #[.map (some b)] w fun e w' =>
      e = .returned (.func (.func 161) #[] #[.pointer (some ⟨w.heap.size, 0, none⟩)]) ∧ w' = w.alloc (.cells #[.map (some b)] 212) := by
  go_enter Tryz.func151, Tryz.ntmps151
  go_wp2
  go_ret
  exact ⟨rfl, rfl⟩

theorem values_stops (n : Nat) (hn : 1 ≤ n) (b Bm n0 : Nat) (L : List Smp) (w : World) (hs : SMap w b L) (hm : At w Bm 212 #[.map (some b)]) :
    SeqStopsK Fence.wide n Tryz.prog 161 #[.pointer (some ⟨Bm, 0, none⟩)] encS (Kp2 n0) (fun xs => xs.Perm L) (fun _ => True) L.length w := fun l J Jx W hW hJ hJx hY h0 =>
  values_in n hn l Bm b n0 L J Jx hY W hJ ((hm.below hW hm.lt).cell 0) (hs.below hW hs.lt) h0

set_option maxHeartbeats 1000000 in
theorem sortedFunc (b Bm : Nat) (L : List Smp) (w : World) (hs : SMap w b L) (hm : At w Bm 212 #[.map (some b)]) (hL : L.length ≤ 1000) :
    Calls Tryz.prog 150 #[.func (.func 161) #[] #[.pointer (some ⟨Bm, 0, none⟩)], .func (.func 152) #[] #[]] w fun e w' =>
      ∃ A n c ys, e = .returned (.slice A n c) ∧ ys.Perm L ∧ (ys.Pairwise fun x y => aheadM y x = false) ∧ Ow eS w' w.heap.size A n c ys ∧ Below w.heap.size w w' := by
  have hC := collectSeq 4 (by omega) _ _ (enters_of Tryz.func161 (by kernel_rfl) rfl) _ _ L.length hL w.heap.size w (Nat.le_refl _) (values_stops 3 (by omega) b Bm w.heap.size L w hs hm)
  clear hs hm
  go_enter Tryz.func150, Tryz.ntmps150
  go_wp2_with fail
  refine hC.mono ?_
  rintro e w1 ⟨A, c, xs, rfl, hp, ow, hb⟩
  have hS := sortSmp A xs.length c w.heap.size xs w1 ow (by rw [hp.length_eq]; exact hL)
  go_wp2_with fail
  refine hS.mono ?_
  rintro e w2 ⟨rfl, ys, hp2, hpw, ow2, hb2⟩
  have hB2 := hb.trans hb2
  have Hp := Lib.hid (hp2.trans hp)
  clear hC hS hp hp2
  go_wp2
  go_ret
  exact ⟨A, xs.length, c, ys, rfl, Hp.out, hpw, ow2, hB2⟩

theorem flat_two (A B : Option Addr) (n m c d : Nat) (l k : List Smp) : flat [(A, n, c, l), (B, m, d, k)] = l ++ k := by simp [flat]
theorem rows_two {w : World} {T : Nat} {A B : Option Addr} {n m c d : Nat} {l k : List Smp} (ha : Rd eS w w.heap.size A l) (hb : Rd eS w w.heap.size B k) (hn : l.length = n) (hm : k.length = m) (h1 : n ≤ 1000) (h2 : m ≤ 1000) : Rows4 (w.alloc (.cells #[.slice A n c, .slice B m d] T)) w.heap.size [(A, n, c, l), (B, m, d, k)] := fun i r hr => by
  have hB := (Below.refl w.heap.size w).alloc (Nat.le_refl _) (.cells #[.slice A n c, .slice B m d] T)
  match i, hr with
  | 0, hr =>
    obtain rfl : (A, n, c, l) = r := by simpa using hr
    exact ⟨(At.new w T _).cell 0, ha.lift hB, hn, h1⟩
  | 1, hr =>
    obtain rfl : (B, m, d, k) = r := by simpa using hr
    exact ⟨(At.new w T _).cell 1, hb.lift hB, hm, h2⟩
  | i + 2, hr => simp at hr

set_option maxHeartbeats 400000 in
theorem cmpOr64 (g n c : Nat) (l : List Int) (w : World) (hl : Ints w g l) (hn : l.length = n) (hm : n ≤ 1000) :
    Calls Tryz.prog 47 #[.slice (some ⟨g, 0, none⟩) n c] w fun e w' => e = .returned (.int .i64 (orM l)) ∧ w' = w := by
  have Hn := Lib.hid hn
  clear hn
  go_enter Tryz.func47, Tryz.ntmps47
  go_wp2
  go_loopw [8] (fun i wr => OrRel w l n i wr) (fun i _ => n - (intOf i).toNat)
  case atStart => exact ⟨0, Nat.zero_le _, rfl, rfl, rfl⟩
  case round =>
    obtain ⟨k, hk, rfl, hd, rfl⟩ := hrel
    have Hd := Lib.hid hd
    clear hd
    by_cases hlt : k < n
    · have hkl : k < l.length := by rw [Hn.out]; exact hlt
      obtain ⟨x, hx⟩ : ∃ x, l[k]? = some x := ⟨l[k], List.getElem?_eq_getElem hkl⟩
      have hc := hl k x hx
      have Ho := Lib.hid (show orM (l.drop k) = if x = 0 then orM (l.drop (k + 1)) else x by
        rw [List.drop_eq_getElem_cons hkl, orM_cons]
        rw [List.getElem?_eq_getElem hkl] at hx
        rw [Option.some.inj hx])
      clear hx
      by_cases h0 : x = 0
      · subst h0
        go_wp2
        refine ⟨⟨k + 1, by omega, by go_num, ?_, rfl⟩, by simp [intOf]; omega⟩
        have := Ho.out
        rw [if_pos rfl] at this
        rw [← this]
        exact Hd.out
      · have hne : (x != 0) = true := by simpa using h0
        have Hx := Lib.hid (show orM l = x by rw [← Hd.out, Ho.out, if_neg h0])
        clear h0
        go_wp2
        go_ret
        exact ⟨by rw [Hx.out]; rfl, rfl⟩
    · obtain rfl : k = n := by omega
      have Hf := Lib.hid (show orM l = 0 by rw [← Hd.out, List.drop_eq_nil_of_le (Nat.le_of_eq Hn.out)]; rfl)
      go_wp2
      go_ret
      exact ⟨by rw [Hf.out]; rfl, rfl⟩

theorem or_two (x y : Int) : orM [x, y] = if x ≠ 0 then x else y := by
  rw [orM_cons, orM_cons, orM_nil]
  by_cases h : x = 0 <;> by_cases k : y = 0 <;> simp [h, k]
theorem ints_two {w : World} {t : TypeId} {x y : Int} : Ints (w.alloc (.cells #[.int .i64 x, .int .i64 y] t)) w.heap.size [x, y] := by
  have h := At.new w t #[.int .i64 x, .int .i64 y]
  intro k u hk
  match k, hk with
  | 0, hk => obtain rfl : x = u := by simpa using hk
             exact h.cell 0
  | 1, hk => obtain rfl : y = u := by simpa using hk
             exact h.cell 1
  | k + 2, hk => simp at hk
theorem storeFault_small {l : List Smp} (h : storeFaultM l = 0) : l.length ≤ 160 := ((storeFault_iff l).1 h).1
theorem mergeLists_fault {a b : List Smp} (h : orM [storeFaultM a, storeFaultM b] ≠ 0) : mergeListsM a b = (orM [storeFaultM a, storeFaultM b], []) := by
  rw [or_two] at h ⊢
  unfold mergeListsM
  by_cases h1 : storeFaultM a = 0
  · rw [if_neg (by simp [h1])] at h
    rw [if_neg (by simp [h1]), if_pos h, if_neg (by simp [h1])]
  · rw [if_pos h1, if_pos h1]
theorem byKey_len (l : List Smp) : (byKeyM l).length ≤ l.length := by
  have step : ∀ (l acc : List Smp), (l.foldl keyStep acc).length ≤ acc.length + l.length := by
    intro l
    induction l with
    | nil => intro acc; simp
    | cons x l ih =>
      intro acc
      rw [List.foldl_cons]
      have h1 := ih (keyStep acc x)
      have h2 : (keyStep acc x).length ≤ acc.length + 1 := by
        unfold keyStep
        split
        · omega
        · simp
      rw [List.length_cons]
      omega
  have := step l []
  simpa [byKeyM] using this
theorem same_self (x : Smp) : sameKeyM x x = true := (same_iff x x).2 ⟨rfl, rfl, rfl⟩
theorem apart_nodup {l : List Smp} (h : Apart l) : l.Nodup := h.imp fun {a b} k e => by
  subst e
  rw [same_self] at k
  cases k
theorem merge_perm {a b : List Smp} (ha : storeFaultM a = 0) (hb : storeFaultM b = 0) : (mergeM a b).Perm (byKeyM (a ++ b)) := by
  obtain ⟨_, _, sa⟩ := (storeFault_iff a).1 ha
  obtain ⟨_, _, sb⟩ := (storeFault_iff b).1 hb
  refine (List.perm_ext_iff_of_nodup (asc_nodup (merge_asc ha hb)) (apart_nodup (byKey_apart _))).2 fun y => ?_
  rw [mem_both sa sb]
  unfold mergeM
  rw [mem_mergeFold]
theorem or_none {a b : List Smp} (h : orM [storeFaultM a, storeFaultM b] = 0) : storeFaultM a = 0 ∧ storeFaultM b = 0 := by
  rw [or_two] at h
  by_cases h1 : storeFaultM a = 0
  · rw [if_neg (by simp [h1])] at h
    exact ⟨h1, h⟩
  · rw [if_pos h1] at h
    exact absurd h h1

set_option maxRecDepth 100000 in
set_option maxHeartbeats 4000000 in
theorem implMergeLists (A B : Option Addr) (n m c d : Nat) (a b : List Smp) (w : World) (ha : Rd eS w w.heap.size A a) (hb : Rd eS w w.heap.size B b) (hn : a.length = n) (hm : b.length = m) (hF : Flds w) :
    Calls Tryz.prog 132 #[.slice A n c, .slice B m d] w (RetSs (mergeListsM a b) w) := by
  have hB0 : Below w.heap.size w (w.alloc (.cells #[.int .i64 0, .slice none 0 0] 182)) := (Below.refl _ _).alloc (Nat.le_refl _) _
  have r0 := At.new w 182 #[.int .i64 0, .slice none 0 0]
  have ha0 := ha.lift hB0
  have hb0 := hb.lift hB0
  have hF0 := hF.below hB0
  have HFa := implStoreFault A n c a _ ha0 hn hF0
  obtain ⟨fa, hfa⟩ : ∃ fa, storeFaultM a = fa := ⟨_, rfl⟩
  obtain ⟨fb, hfb⟩ : ∃ fb, storeFaultM b = fb := ⟨_, rfl⟩
  rw [hfa] at HFa
  by_cases h0 : orM [fa, fb] = 0
  rotate_left
  · have hres := mergeLists_fault (a := a) (b := b) (by rw [hfa, hfb]; exact h0)
    rw [hfa, hfb] at hres
    rw [hres]
    have hne : (orM [fa, fb] != 0) = true := by rw [bne_iff_ne]; exact h0
    clear hres
    go_enter Tryz.func132, Tryz.ntmps132
    go_wp2_with fail
    refine (HFa).mono ?_
    rintro e w1 ⟨rfl, hb1⟩
    have hB1 := hB0.trans (hb1.mono hB0.size)
    have r1 := r0.below hb1 r0.lt
    have hb1' := hb0.lift hb1
    have HFb := implStoreFault B m d b _ hb1' hm (hF0.below hb1)
    rw [hfb] at HFb
    go_wp2_with fail
    refine (HFb).mono ?_
    rintro e w2 ⟨rfl, hb2⟩
    have hB2 := hB1.trans (hb2.mono hB1.size)
    have r2 := r1.below hb2 r1.lt
    go_wp2_with fail
    refine (cmpOr64 w2.heap.size 2 2 [fa, fb] _ ints_two rfl (by omega)).mono ?_
    rintro e w3 ⟨rfl, rfl⟩
    have hB3 := hB2.alloc hB2.size (.cells #[.int .i64 fa, .int .i64 fb] 2)
    have r3 := r2.alloc (.cells #[.int .i64 fa, .int .i64 fb] 2)
    obtain ⟨c0, c1, _, _⟩ := r3.two
    generalize orM [fa, fb] = sf at *
    go_wp2_with fail
    refine bodyPost_ret (v := .agg #[.int .i64 sf, .slice none 0 0]) (by simp [results, Tryz.results132, go_sem, c0, c1]) rfl ?_
    exact ⟨_, _, _, rfl, Ow.nil, (hB3.setCell (Nat.le_refl _) _).setCell (Nat.le_refl _) _⟩
  obtain ⟨ea, eb⟩ := or_none (a := a) (b := b) (by rw [hfa, hfb]; exact h0)
  have hn160 := storeFault_small ea
  have hm160 := storeFault_small eb
  have hMP := merge_perm ea eb
  have Hres := Lib.hid (show mergeListsM a b = if 160 < (byKeyM (a ++ b)).length then (7, []) else (0, mergeM a b) by
    unfold mergeListsM
    rw [if_neg (by simp [ea]), if_neg (by simp [eb]), hMP.length_eq])
  have hbig : (byKeyM (a ++ b)).length ≤ 1000 := by
    have := byKey_len (a ++ b)
    rw [List.length_append] at this
    omega
  have Hms := Lib.hid (fun (ys : List Smp) (hp : ys.Perm (byKeyM (a ++ b))) hs => merge_is ea eb hp hs)
  rw [hfa] at ea
  rw [hfb] at eb
  subst ea
  subst eb
  rw [hn] at hn160
  rw [hm] at hm160
  clear h0 hMP
  go_enter Tryz.func132, Tryz.ntmps132
  go_wp2_with fail
  refine (HFa).mono ?_
  rintro e w1 ⟨rfl, hb1⟩
  have hB1 := hB0.trans (hb1.mono hB0.size)
  have r1 := r0.below hb1 r0.lt
  have hA1 := ha0.lift hb1
  have hb1' := hb0.lift hb1
  have HFb := implStoreFault B m d b _ hb1' hm (hF0.below hb1)
  rw [hfb] at HFb
  go_wp2_with fail
  refine (HFb).mono ?_
  rintro e w2 ⟨rfl, hb2⟩
  have hB2 := hB1.trans (hb2.mono hB1.size)
  have r2 := r1.below hb2 r1.lt
  have hl3 := (Below.refl w2.heap.size w2).alloc (Nat.le_refl _) (.cells #[.int .i64 0, .int .i64 0] 2)
  have hA3 := (hA1.lift hb2).lift hl3
  have hb3' := (hb1'.lift hb2).lift hl3
  have hO : orM [0, 0] = 0 := rfl
  have hcm := cmpOr64 w2.heap.size 2 2 [0, 0] (w2.alloc (.cells #[.int .i64 0, .int .i64 0] 2)) ints_two rfl (by omega)
  rw [hO] at hcm
  go_wp2_with fail
  refine (hcm).mono ?_
  rintro e w3 ⟨rfl, hw3⟩
  have hB3 := hB2.alloc hB2.size (.cells #[.int .i64 0, .int .i64 0] 2)
  have r3 := r2.alloc (.cells #[.int .i64 0, .int .i64 0] 2)
  rw [← hw3] at hB3 r3 hA3 hb3'
  clear hw3 hl3 hcm hO
  have hR := rows_two (T := 36) (c := c) (d := d) hA3 hb3' hn hm (by omega) (by omega)
  have hB4 := hB3.alloc hB3.size (.cells #[.slice A n c, .slice B m d] 36)
  have r4 := r3.alloc (.cells #[.slice A n c, .slice B m d] 36)
  have hby := byKeyS w3.heap.size 2 2 [(A, n, c, a), (B, m, d, b)] (w3.alloc (.cells #[.slice A n c, .slice B m d] 36)) hR (by simp) rfl (by omega)
  rw [flat_two] at hby
  clear hR
  go_wp2_with fail
  refine (hby).mono ?_
  rintro e w5 ⟨bm, rfl, hcb, hs5, hb5⟩
  have hB5 := hB4.trans (hb5.mono hB4.size)
  have r5 := r4.below hb5 r4.lt
  have hlen := fun ty => hs5.len ty
  obtain ⟨L, hL⟩ : ∃ L, byKeyM (a ++ b) = L := ⟨_, rfl⟩
  rw [hL] at hs5 hlen Hres hbig Hms
  clear hL hby
  by_cases hbg : 160 < L.length
  · have Hbg := Lib.hid hbg
    have hi : (160 : Int) < (L.length : Int) := by omega
    obtain ⟨c0, c1, _, _⟩ := r5.two
    clear hbg
    go_wp2_with fail
    refine bodyPost_ret (v := .agg #[.int .i64 7, .slice none 0 0]) (by simp [results, Tryz.results132, go_sem, c0, c1]) rfl ?_
    rw [Hres.out, if_pos Hbg.out]
    exact ⟨_, _, _, rfl, Ow.nil, (hB5.setCell (Nat.le_refl _) _).setCell (Nat.le_refl _) _⟩
  · have Hbg := Lib.hid hbg
    have hi : (L.length : Int) ≤ 160 := by omega
    clear hbg
    go_wp2_with fail
    refine (valuesOf bm _).mono ?_
    rintro e w6 ⟨rfl, hw6⟩
    have hl6 := (Below.refl w5.heap.size w5).alloc (Nat.le_refl _) (.cells #[.map (some bm)] 212)
    have hm6 := At.new w5 212 #[.map (some bm)]
    have hs6 := hs5.alloc (.cells #[.map (some bm)] 212)
    rw [← hw6] at hl6 hm6 hs6
    have hB6 := hB5.trans (hl6.mono hB5.size)
    have r6 := r5.below hl6 r5.lt
    clear hw6
    go_wp2_with fail
    refine (sortedFunc bm w5.heap.size L w6 hs6 hm6 hbig).mono ?_
    rintro e w7 ⟨A7, n7, c7, ys, rfl, hp, hpw, ow7, hb7⟩
    obtain rfl := Hms.out ys hp hpw
    have hB7 := hB6.trans (hb7.mono hB6.size)
    have r7 := r6.below hb7 r6.lt
    have hl7 := r6.lt
    obtain ⟨c0, c1, _, _⟩ := r7.two
    clear hp hpw
    go_wp2_with fail
    refine bodyPost_ret (v := .agg #[.int .i64 0, .slice A7 n7 c7]) (by simp [results, Tryz.results132, go_sem, c0, c1]) rfl ?_
    rw [Hres.out, if_neg Hbg.out]
    exact ⟨_, _, _, rfl, (((ow7.under (p := ⟨w.heap.size, 0, none⟩) hl7 _).under (p := ⟨w.heap.size, 1, none⟩) hl7 _).from_ hB6.size), (hB7.setCell (Nat.le_refl _) _).setCell (Nat.le_refl _) _⟩

end Go.Proofs.YtmaillakhhdkfaaGreatDoor
/-
  The program's InsertSample: both merged.
-/
namespace Go.Proofs.YtmaillakhhdkfaaGreatDoor
set_option maxRecDepth 20000
open Go.RowKit Go.Shelf
set_option linter.unusedSimpArgs false
set_option linter.unusedVariables false

theorem fault_one (x : Smp) : storeFaultM [x] = faultM x := by
  have hr : risesM [x] = true := risesM_yes (n := 1) rfl (fun j hj => absurd hj (by omega))
  rcases faultM_or x with h | h
  · rw [h]
    unfold storeFaultM
    rw [if_neg (by simp), if_neg (by simp [rightM, h]), if_neg (by simp [hr])]
  · rw [h]
    unfold storeFaultM
    rw [if_neg (by simp), if_pos (by simp [rightM, h])]
theorem insert_is (l : List Smp) (x : Smp) : insertM l x = if (mergeListsM l [x]).1 ≠ 0 then ((mergeListsM l [x]).1, false, []) else (0, decide (l.length < (mergeListsM l [x]).2.length), (mergeListsM l [x]).2) := by
  unfold insertM
  by_cases h0 : storeFaultM l = 0
  · rw [if_neg (by simp [h0])]
    by_cases h1 : faultM x = 0
    · rw [if_neg (by simp [h1])]
      have hl := storeFault_small h0
      by_cases h2 : findI l x < 0
      · have hm : mergeM l [x] = insM l x := by simp [mergeM, mergeStep, h2]
        rw [if_neg (by omega)]
        by_cases h3 : 160 ≤ l.length
        · have e : mergeListsM l [x] = (7, []) := by
            unfold mergeListsM
            rw [if_neg (by simp [h0]), if_neg (by rw [fault_one]; simp [h1]), hm, insM_len, if_pos (by omega)]
          rw [e, if_pos h3, if_pos (by simp)]
        · have e : mergeListsM l [x] = (0, insM l x) := by
            unfold mergeListsM
            rw [if_neg (by simp [h0]), if_neg (by rw [fault_one]; simp [h1]), hm, insM_len, if_neg (by omega)]
          rw [e, if_neg h3, if_neg (by simp)]
          simp [insM_len]
      · have hm : mergeM l [x] = l := by simp [mergeM, mergeStep, h2]
        have e : mergeListsM l [x] = (0, l) := by
          unfold mergeListsM
          rw [if_neg (by simp [h0]), if_neg (by rw [fault_one]; simp [h1]), hm, if_neg (by omega)]
        rw [if_pos (by omega), e, if_neg (by simp)]
        simp
    · have e : mergeListsM l [x] = (faultM x, []) := by
        unfold mergeListsM
        rw [if_neg (by simp [h0]), fault_one, if_pos h1]
      rw [if_pos h1, e, if_pos h1]
  · have e : mergeListsM l [x] = (storeFaultM l, []) := by
      unfold mergeListsM
      rw [if_pos h0]
    rw [if_pos h0, e, if_pos h0]

set_option maxRecDepth 100000 in
set_option maxHeartbeats 4000000 in
theorem implInsertSample (A : Option Addr) (n c : Nat) (l : List Smp) (x0 x1 x2 x3 : Int) (w : World) (ha : Rd eS w w.heap.size A l) (hn : l.length = n) (hnm : n ≤ 1048576) (hF : Flds w) :
    Calls Tryz.prog 92 #[.slice A n c, .agg #[.int .i64 x0, .int .i64 x1, .int .i64 x2, .int .i64 x3]] w (RetSt (insertM l (x0, x1, x2, x3)) w) := by
  have hB0a := (Below.refl w.heap.size w).alloc (Nat.le_refl _) (.cells #[.int .i64 x0, .int .i64 x1, .int .i64 x2, .int .i64 x3] 25)
  have hB0 := hB0a.alloc hB0a.size (.cells #[.int .i64 0, .bool false, .slice none 0 0] 135)
  have r0 := At.newAt' (t := 135) (cs := #[.int .i64 0, .bool false, .slice none 0 0]) (show (w.alloc (.cells #[.int .i64 x0, .int .i64 x1, .int .i64 x2, .int .i64 x3] 25)).heap.size = w.heap.size + 1 by simp)
  obtain ⟨w0, hw0⟩ : ∃ w0, (w.alloc (.cells #[.int .i64 x0, .int .i64 x1, .int .i64 x2, .int .i64 x3] 25)).alloc (.cells #[.int .i64 0, .bool false, .slice none 0 0] 135) = w0 := ⟨_, rfl⟩
  have hl1 := (Below.refl w0.heap.size w0).alloc (Nat.le_refl _) (.cells #[.int .i64 x0, .int .i64 x1, .int .i64 x2, .int .i64 x3] 25)
  have hs0 : w0.heap.size = w.heap.size + 1 + 1 := by rw [← hw0]; simp
  rw [hw0] at hB0 r0
  have hB1 := hB0.trans (hl1.mono hB0.size)
  have r1 := r0.below hl1 r0.lt
  have hM := implMergeLists A (some ⟨w0.heap.size, 0, none⟩) n 1 c 1 l [(x0, x1, x2, x3)] _ ((ha.lift hB0).lift hl1) ((rd_lit okS w0 25 [(x0, x1, x2, x3)] #[.int .i64 x0, .int .i64 x1, .int .i64 x2, .int .i64 x3] rfl).more (by simp)) hn rfl (hF.below hB1)
  have Hins := Lib.hid (insert_is l (x0, x1, x2, x3))
  obtain ⟨⟨mc, ml⟩, hmr⟩ : ∃ r, mergeListsM l [(x0, x1, x2, x3)] = r := ⟨_, rfl⟩
  have hml := mergeLists_le l [(x0, x1, x2, x3)]
  rw [hmr] at hM Hins hml
  simp only at hml
  have Hn := Lib.hid hn
  rw [hs0] at hM
  rw [← hw0] at hM
  rw [← hw0] at hl1 hB0 hB1 r1
  clear hmr hn hw0 r0 hs0 ha hF hB0a
  go_enter Tryz.func92, Tryz.ntmps92
  go_wp2_with fail
  refine (hM).mono ?_
  rintro e w2 ⟨A2, n2, c2, rfl, ow2, hb2⟩
  have hB2 := hB1.trans (hb2.mono hB1.size)
  have r2 := r1.below hb2 r1.lt
  have hl2 := Ow.len okS ow2
  have hB3 := hB2.alloc hB2.size (.cells #[.int .i64 mc, .slice A2 n2 c2] 182)
  have r3 := r2.alloc (.cells #[.int .i64 mc, .slice A2 n2 c2] 182)
  have ow3 := ow2.alloc (.cells #[.int .i64 mc, .slice A2 n2 c2] 182)
  have m3 := At.new w2 182 #[.int .i64 mc, .slice A2 n2 c2]
  obtain ⟨c0, c1, cc2, _⟩ := r3.three
  obtain ⟨d0, d1, _, _⟩ := m3.two
  have hlt := r1.lt
  have Hl2 := Lib.hid hl2
  clear hM hl2
  by_cases h0 : mc = 0
  · subst h0
    have h00 : ((0 : Int) != 0) = false := rfl
    by_cases hgt : n < n2
    · have hi : (n : Int) < (n2 : Int) := by omega
      have Hg := Lib.hid (show insertM l (x0, x1, x2, x3) = (0, true, ml) by rw [Hins.out, if_neg (by simp)]; simp only [Hl2.out, Hn.out, hgt, decide_true])
      clear hgt
      go_wp2_with fail
      refine bodyPost_ret (v := .agg #[.int .i64 0, .bool true, .slice A2 n2 c2]) (by simp [results, Tryz.results92, go_sem, c0, c1, cc2]) rfl ?_
      rw [Hg.out]
      exact ⟨_, _, _, rfl, ((((ow3.under (p := ⟨w.heap.size + 1, 0, none⟩) hlt _).under (p := ⟨w.heap.size + 1, 1, none⟩) hlt _).under (p := ⟨w.heap.size + 1, 2, none⟩) hlt _).from_ hB1.size), ((hB3.setCell (p := ⟨w.heap.size + 1, 0, none⟩) (Nat.le_succ _) _).setCell (p := ⟨w.heap.size + 1, 1, none⟩) (Nat.le_succ _) _).setCell (p := ⟨w.heap.size + 1, 2, none⟩) (Nat.le_succ _) _⟩
    · have hi : (n2 : Int) ≤ (n : Int) := by omega
      have hle : n2 ≤ n := by omega
      have Hg := Lib.hid (show insertM l (x0, x1, x2, x3) = (0, false, ml) by rw [Hins.out, if_neg (by simp)]; rw [show decide (l.length < ml.length) = false from decide_eq_false (by rw [Hl2.out, Hn.out]; exact hgt)])
      clear hgt
      go_wp2_with fail
      refine bodyPost_ret (v := .agg #[.int .i64 0, .bool false, .slice A2 n2 c2]) (by simp [results, Tryz.results92, go_sem, c0, c1, cc2, hle]) rfl ?_
      rw [Hg.out]
      exact ⟨_, _, _, rfl, ((((ow3.under (p := ⟨w.heap.size + 1, 0, none⟩) hlt _).under (p := ⟨w.heap.size + 1, 1, none⟩) hlt _).under (p := ⟨w.heap.size + 1, 2, none⟩) hlt _).from_ hB1.size), ((hB3.setCell (p := ⟨w.heap.size + 1, 0, none⟩) (Nat.le_succ _) _).setCell (p := ⟨w.heap.size + 1, 1, none⟩) (Nat.le_succ _) _).setCell (p := ⟨w.heap.size + 1, 2, none⟩) (Nat.le_succ _) _⟩
  · have hne : (mc != 0) = true := by rw [bne_iff_ne]; exact h0
    have Hg := Lib.hid (show insertM l (x0, x1, x2, x3) = (mc, false, []) by rw [Hins.out, if_pos h0])
    clear h0
    go_wp2_with fail
    refine bodyPost_ret (v := .agg #[.int .i64 mc, .bool false, .slice none 0 0]) (by simp [results, Tryz.results92, go_sem, c0, c1, cc2]) rfl ?_
    rw [Hg.out]
    exact ⟨_, _, _, rfl, Ow.nil, ((hB3.setCell (p := ⟨w.heap.size + 1, 0, none⟩) (Nat.le_succ _) _).setCell (p := ⟨w.heap.size + 1, 1, none⟩) (Nat.le_succ _) _).setCell (p := ⟨w.heap.size + 1, 2, none⟩) (Nat.le_succ _) _⟩

end Go.Proofs.YtmaillakhhdkfaaGreatDoor
/-
  Queued hints sorted by their turns, and what comes out of a map of them (as SortP, MergeP, at queued hints).
-/
namespace Go.Proofs.YtmaillakhhdkfaaGreatDoor
set_option maxRecDepth 20000
open Go.RowKit Go.Sort Go.Shelf
set_option linter.unusedSimpArgs false
set_option linter.unusedVariables false

def turnM (x y : Qd) : Int := cmpM x.1 y.1
theorem ltOf_turn (x y : Qd) : ltOf turnM x y = decide (x.1 < y.1) := by
  show decide (cmpM x.1 y.1 < 0) = _
  rcases cmpM_range x.1 y.1 with ⟨h, k⟩ | ⟨h, k⟩ | ⟨h, k⟩
  · rw [h]; simp [k]
  · rw [h, k]; simp
  · rw [h]
    have : ¬ x.1 < y.1 := by omega
    simp [this]
theorem swoTurn : SWO (ltOf turnM) where
  irrefl x := by rw [ltOf_turn]; simp
  trans x y z h k := by
    rw [ltOf_turn] at *
    simp only [decide_eq_true_eq] at *
    omega
  ntrans x y z h k := by
    rw [ltOf_turn] at *
    simp only [decide_eq_false_iff_not] at *
    omega
theorem sorted_pairsQ {d : Array Qd} (h : SortedIn (ltOf turnM) 0 d.size d) : d.toList.Pairwise fun x y => ¬ y.1 < x.1 := by
  rw [List.pairwise_iff_getElem]
  intro i j hi hj hij
  have hi' : i < d.size := by simpa using hi
  have hj' : j < d.size := by simpa using hj
  have := h i j (Nat.zero_le _) hij hj'
  rw [ltOf_turn, getElem!_pos d j hj', getElem!_pos d i hi'] at this
  simpa using this
theorem grown2 (w : World) (a b : Obj) : ∃ q os', (w.alloc a).alloc b = grow (w.drewN q) os' := by
  refine ⟨0, #[a] ++ #[b], ?_⟩
  rw [alloc_eq_grow, alloc_eq_grow, grow_grow]
  rfl

set_option maxHeartbeats 1000000 in
theorem turnG (a0 a1 a2 a3 a4 a5 a6 a7 b0 b1 b2 b3 b4 b5 b6 b7 : Int) (w : World) :
    Calls Tryz.prog 155 #[.agg #[.int .i64 a0, .int .i64 a1, .int .i64 a2, .int .i64 a3, .int .i64 a4, .int .i64 a5, .int .i64 a6, .int .i64 a7], .agg #[.int .i64 b0, .int .i64 b1, .int .i64 b2, .int .i64 b3, .int .i64 b4, .int .i64 b5, .int .i64 b6, .int .i64 b7]] w fun e w' =>
      e = .returned (.int .i64 (turnM (a0, a1, (a2, a3, a4, a5), a6, a7) (b0, b1, (b2, b3, b4, b5), b6, b7))) ∧ ∃ q os', w' = grow (w.drewN q) os' := by
  go_enter Tryz.func155, Tryz.ntmps155
  go_wp2_with (go_at_call 156; refine (cmpCompare _ _ _).mono ?_; rintro e w1 ⟨rfl, rfl⟩)
  go_ret
  exact ⟨rfl, grown2 _ _ _⟩

theorem cell_rowQ {x : Qd} {j : Nat} (hj : j < 8) : (qdCells x)[j]? = some ((qdCells x)[j]!) := by
  have : j < (qdCells x).length := hj
  rw [List.getElem?_eq_getElem this, getElem!_pos (qdCells x) j this]
theorem flatK_rowQ (d : Array Qd) : (flatK qdCells 8 d).toList = eQ.row d.toList := by
  apply List.ext_getElem?
  intro i
  rcases Nat.lt_or_ge i (d.size * 8) with h | h
  · have hk : i / 8 < d.size := by omega
    have hd : d.toList[i / 8]? = some d[i / 8]! := by
      rw [Array.getElem?_toList, Array.getElem?_eq_getElem hk, getElem!_pos d _ hk]
    have h1 := okQ.row_at d.toList (i / 8) (i % 8) _ hd (Nat.mod_lt _ (by decide))
    rw [show i / 8 * eQ.size + i % 8 = i by show i / 8 * 8 + i % 8 = i; omega] at h1
    rw [h1, Array.getElem?_toList]
    have hs : i < (flatK qdCells 8 d).size := by simpa using h
    have h2 := get_flatK qdCells 8 d i h
    rw [getElem!_pos (flatK qdCells 8 d) i hs] at h2
    rw [Array.getElem?_eq_getElem hs, h2]
    exact (cell_rowQ (Nat.mod_lt _ (by decide))).symm
  · rw [List.getElem?_eq_none (by simpa using h), List.getElem?_eq_none (by rw [okQ.row_len]; simpa [eQ] using h)]
theorem holdsK_ofQ {w : World} {base g n c : Nat} {l : List Qd} (how : Ow eQ w base (some ⟨g, 0, none⟩) n c l) : HoldsK qdCells 8 w g 0 l.toArray := fun j hj => by
  have hs : (flatK qdCells 8 l.toArray).size = l.length * 8 := by simp
  have hlen := Ow.len okQ how
  have h1 : (eQ.row l)[j]? = some (flatK qdCells 8 l.toArray)[j]! := by
    have := flatK_rowQ l.toArray
    rw [show (l.toArray).toList = l from rfl] at this
    rw [← this, Array.getElem?_toList, Array.getElem?_eq_getElem hj, getElem!_pos (flatK qdCells 8 l.toArray) j hj]
  refine ⟨?_, how.frozenAt _⟩
  rw [World.ownsRow.cellAt how _ (by rw [hs] at hj; show 0 + j < n * 8; omega), Nat.zero_add, h1]
  rfl
theorem ow_sortedQ {w : World} {base g n c m : Nat} {l : List Qd} {d : Array Qd} {os : Array Obj} (how : Ow eQ w base (some ⟨g, 0, none⟩) n c l) (hd : d.size = n) :
    Ow eQ (sortWorldK qdCells 8 w g 0 m d os) base (some ⟨g, 0, none⟩) n c d.toList := by
  refine ⟨by rw [okQ.row_len]; simp [hd], .inr ?_⟩
  rcases how.2 with ⟨h0, _⟩ | ⟨g', cap, cur, hv, hb, hg, h1, h2, h3, h4⟩
  · simp at h0
  · simp only [Value.slice.injEq, Option.some.injEq, Addr.mk.injEq, true_and, and_true] at hv
    obtain ⟨rfl, rfl⟩ := hv
    have hF : (flatK qdCells 8 d).size = n * 8 := by simp [hd]
    have hlt : g < w.heap.size := (Array.getElem?_eq_some_iff.1 hg).1
    refine ⟨g, c, putCells id 0 (flatK qdCells 8 d) cur, rfl, hb, ?_, h1, h2, by unfold putCells; simpa using h3, ?_⟩
    · show ((w.heap.modify g (onCells (putCells id 0 (flatK qdCells 8 d)))) ++ os)[g]? = _
      rw [Array.getElem?_append_left (by rw [Array.size_modify]; exact hlt), Array.getElem?_modify, if_pos rfl, hg]
      rfl
    · rw [← flatK_rowQ]
      apply List.ext_getElem?
      intro j
      rw [List.getElem?_take]
      have hcs : n * 8 ≤ cur.size := by
        rw [h3]
        exact Nat.mul_le_mul_right _ h1
      split
      · rename_i hj
        have hj' : j < n * 8 := hj
        have hjc : j < cur.size := by omega
        unfold putCells
        rw [Array.getElem?_toList, Array.getElem?_mapIdx, Array.getElem?_eq_getElem hjc, Option.map_some, if_pos ⟨Nat.zero_le _, by omega⟩, Nat.sub_zero, Array.getElem?_toList, Array.getElem?_eq_getElem (by omega), getElem!_pos (flatK qdCells 8 d) j (by omega)]
        rfl
      · rename_i hj
        rw [List.getElem?_eq_none]
        have : ¬ j < n * 8 := hj
        simp
        omega

set_option maxHeartbeats 1000000 in
theorem sortQd (A : Option Addr) (n c base : Nat) (l : List Qd) (w : World) (how : Ow eQ w base A n c l) (hn : n ≤ 1000) :
    Calls Tryz.prog 164 #[.slice A n c, .func (.func 155) #[] #[]] w fun e w' =>
      e = .returned (.tuple #[]) ∧ ∃ ys : List Qd, ys.Perm l ∧ (ys.Pairwise fun x y => ¬ y.1 < x.1) ∧ Ow eQ w' base A n c ys ∧ Below base w w' := by
  have hlen := Ow.len okQ how
  rcases Nat.eq_zero_or_pos n with h0 | h0
  · subst h0
    obtain rfl : l = [] := List.eq_nil_of_length_eq_zero hlen
    have h : Calls Tryz.prog 164 #[.slice A 0 c, .func (.func 155) #[] #[]] w fun e w' => e = .returned (.tuple #[]) ∧ w' = w :=
      AnyF.slices_SortFunc_none sortQ A c _ w
    refine h.mono ?_
    rintro e w' ⟨rfl, rfl⟩
    exact ⟨rfl, [], List.Perm.refl _, List.Pairwise.nil, how, Below.refl _ _⟩
  · obtain ⟨g, rfl, hb, hg⟩ := how.form h0
    have hsz : l.toArray.size = n := by simpa using hlen
    have hcmp : CmpLays Tryz.prog 155 #[] qdCells 8 turnM g 0 l.toArray.size w := fun m os dk _ x y => by
      obtain ⟨a0, a1, ⟨a2, a3, a4, a5⟩, a6, a7⟩ := x
      obtain ⟨b0, b1, ⟨b2, b3, b4, b5⟩, b6, b7⟩ := y
      exact turnG a0 a1 a2 a3 a4 a5 a6 a7 b0 b1 b2 b3 b4 b5 b6 b7 _
    have h : Calls Tryz.prog 164 #[.slice (some ⟨g, 0, none⟩) l.toArray.size c, .func (.func 155) #[] #[]] w fun e w' =>
        e = .returned (.tuple #[]) ∧ ∃ d' n os, PermIn 0 l.toArray.size l.toArray d' ∧ SortedIn (ltOf turnM) 0 l.toArray.size d' ∧ w' = sortWorldK qdCells 8 w g 0 n d' os :=
      AnyQ.slices_SortFunc sortQ 8 (fun w => Tryz.isAgg222 w) (fun w => Tryz.sizeOf222 w) qdCells (fun _ => rfl) (fun x v hv => okQ.one x v hv) turnM swoTurn 155 #[] g 0 c l.toArray w
        (enters_of Tryz.func155 (by kernel_rfl) rfl) hcmp (holdsK_ofQ how) hg (by omega)
    rw [hsz] at h
    refine h.mono ?_
    rintro e w' ⟨rfl, d, m, os, ⟨hp1, _, hp2⟩, hso, rfl⟩
    have hds : d.size = n := hp1.trans hsz
    have e1 : d.extract 0 n = d := by rw [← hds]; exact Array.extract_size
    have e2 : l.toArray.extract 0 n = l.toArray := by rw [← hsz]; exact Array.extract_size
    rw [e1, e2] at hp2
    refine ⟨rfl, d.toList, hp2, sorted_pairsQ (by rw [hds]; exact hso), ow_sortedQ how hds, ?_⟩
    refine ⟨rfl, rfl, rfl, ?_, fun k hk => ?_⟩
    · show w.heap.size ≤ ((w.heap.modify g (onCells (putCells id 0 (flatK qdCells 8 d)))) ++ os).size
      rw [Array.size_append, Array.size_modify]
      omega
    · show ((w.heap.modify g (onCells (putCells id 0 (flatK qdCells 8 d)))) ++ os)[k]? = w.heap[k]?
      rw [Array.getElem?_append_left (by rw [Array.size_modify]; omega), Array.getElem?_modify, if_neg (by omega)]
theorem valuesOfQ (b : Nat) (w : World) :
    Calls Tryz.prog 154 #[.map (some b)] w fun e w' =>
      e = .returned (.func (.func 165) #[] #[.pointer (some ⟨w.heap.size, 0, none⟩)]) ∧ w' = w.alloc (.cells #[.map (some b)] 194) := by
  go_enter Tryz.func154, Tryz.ntmps154
  go_wp2
  go_ret
  exact ⟨rfl, rfl⟩

theorem values_stopsQ (n : Nat) (hn : 1 ≤ n) (b Bm n0 : Nat) (L : List Qd) (w : World) (hs : QMap w b L) (hm : At w Bm 194 #[.map (some b)]) :
    SeqStopsK Fence.wide n Tryz.prog 165 #[.pointer (some ⟨Bm, 0, none⟩)] encQ (Kp2 n0) (fun xs => xs.Perm L) (fun _ => True) L.length w := fun l J Jx W hW hJ hJx hY h0 =>
  values_inQ n hn l Bm b n0 L J Jx hY W hJ ((hm.below hW hm.lt).cell 0) (hs.below hW hs.lt) h0

set_option maxHeartbeats 1000000 in
theorem sortedFuncQ (b Bm : Nat) (L : List Qd) (w : World) (hs : QMap w b L) (hm : At w Bm 194 #[.map (some b)]) (hL : L.length ≤ 1000) :
    Calls Tryz.prog 153 #[.func (.func 165) #[] #[.pointer (some ⟨Bm, 0, none⟩)], .func (.func 155) #[] #[]] w fun e w' =>
      ∃ A n c ys, e = .returned (.slice A n c) ∧ ys.Perm L ∧ (ys.Pairwise fun x y => ¬ y.1 < x.1) ∧ Ow eQ w' w.heap.size A n c ys ∧ Below w.heap.size w w' := by
  have hC := collectSeqQ 4 (by omega) _ _ (enters_of Tryz.func165 (by kernel_rfl) rfl) _ _ L.length hL w.heap.size w (Nat.le_refl _) (values_stopsQ 3 (by omega) b Bm w.heap.size L w hs hm)
  clear hs hm
  go_enter Tryz.func153, Tryz.ntmps153
  go_wp2_with fail
  refine hC.mono ?_
  rintro e w1 ⟨A, c, xs, rfl, hp, ow, hb⟩
  have hS := sortQd A xs.length c w.heap.size xs w1 ow (by rw [hp.length_eq]; exact hL)
  go_wp2_with fail
  refine hS.mono ?_
  rintro e w2 ⟨rfl, ys, hp2, hpw, ow2, hb2⟩
  have hB2 := hb.trans hb2
  have Hp := Lib.hid (hp2.trans hp)
  clear hC hS hp hp2
  go_wp2
  go_ret
  first | exact ⟨A, xs.length, c, ys, rfl, Hp.out, hpw, ow2, hB2⟩ | exact ⟨A, xs.length, c, rfl, ys, Hp.out, hpw, ow2, hB2⟩

end Go.Proofs.YtmaillakhhdkfaaGreatDoor
