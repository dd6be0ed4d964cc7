import Derived.Test.YteiclanlhnccnaaDoorBase
namespace Go.Proofs.YteiclanlhnccnaaDoor
set_option maxRecDepth 20000
open Go.RowKit

/-- The text of some bytes. -/
def txt (l : List UInt8) : ByteArray := ⟨l.toArray⟩
theorem txt_inj {a b : List UInt8} : (txt a = txt b) ↔ a = b := by
  constructor
  · intro h
    have : (txt a).data.toList = (txt b).data.toList := by rw [h]
    simpa [txt] using this
  · rintro rfl; rfl
theorem txt_list (l : List UInt8) : (txt l).toList = l := by simp [txt]
theorem beq_dec (a b : List UInt8) : (a == b) = decide (a = b) := by
  by_cases h : a = b
  · subst h; simp
  · rw [decide_eq_false h, beq_eq_false_iff_ne]
    exact h
theorem txt_beq (a b : List UInt8) : ((txt a).toList == (txt b).toList) = decide (a = b) := by rw [txt_list, txt_list, beq_dec]

theorem conv_bytes {w : World} {hi : Nat} {A : Option Addr} {l : List UInt8} {n c : Nat} (h : Rd eB w hi A l) (hn : l.length = n) :
    (convert 32 9 (.slice A n c)).run Tryd.prog w = .ok (.string (txt l)) w := by
  rw [run_convert_bytes_string w _ _ _ A n c Tryd.underlying32 Tryd.underlying5 Tryd.underlying9]
  have hs : strOfNums (l.map fun b => (b.toNat : Int)) = txt l := by
    have h1 : (strOfNums (l.map fun b => (b.toNat : Int))).data.toList = (txt l).data.toList := by
      rw [strOfNums_data, txt, List.map_map]
      apply List.ext_getElem?
      intro i
      simp only [List.getElem?_map]
      cases l[i]? <;> simp
    have h2 : ∀ a b : ByteArray, a.data.toList = b.data.toList → a = b := by
      intro a b h
      cases a; cases b
      simp only [ByteArray.mk.injEq]
      exact Array.toList_inj.1 h
    exact h2 _ _ h1
  cases A with
  | none =>
    have h0 : l = [] := by
      rcases l with _ | ⟨x, l⟩
      · rfl
      · obtain ⟨g, o, e, _⟩ := h (by simp)
        cases e
    subst h0
    simp [Conv.bytesToString, txt]
    rfl
  | some a =>
    have hl : (loadCells a n).run Tryd.prog w = .ok ((l.map fun b => (b.toNat : Int)).map (Value.int .u8)).toArray w := by
      have h3 := run_loadCells_list (P := Tryd.prog) w a ((l.map fun b => (b.toNat : Int)).map (Value.int .u8)) (fun j v hj => by
        have hjl : j < l.length := by
          have := getElem?_some_lt hj
          simpa using this
        obtain ⟨g, o, x, e, _, hx, hc⟩ := h.byte hjl
        obtain rfl := Option.some.inj e
        rw [addr_add, hc]
        rw [List.getElem?_map, List.getElem?_map, hx] at hj
        simpa using hj)
      simpa [hn] using h3
    rw [run_bytesToString w a n c (l.map fun b => (b.toNat : Int)) hl, foldl_push_bytes, ← hs]
    simp [strOfNums, ByteArray.empty, ByteArray.emptyWithCapacity]
    rfl

set_option maxHeartbeats 400000 in
theorem bytesEqual (A B : Option Addr) (n m c d : Nat) (xs ys : List UInt8) (w : World) (ha : Rd eB w w.heap.size A xs) (hb : Rd eB w w.heap.size B ys) (hx : xs.length = n) (hy : ys.length = m) :
    Calls Tryd.prog 65 #[.slice A n c, .slice B m d] w fun e w' => e = .returned (.bool (decide (xs = ys))) ∧ w = w' := by
  have h1 := conv_bytes (c := c) ha hx
  have h2 := conv_bytes (c := d) hb hy
  have Hb := Lib.hid (txt_beq xs ys)
  clear hx hy
  go_enter Tryd.func65, Tryd.ntmps65
  go_wp2
  go_ret
  exact ⟨by rw [← Hb.out]; rfl, rfl⟩

set_option maxHeartbeats 400000 in
theorem implSameBytes (A B : Option Addr) (n m c d : Nat) (xs ys : List UInt8) (w : World) (ha : Rd eB w w.heap.size A xs) (hb : Rd eB w w.heap.size B ys) (hx : xs.length = n) (hy : ys.length = m) :
    Calls Tryd.prog 39 #[.slice A n c, .slice B m d] w fun e w' => e = .returned (.bool (decide (xs = ys))) ∧ w = w' := by
  have H := Lib.hid (bytesEqual A B n m c d xs ys w ha hb hx hy)
  clear hx hy
  go_enter Tryd.func39, Tryd.ntmps39
  go_wp2_with (go_at_call 65; refine H.out.mono ?_; rintro e w' ⟨rfl, rfl⟩)
  go_ret
  exact ⟨rfl, rfl⟩
end Go.Proofs.YteiclanlhnccnaaDoor
