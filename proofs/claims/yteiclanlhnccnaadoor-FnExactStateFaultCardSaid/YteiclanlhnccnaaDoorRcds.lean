/-
  Rows of records: how they lie in memory.
-/
import Derived.Test.YteiclanlhnccnaaDoorHnts
namespace Go.Proofs.YteiclanlhnccnaaDoor
set_option maxRecDepth 20000
open Go.RowKit
set_option linter.unusedSimpArgs false

/-- A record: its kind, its node, its sample, its number. -/
abbrev Rcd := Int × Int × Smp × Int
def rcdCells (x : Rcd) : List Value := [.int .i64 x.1, .int .i64 x.2.1, .int .i64 x.2.2.1.1, .int .i64 x.2.2.1.2.1, .int .i64 x.2.2.1.2.2.1, .int .i64 x.2.2.1.2.2.2, .int .i64 x.2.2.2]
theorem rcd_one (a : Rcd) (u : Value) (hu : u ∈ rcdCells a) : u.oneCell' = true := by
  simp only [rcdCells, List.mem_cons, List.not_mem_nil, or_false] at hu
  rcases hu with rfl | rfl | rfl | rfl | rfl | rfl | rfl <;> rfl
/-- Records. -/
def eR : Enc Rcd := ⟨29, 7, rcdCells⟩
theorem okR : EncOk eR := ⟨fun _ => rfl, rcd_one, by decide⟩
/-- The law's own records. -/
def eRL : Enc Rcd := ⟨25, 7, rcdCells⟩
theorem okRL : EncOk eRL := ⟨fun _ => rfl, rcd_one, by decide⟩
abbrev zeroR : Rcd := (0, 0, (0, 0, 0, 0), 0)
theorem info_rcd : (Tryd.prog.info? 29).map (fun i => (i.zero, i.size, i.bytes)) = some (some (.agg #[.int .i64 0, .int .i64 0, .int .i64 0, .int .i64 0, .int .i64 0, .int .i64 0, .int .i64 0]), 7, 56) := by kernel_rfl

section
variable {w w' : World} {base hi n c : Nat} {A : Option Addr} {l : List Rcd}
theorem Rd.rcd (h : Rd eR w hi A l) {k : Nat} (hk : k < l.length) : ∃ g o a0 a1 a2 a3 a4 a5 a6, A = some ⟨g, o, none⟩ ∧ g < hi ∧ l[k]? = some (a0, a1, (a2, a3, a4, a5), a6) ∧ S7 w g (o + k * 7) a0 a1 a2 a3 a4 a5 a6 := by
  obtain ⟨g, o, ⟨a0, a1, ⟨a2, a3, a4, a5⟩, a6⟩, e, hg, ha, hc⟩ := h.at_ hk
  exact ⟨g, o, a0, a1, a2, a3, a4, a5, a6, e, hg, ha, hc 0 _ rfl, hc 1 _ rfl, hc 2 _ rfl, hc 3 _ rfl, hc 4 _ rfl, hc 5 _ rfl, hc 6 _ rfl⟩
theorem Rd.rcd_is {g o k : Nat} {a0 a1 a2 a3 a4 a5 a6 : Int} (h : Rd eR w hi (some ⟨g, o, none⟩) l) (hk : l[k]? = some (a0, a1, (a2, a3, a4, a5), a6)) : S7 w g (o + k * 7) a0 a1 a2 a3 a4 a5 a6 := by
  obtain ⟨g', o', e, _, hc⟩ := h (by intro e; subst e; simp at hk)
  obtain ⟨rfl, rfl⟩ : g = g' ∧ o = o' := by simpa using Option.some.inj e
  exact ⟨hc k 0 _ _ hk rfl, hc k 1 _ _ hk rfl, hc k 2 _ _ hk rfl, hc k 3 _ _ hk rfl, hc k 4 _ _ hk rfl, hc k 5 _ _ hk rfl, hc k 6 _ _ hk rfl⟩
theorem Rd.rcdQ (h : Rd eRL w hi A l) {k : Nat} (hk : k < l.length) : ∃ g o a0 a1 a2 a3 a4 a5 a6, A = some ⟨g, o, none⟩ ∧ g < hi ∧ l[k]? = some (a0, a1, (a2, a3, a4, a5), a6) ∧ S7 w g (o + k * 7) a0 a1 a2 a3 a4 a5 a6 := h.rcd hk
theorem Ow.rcdAt {g : Nat} (h : Ow eR w base (some ⟨g, 0, none⟩) n c l) {k : Nat} {a0 a1 a2 a3 a4 a5 a6 : Int} (hk : l[k]? = some (a0, a1, (a2, a3, a4, a5), a6)) : S7 w g (k * 7) a0 a1 a2 a3 a4 a5 a6 :=
  ⟨h.cellAt okR hk (j := 0) rfl, h.cellAt okR hk (j := 1) rfl, h.cellAt okR hk (j := 2) rfl, h.cellAt okR hk (j := 3) rfl, h.cellAt okR hk (j := 4) rfl, h.cellAt okR hk (j := 5) rfl, h.cellAt okR hk (j := 6) rfl⟩
end
end Go.Proofs.YteiclanlhnccnaaDoor
