import Derived.Test.YtkdfbaiolgndeaaBase
namespace Go.Proofs.Ytkdfbaiolgndeaa
open Go.RowKit

/-- Nothing but the blocks of a list has turned, and what is new. -/
structure Only (S : List Nat) (w w' : World) : Prop where
  os : w'.os = w.os
  tape : w'.tape = w.tape
  output : w'.output = w.output
  size : w.heap.size ≤ w'.heap.size
  block : ∀ k, k < w.heap.size → k ∉ S → w'.heap[k]? = w.heap[k]?
theorem Only.refl (S : List Nat) (w : World) : Only S w w := ⟨rfl, rfl, rfl, Nat.le_refl _, fun _ _ _ => rfl⟩
theorem Only.trans {S : List Nat} {a b c : World} (h : Only S a b) (k : Only S b c) : Only S a c :=
  ⟨k.os.trans h.os, k.tape.trans h.tape, k.output.trans h.output, Nat.le_trans h.size k.size, fun i hi hn => (k.block i (Nat.lt_of_lt_of_le hi h.size) hn).trans (h.block i hi hn)⟩
theorem Only.more {S T : List Nat} {w w' : World} (h : Only S w w') (hs : ∀ b ∈ S, b ∈ T) : Only T w w' := ⟨h.os, h.tape, h.output, h.size, fun k hk hn => h.block k hk (fun e => hn (hs k e))⟩
theorem Only.of_grown {w w' : World} {A : Option Addr} (h : w.grownBy w' (A.map (·.block))) : Only ((A.map (·.block)).toList) w w' :=
  ⟨h.os, h.tape, h.output, h.size, fun k hk hn => h.block k hk (by cases A <;> simp_all)⟩
theorem Only.within {S : List Nat} {w w' : World} {lo hi : Nat} (h : Only S w w') (hs : ∀ b ∈ S, lo ≤ b ∧ b < hi) : Within lo hi w w' :=
  ⟨h.os, h.tape, h.output, h.size, fun k hk hn => h.block k hk (fun e => by have := hs k e; omega)⟩
theorem Only.of_below {S : List Nat} {w w' : World} (h : Below w.heap.size w w') : Only S w w' := ⟨h.os, h.tape, h.output, h.size, fun k hk _ => h.block k hk⟩

/-- A slice's value in parts: where it leads, its length, its capacity. -/
structure Hd where
  A : Option Addr
  n : Nat
  c : Nat
def Hd.val (h : Hd) : Value := .slice h.A h.n h.c
def blkOf (A : Option Addr) : List Nat := (A.map (·.block)).toList
/-- A row within an element: its element type's number, the cells of one, what it holds. -/
structure Part where
  tid : Nat
  size : Nat
  xs : List Value
def Part.at_ (r : Part) (w : World) (base : Nat) (h : Hd) : Prop := w.ownsRow base r.tid r.size h.val h.n r.xs
/-- Elements that bear slices: the cells of one (its slices' values given), and what the slices hold. -/
structure DEnc (α : Type) where
  tid : Nat
  size : Nat
  cells : α → List Hd → List Value
  parts : α → List Part
def DEnc.enc {α : Type} (E : DEnc α) : Enc (α × List Hd) := ⟨E.tid, E.size, fun p => E.cells p.1 p.2⟩
def PartsAt (w : World) (base : Nat) (rs : List Part) (hs : List Hd) : Prop := rs.length = hs.length ∧ ∀ (j : Nat) (r : Part) (h : Hd), rs[j]? = some r → hs[j]? = some h → r.at_ w base h
def blks {α : Type} (ps : List (α × List Hd)) : List Nat := ps.flatMap fun p => p.2.flatMap fun h => blkOf h.A
/-- A row of the call's own whose elements bear rows of the call's own: all in blocks of their own ('fp': these blocks). -/
def DOw {α : Type} (E : DEnc α) (w : World) (base : Nat) (A : Option Addr) (n c : Nat) (ps : List (α × List Hd)) : Prop :=
  Ow E.enc w base A n c ps ∧ (∀ p ∈ ps, PartsAt w base (E.parts p.1) p.2) ∧ (blkOf A ++ blks ps).Nodup

section
variable {α : Type} {E : DEnc α} {w w' : World} {base n c : Nat} {A : Option Addr} {ps : List (α × List Hd)}
theorem blkOf_lt {tid size n c : Nat} {xs : List Value} (h : w.ownsRow base tid size (.slice A n c) n xs) : ∀ b ∈ blkOf A, base ≤ b ∧ b < w.heap.size := by
  intro b hb
  refine World.ownsRow.lt h b ?_
  cases A with
  | none => simp [blkOf] at hb
  | some a => simpa [blkOf, Value.ownBlock, eq_comm] using hb
theorem mem_blks {p : α × List Hd} {h : Hd} {b : Nat} (hp : p ∈ ps) (hh : h ∈ p.2) (hb : b ∈ blkOf h.A) : b ∈ blks ps :=
  List.mem_flatMap.2 ⟨p, hp, List.mem_flatMap.2 ⟨h, hh, hb⟩⟩
theorem PartsAt.mem {rs : List Part} {hs : List Hd} (h : PartsAt w base rs hs) {x : Hd} (hx : x ∈ hs) : ∃ r ∈ rs, r.at_ w base x := by
  obtain ⟨j, hj⟩ := List.mem_iff_getElem?.1 hx
  have hl := getElem?_some_lt hj
  have hl' : j < rs.length := by rw [h.1]; exact hl
  have hr : rs[j]? = some rs[j] := List.getElem?_eq_getElem hl'
  exact ⟨_, List.mem_of_getElem? hr, h.2 j _ _ hr hj⟩
theorem DOw.lt (h : DOw E w base A n c ps) : ∀ b ∈ blkOf A ++ blks ps, base ≤ b ∧ b < w.heap.size := by
  intro b hb
  rcases List.mem_append.1 hb with hb | hb
  · exact blkOf_lt h.1 b hb
  · obtain ⟨p, hp, hb⟩ := List.mem_flatMap.1 hb
    obtain ⟨x, hx, hb⟩ := List.mem_flatMap.1 hb
    obtain ⟨r, _, hr⟩ := (h.2.1 p hp).mem hx
    exact blkOf_lt hr b hb
theorem row_keep {tid size : Nat} {xs : List Value} (h : w.ownsRow base tid size (.slice A n c) n xs) (hk : ∀ b ∈ blkOf A, w'.heap[b]? = w.heap[b]?) : w'.ownsRow base tid size (.slice A n c) n xs := by
  refine ⟨h.1, ?_⟩
  rcases h.2 with h0 | ⟨g, cap, cur, hv, hb, hgg, rest⟩
  · exact .inl h0
  · refine .inr ⟨g, cap, cur, hv, hb, ?_, rest⟩
    simp only [Value.slice.injEq] at hv
    rw [hk g (by rw [hv.1]; simp [blkOf])]
    exact hgg
theorem Ow.keep {β : Type} {F : Enc β} {l : List β} (h : Ow F w base A n c l) (hk : ∀ b ∈ blkOf A, w'.heap[b]? = w.heap[b]?) : Ow F w' base A n c l := row_keep h hk
theorem PartsAt.keep {rs : List Part} {hs : List Hd} (h : PartsAt w base rs hs) (hk : ∀ b ∈ hs.flatMap (fun x => blkOf x.A), w'.heap[b]? = w.heap[b]?) : PartsAt w' base rs hs :=
  ⟨h.1, fun j r x hr hx => row_keep (h.2 j r x hr hx) fun b hb => hk b (List.mem_flatMap.2 ⟨x, List.mem_of_getElem? hx, hb⟩)⟩
theorem DOw.keep (h : DOw E w base A n c ps) (hk : ∀ b ∈ blkOf A ++ blks ps, w'.heap[b]? = w.heap[b]?) : DOw E w' base A n c ps :=
  ⟨h.1.keep fun b hb => hk b (List.mem_append_left _ hb),
   fun p hp => (h.2.1 p hp).keep fun b hb => hk b (List.mem_append_right _ (List.mem_flatMap.2 ⟨p, hp, hb⟩)), h.2.2⟩
theorem DOw.below {B : Nat} (h : DOw E w base A n c ps) (hb : Below B w w') (hB : w.heap.size ≤ B) : DOw E w' base A n c ps :=
  h.keep fun b hb' => hb.block b (Nat.lt_of_lt_of_le (h.lt b hb').2 hB)
theorem DOw.alloc (h : DOw E w base A n c ps) (o : Obj) : DOw E (w.alloc o) base A n c ps :=
  h.keep fun b hb' => Below.heap_alloc w o b (h.lt b hb').2
theorem DOw.grown {row : Option Nat} (h : DOw E w base A n c ps) (hg : w.grownBy w' row) (hr : ∀ g, row = some g → g ∉ blkOf A ++ blks ps) : DOw E w' base A n c ps :=
  h.keep fun b hb' => hg.block b (h.lt b hb').2 (fun e => hr b e.symm hb')
theorem DOw.within {lo hi lo' hi' : Nat} (h : DOw E w base A n c ps) (k : Within lo' hi' w w') (hr : ∀ g ∈ blkOf A ++ blks ps, lo ≤ g ∧ g < hi) (hd : hi ≤ lo' ∨ hi' ≤ lo) : DOw E w' base A n c ps :=
  h.keep fun b hb' => k.block b (h.lt b hb').2 (by have := hr b hb'; omega)
theorem row_from {tid size base' : Nat} {xs : List Value} (h : w.ownsRow base tid size (.slice A n c) n xs) (hb : base' ≤ base) : w.ownsRow base' tid size (.slice A n c) n xs := by
  refine ⟨h.1, ?_⟩
  rcases h.2 with h0 | ⟨g, cap, cur, hv, hb', rest⟩
  · exact .inl h0
  · exact .inr ⟨g, cap, cur, hv, Nat.le_trans hb hb', rest⟩
theorem DOw.from_ {base' : Nat} (h : DOw E w base A n c ps) (hb : base' ≤ base) : DOw E w base' A n c ps :=
  ⟨h.1.from_ hb, fun p hp => ⟨(h.2.1 p hp).1, fun j r x hr hx => row_from ((h.2.1 p hp).2 j r x hr hx) hb⟩, h.2.2⟩
theorem DOw.under (h : DOw E w base A n c ps) {p : Addr} (hp : p.block < base) (u : Value) : DOw E (w.setCell p u) base A n c ps :=
  h.keep fun b hb' => Below.heap_setCell w p u b (by have := (h.lt b hb').1; omega)
theorem DOw.nil : DOw E w base none 0 0 [] := ⟨Ow.nil, fun p hp => absurd hp (by simp), by simp [blkOf, blks]⟩
end

theorem set_same {β γ : Type} (f : β → γ) (l : List β) (k : Nat) (a a' : β) (hk : l[k]? = some a) (h : f a' = f a) : (l.set k a').map f = l.map f := by
  apply List.ext_getElem?
  intro i
  rw [List.getElem?_map, List.getElem?_map, List.getElem?_set]
  have hl := getElem?_some_lt hk
  by_cases hi : k = i
  · subst hi
    rw [if_pos rfl, if_pos hl, hk]
    simpa using h
  · rw [if_neg hi]
theorem flat_same {β γ : Type} (f : β → List γ) (l : List β) (k : Nat) (a a' : β) (hk : l[k]? = some a) (h : f a' = f a) : (l.set k a').flatMap f = l.flatMap f := by
  rw [List.flatMap_def, List.flatMap_def, set_same f l k a a' hk h]
theorem flat_apart {β γ : Type} {f : β → List γ} {l : List β} (hn : (l.flatMap f).Nodup) {i j : Nat} {x y : β} (hi : l[i]? = some x) (hj : l[j]? = some y) (hne : i ≠ j) {b : γ} (hb : b ∈ f x) : b ∉ f y := by
  obtain ⟨_, hp⟩ := List.pairwise_flatMap.1 hn
  have h1 := getElem?_some_lt hi
  have h2 := getElem?_some_lt hj
  rw [List.pairwise_iff_getElem] at hp
  rw [List.getElem?_eq_getElem h1] at hi
  rw [List.getElem?_eq_getElem h2] at hj
  obtain rfl := Option.some.inj hi
  obtain rfl := Option.some.inj hj
  intro hb'
  rcases Nat.lt_or_gt_of_ne hne with h | h
  · exact hp i j h1 h2 h b hb b hb' rfl
  · exact hp j i h2 h1 h b hb' b hb rfl
/-- What an element's rows hold has turned, and nothing else. -/
theorem DOw.setAt {α : Type} {E : DEnc α} {w w' : World} {base n c : Nat} {A : Option Addr} {ps : List (α × List Hd)} (h : DOw E w base A n c ps) {k : Nat} {a a' : α} {hs : List Hd} (hk : ps[k]? = some (a, hs)) (hc : E.cells a' hs = E.cells a hs)
    (hch : ∀ b, b < w.heap.size → b ∉ hs.flatMap (fun x => blkOf x.A) → w'.heap[b]? = w.heap[b]?) (hp : PartsAt w' base (E.parts a') hs) : DOw E w' base A n c (ps.set k (a', hs)) := by
  have hb : blks (ps.set k (a', hs)) = blks ps := flat_same (fun p : α × List Hd => p.2.flatMap fun h : Hd => blkOf h.A) ps k (a, hs) (a', hs) hk rfl
  have hnd := h.2.2
  have hdis : ∀ b ∈ blkOf A, b ∉ hs.flatMap (fun x => blkOf x.A) := fun b hb1 hb2 =>
    (List.nodup_append.1 hnd).2.2 b hb1 b (List.mem_flatMap.2 ⟨(a, hs), List.mem_of_getElem? hk, hb2⟩) rfl
  have hin : (ps.flatMap fun p : α × List Hd => p.2.flatMap fun h => blkOf h.A).Nodup := (List.nodup_append.1 hnd).2.1
  refine ⟨?_, fun p hp' => ?_, by rw [hb]; exact hnd⟩
  · have h1 : Ow E.enc w' base A n c ps := h.1.keep fun b hb1 => hch b (h.lt b (List.mem_append_left _ hb1)).2 (hdis b hb1)
    have h2 : E.enc.row (ps.set k (a', hs)) = E.enc.row ps := flat_same E.enc.cells ps k (a, hs) (a', hs) hk hc
    unfold Ow
    rw [h2]
    exact h1
  · obtain ⟨i, hi⟩ := List.mem_iff_getElem?.1 hp'
    rw [List.getElem?_set] at hi
    by_cases e : k = i
    · subst e
      rw [if_pos rfl, if_pos (getElem?_some_lt hk)] at hi
      obtain rfl := Option.some.inj hi
      exact hp
    · rw [if_neg e] at hi
      refine (h.2.1 p (List.mem_of_getElem? hi)).keep fun b hb1 => hch b (h.lt b (List.mem_append_right _ (List.mem_flatMap.2 ⟨p, List.mem_of_getElem? hi, hb1⟩))).2 ?_
      exact flat_apart (f := fun p : α × List Hd => p.2.flatMap fun x => blkOf x.A) hin hi hk (fun e' => e e'.symm) hb1

theorem blks_snoc {α : Type} (ps : List (α × List Hd)) (p : α × List Hd) : blks (ps ++ [p]) = blks ps ++ p.2.flatMap fun h => blkOf h.A := by simp [blks]
/-- One more element behind the others. -/
theorem DOw.snoc {α : Type} {E : DEnc α} {w w1 : World} {base n c c1 : Nat} {A A1 : Option Addr} {ps : List (α × List Hd)} {a : α} {hs : List Hd} (h : DOw E w base A n c ps) (hp : PartsAt w base (E.parts a) hs)
    (hnd : (hs.flatMap fun x => blkOf x.A).Nodup) (hdis : ∀ b ∈ hs.flatMap (fun x => blkOf x.A), b ∉ blkOf A ++ blks ps) (how : Ow E.enc w1 base A1 (n + 1) c1 (ps ++ [(a, hs)])) (hg : w.grownBy w1 (A.map (·.block)))
    (hat : A1.map (·.block) = A.map (·.block) ∨ A1.map (·.block) = some w.heap.size) : DOw E w1 base A1 (n + 1) c1 (ps ++ [(a, hs)]) := by
  have hlt := h.lt
  have hnA := List.nodup_append.1 h.2.2
  have hsl : ∀ b ∈ hs.flatMap (fun x => blkOf x.A), b < w.heap.size := fun b hb => by
    obtain ⟨x, hx, hb⟩ := List.mem_flatMap.1 hb
    obtain ⟨r, _, hr⟩ := hp.mem hx
    exact (blkOf_lt hr b hb).2
  have hblk : ∀ b, b < w.heap.size → b ∉ blkOf A → w1.heap[b]? = w.heap[b]? := fun b hb hn => hg.block b hb (fun e => hn (by
    unfold blkOf
    rw [← e]
    simp))
  refine ⟨how, fun p hp' => ?_, ?_⟩
  · rcases List.mem_append.1 hp' with h1 | h1
    · refine (h.2.1 p h1).keep fun b hb => ?_
      have hm : b ∈ blks ps := List.mem_flatMap.2 ⟨p, h1, hb⟩
      exact hblk b (hlt b (List.mem_append_right _ hm)).2 (fun e => hnA.2.2 b e b hm rfl)
    · obtain rfl : p = (a, hs) := by simpa using h1
      exact hp.keep fun b hb => hblk b (hsl b hb) (fun e => hdis b hb (List.mem_append_left _ e))
  · rw [blks_snoc]
    have hA1 : ∀ b ∈ blkOf A1, b ∈ blkOf A ∨ b = w.heap.size := fun b hb => by
      unfold blkOf at hb ⊢
      rcases hat with e | e
      · rw [e] at hb; exact .inl hb
      · rw [e] at hb; exact .inr (by simpa using hb)
    refine List.nodup_append.2 ⟨?_, List.nodup_append.2 ⟨hnA.2.1, hnd, fun b hb b' hb' e => ?_⟩, fun b hb b' hb' e => ?_⟩
    · unfold blkOf
      cases A1 <;> simp
    · subst e
      exact hdis b hb' (List.mem_append_right _ hb)
    · subst e
      rcases hA1 b hb with h1 | h1
      · rcases List.mem_append.1 hb' with h2 | h2
        · exact hnA.2.2 b h1 b h2 rfl
        · exact hdis b h2 (List.mem_append_left _ h1)
      · rcases List.mem_append.1 hb' with h2 | h2
        · have := (hlt b (List.mem_append_right _ h2)).2
          omega
        · have := hsl b h2
          omega

/-- Rows of bytes. -/
def eBB : DEnc (List UInt8) := ⟨22, 1, fun _ hs => [(hs.headD ⟨none, 0, 0⟩).val], fun b => [⟨5, 1, eB.row b⟩]⟩
theorem okBB : EncOk eBB.enc := ⟨fun _ => rfl, fun a u hu => by simp only [DEnc.enc, eBB, List.mem_singleton] at hu; subst hu; rfl, Nat.one_pos⟩
theorem info_bb : (Try.prog.info? 22).map (fun i => (i.zero, i.size, i.bytes)) = some (some (.slice none 0 0), 1, 24) := by kernel_rfl

theorem part_one {w : World} {base base' : Nat} {x : Hd} {b : List UInt8} (h : Ow eB w base' x.A x.n x.c b) (hb : base ≤ base') : PartsAt w base (eBB.parts b) [x] := by
  refine ⟨rfl, fun i r h' hr hh => ?_⟩
  match i, hr, hh with
  | 0, hr, hh =>
    obtain rfl := Option.some.inj hr
    obtain rfl := Option.some.inj hh
    exact h.from_ hb
  | i + 1, hr, hh => simp at hh
/-- A row that was made behind the others, put behind them. -/
theorem DOw.snocB {w0 w w1 : World} {base n c c1 : Nat} {A A1 : Option Addr} {ps : List (List UInt8 × List Hd)} {b : List UInt8} {x : Hd} (h0 : DOw eBB w0 base A n c ps) (h : DOw eBB w base A n c ps) (hx : Ow eB w w0.heap.size x.A x.n x.c b) (hb : base ≤ w0.heap.size)
    (how : Ow eBB.enc w1 base A1 (n + 1) c1 (ps ++ [(b, [x])])) (hg : w.grownBy w1 (A.map (·.block))) (hat : A1.map (·.block) = A.map (·.block) ∨ A1.map (·.block) = some w.heap.size) : DOw eBB w1 base A1 (n + 1) c1 (ps ++ [(b, [x])]) := by
  refine h.snoc (part_one hx hb) ?_ (fun k hk hk' => ?_) how hg hat
  · simp only [List.flatMap_cons, List.flatMap_nil, List.append_nil, blkOf]
    cases x.A <;> simp
  · have h1 := (h0.lt k hk').2
    simp only [List.flatMap_cons, List.flatMap_nil, List.append_nil] at hk
    have h2 := (blkOf_lt hx k hk).1
    omega
theorem rd_one_row (w : World) (t : TypeId) (b : List UInt8) (x : Hd) : Rd eBB.enc (w.alloc (.cells #[.slice x.A x.n x.c] t)) (w.heap.size + 1) (some ⟨w.heap.size, 0, none⟩) [(b, [x])] := rd_lit okBB w t _ _ rfl

section
variable {w : World} {base n c : Nat} {A : Option Addr} {ps : List (List UInt8 × List Hd)}
/-- One row of it. -/
theorem DOw.row (h : DOw eBB w base A n c ps) {k : Nat} {p : List UInt8 × List Hd} (hk : ps[k]? = some p) :
    ∃ g x, A = some ⟨g, 0, none⟩ ∧ p.2 = [x] ∧ w.cell? ⟨g, k, none⟩ = some (.slice x.A x.n x.c) ∧ Ow eB w base x.A x.n x.c p.1 := by
  have hl := getElem?_some_lt hk
  have hn := Ow.len okBB h.1
  obtain ⟨g, rfl, _, _⟩ := Ow.form h.1 (by omega)
  obtain ⟨h1, h2⟩ := h.2.1 p (List.mem_of_getElem? hk)
  obtain ⟨b, hs⟩ := p
  match hs, h1 with
  | [x], _ =>
    refine ⟨g, x, rfl, rfl, ?_, h2 0 _ x rfl rfl⟩
    have := Ow.cellAt okBB h.1 hk (j := 0) (u := x.val) rfl
    simpa [DEnc.enc, eBB, Hd.val] using this
end
end Go.Proofs.Ytkdfbaiolgndeaa
