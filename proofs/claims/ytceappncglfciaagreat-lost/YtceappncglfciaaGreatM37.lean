import Derived.Test.YtceappncglfciaaGreatM23
import Derived.Test.YtceappncglfciaaGreatM24
import Derived.Deep.LoopGhost
import Derived.Deep.CutBlock
import Derived.Deep.DeepCutAuto
set_option linter.unusedVariables false
set_option linter.unusedSimpArgs false
/-
  Credentials that came in; a configuration that is made of them.
-/
namespace Go.Proofs.YtceappncglfciaaGreat
open Go.RowKit

/-- Credentials that came in. -/
structure RawAt (W : World) (v : Value) (l : List CredM) : Prop where
  is : ∃ a cap, v = .slice a l.length cap ∧ (0 < l.length → ∃ g o, a = some ⟨g, o, none⟩ ∧ g < W.heap.size ∧ ∀ i j, i < l.length → j < 4 → W.cell? ⟨g, o + i * 4 + j, none⟩ = (credCells (l.getD i credZ))[j]?)
  len : l.length ≤ 100000000000000
  i64 : ∀ c ∈ l, I64 c.p ∧ I64 c.t ∧ I64 c.e ∧ I64 c.v
/-- A slice that owns its row: its block lies from the base on. -/
theorem own_base {W : World} {base : Nat} {e : TypeId} {size : Nat} {v : Value} {n b : Nat} {xs : List Value} (h : W.ownsRow base e size v n xs) (hb : v.ownBlock = some b) : base ≤ b := by
  rcases h.2 with ⟨rfl, _⟩ | ⟨g, cap, cur, rfl, hg, _⟩
  · simp [Value.ownBlock] at hb
  · have : g = b := by simpa [Value.ownBlock] using hb
    omega
theorem Tryz.infoCred : (Tryz.prog.info? 39).map (fun i => (i.zero, i.size, i.bytes)) = some (some (.agg #[.int .i64 0, .int .i64 0, .int .i64 0, .int .i64 0]), 4, 32) := by kernel_rfl
/-- A list out of a function on places. -/
def listOf {α : Type} (f : Nat → α) : Nat → List α
  | 0 => []
  | k + 1 => listOf f k ++ [f k]
theorem listOf_len {α : Type} (f : Nat → α) : ∀ k, (listOf f k).length = k
  | 0 => rfl
  | k + 1 => by rw [listOf, List.length_append, listOf_len f k]; rfl
theorem listOf_get {α : Type} (f : Nat → α) (d : α) : ∀ k i, i < k → (listOf f k).getD i d = f i
  | k + 1, i, h => by
    rw [listOf, List.getD_eq_getElem?_getD]
    by_cases hi : i < k
    · rw [List.getElem?_append_left (by rw [listOf_len]; exact hi), ← List.getD_eq_getElem?_getD]
      exact listOf_get f d k i hi
    · have : i = k := by omega
      subst this
      rw [List.getElem?_append_right (by rw [listOf_len]; exact Nat.le_refl _), listOf_len]
      simp
theorem listOf_mem {α : Type} (f : Nat → α) {P : α → Prop} : ∀ k, (∀ i, i < k → P (f i)) → ∀ x ∈ listOf f k, P x
  | 0, _, x, hx => absurd hx List.not_mem_nil
  | k + 1, h, x, hx => by
    rw [listOf] at hx
    rcases List.mem_append.1 hx with h1 | h1
    · exact listOf_mem f k (fun i hi => h i (by omega)) x h1
    · rw [List.mem_singleton.1 h1]
      exact h k (by omega)
/-- What holds at the head of a loop that makes a configuration. -/
structure InvC (w0 : World) (f : Nat → CredM) (a1 a2 : Int) (k : Nat) (wr : World) : Prop where
  conf : ∃ v, Box wr w0.heap.size #[v, .int .i64 a1, .int .i64 a2, .int .i64 1000] 24 ∧ wr.ownsRow (w0.heap.size + 1) 39 4 v k ((listOf f k).flatMap credCells)
  below : Below w0.heap.size w0 wr
  size : w0.heap.size + 1 ≤ wr.heap.size
section
variable {w0 wr wc X w2 : World} {f : Nat → CredM} {a1 a2 : Int} {k g cap : Nat} {v : Value}
theorem InvC.start (w0 : World) (f : Nat → CredM) (a1 a2 : Int) : InvC w0 f a1 a2 0 (w0.alloc (.cells #[.slice none 0 0, .int .i64 a1, .int .i64 a2, .int .i64 1000] 24)) :=
  ⟨⟨.slice none 0 0, Box.new w0 _ _, rfl, .inl ⟨rfl, rfl⟩⟩, (Below.refl _ _).alloc (Nat.le_refl _) _, by simp⟩
theorem InvC.alloc (h : InvC w0 f a1 a2 k wr) (o : Obj) : InvC w0 f a1 a2 k (wr.alloc o) := by
  obtain ⟨v, h4, h5⟩ := h.conf
  exact ⟨⟨v, h4.alloc _, h5.alloc _⟩, h.below.alloc h.below.size _, by rw [World.size_alloc]; have := h.size; omega⟩
theorem InvC.appended (h : InvC w0 f a1 a2 k wc) (hb1 : Box wc w0.heap.size #[v, .int .i64 a1, .int .i64 a2, .int .i64 1000] 24)
    (hv : wc.ownsRow (w0.heap.size + 1) 39 4 v k ((listOf f k).flatMap credCells)) {d : CredM} (hd : d = f k) (hX : Below wc.heap.size wc X) (hg : X.grownBy w2 v.ownBlock)
    (hown : w2.ownsRow (w0.heap.size + 1) 39 4 (.slice (some ⟨g, 0, none⟩) (k + 1) cap) (k + 1) ((listOf f k).flatMap credCells ++ credCells d)) :
    InvC w0 f a1 a2 (k + 1) (w2.setCell ⟨w0.heap.size, 0, none⟩ (.slice (some ⟨g, 0, none⟩) (k + 1) cap)) := by
  have hsz := h.size
  have keep : ∀ b, b < w0.heap.size + 1 → w2.heap[b]? = wc.heap[b]? := fun b hb => (hg.block b (by have := hX.size; omega) (fun e => by have := own_base hv e.symm; omega)).trans (hX.block b (by omega))
  have k1 : Box w2 w0.heap.size #[v, .int .i64 a1, .int .i64 a2, .int .i64 1000] 24 := (keep _ (by omega)).trans hb1
  refine ⟨⟨_, k1.set 0 _, ?_⟩, ?_, ?_⟩
  · have e : (listOf f (k + 1)).flatMap credCells = (listOf f k).flatMap credCells ++ credCells d := by
      rw [listOf, List.flatMap_append, hd]; simp
    rw [e]
    refine own_same hown (fun b hb => Below.heap_setCell w2 _ _ b (fun e => ?_))
    have := own_base hown hb
    have e2 : b = w0.heap.size := e
    omega
  · have hb2 : Below w0.heap.size w0 w2 := by
      refine ⟨hg.os.trans (hX.os.trans h.below.os), hg.tape.trans (hX.tape.trans h.below.tape), hg.output.trans (hX.output.trans h.below.output), Nat.le_trans h.below.size (Nat.le_trans hX.size hg.size), fun b hb => (keep b (by omega)).trans (h.below.block b hb)⟩
    exact hb2.setCell (Nat.le_refl _) _
  · have := hX.size
    have := hg.size
    simp
    omega
theorem InvC.other (h : InvC w0 f a1 a2 k wc) {a : Addr} (h0 : w0.heap.size + 1 ≤ a.block) (hne : ∀ u, wc.cell? ⟨w0.heap.size, 0, none⟩ = some u → u.ownBlock ≠ some a.block) (u : Value) : InvC w0 f a1 a2 k (wc.setCell a u) := by
  obtain ⟨v, h4, h5⟩ := h.conf
  exact ⟨⟨v, h4.setOther (by omega) _, own_same h5 (fun b hb => Below.heap_setCell wc a u b (fun e => hne v (h4.cell 0) (by rw [hb, e])))⟩, h.below.setCell (by omega) _, by simpa using h.size⟩
theorem InvC.drew (h : InvC w0 f a1 a2 k wc) : InvC w0 f a1 a2 k wc.drew := by
  obtain ⟨v, h4, h5⟩ := h.conf
  exact ⟨⟨v, h4, h5⟩, h.below.drew, h.size⟩
theorem InvC.drewN (h : InvC w0 f a1 a2 k wc) (m : Nat) : InvC w0 f a1 a2 k (wc.drewN m) := by
  obtain ⟨v, h4, h5⟩ := h.conf
  exact ⟨⟨v, h4, h5⟩, below_drewN h.below m, h.size⟩
/-- Four cells laid over in a block that is none of those. -/
theorem InvC.four (h : InvC w0 f a1 a2 k wc) {b : Nat} (h0 : w0.heap.size + 1 ≤ b) (hne : ∀ u, wc.cell? ⟨w0.heap.size, 0, none⟩ = some u → u.ownBlock ≠ some b) (u0 u1 u2 u3 : Value) :
    InvC w0 f a1 a2 k ((((wc.setCell ⟨b, 0, none⟩ u0).setCell ⟨b, 1, none⟩ u1).setCell ⟨b, 2, none⟩ u2).setCell ⟨b, 3, none⟩ u3) ∧
    ∀ u, ((((wc.setCell ⟨b, 0, none⟩ u0).setCell ⟨b, 1, none⟩ u1).setCell ⟨b, 2, none⟩ u2).setCell ⟨b, 3, none⟩ u3).cell? ⟨w0.heap.size, 0, none⟩ = some u → u.ownBlock ≠ some b := by
  have step : ∀ (w : World) (j : Nat) (u : Value), (∀ u, w.cell? ⟨w0.heap.size, 0, none⟩ = some u → u.ownBlock ≠ some b) → ∀ u', (w.setCell ⟨b, j, none⟩ u).cell? ⟨w0.heap.size, 0, none⟩ = some u' → u'.ownBlock ≠ some b := fun w j u hw u' hu' =>
    hw u' ((World.cell?_of_block (Below.heap_setCell w ⟨b, j, none⟩ u w0.heap.size (by show w0.heap.size ≠ b; omega))).symm.trans hu')
  have n1 := step wc 0 u0 hne
  have n2 := step _ 1 u1 n1
  have n3 := step _ 2 u2 n2
  exact ⟨(((h.other (a := ⟨b, 0, none⟩) h0 hne u0).other (a := ⟨b, 1, none⟩) h0 n1 u1).other (a := ⟨b, 2, none⟩) h0 n2 u2).other (a := ⟨b, 3, none⟩) h0 n3 u3, step _ 3 u3 n3⟩
/-- The credentials of the list, one by one. -/
theorem InvC.row (h : InvC w0 f a1 a2 k wc) (hk : 0 < k) : ∃ g cap cur, Box wc w0.heap.size #[.slice (some ⟨g, 0, none⟩) k cap, .int .i64 a1, .int .i64 a2, .int .i64 1000] 24 ∧ (∀ i j, i < k → j < 4 → wc.cell? ⟨g, i * 4 + j, none⟩ = (credCells (f i))[j]?) ∧ w0.heap.size + 1 ≤ g ∧
    wc.heap[g]? = some (.cells cur 39 (0, 0)) ∧ cur.toList.take (k * 4) = (listOf f k).flatMap credCells ∧ k ≤ cap := by
  obtain ⟨v4, hb1, hown⟩ := h.conf
  obtain ⟨g, vcap4, cur, rfl, hgb, hgg, hcap, hmax, hcs, hct⟩ : ∃ g cap cur, v4 = .slice (some ⟨g, 0, none⟩) k cap ∧ w0.heap.size + 1 ≤ g ∧ wc.heap[g]? = some (.cells cur 39 (0, 0)) ∧ k ≤ cap ∧ cap ≤ maxLen ∧ cur.size = cap * 4 ∧ cur.toList.take (k * 4) = (listOf f k).flatMap credCells := by
    rcases hown.2 with ⟨_, h0⟩ | h
    · omega
    · exact h
  refine ⟨g, vcap4, cur, hb1, ?_, hgb, hgg, hct, hcap⟩
  intro i j hi hj
  have e1 : wc.cell? ⟨g, i * 4 + j, none⟩ = cur[i * 4 + j]? := cell_of_row wc g _ cur _ (0, 0) hgg
  have e2 : (cur.toList.take (k * 4))[i * 4 + j]? = cur[i * 4 + j]? := by rw [List.getElem?_take_of_lt (by omega), Array.getElem?_toList]
  have key : ∀ k, i < k → ((listOf f k).flatMap credCells)[i * 4 + j]? = (credCells (f i))[j]? := by
    intro k
    induction k with
    | zero => intro h; omega
    | succ k ih =>
      intro hik
      have hlen2 : ((listOf f k).flatMap credCells).length = k * 4 := by
        have : ∀ j, ((listOf f j).flatMap credCells).length = j * 4 := by
          intro j
          induction j with
          | zero => rfl
          | succ j ih => rw [listOf, List.flatMap_append, List.length_append, ih]; simp [credCells]; omega
        exact this k
      rw [listOf, List.flatMap_append]
      by_cases h1 : i < k
      · rw [List.getElem?_append_left (by omega)]
        exact ih h1
      · have : i = k := by omega
        subst this
        rw [List.getElem?_append_right (by omega), hlen2, Nat.add_sub_cancel_left]
        simp
  rw [e1, ← e2, hct, key k hi]
end
end Go.Proofs.YtceappncglfciaaGreat

/-
  The statement's own World: what lies in it at first.
-/
namespace Go.Proofs.YtceappncglfciaaGreat
open Go.RowKit
attribute [local go_sem ↓] Go.wp_at_zero Go.wp_at_succ

theorem zero_world_size : Tryz.zeroCells62.size = 8039 := by kernel_rfl
/-- How many peers a list of raw credentials makes. -/
def peersOf (n : Nat) : Int := 1 + pickI (n + 6) 7
def credsTo (l : List CredM) (n : Int) : Nat → List CredM
  | 0 => []
  | k + 1 => credsTo l n k ++ [credI (l.getD k credZ) n]
/-- What holds at the head of the loop that makes a configuration. -/
structure InvW (w0 : World) (l : List CredM) (m pw pl : Int) (k : Nat) (wr : World) : Prop where
  box : ∃ z, Box wr w0.heap.size z 62 ∧ z.size = 8039 ∧ z[1]? = some (.int .i64 (1 + m))
  conf : ∃ v, Box wr (w0.heap.size + 1) #[v, .int .i64 (1 + pw), .int .i64 (4 + pl), .int .i64 1000] 24 ∧ wr.ownsRow (w0.heap.size + 2) 39 4 v k ((credsTo l (1 + m) k).flatMap credCells)
  below : Below w0.heap.size w0 wr
  size : w0.heap.size + 2 ≤ wr.heap.size
/-- The same, the round's own credential besides. -/
structure InvX (w0 : World) (l : List CredM) (m pw pl : Int) (k bx : Nat) (wc : World) : Prop where
  inv : InvW w0 l m pw pl k wc
  x : Box wc bx (credCells (l.getD k credZ)).toArray 39
theorem InvW.alloc {w0 wr : World} {l : List CredM} {m pw pl : Int} {k : Nat} (h : InvW w0 l m pw pl k wr) (o : Obj) : InvW w0 l m pw pl k (wr.alloc o) := by
  obtain ⟨z, h1, h2, h3⟩ := h.box
  obtain ⟨v, h4, h5⟩ := h.conf
  exact ⟨⟨z, h1.alloc _, h2, h3⟩, ⟨v, h4.alloc _, h5.alloc _⟩, h.below.alloc h.below.size _, by rw [World.size_alloc]; have := h.size; omega⟩
/-- A store into a block that is none of those. -/
theorem InvW.other {w0 w : World} {l : List CredM} {m pw pl : Int} {k : Nat} (h : InvW w0 l m pw pl k w) {a : Addr} (h0 : w0.heap.size + 2 ≤ a.block) (hne : ∀ v, w.cell? ⟨w0.heap.size + 1, 0, none⟩ = some v → v.ownBlock ≠ some a.block) (u : Value) : InvW w0 l m pw pl k (w.setCell a u) := by
  obtain ⟨z, h1, h2, h3⟩ := h.box
  obtain ⟨v, h4, h5⟩ := h.conf
  refine ⟨⟨z, h1.setOther (by omega) _, h2, h3⟩, ⟨v, h4.setOther (by omega) _, own_same h5 (fun b hb => Below.heap_setCell w a u b (fun e => hne v (h4.cell 0) (by rw [hb, e])))⟩, h.below.setCell (by omega) _, by simpa using h.size⟩
theorem InvW.appended {w0 wc X w2 : World} {l : List CredM} {m pw pl : Int} {k g cap : Nat} {v : Value} {d : CredM} (h : InvW w0 l m pw pl k wc) (hb1 : Box wc (w0.heap.size + 1) #[v, .int .i64 (1 + pw), .int .i64 (4 + pl), .int .i64 1000] 24)
    (hv : wc.ownsRow (w0.heap.size + 2) 39 4 v k ((credsTo l (1 + m) k).flatMap credCells)) (hd : d = credI (l.getD k credZ) (1 + m)) (hX : Below wc.heap.size wc X) (hg : X.grownBy w2 v.ownBlock)
    (hown : w2.ownsRow (w0.heap.size + 2) 39 4 (.slice (some ⟨g, 0, none⟩) (k + 1) cap) (k + 1) ((credsTo l (1 + m) k).flatMap credCells ++ credCells d)) :
    InvW w0 l m pw pl (k + 1) (w2.setCell ⟨w0.heap.size + 1, 0, none⟩ (.slice (some ⟨g, 0, none⟩) (k + 1) cap)) := by
  obtain ⟨z, h1, h2, h3⟩ := h.box
  have hsz := h.size
  have keep : ∀ b, b < w0.heap.size + 2 → w2.heap[b]? = wc.heap[b]? := fun b hb => (hg.block b (by have := hX.size; omega) (fun e => by have := own_base hv e.symm; omega)).trans (hX.block b (by omega))
  have k0 : Box w2 w0.heap.size z 62 := (keep _ (by omega)).trans h1
  have k1 : Box w2 (w0.heap.size + 1) #[v, .int .i64 (1 + pw), .int .i64 (4 + pl), .int .i64 1000] 24 := (keep _ (by omega)).trans hb1
  refine ⟨⟨z, k0.setOther (by show w0.heap.size ≠ w0.heap.size + 1; omega) _, h2, h3⟩, ⟨_, k1.set 0 _, ?_⟩, ?_, ?_⟩
  · have e : (credsTo l (1 + m) (k + 1)).flatMap credCells = (credsTo l (1 + m) k).flatMap credCells ++ credCells d := by
      rw [credsTo, List.flatMap_append, hd]; simp
    rw [e]
    refine own_same hown (fun b hb => Below.heap_setCell w2 _ _ b (fun e => ?_))
    have := own_base hown hb
    have e2 : b = w0.heap.size + 1 := e
    omega
  · have hb2 : Below w0.heap.size w0 w2 := by
      refine ⟨hg.os.trans (hX.os.trans h.below.os), hg.tape.trans (hX.tape.trans h.below.tape), hg.output.trans (hX.output.trans h.below.output), Nat.le_trans h.below.size (Nat.le_trans hX.size hg.size), fun b hb => (keep b (by omega)).trans (h.below.block b hb)⟩
    exact hb2.setCell (by show w0.heap.size ≤ w0.heap.size + 1; omega) _
  · have := hX.size
    have := hg.size
    simp
    omega
/-- The last credential that was put into the list. -/
theorem InvW.row {w0 wc : World} {l : List CredM} {m pw pl : Int} {k : Nat} (h : InvW w0 l m pw pl (k + 1) wc) : ∃ g cap, wc.cell? ⟨w0.heap.size + 1, 0, none⟩ = some (.slice (some ⟨g, 0, none⟩) (k + 1) cap) ∧ (∀ j, j < 4 → wc.cell? ⟨g, k * 4 + j, none⟩ = (credCells (credI (l.getD k credZ) (1 + m)))[j]?) ∧ w0.heap.size + 2 ≤ g := by
  obtain ⟨v4, hb1, hown⟩ := h.conf
  obtain ⟨g, vcap4, cur, rfl, hgb, hgg, hcap, hmax, hcs, hct⟩ : ∃ g cap cur, v4 = .slice (some ⟨g, 0, none⟩) (k + 1) cap ∧ w0.heap.size + 2 ≤ g ∧ wc.heap[g]? = some (.cells cur 39 (0, 0)) ∧ k + 1 ≤ cap ∧ cap ≤ maxLen ∧ cur.size = cap * 4 ∧ cur.toList.take ((k + 1) * 4) = (credsTo l (1 + m) (k + 1)).flatMap credCells := by
    rcases hown.2 with ⟨_, h0⟩ | h
    · omega
    · exact h
  refine ⟨g, vcap4, hb1.cell 0, ?_, hgb⟩
  intro j hj
  have e1 : wc.cell? ⟨g, k * 4 + j, none⟩ = cur[k * 4 + j]? := cell_of_row wc g _ cur _ (0, 0) hgg
  have e2 : (cur.toList.take ((k + 1) * 4))[k * 4 + j]? = cur[k * 4 + j]? := by rw [List.getElem?_take_of_lt (by omega), Array.getElem?_toList]
  have hlen2 : ((credsTo l (1 + m) k).flatMap credCells).length = k * 4 := by
    have : ∀ j, ((credsTo l (1 + m) j).flatMap credCells).length = j * 4 := by
      intro j
      induction j with
      | zero => rfl
      | succ j ih => rw [credsTo, List.flatMap_append, List.length_append, ih]; simp [credCells]; omega
    exact this k
  rw [e1, ← e2, hct, credsTo, List.flatMap_append, List.getElem?_append_right (by omega), hlen2, Nat.add_sub_cancel_left]
  simp
theorem InvW.at0 {w0 wc : World} {l : List CredM} {m pw pl : Int} {k : Nat} (h : InvW w0 l m pw pl k wc) {o : Nat} (ho : o < 8039) : ∃ u, wc.cell? ⟨w0.heap.size, o, none⟩ = some u := by
  obtain ⟨z, h1, h2, h3⟩ := h.box
  rw [h1.cell o]
  exact ⟨z[o]'(by omega), by simp [show o < z.size from by omega]⟩
theorem InvW.frozen0 {w0 wc : World} {l : List CredM} {m pw pl : Int} {k : Nat} (h : InvW w0 l m pw pl k wc) (o : Nat) : wc.frozen? ⟨w0.heap.size, o, none⟩ = false := by
  obtain ⟨z, h1, h2, h3⟩ := h.box
  exact h1.frozen o
theorem InvW.set0 {w0 wc : World} {l : List CredM} {m pw pl : Int} {k : Nat} (h : InvW w0 l m pw pl k wc) {o : Nat} (ho : 2 ≤ o) (u : Value) : InvW w0 l m pw pl k (wc.setCell ⟨w0.heap.size, o, none⟩ u) := by
  obtain ⟨z, h1, h2, h3⟩ := h.box
  obtain ⟨v, h4, h5⟩ := h.conf
  refine ⟨⟨_, h1.set o u, by rw [Array.size_setIfInBounds]; exact h2, by rw [Array.getElem?_setIfInBounds_ne (by omega)]; exact h3⟩, ⟨v, h4.setOther (by show w0.heap.size + 1 ≠ w0.heap.size; omega) _, own_same h5 (fun b hb => Below.heap_setCell wc _ u b (fun e => ?_))⟩, h.below.setCell (Nat.le_refl _) _, by simpa using h.size⟩
  have := own_base h5 hb
  have e2 : b = w0.heap.size := e
  omega
theorem InvW.drew {w0 wc : World} {l : List CredM} {m pw pl : Int} {k : Nat} (h : InvW w0 l m pw pl k wc) : InvW w0 l m pw pl k wc.drew := by
  obtain ⟨z, h1, h2, h3⟩ := h.box
  obtain ⟨v, h4, h5⟩ := h.conf
  exact ⟨⟨z, h1, h2, h3⟩, ⟨v, h4, h5⟩, h.below.drew, h.size⟩
set_option maxRecDepth 100000 in
set_option maxHeartbeats 1000000 in
theorem world_any (S : TownRep) (D : Does S) (raw : Value) (l : List CredM) (wait lease : Int) (W : World) (hr : RawAt W raw l) (hw : I64 wait) (hl : I64 lease) :
    Calls Tryz.prog 11 #[raw, .int .i64 wait, .int .i64 lease] W fun o w' => ∃ bw bt bs, o = .returned (.pointer (some ⟨bw, 0, none⟩)) ∧ KW w' bw bt (peersOf l.length).toNat ∧
      S.R w' bt bs (TownM.new (1 + pickI wait 5) (4 + pickI lease 20) 1000 (credsTo l (peersOf l.length) (peersOf l.length).toNat)) ∧ Below W.heap.size W w' ∧ W.heap.size ≤ bw ∧ bw ∉ bs ∧ ∀ x ∈ bs, W.heap.size ≤ x := by
  obtain ⟨ra, rcap, rfl, hrow⟩ := hr.is
  have hlen := hr.len
  have hpr := pickI_range (l.length + 6) 7 (by omega)
  have hqr := pickI_range wait 5 (by omega)
  have hsr := pickI_range lease 20 (by omega)
  have HP1 := hide (fun w => pick_any (l.length + 6) 7 w (by omega) (by omega) (by omega) (by omega))
  have HP2 := hide (fun w => pick_any wait 5 w (by omega) (by omega) hw.1 hw.2)
  have HP3 := hide (fun w => pick_any lease 20 w (by omega) (by omega) hl.1 hl.2)
  have HN : Hid (peersOf l.length = 1 + pickI (l.length + 6) 7) := rfl
  generalize pickI (l.length + 6) 7 = m at *
  generalize pickI wait 5 = pw at *
  generalize pickI lease 20 = pl at *
  have HROW := hide hrow
  have HR := hide hr
  have HD := hide D
  clear hrow hr hw hl D
  go_enter Tryz.func11, Tryz.ntmps11
  go_wp2_with fail
  refine (unhide HP1 _).mono ?_
  rintro o w1 ⟨rfl, rfl⟩
  have hzs : (Tryz.zeroCells62.setIfInBounds 1 (Value.int .i64 (1 + m))).size = 8039 := by rw [Array.size_setIfInBounds]; exact zero_world_size
  have hz1 : (Tryz.zeroCells62.setIfInBounds 1 (Value.int .i64 (1 + m)))[1]? = some (.int .i64 (1 + m)) := by
    rw [Array.getElem?_setIfInBounds_self_of_lt (by rw [zero_world_size]; omega)]
  go_wp2_with fail
  generalize Tryz.zeroCells62.setIfInBounds 1 (Value.int .i64 (1 + m)) = z at *
  refine (unhide HP2 _).mono ?_
  rintro o w2 ⟨rfl, rfl⟩
  go_wp2_with fail
  refine (unhide HP3 _).mono ?_
  rintro o w2 ⟨rfl, rfl⟩
  go_wp2_with fail
  have HST : Hid (InvW w1 l m pw pl 0 ((w1.alloc (.cells z 62)).alloc (.cells #[.slice none 0 0, .int .i64 (1 + pw), .int .i64 (4 + pl), .int .i64 1000] 24))) := by
    refine ⟨⟨z, (Box.new w1 z _).alloc _, hzs, hz1⟩, ⟨.slice none 0 0, ?_, ?_⟩, ?_, by simp⟩
    · have := Box.new (w1.alloc (.cells z 62)) #[.slice none 0 0, .int .i64 (1 + pw), .int .i64 (4 + pl), .int .i64 1000] 24
      rw [World.size_alloc] at this
      exact this
    · exact ⟨rfl, .inl ⟨rfl, rfl⟩⟩
    · exact ((Below.refl _ _).alloc (Nat.le_refl _) _).alloc (by simp) _
  clear hzs hz1
  go_loopg [9] (1 + m).toNat (fun g n wr => ∃ k : Nat, (k : Int) ≤ 1 + m ∧ g = (1 + m - k).toNat ∧ n = .int .i64 k ∧ InvW w1 l m pw pl k wr)
  case atStart => exact ⟨0, by omega, by simp, rfl, unhide HST⟩
  case round =>
    obtain ⟨k, hk, rfl, rfl, hI⟩ := hrel
    by_cases hlt : (k : Int) < 1 + m
    · obtain ⟨z2, hb0, hs0, hn0⟩ := hI.box
      obtain ⟨v, hb1, hown⟩ := hI.conf
      have c1 := (hb0.cell 1).trans hn0
      have HI := hide hI
      clear hI
      have HX0 : Hid (∀ c : CredM, l.getD k credZ = c → InvX w1 l m pw pl k wr.heap.size (wr.alloc (.cells #[.int .i64 c.p, .int .i64 c.t, .int .i64 c.e, .int .i64 c.v] 39))) := fun c hc => by
        refine ⟨(unhide HI).alloc _, ?_⟩
        rw [hc]
        exact Box.new wr _ _
      go_upto_if 39 with fail
      go_cut [] (fun wc => InvX w1 l m pw pl k wr.heap.size wc)
      case first =>
        by_cases hkl : k < l.length
        · obtain ⟨rg, ro, rfl, hrg, hcell⟩ := unhide HROW (by omega)
          have hbl := (unhide HI).below
          have r0 := (World.cell?_of_block (hbl.block rg hrg)).trans (hcell k 0 hkl (by omega))
          have r1 := (World.cell?_of_block (hbl.block rg hrg)).trans (hcell k 1 hkl (by omega))
          have r2 := (World.cell?_of_block (hbl.block rg hrg)).trans (hcell k 2 hkl (by omega))
          have r3 := (World.cell?_of_block (hbl.block rg hrg)).trans (hcell k 3 hkl (by omega))
          simp only [credCells, Nat.add_zero] at r0 r1 r2 r3
          have hrl : rg < wr.heap.size := Nat.lt_of_lt_of_le hrg hbl.size
          have fin := hide (unhide HX0 _ rfl)
          clear HX0 hcell hbl HR
          generalize l.getD k credZ = c at *
          go_wp2
          go_meet
          case rel => exact unhide fin
        · have fin := hide (unhide HX0 credZ (by simp [List.getD_eq_getElem?_getD, Nat.le_of_not_lt hkl]))
          clear HX0
          go_wp2
          go_meet
          case rel => exact unhide fin
      case rest =>
        obtain ⟨hi2, hx⟩ := hcut
        clear hb0 hb1 hs0 hn0 hown c1 HX0 HI
        obtain ⟨z3, hb0, hs0, hn0⟩ := hi2.box
        obtain ⟨v3, hb1, hown⟩ := hi2.conf
        obtain ⟨va, vcap, hv⟩ := row_shape hown
        have c1 := (hb0.cell 1).trans hn0
        have q0 := hb1.cell 0
        have fz := hb1.frozen 0
        have hci : I64 (l.getD k credZ).p ∧ I64 (l.getD k credZ).t ∧ I64 (l.getD k credZ).e ∧ I64 (l.getD k credZ).v := by
          rw [List.getD_eq_getElem?_getD]
          cases hg : l[k]? with
          | none => exact ⟨by simp [credZ, I64], by simp [credZ, I64], by simp [credZ, I64], by simp [credZ, I64]⟩
          | some c => exact (unhide HR).i64 c (List.mem_of_getElem? hg)
        have x0 : wc.cell? ⟨wr.heap.size, 0, none⟩ = some (.int .i64 (l.getD k credZ).p) := hx.cell 0
        have x1 : wc.cell? ⟨wr.heap.size, 1, none⟩ = some (.int .i64 (l.getD k credZ).t) := hx.cell 1
        have x2 : wc.cell? ⟨wr.heap.size, 2, none⟩ = some (.int .i64 (l.getD k credZ).e) := hx.cell 2
        have x3 : wc.cell? ⟨wr.heap.size, 3, none⟩ = some (.int .i64 (l.getD k credZ).v) := hx.cell 3
        have hd0 : Hid (credI (l.getD k credZ) (1 + m) = credI (l.getD k credZ) (1 + m)) := rfl
        have HFIN := hide (fun d hd X w2 g cap hX hg ho => InvW.appended (X := X) (w2 := w2) (g := g) (cap := cap) (d := d) hi2 hb1 hown hd hX hg ho)
        generalize hcc : l.getD k credZ = c at *
        have HCR : Hid (∀ w, Calls Tryz.prog 31 #[.agg #[.int .i64 c.p, .int .i64 c.t, .int .i64 c.e, .int .i64 c.v], .int .i64 (1 + m)] w fun o w' => o = .returned (.agg #[.int .i64 (credI c (1 + m)).p, .int .i64 (credI c (1 + m)).t, .int .i64 (credI c (1 + m)).e, .int .i64 (credI c (1 + m)).v]) ∧ Below w.heap.size w w') := fun w =>
          credential_any c.p c.t c.e c.v (1 + m) w (by omega) (by omega) hci.1.1 hci.1.2 hci.2.1.1 hci.2.1.2 hci.2.2.1.1 hci.2.2.1.2 hci.2.2.2.1 hci.2.2.2.2
        generalize hdd : credI c (1 + m) = d at *
        have hlt1 : w1.heap.size + 1 < wc.heap.size := hb1.lt
        have HQ : Hid (∀ X, Below wc.drew.heap.size wc.drew X → X.cell? ⟨w1.heap.size + 1, 0, none⟩ = some v3 ∧ X.frozen? ⟨w1.heap.size + 1, 0, none⟩ = false ∧ w1.heap.size + 1 < X.heap.size) := fun X hX =>
          ⟨(World.cell?_of_block (hX.block (w1.heap.size + 1) hlt1)).trans q0, (World.frozen?_of_block (hX.block (w1.heap.size + 1) hlt1)).trans fz, Nat.lt_of_lt_of_le hlt1 hX.size⟩
        have HA : Hid (∀ X o, Below wc.drew.heap.size wc.drew X → (X.alloc o).ownsRow (w1.heap.size + 2) 39 4 v3 k ((credsTo l (1 + m) k).flatMap credCells)) := fun X o hX =>
          (own_same hown (fun b hb => hX.block b (hown.lt b hb).2)).alloc o
        have HFAR : Hid (∀ X o w6, Below wc.drew.heap.size wc.drew X → (X.alloc o).grownBy w6 v3.ownBlock → w6.cell? ⟨w1.heap.size + 1, 0, none⟩ = some v3 ∧ w6.frozen? ⟨w1.heap.size + 1, 0, none⟩ = false) := fun X o w6 hX hg => by
          have hsz : wc.drew.heap.size ≤ X.heap.size := hX.size
          have hsz2 : wc.drew.heap.size = wc.heap.size := rfl
          have hb : w6.heap[w1.heap.size + 1]? = wc.heap[w1.heap.size + 1]? := by
            rw [hg.block (w1.heap.size + 1) (by rw [World.size_alloc]; omega) (fun e => by have := own_base hown e.symm; omega), Below.heap_alloc _ _ _ (by omega)]
            exact hX.block (w1.heap.size + 1) hlt1
          exact ⟨(World.cell?_of_block hb).trans q0, (World.frozen?_of_block hb).trans fz⟩
        have HNW : Hid (∀ (X : World) j u, (credCells d)[j]? = some u → (X.alloc (.cells (credCells d).toArray 39)).cell? ((⟨X.heap.size, 0, none⟩ : Addr).add j) = some u) := fun X j u hu =>
          World.news_of_block (heap_alloc_new X _) j u (by simpa using hu)
        have H1 : Hid (∀ u ∈ credCells d, u.oneCell' = true) := fun u hu => by
          simp only [credCells, List.mem_cons, List.not_mem_nil, or_false] at hu
          rcases hu with rfl | rfl | rfl | rfl <;> rfl
        have HBX : Hid (∀ (X : World) (o : Obj), Below wc.drew.heap.size wc.drew X → w1.heap.size + 2 ≤ (X.alloc o).heap.size ∧ Below wc.heap.size wc (X.alloc o)) := fun X o hX => by
          have hsz : wc.drew.heap.size ≤ X.heap.size := hX.size
          have hsz2 : wc.drew.heap.size = wc.heap.size := rfl
          exact ⟨by rw [World.size_alloc]; omega, Below.alloc (show Below wc.heap.size wc X from ⟨hX.os, hX.tape, hX.output, hX.size, hX.block⟩) (by omega) o⟩
        obtain ⟨i0, hii, hz0, hz1, hz2⟩ := info_parts Tryz.infoCred
        have hkk : k ≤ 7 := by omega
        rw [hv] at q0
        have HV := hide hv
        clear hi2 hx hb0 hb1 hown hv hs0 hn0 hci hd0 hdd hcc
        go_upto_region 9 with fail
        go_cut [] (fun wd => InvW w1 l m pw pl (k + 1) wd)
        case first =>
          go_region_law (first | (go_simp; go_at_call 31; refine (unhide HCR _).mono ?_; rintro o w5 ⟨rfl, hB5⟩; obtain ⟨q5, f5, l5⟩ := unhide HQ _ hB5; rw [unhide HV] at q5) | (refine step_append_lies _ (by rfl) _ _ _ (by rfl) (w1.heap.size + 2) 39 i0 _ 4 32 Tryz.underlying22 hii hz0 hz1 hz2 rfl (by omega) (.slice va k vcap) k ((credsTo l (1 + m) k).flatMap credCells) (by rfl) (by rw [← unhide HV]; exact unhide HA _ _ hB5) ⟨w5.heap.size, 0, none⟩ 1 1 (credCells d) (by rfl) (by rfl) (unhide HNW _) (unhide H1) (by omega) (by unfold maxLen; omega) (by omega) (unhide HBX _ _ hB5).1 _ rfl ?_; intro g cap2 w6 hown1 hgrow hat hlt6; rw [← unhide HV] at hgrow; obtain ⟨z1, z2⟩ := unhide HFAR _ _ _ hB5 hgrow; have fin := hide (unhide HFIN d rfl _ _ _ _ (unhide HBX _ _ hB5).2 hgrow hown1)))
          all_goals
            go_wp2_with fail
            go_meet
            case rel => exact unhide fin
        case rest =>
          clear q0 c1 x0 x1 x2 x3 fz hlt1 HQ HA HFAR HNW H1 HBX HFIN HV hii hz0 hz1 hz2 HCR
          have hdr := credI_may (l.getD k credZ) (n := (1 + m).toNat) (by omega)
          rw [show (((1 + m).toNat : Nat) : Int) = 1 + m from by omega] at hdr
          go_upto_region 10 with fail
          go_cut [] (fun wd => InvW w1 l m pw pl (k + 1) wd)
          case first =>
            obtain ⟨g, vcap4, q0, rowAt, hgb⟩ := hcut.row
            have y0 := rowAt 0 (by omega)
            have y1 := rowAt 1 (by omega)
            have y2 := rowAt 2 (by omega)
            have y3 := rowAt 3 (by omega)
            simp only [credCells, Nat.add_zero] at y0 y1 y2 y3
            obtain ⟨s0, t0⟩ := hcut.at0 (o := 8010 + k * 4) (by omega)
            obtain ⟨s1, t1⟩ := hcut.at0 (o := 8010 + k * 4 + 1) (by omega)
            obtain ⟨s2, t2⟩ := hcut.at0 (o := 8010 + k * 4 + 2) (by omega)
            obtain ⟨s3, t3⟩ := hcut.at0 (o := 8010 + k * 4 + 3) (by omega)
            have f0 := hcut.frozen0 (8010 + k * 4)
            have f1 := hcut.frozen0 (8010 + k * 4 + 1)
            have f2 := hcut.frozen0 (8010 + k * 4 + 2)
            have f3 := hcut.frozen0 (8010 + k * 4 + 3)
            generalize credI (l.getD k credZ) (1 + m) = e at *
            have fin := hide (((((hcut.set0 (o := 8010 + k * 4) (by omega) (.int .i64 e.p)).set0 (o := 8010 + k * 4 + 1) (by omega) (.int .i64 e.t)).set0 (o := 8010 + k * 4 + 2) (by omega) (.int .i64 e.e)).set0 (o := 8010 + k * 4 + 3) (by omega) (.int .i64 e.v)).drew)
            clear hcut rowAt hdr
            go_region
            go_wp2_with fail
            go_meet
            case rel => exact unhide fin
          case rest =>
            obtain ⟨g, vcap4, q0, rowAt, hgb⟩ := hcut.row
            have y0 := rowAt 0 (by omega)
            have y1 := rowAt 1 (by omega)
            simp only [credCells, Nat.add_zero] at y0 y1
            obtain ⟨e1, e2, e3, e4, e5, e6, e7⟩ := hdr
            have ep : (credI (l.getD k credZ) (1 + m)).p ≤ 19 := by
              have := pickI_range (l.getD k credZ).p 20 (by omega)
              show pickI (l.getD k credZ).p 20 ≤ 19
              omega
            have et : (credI (l.getD k credZ) (1 + m)).t ≤ 7 := by
              have := pickI_range (l.getD k credZ).t (1 + m) (by omega)
              show pickI (l.getD k credZ).t (1 + m) ≤ 7
              omega
            generalize credI (l.getD k credZ) (1 + m) = e at *
            obtain ⟨pn, hpn⟩ := Int.eq_ofNat_of_zero_le (show 0 ≤ e.p by omega)
            rw [hpn] at y0 ep
            obtain ⟨s0, t0⟩ := hcut.at0 (o := 1003 + k * 1001 + pn) (by omega)
            have f0 := hcut.frozen0 (1003 + k * 1001 + pn)
            have fin := hide ((hcut.set0 (o := 1003 + k * 1001 + pn) (by omega) (.int .i64 (1 + e.t))).drew)
            clear hcut rowAt hpn e1 e2 e3 e6 e7 e5
            go_upto_region 11 with fail
            go_region
            go_wp2
            go_roundg (1 + m - ((k + 1 : Nat) : Int)).toNat
            case measure => omega
            case rel => exact ⟨k + 1, by omega, rfl, by simp, unhide fin⟩
    · have hke : (k : Int) = 1 + m := by omega
      obtain ⟨z2, hb0, hs0, hn0⟩ := hI.box
      obtain ⟨v, hb1, hown⟩ := hI.conf
      obtain ⟨g, vcap4, cur, rfl, hgb, hgg, hcap, hmax, hcs, hct⟩ : ∃ g cap cur, v = .slice (some ⟨g, 0, none⟩) k cap ∧ w1.heap.size + 2 ≤ g ∧ wr.heap[g]? = some (.cells cur 39 (0, 0)) ∧ k ≤ cap ∧ cap ≤ maxLen ∧ cur.size = cap * 4 ∧ cur.toList.take (k * 4) = (credsTo l (1 + m) k).flatMap credCells := by
        rcases hown.2 with ⟨_, h0⟩ | h
        · omega
        · exact h
      have c1 := (hb0.cell 1).trans hn0
      have d0 : wr.cell? ⟨w1.heap.size + 1, 0, none⟩ = some (.slice (some ⟨g, 0, none⟩) k vcap4) := hb1.cell 0
      have d1 : wr.cell? ⟨w1.heap.size + 1, 1, none⟩ = some (.int .i64 (1 + pw)) := hb1.cell 1
      have d2 : wr.cell? ⟨w1.heap.size + 1, 2, none⟩ = some (.int .i64 (4 + pl)) := hb1.cell 2
      have d3 : wr.cell? ⟨w1.heap.size + 1, 3, none⟩ = some (.int .i64 1000) := hb1.cell 3
      have hcl : ∀ j, (credsTo l (1 + m) j).length = j := by
        intro j
        induction j with
        | zero => rfl
        | succ j ih => rw [credsTo, List.length_append, ih]; rfl
      have hmay : ∀ j, ∀ c ∈ credsTo l (1 + m) j, c.may k := by
        intro j
        induction j with
        | zero => intro c hc; exact absurd hc List.not_mem_nil
        | succ j ih =>
          intro c hc
          rw [credsTo] at hc
          rcases List.mem_append.1 hc with h | h
          · exact ih c h
          · rw [List.mem_singleton.1 h, ← hke]
            exact credI_may _ (by omega)
      have HNEW := hide ((unhide HD).new wr g vcap4 (credsTo l (1 + m) k) (1 + pw) (4 + pl) 1000 cur 39 (by rw [hcl]; omega) (by rw [hcl]; omega) (by omega) (by omega) (by omega) (by rw [hcl]; exact hmay k) hgg (by rw [hcl]; exact hct) (by rw [hcl]; exact hcap))
      rw [hcl k] at HNEW
      have hkn : (peersOf l.length).toNat = k := by rw [unhide HN]; omega
      have hlt0 : w1.heap.size < wr.heap.size := hb0.lt
      have HFIN : Hid (∀ (w' : World) (bt : Nat) (bs : List Nat), S.R w' bt bs (TownM.new (1 + pw) (4 + pl) 1000 (credsTo l (1 + m) k)) → Below wr.heap.size wr w' → (∀ x ∈ bs, wr.heap.size ≤ x) →
          KW (w'.setCell ⟨w1.heap.size, 0, none⟩ (.pointer (some ⟨bt, 0, none⟩))) w1.heap.size bt k ∧ S.R (w'.setCell ⟨w1.heap.size, 0, none⟩ (.pointer (some ⟨bt, 0, none⟩))) bt bs (TownM.new (1 + pw) (4 + pl) 1000 (credsTo l (1 + m) k)) ∧
          Below w1.heap.size w1 (w'.setCell ⟨w1.heap.size, 0, none⟩ (.pointer (some ⟨bt, 0, none⟩))) ∧ w1.heap.size ∉ bs ∧ ∀ x ∈ bs, w1.heap.size ≤ x) := fun w' bt bs hR hB hbs => by
        have hb2 : Box w' w1.heap.size z2 62 := hb0.keep hB
        have hb3 := hb2.set 0 (.pointer (some ⟨bt, 0, none⟩))
        refine ⟨⟨hb3.lt, ?_, ?_⟩, ?_, ?_, ?_, ?_⟩
        · rw [hb3.cell 0, Array.getElem?_setIfInBounds_self_of_lt (by omega)]
        · rw [hb3.cell 1, Array.getElem?_setIfInBounds_ne (by omega), hn0, ← hke]
        · exact S.keep hR (fun x hx => Below.heap_setCell w' _ _ x (fun e => by
            have h1 := hbs x hx
            have h2 : x = w1.heap.size := e
            omega))
        · have : Below w1.heap.size w1 w' := hI.below.trans (hB.mono hI.below.size)
          exact this.setCell (Nat.le_refl _) _
        · intro hx
          have := hbs _ hx
          omega
        · intro x hx
          have := hbs x hx
          omega
      have HC0 : Hid (∀ w', Below wr.heap.size wr w' → ∃ u, w'.cell? ⟨w1.heap.size, 0, none⟩ = some u ∧ w'.frozen? ⟨w1.heap.size, 0, none⟩ = false) := fun w' hB => by
        have hb2 : Box w' w1.heap.size z2 62 := hb0.keep hB
        exact ⟨z2[0]'(by omega), by rw [hb2.cell 0]; simp [show 0 < z2.size from by omega], hb2.frozen 0⟩
      have HKN := hide hkn
      clear hkn
      clear hI hb0 hb1 hown hgg hcs hct hmay hcl hn0 hs0 HROW HR HD HST HP1 HP2 HP3
      go_wp2_with fail
      refine (unhide HNEW).mono ?_
      rintro o w3 ⟨bt, bs, rfl, hR, hB, hbs⟩
      obtain ⟨u0, t0, f0⟩ := unhide HC0 w3 hB
      have fin := hide (unhide HFIN w3 bt bs hR hB hbs)
      clear hR hB hbs HFIN HC0 HNEW
      go_wp2
      go_ret
      refine ⟨w1.heap.size, bt, bs, rfl, ?_⟩
      rw [unhide HKN, unhide HN]
      obtain ⟨r1, r2, r3, r4, r5⟩ := unhide fin
      exact ⟨r1, r2, r3, Nat.le_refl _, r4, r5⟩
end Go.Proofs.YtceappncglfciaaGreat
