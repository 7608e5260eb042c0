import Derived.Test.YtceappncglfciaaLawA
namespace Go.Proofs.Ytceappncglfciaa
open Go.RowKit

/-- Block b holds just these cells, and is not frozen. -/
def Box (W : World) (b : Nat) (cs : Array Value) (t : TypeId) : Prop := W.heap[b]? = some (.cells cs t (0, 0))
theorem Box.new (w : World) (cs : Array Value) (t : TypeId) : Box (w.alloc (.cells cs t)) w.heap.size cs t := heap_alloc_new w _
theorem Box.lt {W : World} {b : Nat} {cs : Array Value} {t : TypeId} (h : Box W b cs t) : b < W.heap.size := (Array.getElem?_eq_some_iff.1 h).1
theorem Box.keep {W W' : World} {b : Nat} {cs : Array Value} {t : TypeId} (h : Box W b cs t) (hb : Below W.heap.size W W') : Box W' b cs t := (hb.block b h.lt).trans h
theorem Box.alloc {W : World} {b : Nat} {cs : Array Value} {t : TypeId} (h : Box W b cs t) (o : Obj) : Box (W.alloc o) b cs t := h.keep ((Below.refl _ _).alloc (Nat.le_refl _) _)
theorem Box.cell {W : World} {b : Nat} {cs : Array Value} {t : TypeId} (h : Box W b cs t) (i : Nat) : W.cell? ⟨b, i, none⟩ = cs[i]? := cell_of_row W b i cs t (0, 0) h
theorem Box.frozen {W : World} {b : Nat} {cs : Array Value} {t : TypeId} (h : Box W b cs t) (i : Nat) : W.frozen? ⟨b, i, none⟩ = false := by
  unfold World.frozen?
  rw [show W.heap[(⟨b, i, none⟩ : Addr).block]? = some (.cells cs t (0, 0)) from h]
  simp
/-- The i-th number of a slot. -/
def at4 (s : ByteArray) (i : Nat) : Int := valL (((numsOf s).drop (i * 4)).take 4)
/-- Is a slot right, as the program asks it? -/
def rightP (s : ByteArray) : Bool := (encE (at4 s 0) (at4 s 1) (at4 s 2) (at4 s 3) (at4 s 4) == 0) && ((encS (at4 s 0) (at4 s 1) (at4 s 2) (at4 s 3) (at4 s 4)).toList == s.toList)

theorem numberAt0 (s : ByteArray) (w : World) (hs : s.size = 28) : Calls Try.prog 25 #[.string s, .int .i64 0] w fun o w' => o = .returned (.int .i64 (at4 s 0)) ∧ Below w.heap.size w w' := numberAt_any s 0 w hs (by omega)
theorem numberAt1 (s : ByteArray) (w : World) (hs : s.size = 28) : Calls Try.prog 25 #[.string s, .int .i64 1] w fun o w' => o = .returned (.int .i64 (at4 s 1)) ∧ Below w.heap.size w w' := numberAt_any s 1 w hs (by omega)
theorem numberAt2 (s : ByteArray) (w : World) (hs : s.size = 28) : Calls Try.prog 25 #[.string s, .int .i64 2] w fun o w' => o = .returned (.int .i64 (at4 s 2)) ∧ Below w.heap.size w w' := numberAt_any s 2 w hs (by omega)
theorem numberAt3 (s : ByteArray) (w : World) (hs : s.size = 28) : Calls Try.prog 25 #[.string s, .int .i64 3] w fun o w' => o = .returned (.int .i64 (at4 s 3)) ∧ Below w.heap.size w w' := numberAt_any s 3 w hs (by omega)
theorem numberAt4 (s : ByteArray) (w : World) (hs : s.size = 28) : Calls Try.prog 25 #[.string s, .int .i64 4] w fun o w' => o = .returned (.int .i64 (at4 s 4)) ∧ Below w.heap.size w w' := numberAt_any s 4 w hs (by omega)

set_option maxHeartbeats 1000000 in
theorem read_any (s : ByteArray) (w : World) (hs : s.size = 28) :
    Calls Try.prog 20 #[.string s] w fun o w' => o = .returned (.tuple #[.agg #[.int .i64 (at4 s 1), .int .i64 (at4 s 2), .int .i64 (at4 s 3), .int .i64 (at4 s 4)], .int .i64 (at4 s 0), .bool (rightP s)]) ∧ Below w.heap.size w w' := by
  have H0 := hide (fun w => numberAt0 s w hs)
  have H1 := hide (fun w => numberAt1 s w hs)
  have H2 := hide (fun w => numberAt2 s w hs)
  have H3 := hide (fun w => numberAt3 s w hs)
  have H4 := hide (fun w => numberAt4 s w hs)
  have HE := hide (encode_any (at4 s 0) (at4 s 1) (at4 s 2) (at4 s 3) (at4 s 4))
  unfold rightP
  generalize encS (at4 s 0) (at4 s 1) (at4 s 2) (at4 s 3) (at4 s 4) = x at *
  generalize encE (at4 s 0) (at4 s 1) (at4 s 2) (at4 s 3) (at4 s 4) = y at *
  generalize at4 s 0 = n0 at *
  generalize at4 s 1 = n1 at *
  generalize at4 s 2 = n2 at *
  generalize at4 s 3 = n3 at *
  generalize at4 s 4 = n4 at *
  have K0 := hide (And.intro (Box.new w #[.int .i64 0, .int .i64 0, .int .i64 0, .int .i64 0] 23) ((Below.refl w.heap.size w).alloc (Nat.le_refl _) (.cells #[.int .i64 0, .int .i64 0, .int .i64 0, .int .i64 0] 23)))
  go_enter Try.func20, Try.ntmps20
  go_wp2_with fail
  refine (unhide H0 _).mono ?_
  rintro o w1 ⟨rfl, hB1⟩
  have K1 := hide (And.intro ((unhide K0).1.keep hB1) ((unhide K0).2.trans (hB1.mono (Nat.le_of_lt (unhide K0).1.lt))))
  clear hB1 K0
  go_wp2_with fail
  refine (unhide H1 _).mono ?_
  rintro o w2 ⟨rfl, hB2⟩
  have K2 := hide (And.intro ((unhide K1).1.keep hB2) ((unhide K1).2.trans (hB2.mono (Nat.le_of_lt (unhide K1).1.lt))))
  clear hB2 K1
  go_wp2_with fail
  refine (unhide H2 _).mono ?_
  rintro o w3 ⟨rfl, hB3⟩
  have K3 := hide (And.intro ((unhide K2).1.keep hB3) ((unhide K2).2.trans (hB3.mono (Nat.le_of_lt (unhide K2).1.lt))))
  clear hB3 K2
  go_wp2_with fail
  refine (unhide H3 _).mono ?_
  rintro o w4 ⟨rfl, hB4⟩
  have K4 := hide (And.intro ((unhide K3).1.keep hB4) ((unhide K3).2.trans (hB4.mono (Nat.le_of_lt (unhide K3).1.lt))))
  clear hB4 K3
  go_wp2_with fail
  refine (unhide H4 _).mono ?_
  rintro o w5 ⟨rfl, hB5⟩
  have K5 := hide (And.intro ((unhide K4).1.keep hB5) ((unhide K4).2.trans (hB5.mono (Nat.le_of_lt (unhide K4).1.lt))))
  clear hB5 K4
  go_wp2_with fail
  refine (unhide HE _).mono ?_
  rintro o w6 ⟨rfl, hB6⟩
  obtain ⟨bx, hbl⟩ := unhide K5
  have bx6 := (bx.alloc (.cells #[.int .i64 n1, .int .i64 n2, .int .i64 n3, .int .i64 n4] 23)).keep hB6
  have by6 := (Box.new w5 #[.int .i64 n1, .int .i64 n2, .int .i64 n3, .int .i64 n4] 23).keep hB6
  have hlt5 : w.heap.size < w5.heap.size := bx.lt
  have hB7 : Below w.heap.size w w6 := hbl.trans ((((Below.refl _ w5).alloc (Nat.le_refl _) (.cells #[.int .i64 n1, .int .i64 n2, .int .i64 n3, .int .i64 n4] 23)).trans (hB6.mono (by simp))).mono (Nat.le_of_lt hlt5))
  have c0 := bx6.cell 0
  have c1 := bx6.cell 1
  have c2 := bx6.cell 2
  have c3 := bx6.cell 3
  have f0 := bx6.frozen 0
  have f1 := bx6.frozen 1
  have f2 := bx6.frozen 2
  have f3 := bx6.frozen 3
  have d0 := by6.cell 0
  have d1 := by6.cell 1
  have d2 := by6.cell 2
  have d3 := by6.cell 3
  have HB7 := hide hB7
  clear bx6 by6 bx hbl hB6 hB7 K5 H0 H1 H2 H3 H4 HE
  cases hy : (y == 0) with
  | false =>
    go_wp2
    refine bodyPost_ret (v := .tuple #[.agg #[.int .i64 n1, .int .i64 n2, .int .i64 n3, .int .i64 n4], .int .i64 n0, .bool false]) (by simp [results, Try.results20, go_sem, c0, c1, c2, c3]) rfl ⟨by rw [hy]; rfl, ?_⟩
    exact ((((unhide HB7).setCell (p := ⟨w.heap.size, 0, none⟩) (Nat.le_refl _) _).setCell (p := ⟨w.heap.size, 1, none⟩) (Nat.le_refl _) _).setCell (p := ⟨w.heap.size, 2, none⟩) (Nat.le_refl _) _).setCell (p := ⟨w.heap.size, 3, none⟩) (Nat.le_refl _) _
  | true =>
    go_wp2
    refine bodyPost_ret (v := .tuple #[.agg #[.int .i64 n1, .int .i64 n2, .int .i64 n3, .int .i64 n4], .int .i64 n0, .bool (x.toList == s.toList)]) (by simp [results, Try.results20, go_sem, c0, c1, c2, c3]) rfl ⟨by rw [hy]; rfl, ?_⟩
    exact ((((unhide HB7).setCell (p := ⟨w.heap.size, 0, none⟩) (Nat.le_refl _) _).setCell (p := ⟨w.heap.size, 1, none⟩) (Nat.le_refl _) _).setCell (p := ⟨w.heap.size, 2, none⟩) (Nat.le_refl _) _).setCell (p := ⟨w.heap.size, 3, none⟩) (Nat.le_refl _) _
end Go.Proofs.Ytceappncglfciaa
