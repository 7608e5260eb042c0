import Derived.Test.YtceappncglfciaaRefA
import Derived.Deep.RegionHeld3
import Derived.Deep.DrawnRows
namespace Go.Proofs.Ytceappncglfciaa
open Go.RowKit
attribute [local go_sem ↓] Go.wp_at_zero Go.wp_at_succ

set_option maxHeartbeats 1000000 in
theorem rEncode_bad (n p t e v : Int) (w : World) (hb : badB n p t e v = true) :
    Calls Try.prog 8 #[.int .i64 n, .agg #[.int .i64 p, .int .i64 t, .int .i64 e, .int .i64 v]] w fun o w' => o = .returned (.tuple #[.string ⟨#[]⟩, .int .i64 1]) ∧ Below w.heap.size w w' := by
  unfold badB at hb
  generalize hx0 : wideB n = x0 at hb
  generalize hx1 : wideB p = x1 at hb
  generalize hx2 : wideB t = x2 at hb
  generalize hx3 : wideB e = x3 at hb
  generalize hx4 : wideB v = x4 at hb
  have c0 := fun w => wide_any n w
  have c1 := fun w => wide_any p w
  have c2 := fun w => wide_any t w
  have c3 := fun w => wide_any e w
  have c4 := fun w => wide_any v w
  rw [hx0] at c0
  rw [hx1] at c1
  rw [hx2] at c2
  rw [hx3] at c3
  rw [hx4] at c4
  have C0 : Hid _ := c0
  have C1 : Hid _ := c1
  have C2 : Hid _ := c2
  have C3 : Hid _ := c3
  have C4 : Hid _ := c4
  clear c0 c1 c2 c3 c4 hx0 hx1 hx2 hx3 hx4
  go_enter Try.func8, Try.ntmps8
  go_wp2_with fail
  refine (C0.out _).mono ?_
  rintro e1 w1 ⟨rfl, rfl⟩
  go_wp2_with fail
  refine (C1.out _).mono ?_
  rintro e1 w1 ⟨rfl, rfl⟩
  go_wp2_with fail
  refine (C2.out _).mono ?_
  rintro e1 w1 ⟨rfl, rfl⟩
  go_wp2_with fail
  refine (C3.out _).mono ?_
  rintro e1 w1 ⟨rfl, rfl⟩
  go_wp2_with fail
  refine (C4.out _).mono ?_
  rintro e1 w1 ⟨rfl, rfl⟩
  go_wp2
  all_goals first
    | (go_ret2; exact ⟨rfl, (Below.refl _ _).alloc (Nat.le_refl _) _⟩)
    | (exfalso; simp_all)

/-- What the region of calls holds of its worlds: the box, and that all is as it was below. -/
theorem box_keep {w W w1 : World} {p t e v : Int} (h : W.cell? ⟨w.heap.size, 0, none⟩ = some (.int .i64 p) ∧ W.cell? ⟨w.heap.size, 1, none⟩ = some (.int .i64 t) ∧ W.cell? ⟨w.heap.size, 2, none⟩ = some (.int .i64 e) ∧ W.cell? ⟨w.heap.size, 3, none⟩ = some (.int .i64 v) ∧ w.heap.size < W.heap.size ∧ Below w.heap.size w W)
    (hb : Below W.heap.size W w1) : w1.cell? ⟨w.heap.size, 0, none⟩ = some (.int .i64 p) ∧ w1.cell? ⟨w.heap.size, 1, none⟩ = some (.int .i64 t) ∧ w1.cell? ⟨w.heap.size, 2, none⟩ = some (.int .i64 e) ∧ w1.cell? ⟨w.heap.size, 3, none⟩ = some (.int .i64 v) ∧ w.heap.size < w1.heap.size ∧ Below w.heap.size w w1 := by
  obtain ⟨h0, h1, h2, h3, h4, h5⟩ := h
  exact ⟨(hb.cell (p := ⟨w.heap.size, 0, none⟩) h4).trans h0, (hb.cell (p := ⟨w.heap.size, 1, none⟩) h4).trans h1, (hb.cell (p := ⟨w.heap.size, 2, none⟩) h4).trans h2, (hb.cell (p := ⟨w.heap.size, 3, none⟩) h4).trans h3, Nat.lt_of_lt_of_le h4 hb.size, h5.trans (hb.mono (Nat.le_of_lt h4))⟩

set_option maxHeartbeats 4000000 in
theorem rEncode_good (n p t e v : Int) (w : World) (hb : badB n p t e v = false) :
    Calls Try.prog 8 #[.int .i64 n, .agg #[.int .i64 p, .int .i64 t, .int .i64 e, .int .i64 v]] w fun o w' => o = .returned (.tuple #[.string (strOfNums (encL n p t e v)), .int .i64 0]) ∧ Below w.heap.size w w' := by
  have hby := bodyL_bytes hb
  have HBY : Hid _ := hby
  clear hby
  simp only [badB, Bool.or_eq_false_iff] at hb
  obtain ⟨⟨⟨⟨⟨x0, x1⟩, x2⟩, x3⟩, x4⟩, x5⟩ := hb
  have c0 := fun w => wide_any n w
  have c1 := fun w => wide_any p w
  have c2 := fun w => wide_any t w
  have c3 := fun w => wide_any e w
  have c4 := fun w => wide_any v w
  rw [x0] at c0
  rw [x1] at c1
  rw [x2] at c2
  rw [x3] at c3
  rw [x4] at c4
  have C0 : Hid _ := c0
  have C1 : Hid _ := c1
  have C2 : Hid _ := c2
  have C3 : Hid _ := c3
  have C4 : Hid _ := c4
  simp only [wideB, Bool.or_eq_false_iff, decide_eq_false_iff_not, Int.not_lt] at x0 x1 x2 x3 x4
  obtain ⟨a0, a1⟩ := x0
  obtain ⟨b0, b1⟩ := x1
  obtain ⟨d0, d1⟩ := x2
  obtain ⟨e0, e1⟩ := x3
  obtain ⟨v0, v1⟩ := x4
  clear c0 c1 c2 c3 c4
  go_enter Try.func8, Try.ntmps8
  go_wp2_with fail
  refine (C0.out _).mono ?_
  rintro e1 w1 ⟨rfl, rfl⟩
  go_wp2_with fail
  refine (C1.out _).mono ?_
  rintro e1 w1 ⟨rfl, rfl⟩
  go_wp2_with fail
  refine (C2.out _).mono ?_
  rintro e1 w1 ⟨rfl, rfl⟩
  go_wp2_with fail
  refine (C3.out _).mono ?_
  rintro e1 w1 ⟨rfl, rfl⟩
  go_wp2_with fail
  refine (C4.out _).mono ?_
  rintro e1 w1 ⟨rfl, rfl⟩
  clear C0 C1 C2 C3 C4
  have hsz := strOfNums_size
  have hl4 := num4_len
  go_wp2_with fail
  go_region_held3 (fun w' => w'.cell? ⟨w.heap.size, 0, none⟩ = some (.int .i64 p) ∧ w'.cell? ⟨w.heap.size, 1, none⟩ = some (.int .i64 t) ∧ w'.cell? ⟨w.heap.size, 2, none⟩ = some (.int .i64 e) ∧ w'.cell? ⟨w.heap.size, 3, none⟩ = some (.int .i64 v) ∧ w.heap.size < w'.heap.size ∧ Below w.heap.size w w') (first | (refine box_keep ?_ hbl; assumption) | (refine ⟨?_, ?_, ?_, ?_, ?_, ?_⟩ <;> first | (simp; done) | (exact ((Below.refl _ _).alloc (Nat.le_refl _) _).drew))) ((go_at_call 17; refine (number_any _ _ (by assumption) (by assumption)).mono ?_; rintro o1 w1 ⟨rfl, hbl⟩))
  go_wp2_with fail
  have hcat : strOfNums (num4 n) ++ strOfNums (num4 p) ++ strOfNums (num4 t) ++ strOfNums (num4 e) ++ strOfNums (num4 v) ++ strOfNums (num4 n) = strOfNums (bodyL n p t e v) := by
    simp only [strOfNums_append, bodyL, List.append_assoc]
  rw [hcat]
  have hsb : (strOfNums (bodyL n p t e v)).size = 24 := by rw [strOfNums_size, bodyL_len]
  refine (rsum_any _ _ (by omega)).mono ?_
  rintro o2 w2 ⟨rfl, hb2⟩
  have hB : Below w.heap.size w w2 := (box_keep (w := w) (W := w1) (p := p) (t := t) (e := e) (v := v) (by assumption) hb2).2.2.2.2.2
  clear hb2
  have hl24 := bodyL_len n p t e v
  rw [numsOf_strOfNums HBY.out]
  have hfin : Hid (strOfNums (bodyL n p t e v) ++ strOfNums (num4 (sumV (bodyL n p t e v))) = strOfNums (encL n p t e v)) := by
    rw [strOfNums_append]; rfl
  go_wp2
  go_ret2
  rw [hfin.out]
  exact ⟨rfl, hB⟩

end Go.Proofs.Ytceappncglfciaa
