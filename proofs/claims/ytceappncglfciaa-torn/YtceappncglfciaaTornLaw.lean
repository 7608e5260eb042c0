import Derived.Test.YtceappncglfciaaTornWalk
namespace Go.Proofs.Ytceappncglfciaa
open Go.RowKit
attribute [local go_sem ↓] Go.wp_at_zero Go.wp_at_succ

def I64 (x : Int) : Prop := -9223372036854775808 ≤ x ∧ x ≤ 9223372036854775807

theorem good_of {n p t e v : Int} (h : 0 < n ∧ n ≤ 4294967295) (hp : 0 ≤ p ∧ p < 20) (ht : 0 ≤ t ∧ t < 7) (he : 0 ≤ e ∧ e < p + 1) (hv : 0 ≤ v ∧ v < 5) : badB n p t e v = false := by
  have h0 : (n == 0) = false := by simp; omega
  unfold badB wideB
  rw [h0]
  simp
  omega

theorem boxZ {w8 w9 : World} {o : Obj} (hB : Below ((w8.alloc o).alloc (.cells #[.int .i64 0, .int .i64 0, .int .i64 0, .int .i64 0] 23)).drew.heap.size ((w8.alloc o).alloc (.cells #[.int .i64 0, .int .i64 0, .int .i64 0, .int .i64 0] 23)).drew w9) : Box w9 (w8.heap.size + 1) #[.int .i64 0, .int .i64 0, .int .i64 0, .int .i64 0] 23 := by
  have h := Box.new (w8.alloc o) #[.int .i64 0, .int .i64 0, .int .i64 0, .int .i64 0] 23
  rw [World.size_alloc] at h
  have h2 : Box ((w8.alloc o).alloc (.cells #[.int .i64 0, .int .i64 0, .int .i64 0, .int .i64 0] 23)).drew (w8.heap.size + 1) #[.int .i64 0, .int .i64 0, .int .i64 0, .int .i64 0] 23 := h
  exact h2.keep hB

set_option maxRecDepth 100000 in
set_option maxHeartbeats 2000000 in
/-- The call, once its numbers and strings are known. -/
theorem torn_core (nr by0 : Int) (c0 c1 c2 c3 d0 d1 d2 d3 e0 e1 e2 e3 : Int) (m n : Int) (kn : Nat) (p0 p1 p2 p3 q0 q1 q2 q3 r0 r1 r2 r3 : Int) (so sn sx : ByteArray) (w : World)
    (hm : n = 1 + m) (hm0 : 0 ≤ m) (hm1 : m ≤ 4294967290) (hkn : kn ≤ 28) (hso : so.size = 28) (hsn : sn.size = 28) (hsx : sx.size = 28)
    (HP1 : Hid (∀ w, Calls Try.prog 12 #[.int .i64 nr, .int .i64 4294967290] w fun o w' => o = .returned (.int .i64 m) ∧ w' = w))
    (HP2 : Hid (∀ w, Calls Try.prog 12 #[.int .i64 by0, .int .i64 29] w fun o w' => o = .returned (.int .i64 kn) ∧ w' = w))
    (HC : Hid (∀ w, Calls Try.prog 13 #[.agg #[.int .i64 c0, .int .i64 c1, .int .i64 c2, .int .i64 c3], .int .i64 7] w fun o w' => o = .returned (.agg #[.int .i64 p0, .int .i64 p1, .int .i64 p2, .int .i64 p3]) ∧ Below w.heap.size w w'))
    (HD : Hid (∀ w, Calls Try.prog 13 #[.agg #[.int .i64 d0, .int .i64 d1, .int .i64 d2, .int .i64 d3], .int .i64 7] w fun o w' => o = .returned (.agg #[.int .i64 q0, .int .i64 q1, .int .i64 q2, .int .i64 q3]) ∧ Below w.heap.size w w'))
    (HE : Hid (∀ w, Calls Try.prog 13 #[.agg #[.int .i64 e0, .int .i64 e1, .int .i64 e2, .int .i64 e3], .int .i64 7] w fun o w' => o = .returned (.agg #[.int .i64 r0, .int .i64 r1, .int .i64 r2, .int .i64 r3]) ∧ Below w.heap.size w w'))
    (HO : Hid (∀ w, Calls Try.prog 7 #[.int .i64 n, .agg #[.int .i64 p0, .int .i64 p1, .int .i64 p2, .int .i64 p3]] w fun o w' => o = .returned (.tuple #[.string so, .int .i64 0]) ∧ Below w.heap.size w w'))
    (HN : Hid (∀ w, Calls Try.prog 7 #[.int .i64 (n + 1), .agg #[.int .i64 q0, .int .i64 q1, .int .i64 q2, .int .i64 q3]] w fun o w' => o = .returned (.tuple #[.string sn, .int .i64 0]) ∧ Below w.heap.size w w'))
    (HX : Hid (∀ w, Calls Try.prog 7 #[.int .i64 (n + 2), .agg #[.int .i64 r0, .int .i64 r1, .int .i64 r2, .int .i64 r3]] w fun o w' => o = .returned (.tuple #[.string sx, .int .i64 0]) ∧ Below w.heap.size w w'))
    (HA : Hid (∀ w, Calls Try.prog 10 #[.string (so ++ sn)] w fun o w' => o = .returned (.tuple #[.agg #[.int .i64 q0, .int .i64 q1, .int .i64 q2, .int .i64 q3], .int .i64 (n + 1), .int .i64 28]) ∧ Below w.heap.size w w'))
    (b0 b1 b2 b3 bn ba : Int) (HB : Hid (∀ w, Calls Try.prog 10 #[.string (sx.extract 0 kn ++ so.extract kn 28 ++ sn)] w fun o w' => o = .returned (.tuple #[.agg #[.int .i64 b0, .int .i64 b1, .int .i64 b2, .int .i64 b3], .int .i64 bn, .int .i64 ba]) ∧ Below w.heap.size w w'))
    (HCASE : Hid ((((sx.extract 0 kn ++ so.extract kn 28).toList == sx.toList) = true ∧ b0 = r0 ∧ b1 = r1 ∧ b2 = r2 ∧ b3 = r3 ∧ bn = n + 2 ∧ ba = 0) ∨ (((sx.extract 0 kn ++ so.extract kn 28).toList == sx.toList) = false ∧ b0 = q0 ∧ b1 = q1 ∧ b2 = q2 ∧ b3 = q3 ∧ bn = n + 1 ∧ ba = 28))) :
    Calls Try.prog 5 #[.int .i64 nr, .agg #[.int .i64 c0, .int .i64 c1, .int .i64 c2, .int .i64 c3], .agg #[.int .i64 d0, .int .i64 d1, .int .i64 d2, .int .i64 d3], .agg #[.int .i64 e0, .int .i64 e1, .int .i64 e2, .int .i64 e3], .int .i64 by0] w fun o w' => o = .returned (.bool true) ∧ Below w.heap.size w w' := by
  have hI := hide (show InvT w c0 c1 c2 c3 d0 d1 d2 d3 e0 e1 e2 e3 (((w.alloc (.cells #[.int .i64 c0, .int .i64 c1, .int .i64 c2, .int .i64 c3] 23)).alloc (.cells #[.int .i64 d0, .int .i64 d1, .int .i64 d2, .int .i64 d3] 23)).alloc (.cells #[.int .i64 e0, .int .i64 e1, .int .i64 e2, .int .i64 e3] 23)) from by
    refine ⟨((Box.new w _ 23).alloc _).alloc _, ?_, ?_, (((Below.refl _ w).alloc (Nat.le_refl _) _).alloc (by simp) _).alloc (by simp; omega) _⟩
    · have := (Box.new (w.alloc (.cells #[.int .i64 c0, .int .i64 c1, .int .i64 c2, .int .i64 c3] 23)) #[.int .i64 d0, .int .i64 d1, .int .i64 d2, .int .i64 d3] 23).alloc (.cells #[.int .i64 e0, .int .i64 e1, .int .i64 e2, .int .i64 e3] 23)
      rw [World.size_alloc] at this
      exact this
    · have := Box.new ((w.alloc (.cells #[.int .i64 c0, .int .i64 c1, .int .i64 c2, .int .i64 c3] 23)).alloc (.cells #[.int .i64 d0, .int .i64 d1, .int .i64 d2, .int .i64 d3] 23)) #[.int .i64 e0, .int .i64 e1, .int .i64 e2, .int .i64 e3] 23
      rw [World.size_alloc, World.size_alloc] at this
      exact this)
  have HM := hide hm
  have hn0 : 1 ≤ n := by omega
  have hn1 : n ≤ 4294967291 := by omega
  have hmn : (1 : Int) + m = n := hm.symm
  clear hm
  go_enter Try.func5, Try.ntmps5
  go_wp2_with fail
  refine (unhide HP1 _).mono ?_
  rintro o w1 ⟨rfl, rfl⟩
  go_wp2_with fail
  refine (unhide HC _).mono ?_
  rintro o w1 ⟨rfl, hB1⟩
  have i1 := (unhide hI).keep hB1
  obtain ⟨⟨a1, a2, a3, a4⟩, f1, f2, f3, f4⟩ := i1.1.four
  obtain ⟨⟨a5, a6, a7, a8⟩, f5, f6, f7, f8⟩ := i1.2.1.four
  have hI1 := hide (i1.setA p0 p1 p2 p3)
  clear hI hB1 i1 HP1 HC
  go_wp2_with fail
  refine (unhide HD _).mono ?_
  rintro o w2 ⟨rfl, hB2⟩
  have i2 := (unhide hI1).keep hB2
  clear a1 a2 a3 a4 f1 f2 f3 f4 a5 a6 a7 a8 f5 f6 f7 f8 hI1 hB2 HD
  obtain ⟨⟨a1, a2, a3, a4⟩, f1, f2, f3, f4⟩ := i2.2.1.four
  obtain ⟨⟨a5, a6, a7, a8⟩, f5, f6, f7, f8⟩ := i2.2.2.1.four
  have hI2 := hide (i2.setB q0 q1 q2 q3)
  clear i2
  go_wp2_with fail
  refine (unhide HE _).mono ?_
  rintro o w3 ⟨rfl, hB3⟩
  have i3 := (unhide hI2).keep hB3
  clear a1 a2 a3 a4 f1 f2 f3 f4 a5 a6 a7 a8 f5 f6 f7 f8 hI2 hB3 HE
  obtain ⟨⟨a1, a2, a3, a4⟩, f1, f2, f3, f4⟩ := i3.2.2.1.four
  obtain ⟨⟨a5, a6, a7, a8⟩, f5, f6, f7, f8⟩ := i3.1.four
  have hI3 := hide (i3.setC r0 r1 r2 r3)
  clear i3
  go_wp2_with fail
  refine (unhide HO _).mono ?_
  rintro o w4 ⟨rfl, hB4⟩
  have i4 := (unhide hI3).keep hB4
  clear a1 a2 a3 a4 f1 f2 f3 f4 a5 a6 a7 a8 f5 f6 f7 f8 hI3 hB4 HO
  obtain ⟨⟨a1, a2, a3, a4⟩, -⟩ := i4.2.1.four
  have hI4 := hide i4
  clear i4
  go_wp2_with fail
  refine (unhide HN _).mono ?_
  rintro o w5 ⟨rfl, hB5⟩
  have i5 := (unhide hI4).keep hB5
  clear a1 a2 a3 a4 hI4 hB5 HN
  obtain ⟨⟨a1, a2, a3, a4⟩, -⟩ := i5.2.2.1.four
  have hI5 := hide i5
  clear i5
  go_wp2_with fail
  refine (unhide HX _).mono ?_
  rintro o w6 ⟨rfl, hB6⟩
  have hI6 := hide ((unhide hI5).keep hB6)
  clear a1 a2 a3 a4 hI5 hB6 HX
  go_wp2_with fail
  refine (unhide HP2 _).mono ?_
  rintro o w7 ⟨rfl, rfl⟩
  go_wp2_with fail
  refine (unhide HA _).mono ?_
  rintro o w8 ⟨rfl, hB8⟩
  have i8 := (unhide hI6).keep hB8
  have hI8 := hide (And.intro (i8.alloc (.cells #[.int .i64 q0, .int .i64 q1, .int .i64 q2, .int .i64 q3] 23)) (Box.new w8 #[.int .i64 q0, .int .i64 q1, .int .i64 q2, .int .i64 q3] 23))
  clear i8 hB8 hI6 HA HP2
  have hk0 : (0 : Int) ≤ (kn : Int) := by omega
  have hk1 : (kn : Int) ≤ 28 := by omega
  go_wp2_with fail
  go_region_held3 (fun _ => True) (trivial) ((go_at_call 10; refine (unhide HB _).mono ?_; rintro o w9 ⟨rfl, hB9⟩; first | (have zz := boxZ hB9; obtain ⟨⟨z1, z2, z3, z4⟩, z5, z6, z7, z8⟩ := zz.four) | skip))
  · have i9 := ((unhide hI8).1.drew.keep hB9).alloc (.cells #[.int .i64 b0, .int .i64 b1, .int .i64 b2, .int .i64 b3] 23)
    have j9 := (Box.keep (W := (w8.alloc (.cells #[.int .i64 q0, .int .i64 q1, .int .i64 q2, .int .i64 q3] 23)).drew) (unhide hI8).2 hB9).alloc (.cells #[.int .i64 b0, .int .i64 b1, .int .i64 b2, .int .i64 b3] 23)
    have b9 := Box.new w9 #[.int .i64 b0, .int .i64 b1, .int .i64 b2, .int .i64 b3] 23
    obtain ⟨⟨y1, y2, y3, y4⟩, -⟩ := i9.2.1.four
    obtain ⟨⟨y5, y6, y7, y8⟩, -⟩ := i9.2.2.1.four
    obtain ⟨⟨x1, x2, x3, x4⟩, -⟩ := j9.four
    obtain ⟨⟨v1, v2, v3, v4⟩, -⟩ := b9.four
    have yl := hide i9.2.2.2
    clear i9 j9 b9 hB9 hI8 HB
    generalize w9.alloc (.cells #[.int .i64 b0, .int .i64 b1, .int .i64 b2, .int .i64 b3] 23) = V at *
    have h21 : (n + 2 == n + 1) = false := beq_eq_false_iff_ne.2 (by omega)
    have h12 : (n + 1 == n + 2) = false := beq_eq_false_iff_ne.2 (by omega)
    rcases unhide HCASE with ⟨hw, rfl, rfl, rfl, rfl, rfl, rfl⟩ | ⟨hw, rfl, rfl, rfl, rfl, rfl, rfl⟩
    · clear HCASE
      go_wp2_with fail
      all_goals go_quiet (fail)
      all_goals go_wp2
      all_goals go_ret
      all_goals exact ⟨rfl, below_drewN (unhide yl) _⟩
    · clear HCASE
      go_wp2_with fail
      all_goals go_quiet (fail)
      all_goals go_wp2
      all_goals go_ret
      all_goals exact ⟨rfl, below_drewN (unhide yl) _⟩
  · have k9 := ((unhide hI8).1.alloc (.cells #[.int .i64 0, .int .i64 0, .int .i64 0, .int .i64 0] 23)).drew.keep hB9
    have l9 := Box.keep (W := ((w8.alloc (.cells #[.int .i64 q0, .int .i64 q1, .int .i64 q2, .int .i64 q3] 23)).alloc (.cells #[.int .i64 0, .int .i64 0, .int .i64 0, .int .i64 0] 23)).drew) ((unhide hI8).2.alloc (.cells #[.int .i64 0, .int .i64 0, .int .i64 0, .int .i64 0] 23)) hB9
    have hlt8 : w.heap.size + 1 + 1 < w8.heap.size + 1 := by
      have := (unhide hI8).1.2.2.1.lt
      rw [World.size_alloc] at this
      exact this
    have i9 : InvT w p0 p1 p2 p3 q0 q1 q2 q3 r0 r1 r2 r3 ((((w9.setCell ⟨w8.heap.size + 1, 0, none⟩ (.int .i64 b0)).setCell ⟨w8.heap.size + 1, 1, none⟩ (.int .i64 b1)).setCell ⟨w8.heap.size + 1, 2, none⟩ (.int .i64 b2)).setCell ⟨w8.heap.size + 1, 3, none⟩ (.int .i64 b3)) :=
      ⟨k9.1.other4 (by omega) _ _ _ _, k9.2.1.other4 (by omega) _ _ _ _, k9.2.2.1.other4 (by omega) _ _ _ _, below_set4 k9.2.2.2 (by omega) _ _ _ _⟩
    have j9 := l9.other4 (c := w8.heap.size + 1) (by omega) (.int .i64 b0) (.int .i64 b1) (.int .i64 b2) (.int .i64 b3)
    clear k9 l9 hlt8
    have b9 := zz.set4 (.int .i64 b0) (.int .i64 b1) (.int .i64 b2) (.int .i64 b3)
    obtain ⟨⟨y1, y2, y3, y4⟩, -⟩ := i9.2.1.four
    obtain ⟨⟨y5, y6, y7, y8⟩, -⟩ := i9.2.2.1.four
    obtain ⟨⟨x1, x2, x3, x4⟩, -⟩ := j9.four
    obtain ⟨⟨v1, v2, v3, v4⟩, -⟩ := b9.four
    have yl := hide i9.2.2.2
    clear i9 j9 b9 hB9 hI8 HB zz z1 z2 z3 z4 z5 z6 z7 z8
    generalize (((w9.setCell ⟨w8.heap.size + 1, 0, none⟩ (.int .i64 b0)).setCell ⟨w8.heap.size + 1, 1, none⟩ (.int .i64 b1)).setCell ⟨w8.heap.size + 1, 2, none⟩ (.int .i64 b2)).setCell ⟨w8.heap.size + 1, 3, none⟩ (.int .i64 b3) = V at *
    have h21 : (n + 2 == n + 1) = false := beq_eq_false_iff_ne.2 (by omega)
    have h12 : (n + 1 == n + 2) = false := beq_eq_false_iff_ne.2 (by omega)
    rcases unhide HCASE with ⟨hw, rfl, rfl, rfl, rfl, rfl, rfl⟩ | ⟨hw, rfl, rfl, rfl, rfl, rfl, rfl⟩
    · clear HCASE
      go_wp2_with fail
      all_goals go_quiet (fail)
      all_goals go_wp2
      all_goals go_ret
      all_goals exact ⟨rfl, below_drewN (unhide yl) _⟩
    · clear HCASE
      go_wp2_with fail
      all_goals go_quiet (fail)
      all_goals go_wp2
      all_goals go_ret
      all_goals exact ⟨rfl, below_drewN (unhide yl) _⟩
end Go.Proofs.Ytceappncglfciaa
