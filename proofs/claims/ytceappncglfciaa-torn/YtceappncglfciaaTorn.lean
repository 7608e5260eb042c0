/-
  The statement on a torn write: the row, out of the walk.
-/
import Derived.Test.YtceappncglfciaaRows
import Derived.Test.YtceappncglfciaaTornLaw
import Derived.ProofKit
import Derived.OpenShut
import Derived.ShutString
import Derived.ChangeOld
import Derived.Below
import Derived.Lib.SmallJoins
namespace Go.Proofs.Ytceappncglfciaa
open Go.ChangeShapes Go.WideShapes Go.ChangeAt Go.RowKit Go.Joins

theorem i64_of {x : Int} (h : (Lit.int .i64 x).wf = true) : I64 x := by
  have := bounds_i64 h
  exact this

theorem torn_any (nr c0 c1 c2 c3 d0 d1 d2 d3 e0 e1 e2 e3 by0 : Int) (w : World) (h1 : I64 nr) (h2 : I64 by0) (hc0 : I64 c0) (hc1 : I64 c1) (hc2 : I64 c2) (hc3 : I64 c3)
    (hd0 : I64 d0) (hd1 : I64 d1) (hd2 : I64 d2) (hd3 : I64 d3) (he0 : I64 e0) (he1 : I64 e1) (he2 : I64 e2) (he3 : I64 e3) :
    Calls Try.prog 5 #[.int .i64 nr, .agg #[.int .i64 c0, .int .i64 c1, .int .i64 c2, .int .i64 c3], .agg #[.int .i64 d0, .int .i64 d1, .int .i64 d2, .int .i64 d3], .agg #[.int .i64 e0, .int .i64 e1, .int .i64 e2, .int .i64 e3], .int .i64 by0] w fun o w' => o = .returned (.bool true) ∧ Below w.heap.size w w' := by
  have rm := pickI_range nr 4294967290 (by omega)
  have rk := pickI_range by0 29 (by omega)
  have rp0 := pickI_range c0 20 (by omega)
  have rp1 := pickI_range c1 7 (by omega)
  have rp2 := pickI_range c2 (pickI c0 20 + 1) (by omega)
  have rp3 := pickI_range c3 5 (by omega)
  have rq0 := pickI_range d0 20 (by omega)
  have rq1 := pickI_range d1 7 (by omega)
  have rq2 := pickI_range d2 (pickI d0 20 + 1) (by omega)
  have rq3 := pickI_range d3 5 (by omega)
  have rr0 := pickI_range e0 20 (by omega)
  have rr1 := pickI_range e1 7 (by omega)
  have rr2 := pickI_range e2 (pickI e0 20 + 1) (by omega)
  have rr3 := pickI_range e3 5 (by omega)
  have HP1 := hide (fun w => pick_any nr 4294967290 w (by omega) (by omega) h1.1 h1.2)
  have HP2 := hide (fun w => pick_any by0 29 w (by omega) (by omega) h2.1 h2.2)
  have HC := hide (fun w => credential_any c0 c1 c2 c3 7 w (by omega) (by omega) hc0.1 hc0.2 hc1.1 hc1.2 hc2.1 hc2.2 hc3.1 hc3.2)
  have HD := hide (fun w => credential_any d0 d1 d2 d3 7 w (by omega) (by omega) hd0.1 hd0.2 hd1.1 hd1.2 hd2.1 hd2.2 hd3.1 hd3.2)
  have HE := hide (fun w => credential_any e0 e1 e2 e3 7 w (by omega) (by omega) he0.1 he0.2 he1.1 he1.2 he2.1 he2.2 he3.1 he3.2)
  generalize pickI c2 (pickI c0 20 + 1) = p2 at *
  generalize pickI d2 (pickI d0 20 + 1) = q2 at *
  generalize pickI e2 (pickI e0 20 + 1) = r2 at *
  generalize pickI nr 4294967290 = m at *
  obtain ⟨kn, hkn⟩ := Int.eq_ofNat_of_zero_le rk.1
  rw [hkn] at HP2 rk
  generalize pickI c0 20 = p0 at *
  generalize pickI c1 7 = p1 at *
  generalize pickI c3 5 = p3 at *
  generalize pickI d0 20 = q0 at *
  generalize pickI d1 7 = q1 at *
  generalize pickI d3 5 = q3 at *
  generalize pickI e0 20 = r0 at *
  generalize pickI e1 7 = r1 at *
  generalize pickI e3 5 = r3 at *
  have gO : badB (1 + m) p0 p1 p2 p3 = false := good_of (by omega) rp0 rp1 rp2 rp3
  have gN : badB (1 + m + 1) q0 q1 q2 q3 = false := good_of (by omega) rq0 rq1 rq2 rq3
  have gX : badB (1 + m + 2) r0 r1 r2 r3 = false := good_of (by omega) rr0 rr1 rr2 rr3
  have wO := written_of gO (by omega)
  have wN := written_of gN (by omega)
  have wX := written_of gX (by omega)
  have HO := hide (fun w => encode_good (1 + m) p0 p1 p2 p3 w gO)
  have HN := hide (fun w => encode_good (1 + m + 1) q0 q1 q2 q3 w gN)
  have HX := hide (fun w => encode_good (1 + m + 2) r0 r1 r2 r3 w gX)
  generalize strOfNums (encL (1 + m) p0 p1 p2 p3) = so at *
  generalize strOfNums (encL (1 + m + 1) q0 q1 q2 q3) = sn at *
  generalize strOfNums (encL (1 + m + 2) r0 r1 r2 r3) = sx at *
  have eA := newest_both so sn wO wN (by omega)
  have HA := hide (fun w => newest_any (so ++ sn) w)
  rw [eA] at HA
  have HB := hide (fun w => newest_any (sx.extract 0 kn ++ so.extract kn 28 ++ sn) w)
  by_cases hT : sx.extract 0 kn ++ so.extract kn 28 = sx
  · have eB : newestOf (sx.extract 0 kn ++ so.extract kn 28 ++ sn) = ⟨r0, r1, r2, r3, 1 + m + 2, 0⟩ := by rw [hT]; exact newest_whole sx sn wX wN (by omega)
    rw [eB] at HB
    exact torn_core nr by0 c0 c1 c2 c3 d0 d1 d2 d3 e0 e1 e2 e3 m (1 + m) kn p0 p1 p2 p3 q0 q1 q2 q3 r0 r1 r2 r3 so sn sx w rfl (by omega) (by omega) (by omega) wO.size wN.size wX.size HP1 HP2 HC HD HE HO HN HX HA r0 r1 r2 r3 (1 + m + 2) 0 HB
      (hide (.inl ⟨by rw [hT]; simp, rfl, rfl, rfl, rfl, rfl, rfl⟩))
  · have eB := newest_torn sx so sn kn (by omega) wO wN wX hT
    rw [eB] at HB
    exact torn_core nr by0 c0 c1 c2 c3 d0 d1 d2 d3 e0 e1 e2 e3 m (1 + m) kn p0 p1 p2 p3 q0 q1 q2 q3 r0 r1 r2 r3 so sn sx w rfl (by omega) (by omega) (by omega) wO.size wN.size wX.size HP1 HP2 HC HD HE HO HN HX HA q0 q1 q2 q3 (1 + m + 1) 28 HB
      (hide (.inr ⟨by rw [str_beq]; exact decide_eq_false (fun h => hT (numsOf_inj h)), rfl, rfl, rfl, rfl, rfl, rfl⟩))

theorem Try.ownT : ownKnob Try.prog.godebug = none := by kernel_rfl
theorem Try.laidOutT : laidOutB Try.prog = true := by kernel_rfl
theorem Try.cells23T : Try.prog.cellsOf 23 = 4 := by kernel_rfl

/-- A credential that came in, opened. -/
theorem open_cred {H : Type} {enc : TypeId × Value → H} {W : World} {base : Nat} {v : Value} {d : DataW H} {p : List MemPlace} (hv : Value.okWide Try.prog W .any base 23 v) (h : DataW.Trod enc Try.prog W 0 (fun _ => true) true 23 v d p) :
    ∃ a0 a1 a2 a3 : Int, v = .agg #[.int .i64 a0, .int .i64 a1, .int .i64 a2, .int .i64 a3] ∧ I64 a0 ∧ I64 a1 ∧ I64 a2 ∧ I64 a3 := by
  obtain ⟨c0, c1, c2, c3, y0, y1, y2, y3, m, rfl, -, -, hy0, hy1, hy2, hy3⟩ := open_agg4 Try.underlying23 (by kernel_rfl) Try.cells23T hv h
  obtain ⟨b0, e0, -, w0⟩ := DataW.trod_int Try.underlying3 hy0
  obtain ⟨b1, e1, -, w1⟩ := DataW.trod_int Try.underlying3 hy1
  obtain ⟨b2, e2, -, w2⟩ := DataW.trod_int Try.underlying3 hy2
  obtain ⟨b3, e3, -, w3⟩ := DataW.trod_int Try.underlying3 hy3
  simp at e0 e1 e2 e3
  subst e0 e1 e2 e3
  exact ⟨b0, b1, b2, b3, rfl, i64_of w0, i64_of w1, i64_of w2, i64_of w3⟩

set_option maxRecDepth 100000 in
theorem torn_lifted (os : Os) (started : os.Started) (H : Type) (enc : TypeId × Value → H) :
    ReturnsInHanded {} Try.checked os 5 .any (Rows.tornSpec.pre6 enc Try.prog Try.f5 Rows.tornRow.domain false) (Rows.tornSpec.post enc Try.prog Try.f5 false true false false) := by
  refine returnsInHanded_of_change (C := Try.checked) Try.ownT started (by kernel_rfl) Try.func5
    (ChangeSpec.witness6 (enc := enc) (C := Try.checked) false ⟨#[], #[.int .i64 0, .agg #[.int .i64 0, .int .i64 0, .int .i64 0, .int .i64 0], .agg #[.int .i64 0, .int .i64 0, .int .i64 0, .int .i64 0], .agg #[.int .i64 0, .int .i64 0, .int .i64 0, .int .i64 0], .int .i64 0], []⟩ 8 (by kernel_rfl) (by kernel_rfl) (by kernel_rfl) (by kernel_rfl)) ?_
  intro W base args ds gs before hval0 hW hcnd _
  have hval : ∀ (j : Nat) t v, Try.f5.params[j]? = some t → args[j]? = some v → Value.okWide Try.prog W .any base t v := hval0
  have hW' := hW
  obtain ⟨p, q, hA0, hV, rfl, hfz, hnd⟩ := hW
  have hA : DataW.TrodAll enc Try.prog W 0 (fun _ => true) true Try.f5.params.toList args.toList ds p := hA0
  rw [Try.params5] at hA hval
  obtain ⟨v0, vs0, d0, ds0, p0, q0, hargs, rfl, rfl, h0, r0⟩ := trodAll_cons hA
  obtain ⟨v1, vs1, d1, ds1, p1, q1, rfl, rfl, rfl, h1, r1⟩ := trodAll_cons r0
  obtain ⟨v2, vs2, d2, ds2, p2, q2, rfl, rfl, rfl, h2, r2⟩ := trodAll_cons r1
  obtain ⟨v3, vs3, d3, ds3, p3, q3, rfl, rfl, rfl, h3, r3⟩ := trodAll_cons r2
  obtain ⟨v4, vs4, d4, ds4, p4, q4, rfl, rfl, rfl, h4, r4⟩ := trodAll_cons r3
  obtain ⟨rfl, rfl, rfl⟩ := trodAll_nil r4
  obtain rfl : args = #[v0, v1, v2, v3, v4] := by cases args; simp_all
  obtain ⟨rfl, rfl⟩ := trodVars_none hV
  have k1 := h1
  have lt1 : ∀ x ∈ p1, x.block < W.heap.size := by obtain ⟨m, hm⟩ := k1; exact DataW.trod_lt m _ _ _ hm
  have k2 := h2
  have lt2 : ∀ x ∈ p2, x.block < W.heap.size := by obtain ⟨m, hm⟩ := k2; exact DataW.trod_lt m _ _ _ hm
  have k3 := h3
  have lt3 : ∀ x ∈ p3, x.block < W.heap.size := by obtain ⟨m, hm⟩ := k3; exact DataW.trod_lt m _ _ _ hm
  obtain ⟨a, rfl, rfl, rfl, wa⟩ := open_int Try.underlying3 (hval 0 3 v0 rfl rfl) h0
  obtain ⟨b, rfl, rfl, rfl, wb⟩ := open_int Try.underlying3 (hval 4 3 v4 rfl rfl) h4
  obtain ⟨c0, c1, c2, c3, rfl, hc0, hc1, hc2, hc3⟩ := open_cred (hval 1 23 v1 rfl rfl) h1
  obtain ⟨x0, x1, x2, x3, rfl, hx0, hx1, hx2, hx3⟩ := open_cred (hval 2 23 v2 rfl rfl) h2
  obtain ⟨e0, e1, e2, e3, rfl, he0, he1, he2, he3⟩ := open_cred (hval 3 23 v3 rfl rfl) h3
  clear hA0 hval0
  refine (torn_any a c0 c1 c2 c3 x0 x1 x2 x3 e0 e1 e2 e3 b W (i64_of wa) (i64_of wb) hc0 hc1 hc2 hc3 hx0 hx1 hx2 hx3 he0 he1 he2 he3).mono fun e W' ⟨he, bel⟩ => ?_
  subst he
  exact ⟨_, rfl, _, _, _, [], _, [], hW', trodAll_mk1 (shut_bool Try.underlying4 _), (trodAll_cons_mk (shut_int Try.underlying3 wa) (trodAll_cons_mk (Below.trod Try.laidOutT (by kernel_rfl) (of_decide_eq_true (by kernel_rfl)) k1 bel lt1) (trodAll_cons_mk (Below.trod Try.laidOutT (by kernel_rfl) (of_decide_eq_true (by kernel_rfl)) k2 bel lt2) (trodAll_cons_mk (Below.trod Try.laidOutT (by kernel_rfl) (of_decide_eq_true (by kernel_rfl)) k3 bel lt3) (trodAll_cons_mk (shut_int Try.underlying3 wb) trodAll_mk0))))), rfl, bel.frame _, fun h => by cases h⟩

theorem torn_holds : Rows.TornSaid :=
  OpenClaim.holds_of_wide 5 Try.f5 rfl rfl rfl rfl rfl rfl rfl ⟨rfl, rfl, rfl, rfl, rfl⟩ rfl rfl rfl rfl rfl (by kernel_rfl) Try.func5 (by kernel_rfl)
    (of_decide_eq_true (by kernel_rfl)) (by unfold Func.isWrapper; first | (rw [if_pos (by decide +kernel)]; kernel_rfl) | (rw [if_neg (by decide +kernel)]; exact ⟨rfl, rfl⟩))
    (fun os started H enc _ => torn_lifted os started H enc)
#print axioms torn_holds
end Go.Proofs.Ytceappncglfciaa
