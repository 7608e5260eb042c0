import Derived.Test.YtceappncglfciaaGreatM37
import Derived.ProofKit
import Derived.OpenShut
import Derived.ShutString
import Derived.ChangeOld
import Derived.Below
import Derived.Lib.SmallJoins
import Derived.SizedLaws
import Derived.Deep.Slices
import Derived.Test.YtceappncglfciaaGreatM38
import Derived.Test.YtceappncglfciaaGreatM39
set_option linter.unusedVariables false
set_option linter.unusedSimpArgs false
/-
  Slices of credentials that came in, opened.
-/
namespace Go.Proofs.YtceappncglfciaaGreat
open Go.ChangeShapes Go.WideShapes Go.ChangeAt Go.RowKit Go.Joins Go.Deep

theorem i64_of {x : Int} (h : (Lit.int .i64 x).wf = true) : I64 x := bounds_i64 h
theorem Tryz.cellsCred : Tryz.prog.cellsOf 39 = 4 := by kernel_rfl
theorem Tryz.cellsInt : Tryz.prog.cellsOf 3 = 1 := by kernel_rfl
section
variable {H : Type} {enc : TypeId × Value → H} {w : World} {base : Nat} {spare : Nat → Bool} {held : Bool}
/-- One cell that reads as an int. -/
theorem cell_int {n : Nat} {cs : List Value} {y : DataW H × List MemPlace} (h : DataW.trod enc Tryz.prog w base spare held n 3 cs = some y) : ∃ a : Int, cs = [.int .i64 a] ∧ I64 a := by
  obtain ⟨a, e, -, wf⟩ := DataW.trod_int Tryz.underlying3 h
  exact ⟨a, e, i64_of wf⟩
theorem list_four {α : Type} {l : List α} (h : l.length = 4) : ∃ a b c d, l = [a, b, c, d] := by
  match l, h with
  | [a, b, c, d], _ => exact ⟨a, b, c, d, rfl⟩
theorem list_three {α : Type} {l : List α} (h : l.length = 3) : ∃ a b c, l = [a, b, c] := by
  match l, h with
  | [a, b, c], _ => exact ⟨a, b, c, rfl⟩
theorem fields_four {P : Program} {t : TypeId} {f0 f1 f2 f3 : Field} {n : Nat} {cs : List Value} {y : DataW H × List MemPlace} (ht : P.underlying t = some (.struct #[f0, f1, f2, f3])) (ct : P.cellsOf t = 4) (c3 : P.cellsOf 3 = 1)
    (o : f0.offset = 0 ∧ f1.offset = 1 ∧ f2.offset = 2 ∧ f3.offset = 3) (u : f0.type = 3 ∧ f1.type = 3 ∧ f2.type = 3 ∧ f3.type = 3) (h : DataW.trod enc P w base spare held n t cs = some y) :
    ∃ v0 v1 v2 v3 y0 y1 y2 y3 k, cs = [v0, v1, v2, v3] ∧ DataW.trod enc P w base spare held k 3 [v0] = some y0 ∧ DataW.trod enc P w base spare held k 3 [v1] = some y1 ∧ DataW.trod enc P w base spare held k 3 [v2] = some y2 ∧ DataW.trod enc P w base spare held k 3 [v3] = some y3 := by
  obtain ⟨xs, k, -, -, hl, hxl, hf⟩ := DataW.trod_struct ht h
  rw [ct] at hl
  obtain ⟨y0, y1, y2, y3, rfl⟩ := list_four (show xs.length = 4 from hxl)
  obtain ⟨v0, v1, v2, v3, rfl⟩ := list_four hl
  have g0 := hf 0 f0 rfl
  have g1 := hf 1 f1 rfl
  have g2 := hf 2 f2 rfl
  have g3 := hf 3 f3 rfl
  simp [o.1, o.2.1, o.2.2.1, o.2.2.2, u.1, u.2.1, u.2.2.1, u.2.2.2, c3] at g0 g1 g2 g3
  exact ⟨v0, v1, v2, v3, y0, y1, y2, y3, k, rfl, g0, g1, g2, g3⟩
theorem fields_three {P : Program} {t : TypeId} {f0 f1 f2 : Field} {n : Nat} {cs : List Value} {y : DataW H × List MemPlace} (ht : P.underlying t = some (.struct #[f0, f1, f2])) (ct : P.cellsOf t = 3) (c3 : P.cellsOf 3 = 1)
    (o : f0.offset = 0 ∧ f1.offset = 1 ∧ f2.offset = 2) (u : f0.type = 3 ∧ f1.type = 3 ∧ f2.type = 3) (h : DataW.trod enc P w base spare held n t cs = some y) :
    ∃ v0 v1 v2 y0 y1 y2 k, cs = [v0, v1, v2] ∧ DataW.trod enc P w base spare held k 3 [v0] = some y0 ∧ DataW.trod enc P w base spare held k 3 [v1] = some y1 ∧ DataW.trod enc P w base spare held k 3 [v2] = some y2 := by
  obtain ⟨xs, k, -, -, hl, hxl, hf⟩ := DataW.trod_struct ht h
  rw [ct] at hl
  obtain ⟨y0, y1, y2, rfl⟩ := list_three (show xs.length = 3 from hxl)
  obtain ⟨v0, v1, v2, rfl⟩ := list_three hl
  have g0 := hf 0 f0 rfl
  have g1 := hf 1 f1 rfl
  have g2 := hf 2 f2 rfl
  simp [o.1, o.2.1, o.2.2, u.1, u.2.1, u.2.2, c3] at g0 g1 g2
  exact ⟨v0, v1, v2, y0, y1, y2, k, rfl, g0, g1, g2⟩
/-- A credential's four cells. -/
theorem cells_cred {n : Nat} {cs : List Value} {y : DataW H × List MemPlace} (h : DataW.trod enc Tryz.prog w base spare held n 39 cs = some y) : ∃ c : CredM, cs = credCells c ∧ I64 c.p ∧ I64 c.t ∧ I64 c.e ∧ I64 c.v := by
  obtain ⟨v0, v1, v2, v3, y0, y1, y2, y3, k, rfl, g0, g1, g2, g3⟩ := fields_four Tryz.underlying39 Tryz.cellsCred Tryz.cellsInt ⟨rfl, rfl, rfl, rfl⟩ ⟨rfl, rfl, rfl, rfl⟩ h
  obtain ⟨a0, e0, w0⟩ := cell_int g0
  obtain ⟨a1, e1, w1⟩ := cell_int g1
  obtain ⟨a2, e2, w2⟩ := cell_int g2
  obtain ⟨a3, e3, w3⟩ := cell_int g3
  simp at e0 e1 e2 e3
  subst e0 e1 e2 e3
  exact ⟨⟨a0, a1, a2, a3⟩, rfl, w0, w1, w2, w3⟩
theorem block_of_cell {a : Addr} {v : Value} (h : w.cell? a = some v) : a.block < w.heap.size := by
  unfold World.cell? at h
  cases hb : w.heap[a.block]? with
  | none => rw [hb] at h; exact absurd h (by simp)
  | some o => exact (Array.getElem?_eq_some_iff.1 hb).1
/-- A slice of credentials that came in. -/
theorem open_creds {fuel : Nat} {v : Value} {x : DataW H × List MemPlace} (h : DataW.trod enc Tryz.prog w base spare held fuel 22 [v] = some x) (hlen : ∀ a n cap, v = .slice a n cap → n ≤ 100000000000000) : ∃ l : List CredM, RawAt w v l := by
  rcases open_slice Tryz.underlying22 h with ⟨h0, -⟩ | ⟨a, len, cap, m, n, D, Pl, h0, hb, hl, hm, hmm, -, hx⟩
  · have : v = .slice none 0 0 := by simpa using h0
    subst this
    exact ⟨[], ⟨none, 0, rfl, fun h => absurd h (by simp)⟩, by simp, fun c hc => absurd hc List.not_mem_nil⟩
  · have hv : v = .slice (some a) len cap := by simpa using h0
    subst hv
    have hlm : len ≤ m := by rw [hmm]; split <;> omega
    rw [Tryz.cellsCred] at hx
    have each : ∀ i, i < len → ∃ c : CredM, (∀ j, j < 4 → w.cell? (a.add (i * 4 + j)) = (credCells c)[j]?) ∧ I64 c.p ∧ I64 c.t ∧ I64 c.e ∧ I64 c.v := by
      intro i hi
      obtain ⟨cs', h1, h2⟩ := hx i (by omega)
      obtain ⟨_, hl4, hcell⟩ := World.cells?_some h1
      obtain ⟨c, rfl, hc⟩ := cells_cred h2
      refine ⟨c, fun j hj => ?_, hc⟩
      have := hcell j hj
      rw [add_add] at this
      exact this
    haveI : Inhabited CredM := ⟨credZ⟩
    obtain ⟨q, hq⟩ := choose_lt each
    refine ⟨listOf q len, ⟨some a, cap, by rw [listOf_len], fun hpos => ?_⟩, by rw [listOf_len]; exact hlen _ _ _ rfl, listOf_mem q len (fun i hi => (hq i hi).2)⟩
    rw [listOf_len] at hpos
    obtain ⟨g, o, spot⟩ := a
    have h00 := (hq 0 hpos).1 0 (by omega)
    have hsome : w.cell? ((⟨g, o, spot⟩ : Addr).add (0 * 4 + 0)) = some (.int .i64 (q 0).p) := h00
    have hspot : spot = none := by simpa [Addr.add] using World.cell?_spot hsome
    subst hspot
    refine ⟨g, o, rfl, block_of_cell (a := ⟨g, o, none⟩) (by simpa [Addr.add] using hsome), fun i j hi hj => ?_⟩
    rw [listOf_len] at hi
    rw [listOf_get q credZ len i hi, Nat.add_assoc, ← add_plain]
    exact (hq i hi).1 j hj
end
end Go.Proofs.YtceappncglfciaaGreat

/-
  Slices of steps that came in, opened.
-/
namespace Go.Proofs.YtceappncglfciaaGreat
open Go.ChangeShapes Go.WideShapes Go.ChangeAt Go.RowKit Go.Joins Go.Deep

theorem Tryz.cellsStep : Tryz.prog.cellsOf 34 = 3 := by kernel_rfl
section
variable {H : Type} {enc : TypeId × Value → H} {w : World} {base : Nat} {spare : Nat → Bool} {held : Bool}
/-- A step's three cells. -/
theorem cells_step {n : Nat} {cs : List Value} {y : DataW H × List MemPlace} (h : DataW.trod enc Tryz.prog w base spare held n 34 cs = some y) : ∃ c : StepA, cs = [.int .i64 c.k, .int .i64 c.a, .int .i64 c.b] ∧ I64 c.k ∧ I64 c.a ∧ I64 c.b := by
  obtain ⟨v0, v1, v2, y0, y1, y2, k, rfl, g0, g1, g2⟩ := fields_three Tryz.underlying34 Tryz.cellsStep Tryz.cellsInt ⟨rfl, rfl, rfl⟩ ⟨rfl, rfl, rfl⟩ h
  obtain ⟨a0, e0, w0⟩ := cell_int g0
  obtain ⟨a1, e1, w1⟩ := cell_int g1
  obtain ⟨a2, e2, w2⟩ := cell_int g2
  simp at e0 e1 e2
  subst e0 e1 e2
  exact ⟨⟨a0, a1, a2⟩, rfl, w0, w1, w2⟩
/-- A slice of steps that came in. -/
theorem open_steps {fuel : Nat} {v : Value} {x : DataW H × List MemPlace} (h : DataW.trod enc Tryz.prog w base spare held fuel 29 [v] = some x) (hlen : ∀ a n cap, v = .slice a n cap → n ≤ 100000000000000) : ∃ l : List StepA, StepsAt w v l := by
  rcases open_slice Tryz.underlying29 h with ⟨h0, -⟩ | ⟨a, len, cap, m, n, D, Pl, h0, hb, hl, hm, hmm, -, hx⟩
  · have : v = .slice none 0 0 := by simpa using h0
    subst this
    exact ⟨[], ⟨none, 0, rfl, fun h => absurd h (by simp)⟩, by simp, fun c hc => absurd hc List.not_mem_nil⟩
  · have hv : v = .slice (some a) len cap := by simpa using h0
    subst hv
    have hlm : len ≤ m := by rw [hmm]; split <;> omega
    rw [Tryz.cellsStep] at hx
    have each : ∀ i, i < len → ∃ c : StepA, (∀ j, j < 3 → w.cell? (a.add (i * 3 + j)) = [Value.int .i64 c.k, .int .i64 c.a, .int .i64 c.b][j]?) ∧ I64 c.k ∧ I64 c.a ∧ I64 c.b := by
      intro i hi
      obtain ⟨cs', h1, h2⟩ := hx i (by omega)
      obtain ⟨_, hl4, hcell⟩ := World.cells?_some h1
      obtain ⟨c, rfl, hc⟩ := cells_step h2
      refine ⟨c, fun j hj => ?_, hc⟩
      have := hcell j hj
      rw [add_add] at this
      exact this
    haveI : Inhabited StepA := ⟨stepZ⟩
    obtain ⟨q, hq⟩ := choose_lt each
    refine ⟨listOf q len, ⟨some a, cap, by rw [listOf_len], fun hpos => ?_⟩, by rw [listOf_len]; exact hlen _ _ _ rfl, listOf_mem q len (fun i hi => (hq i hi).2)⟩
    rw [listOf_len] at hpos
    obtain ⟨g, o, spot⟩ := a
    have h00 := (hq 0 hpos).1 0 (by omega)
    have hsome : w.cell? ((⟨g, o, spot⟩ : Addr).add (0 * 3 + 0)) = some (.int .i64 (q 0).k) := h00
    have hspot : spot = none := by simpa [Addr.add] using World.cell?_spot hsome
    subst hspot
    refine ⟨g, o, rfl, block_of_cell (a := ⟨g, o, none⟩) (by simpa [Addr.add] using hsome), fun i j hi hj => ?_⟩
    rw [listOf_len] at hi
    rw [listOf_get q stepZ len i hi, Nat.add_assoc, ← add_plain]
    exact (hq i hi).1 j hj
end
end Go.Proofs.YtceappncglfciaaGreat

/-
  What the rows of all statements of the loop share.
-/
namespace Go.Proofs.YtceappncglfciaaGreat
open Go.ChangeShapes Go.WideShapes Go.ChangeAt Go.RowKit Go.Joins Go.Deep

theorem Tryz.ownK : ownKnob Tryz.prog.godebug = none := by kernel_rfl
theorem Tryz.laidOutK : laidOutB Tryz.prog = true := by kernel_rfl
theorem Tryz.bytesCred : Tryz.prog.bytesOf 39 = 32 := by kernel_rfl

/-- A slice that came in is not long. -/
theorem short_slice {H : Type} {enc : TypeId × Value → H} {W : World} {ts : List TypeId} {ds : List (DataW H)} {j b : Nat} {t e : TypeId} {v : Value} {d : DataW H} {p : List MemPlace} (hsz : (DataW.weightsEach Tryz.prog ts ds).all (· ≤ reachBytes) = true) (ht : ts[j]? = some t) (hd : ds[j]? = some d)
    (hu : Tryz.prog.underlying t = some (.slice e)) (hb : Tryz.prog.bytesOf e = b) (hb8 : 8 ≤ b) {fuel : Nat} (h : DataW.trod enc Tryz.prog W 0 (fun _ => true) true fuel t [v] = some (d, p)) : ∀ a n cap, v = .slice a n cap → n ≤ 100000000000000 := by
  intro a n cap hv
  subst hv
  rcases open_slice hu h with ⟨h0, -⟩ | ⟨a', len, cap', m, k, D, Pl, h0, -, hl, -, hmm, hx, -⟩
  · simp at h0
    omega
  · simp at h0
    obtain ⟨rfl, rfl, rfl⟩ := h0
    simp only [Prod.mk.injEq] at hx
    have hs := sized_slice hsz ht (hd.trans (by rw [hx.1])) hu
    rw [hb] at hs
    simp at hs
    have h1 : n * b ≤ reachBytes := Nat.le_trans (Nat.mul_le_mul_right b (Nat.le_add_right n _)) hs
    have h2 : n * 8 ≤ n * b := Nat.mul_le_mul_left n hb8
    have h3 := reachBytes_lt
    omega
end Go.Proofs.YtceappncglfciaaGreat

/-
  Stays: the row, out of the walk.
-/
namespace Go.Proofs.YtceappncglfciaaGreat
open Go.ChangeShapes Go.WideShapes Go.ChangeAt Go.RowKit Go.Joins Go.Deep

theorem Tryz.bytesStep : Tryz.prog.bytesOf 34 = 24 := by kernel_rfl

set_option maxRecDepth 100000 in
theorem stays_lifted (S : TownRep) (D : Does S) (os : Os) (started : os.Started) (H : Type) (enc : TypeId × Value → H) :
    ReturnsInHanded {} Tryz.checked os 8 .any (Rows.staysSpec.pre6 enc Tryz.prog Tryz.f8 Rows.staysRow.domain false) (Rows.staysSpec.post enc Tryz.prog Tryz.f8 false true false false) := by
  refine returnsInHanded_of_change_sized (C := Tryz.checked) Tryz.ownK started (by kernel_rfl) Tryz.func8
    (ChangeSpec.witness6 (enc := enc) (C := Tryz.checked) false ⟨#[], #[.slice none 0 0, .int .i64 0, .int .i64 0, .slice none 0 0], []⟩ 8 (by kernel_rfl) (by kernel_rfl) (by kernel_rfl) (by kernel_rfl)) ?_
  intro W base args ds gs before hval0 hW hcnd hsz _
  have hval : ∀ (j : Nat) t v, Tryz.f8.params[j]? = some t → args[j]? = some v → Value.okWide Tryz.prog W .any base t v := hval0
  have hW' := hW
  obtain ⟨p, q, hA0, hV, rfl, hfz, hnd⟩ := hW
  have hA : DataW.TrodAll enc Tryz.prog W 0 (fun _ => true) true Tryz.f8.params.toList args.toList ds p := hA0
  rw [Tryz.params8] at hA hval hsz
  obtain ⟨v0, vs0, d0, ds0, p0, q0, hargs, rfl, rfl, h0, r0⟩ := trodAll_cons hA
  obtain ⟨v1, vs1, d1, ds1, p1, q1, rfl, rfl, rfl, h1, r1⟩ := trodAll_cons r0
  obtain ⟨v2, vs2, d2, ds2, p2, q2, rfl, rfl, rfl, h2, r2⟩ := trodAll_cons r1
  obtain ⟨v3, vs3, d3, ds3, p3, q3, rfl, rfl, rfl, h3, r3⟩ := trodAll_cons r2
  obtain ⟨rfl, rfl, rfl⟩ := trodAll_nil r3
  obtain rfl : args = #[v0, v1, v2, v3] := by cases args; simp_all
  obtain ⟨rfl, rfl⟩ := trodVars_none hV
  have k0 := h0
  have lt0 : ∀ x ∈ p0, x.block < W.heap.size := by obtain ⟨m, hm⟩ := k0; exact DataW.trod_lt m _ _ _ hm
  have k3 := h3
  have lt3 : ∀ x ∈ p3, x.block < W.heap.size := by obtain ⟨m, hm⟩ := k3; exact DataW.trod_lt m _ _ _ hm
  obtain ⟨a, rfl, rfl, rfl, wa⟩ := open_int Tryz.underlying3 (hval 1 3 v1 rfl rfl) h1
  obtain ⟨b, rfl, rfl, rfl, wb⟩ := open_int Tryz.underlying3 (hval 2 3 v2 rfl rfl) h2
  obtain ⟨va, vn, vc, rfl⟩ := okWide_slice Tryz.underlying22 (hval 0 22 v0 rfl rfl)
  obtain ⟨sa, sn, sc, rfl⟩ := okWide_slice Tryz.underlying29 (hval 3 29 v3 rfl rfl)
  obtain ⟨fu0, hf0⟩ := h0
  obtain ⟨fu3, hf3⟩ := h3
  have hs0 := short_slice (j := 0) hsz rfl rfl Tryz.underlying22 Tryz.bytesCred (by omega) hf0
  have hs3 := short_slice (j := 3) hsz rfl rfl Tryz.underlying29 Tryz.bytesStep (by omega) hf3
  obtain ⟨l, hl⟩ := open_creds hf0 hs0
  obtain ⟨sl, hsl⟩ := open_steps hf3 hs3
  clear hA0 hval0
  refine (stays_any S D _ _ l sl a b W hl (i64_of wa) (i64_of wb) hsl).mono fun e W' ⟨he, bel⟩ => ?_
  subst he
  exact ⟨_, rfl, _, _, _, [], _, [], hW', trodAll_mk1 (shut_bool Tryz.underlying4 _), (trodAll_cons_mk (Below.trod Tryz.laidOutK (by kernel_rfl) (of_decide_eq_true (by kernel_rfl)) k0 bel lt0) (trodAll_cons_mk (shut_int Tryz.underlying3 wa) (trodAll_cons_mk (shut_int Tryz.underlying3 wb) (trodAll_cons_mk (Below.trod Tryz.laidOutK (by kernel_rfl) (of_decide_eq_true (by kernel_rfl)) k3 bel lt3) trodAll_mk0)))), rfl, bel.frame _, fun h => by cases h⟩

theorem stays_of (S : TownRep) (D : Does S) : Rows.StaysSaid :=
  OpenClaim.holds_of_wide 8 Tryz.f8 rfl rfl rfl rfl rfl rfl rfl ⟨rfl, rfl, rfl, rfl, rfl⟩ rfl rfl rfl rfl rfl (by kernel_rfl) Tryz.func8 (by kernel_rfl)
    (of_decide_eq_true (by kernel_rfl)) (by unfold Func.isWrapper; first | (rw [if_pos (by decide +kernel)]; kernel_rfl) | (rw [if_neg (by decide +kernel)]; exact ⟨rfl, rfl⟩))
    (fun os started H enc _ => stays_lifted S D os started H enc)
end Go.Proofs.YtceappncglfciaaGreat

/-
  Chosen: the row, out of the walk.
-/
namespace Go.Proofs.YtceappncglfciaaGreat
open Go.ChangeShapes Go.WideShapes Go.ChangeAt Go.RowKit Go.Joins Go.Deep

set_option maxRecDepth 100000 in
theorem chosen_lifted (S : TownRep) (D : Does1 S) (D3 : Does3 S) (hN : ∀ (d : List Int) (w : World), d.length = 56 → BytesL d → Calls Tryz.prog 22 #[.string (strOfNums d)] w fun o w' => o = .returned (.tuple #[.agg #[.int .i64 (newestL d).c.p, .int .i64 (newestL d).c.t, .int .i64 (newestL d).c.e, .int .i64 (newestL d).c.v], .int .i64 (newestL d).n, .int .i64 (newestL d).at_]) ∧ Below w.heap.size w w') (os : Os) (started : os.Started) (H : Type) (enc : TypeId × Value → H) :
    ReturnsInHanded {} Tryz.checked os 6 .any (Rows.chosenSpec.pre6 enc Tryz.prog Tryz.f6 Rows.chosenRow.domain false) (Rows.chosenSpec.post enc Tryz.prog Tryz.f6 false true false false) := by
  refine returnsInHanded_of_change_sized (C := Tryz.checked) Tryz.ownK started (by kernel_rfl) Tryz.func6
    (ChangeSpec.witness6 (enc := enc) (C := Tryz.checked) false ⟨#[], #[.slice none 0 0, .int .i64 0, .int .i64 0, .int .i64 0], []⟩ 8 (by kernel_rfl) (by kernel_rfl) (by kernel_rfl) (by kernel_rfl)) ?_
  intro W base args ds gs before hval0 hW hcnd hsz _
  have hval : ∀ (j : Nat) t v, Tryz.f6.params[j]? = some t → args[j]? = some v → Value.okWide Tryz.prog W .any base t v := hval0
  have hW' := hW
  obtain ⟨p, q, hA0, hV, rfl, hfz, hnd⟩ := hW
  have hA : DataW.TrodAll enc Tryz.prog W 0 (fun _ => true) true Tryz.f6.params.toList args.toList ds p := hA0
  rw [Tryz.params6] at hA hval hsz
  obtain ⟨v0, vs0, d0, ds0, p0, q0, hargs, rfl, rfl, h0, r0⟩ := trodAll_cons hA
  obtain ⟨v1, vs1, d1, ds1, p1, q1, rfl, rfl, rfl, h1, r1⟩ := trodAll_cons r0
  obtain ⟨v2, vs2, d2, ds2, p2, q2, rfl, rfl, rfl, h2, r2⟩ := trodAll_cons r1
  obtain ⟨v3, vs3, d3, ds3, p3, q3, rfl, rfl, rfl, h3, r3⟩ := trodAll_cons r2
  obtain ⟨rfl, rfl, rfl⟩ := trodAll_nil r3
  obtain rfl : args = #[v0, v1, v2, v3] := by cases args; simp_all
  obtain ⟨rfl, rfl⟩ := trodVars_none hV
  have k0 := h0
  have lt0 : ∀ x ∈ p0, x.block < W.heap.size := by obtain ⟨m, hm⟩ := k0; exact DataW.trod_lt m _ _ _ hm
  obtain ⟨a, rfl, rfl, rfl, wa⟩ := open_int Tryz.underlying3 (hval 1 3 v1 rfl rfl) h1
  obtain ⟨b, rfl, rfl, rfl, wb⟩ := open_int Tryz.underlying3 (hval 2 3 v2 rfl rfl) h2
  obtain ⟨c, rfl, rfl, rfl, wc⟩ := open_int Tryz.underlying3 (hval 3 3 v3 rfl rfl) h3
  obtain ⟨va, vn, vc, rfl⟩ := okWide_slice Tryz.underlying22 (hval 0 22 v0 rfl rfl)
  obtain ⟨fu0, hf0⟩ := h0
  have hs0 := short_slice (j := 0) hsz rfl rfl Tryz.underlying22 Tryz.bytesCred (by omega) hf0
  obtain ⟨l, hl⟩ := open_creds hf0 hs0
  clear hA0 hval0
  refine (chosen_any S D D3 _ l a b c W hl (i64_of wa) (i64_of wb) (i64_of wc) hN).mono fun e W' ⟨he, bel⟩ => ?_
  subst he
  exact ⟨_, rfl, _, _, _, [], _, [], hW', trodAll_mk1 (shut_bool Tryz.underlying4 _), (trodAll_cons_mk (Below.trod Tryz.laidOutK (by kernel_rfl) (of_decide_eq_true (by kernel_rfl)) k0 bel lt0) (trodAll_cons_mk (shut_int Tryz.underlying3 wa) (trodAll_cons_mk (shut_int Tryz.underlying3 wb) (trodAll_cons_mk (shut_int Tryz.underlying3 wc) trodAll_mk0)))), rfl, bel.frame _, fun h => by cases h⟩

theorem chosen_of (S : TownRep) (D : Does1 S) (D3 : Does3 S) (hN : ∀ (d : List Int) (w : World), d.length = 56 → BytesL d → Calls Tryz.prog 22 #[.string (strOfNums d)] w fun o w' => o = .returned (.tuple #[.agg #[.int .i64 (newestL d).c.p, .int .i64 (newestL d).c.t, .int .i64 (newestL d).c.e, .int .i64 (newestL d).c.v], .int .i64 (newestL d).n, .int .i64 (newestL d).at_]) ∧ Below w.heap.size w w') : Rows.ChosenSaid :=
  OpenClaim.holds_of_wide 6 Tryz.f6 rfl rfl rfl rfl rfl rfl rfl ⟨rfl, rfl, rfl, rfl, rfl⟩ rfl rfl rfl rfl rfl (by kernel_rfl) Tryz.func6 (by kernel_rfl)
    (of_decide_eq_true (by kernel_rfl)) (by unfold Func.isWrapper; first | (rw [if_pos (by decide +kernel)]; kernel_rfl) | (rw [if_neg (by decide +kernel)]; exact ⟨rfl, rfl⟩))
    (fun os started H enc _ => chosen_lifted S D D3 hN os started H enc)
end Go.Proofs.YtceappncglfciaaGreat

/-
  Lost: the row, out of the walk.
-/
namespace Go.Proofs.YtceappncglfciaaGreat
open Go.ChangeShapes Go.WideShapes Go.ChangeAt Go.RowKit Go.Joins Go.Deep

set_option maxRecDepth 100000 in
theorem lost_lifted (S : TownRep) (D : Does1 S) (D3 : Does3 S) (os : Os) (started : os.Started) (H : Type) (enc : TypeId × Value → H) :
    ReturnsInHanded {} Tryz.checked os 7 .any (Rows.lostSpec.pre6 enc Tryz.prog Tryz.f7 Rows.lostRow.domain false) (Rows.lostSpec.post enc Tryz.prog Tryz.f7 false true false false) := by
  refine returnsInHanded_of_change_sized (C := Tryz.checked) Tryz.ownK started (by kernel_rfl) Tryz.func7
    (ChangeSpec.witness6 (enc := enc) (C := Tryz.checked) false ⟨#[], #[.slice none 0 0, .int .i64 0], []⟩ 8 (by kernel_rfl) (by kernel_rfl) (by kernel_rfl) (by kernel_rfl)) ?_
  intro W base args ds gs before hval0 hW hcnd hsz _
  have hval : ∀ (j : Nat) t v, Tryz.f7.params[j]? = some t → args[j]? = some v → Value.okWide Tryz.prog W .any base t v := hval0
  have hW' := hW
  obtain ⟨p, q, hA0, hV, rfl, hfz, hnd⟩ := hW
  have hA : DataW.TrodAll enc Tryz.prog W 0 (fun _ => true) true Tryz.f7.params.toList args.toList ds p := hA0
  rw [Tryz.params7] at hA hval hsz
  obtain ⟨v0, vs0, d0, ds0, p0, q0, hargs, rfl, rfl, h0, r0⟩ := trodAll_cons hA
  obtain ⟨v1, vs1, d1, ds1, p1, q1, rfl, rfl, rfl, h1, r1⟩ := trodAll_cons r0
  obtain ⟨rfl, rfl, rfl⟩ := trodAll_nil r1
  obtain rfl : args = #[v0, v1] := by cases args; simp_all
  obtain ⟨rfl, rfl⟩ := trodVars_none hV
  have k0 := h0
  have lt0 : ∀ x ∈ p0, x.block < W.heap.size := by obtain ⟨m, hm⟩ := k0; exact DataW.trod_lt m _ _ _ hm
  obtain ⟨a, rfl, rfl, rfl, wa⟩ := open_int Tryz.underlying3 (hval 1 3 v1 rfl rfl) h1
  obtain ⟨va, vn, vc, rfl⟩ := okWide_slice Tryz.underlying22 (hval 0 22 v0 rfl rfl)
  obtain ⟨fu0, hf0⟩ := h0
  have hs0 := short_slice (j := 0) hsz rfl rfl Tryz.underlying22 Tryz.bytesCred (by omega) hf0
  obtain ⟨l, hl⟩ := open_creds hf0 hs0
  clear hA0 hval0
  refine (lost_any S D D3 _ l a W hl (i64_of wa)).mono fun e W' ⟨he, bel⟩ => ?_
  subst he
  exact ⟨_, rfl, _, _, _, [], _, [], hW', trodAll_mk1 (shut_bool Tryz.underlying4 _), (trodAll_cons_mk (Below.trod Tryz.laidOutK (by kernel_rfl) (of_decide_eq_true (by kernel_rfl)) k0 bel lt0) (trodAll_cons_mk (shut_int Tryz.underlying3 wa) trodAll_mk0)), rfl, bel.frame _, fun h => by cases h⟩

theorem lost_of (S : TownRep) (D : Does1 S) (D3 : Does3 S) : Rows.LostSaid :=
  OpenClaim.holds_of_wide 7 Tryz.f7 rfl rfl rfl rfl rfl rfl rfl ⟨rfl, rfl, rfl, rfl, rfl⟩ rfl rfl rfl rfl rfl (by kernel_rfl) Tryz.func7 (by kernel_rfl)
    (of_decide_eq_true (by kernel_rfl)) (by unfold Func.isWrapper; first | (rw [if_pos (by decide +kernel)]; kernel_rfl) | (rw [if_neg (by decide +kernel)]; exact ⟨rfl, rfl⟩))
    (fun os started H enc _ => lost_lifted S D D3 os started H enc)
end Go.Proofs.YtceappncglfciaaGreat
