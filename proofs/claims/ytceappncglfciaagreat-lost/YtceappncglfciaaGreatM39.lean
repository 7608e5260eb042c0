import Derived.Test.YtceappncglfciaaGreatM38
set_option linter.unusedVariables false
set_option linter.unusedSimpArgs false
/-
  Chosen: the walk.
-/
namespace Go.Proofs.YtceappncglfciaaGreat
open Go.RowKit TownM
attribute [local go_sem ↓] Go.wp_at_zero Go.wp_at_succ

/-- The credentials of Chosen. -/
def chosenC (l : List CredM) (n P : Int) (i : Nat) : CredM := ⟨P, pickI (l.getD i credZ).t n, pickI (l.getD i credZ).e (P + 1), pickI (l.getD i credZ).v 1000⟩
/-- Is a credential at least as good as another one? -/
def upTo (a b : CredM) : Bool := decide (b.e < a.e) || (a.e == b.e && decide (b.v ≤ a.v))
/-- The best one below k. -/
def bestI (f : Nat → CredM) : Nat → Nat
  | 0 => 0
  | k + 1 => if upTo (f k) (f (bestI f k)) = true then k else bestI f k
theorem bestI_lt (f : Nat → CredM) : ∀ k, 0 < k → bestI f k < k
  | 1, _ => by unfold bestI; split <;> simp [bestI]
  | k + 2, _ => by
    have := bestI_lt f (k + 1) (by omega)
    unfold bestI
    split <;> omega
theorem bestI_le (f : Nat → CredM) (k : Nat) : bestI f k ≤ k := by
  cases k with
  | zero => exact Nat.le_refl _
  | succ k => exact Nat.le_of_lt (bestI_lt f (k + 1) (by omega))
theorem upTo_iff (a b : CredM) : upTo a b = true ↔ b.e < a.e ∨ (a.e = b.e ∧ b.v ≤ a.v) := by
  unfold upTo
  simp
theorem bestI_best (f : Nat → CredM) : ∀ k j, j < k → ((f j).vote j).better ((f (bestI f k)).vote (bestI f k)) = false
  | k + 1, j, hj => by
    rw [better_not]
    show ¬ ((f (bestI f (k + 1))).e < (f j).e ∨ ((f j).e = (f (bestI f (k + 1))).e ∧ ((f (bestI f (k + 1))).v < (f j).v ∨ ((f j).v = (f (bestI f (k + 1))).v ∧ ((bestI f (k + 1) : Nat) : Int) < (j : Int)))))
    have hle := bestI_le f k
    by_cases hc : upTo (f k) (f (bestI f k)) = true
    · have e : bestI f (k + 1) = k := by rw [bestI, if_pos hc]
      rw [e]
      rw [upTo_iff] at hc
      by_cases hjk : j = k
      · subst hjk; omega
      · have ih := bestI_best f k j (by omega)
        rw [better_not] at ih
        have ih' : ¬ ((f (bestI f k)).e < (f j).e ∨ ((f j).e = (f (bestI f k)).e ∧ ((f (bestI f k)).v < (f j).v ∨ ((f j).v = (f (bestI f k)).v ∧ ((bestI f k : Nat) : Int) < (j : Int))))) := ih
        omega
    · have e : bestI f (k + 1) = bestI f k := by rw [bestI, if_neg hc]
      rw [e]
      rw [upTo_iff] at hc
      by_cases hjk : j = k
      · subst hjk; omega
      · have ih := bestI_best f k j (by omega)
        rw [better_not] at ih
        exact ih
theorem chosenC_may (l : List CredM) {n : Nat} (hn : 1 ≤ n) {P : Int} (hP : 0 ≤ P ∧ P < 1000) (i : Nat) : (chosenC l n P i).may n := by
  have h2 := pickI_range (l.getD i credZ).t n (by omega)
  have h3 := pickI_range (l.getD i credZ).e (P + 1) (by omega)
  have h4 := pickI_range (l.getD i credZ).v 1000 (by omega)
  exact ⟨h3.1, by show pickI (l.getD i credZ).e (P + 1) ≤ P; omega, by show P ≤ 1000; omega, h2.1, h2.2, h4.1, by show pickI (l.getD i credZ).v 1000 ≤ 1000000000; omega⟩
/-- What Chosen sees, in plain numbers. -/
structure ChosenM (T0 T1 T1a T2 : TownM) (n b : Nat) (P v wait : Int) : Prop where
  f1 : flush 3000 T0 = (true, T1)
  t1 : T1.tickC wait = T1a
  f2 : flush 3000 T1a = (true, T2)
  ev : T2.events = [((b : Int), P + 1)]
  fits : Fits 8 T0 ∧ Fits 6008 T1 ∧ Fits 6308 T1a ∧ Fits 12308 T2
  s2 : ∀ j : Nat, j < n → T2.upE (j : Int) true = 0 ∧ T2.isE (j : Int) = 0 ∧ T2.stateOf (j : Int) = (if j = b then 2 else 1) ∧ ∃ k, DiskOK k ⟨P + 1, b, P + 1, v⟩ (T2.diskOf (j : Int))
theorem chosen_plain (l : List CredM) (n : Nat) (hn : 1 ≤ n ∧ n ≤ 7) (P wait lease : Int) (hP : 0 ≤ P ∧ P < 1000) (hw : 1 ≤ wait ∧ wait ≤ 20) (hl : 4 ≤ lease ∧ lease ≤ 100) :
    ∃ T1 T1a T2, ChosenM (TownM.new wait lease 1000 (listOf (chosenC l n P) n)) T1 T1a T2 n (bestI (chosenC l n P) n) P (chosenC l n P (bestI (chosenC l n P) n)).v wait := by
  have hlen := listOf_len (chosenC l n P) n
  have hmay : ∀ c ∈ listOf (chosenC l n P) n, c.may n := listOf_mem (chosenC l n P) n (fun i _ => chosenC_may l hn.1 hP i)
  have hok : ∀ c ∈ listOf (chosenC l n P) n, c.ok := fun c hc => CredM.may_ok hn.2 (hmay c hc)
  have hp0 : ∀ c ∈ listOf (chosenC l n P) n, c.p = P := listOf_mem (P := fun c => c.p = P) (chosenC l n P) n (fun i _ => rfl)
  have he0 : ∀ c ∈ listOf (chosenC l n P) n, c.e ≤ P := fun c hc => by
    have := hmay c hc
    have hp := hp0 c hc
    have h2 := this.2.1
    omega
  obtain ⟨b, T1, T2, hb, hbest, hf1, hf2, hs⟩ := chosen_pure (P := P) (wait := wait) (lease := lease) (l := listOf (chosenC l n P) n) (by rw [hlen]; omega) hok hp0 he0 hP hw.1
  rw [hlen] at hb
  have hown : ∀ j, j < n → ownV (listOf (chosenC l n P) n) j = (chosenC l n P j).vote j := fun j hj => by unfold ownV; rw [listOf_get _ _ n j hj]
  have hbi := bestI_lt (chosenC l n P) n hn.1
  have hbb : b = bestI (chosenC l n P) n := by
    have h1 := hbest (bestI (chosenC l n P) n) (by rw [hlen]; exact hbi)
    have h2 := bestI_best (chosenC l n P) n b hb
    rw [hown _ hbi, hown b hb] at h1
    have h3 := better_anti h1 h2
    have h4 : ((bestI (chosenC l n P) n : Nat) : Int) = (b : Int) := congrArg VoteM.p h3
    omega
  subst hbb
  have e1 : T1.tickC wait = T1.tickN wait.toNat := tickC_in (by omega)
  have F0 : Fits 8 (TownM.new wait lease 1000 (listOf (chosenC l n P) n)) := Fits.new (by rw [hlen]; omega) hw hl (by omega) hok
  have F1 : Fits 6008 T1 := by
    have := F0.flush 3000 _ (by omega)
    rw [hf1] at this
    exact this.mono (by omega)
  have F1a : Fits 6308 (T1.tickC wait) := by
    rw [e1]
    exact (F1.tickN wait.toNat (by omega)).mono (by omega)
  have F2 : Fits 12308 T2 := by
    have := F1a.flush 3000 _ (by omega)
    rw [e1, hf2] at this
    exact this.mono (by omega)
  have hl2 : T2.ps.length = n := by rw [hs.conf.len, hlen]
  have hgv : ((listOf (chosenC l n P) n).getD (bestI (chosenC l n P) n) credZ).v = (chosenC l n P (bestI (chosenC l n P) n)).v := by rw [listOf_get _ _ n _ hbi]
  refine ⟨T1, T1.tickC wait, T2, hf1, rfl, by rw [e1]; exact hf2, hs.ev, ⟨F0, F1, F1a, F2⟩, fun j hj => ?_⟩
  have hjl : j < T2.ps.length := by rw [hl2]; exact hj
  have hisj : T2.is (j : Int) = true := by
    unfold TownM.is
    simp only [Bool.and_eq_true, decide_eq_true_eq]
    omega
  have hdj : T2.diskOf (j : Int) = (T2.peer j).disk := by unfold TownM.diskOf; rw [if_pos hisj]; rfl
  have hej : T2.isE (j : Int) = 0 := by unfold TownM.isE; rw [if_pos hisj]
  rw [hdj, ← hgv]
  by_cases hjb : j = bestI (chosenC l n P) n
  · have hL := hs.lead
    rw [← hjb] at hL ⊢
    have h1 := stateOf_up hjl hL.up
    exact ⟨h1.1, hej, by rw [h1.2, if_pos rfl]; exact hL.state, 3, hL.disk⟩
  · have hF := hs.fol j (by rw [hlen]; exact hj) hjb
    have h1 := stateOf_up hjl hF.up
    exact ⟨h1.1, hej, by rw [h1.2, if_neg hjb]; exact hF.state, 3, hF.disk⟩
set_option maxRecDepth 100000 in
set_option maxHeartbeats 16000000 in
theorem chosen_any (S : TownRep) (D : Does1 S) (D3 : Does3 S) (raw : Value) (l : List CredM) (promised wait lease : Int) (W : World) (hr : RawAt W raw l) (hp : I64 promised) (hw : I64 wait) (hl : I64 lease)
    (hN : ∀ (d : List Int) (w : World), d.length = 56 → BytesL d → Calls Tryz.prog 22 #[.string (strOfNums d)] w fun o w' => o = .returned (.tuple #[.agg #[.int .i64 (newestL d).c.p, .int .i64 (newestL d).c.t, .int .i64 (newestL d).c.e, .int .i64 (newestL d).c.v], .int .i64 (newestL d).n, .int .i64 (newestL d).at_]) ∧ Below w.heap.size w w') :
    Calls Tryz.prog 6 #[raw, .int .i64 promised, .int .i64 wait, .int .i64 lease] W fun o w' => o = .returned (.bool true) ∧ Below W.heap.size W w' := by
  obtain ⟨ra, rcap, rfl, hrow⟩ := hr.is
  have hlen := hr.len
  have hpr := pickI_range (l.length + 6) 7 (by omega)
  have hPr := pickI_range promised 1000 (by omega)
  have hwr := pickI_range wait 20 (by omega)
  have hsr := pickI_range lease 97 (by omega)
  have HP1 := hide (fun w => pick_any (l.length + 6) 7 w (by omega) (by omega) (by omega) (by omega))
  have HP2 := hide (fun w => pick_any promised 1000 w (by omega) (by omega) hp.1 hp.2)
  have HP3 := hide (fun w => pick_any wait 20 w (by omega) (by omega) hw.1 hw.2)
  have HP4 := hide (fun w => pick_any lease 97 w (by omega) (by omega) hl.1 hl.2)
  obtain ⟨m, hm⟩ := Int.eq_ofNat_of_zero_le hpr.1
  rw [hm] at HP1 hpr
  have hm6 : m < 7 := by omega
  generalize pickI promised 1000 = P at *
  generalize pickI wait 20 = pw at *
  generalize pickI lease 97 = pl at *
  have HROW := hide hrow
  have HR := hide hr
  have HD := hide D
  have HD3 := hide D3
  have HN := hide hN
  have HST := hide (InvC.start W (chosenC l (1 + m) P) (1 + pw) (4 + pl))
  clear hrow hr hl hw hp D D3 hm hpr hN
  go_enter Tryz.func6, Tryz.ntmps6
  go_wp2_with fail
  refine (unhide HP1 _).mono ?_
  rintro o w1 ⟨rfl, rfl⟩
  go_wp2_with fail
  refine (unhide HP2 _).mono ?_
  rintro o w2 ⟨rfl, rfl⟩
  go_wp2_with fail
  refine (unhide HP3 _).mono ?_
  rintro o w1 ⟨rfl, rfl⟩
  go_wp2_with fail
  refine (unhide HP4 _).mono ?_
  rintro o w2 ⟨rfl, rfl⟩
  go_wp2_with fail
  clear HP1 HP2 HP3 HP4
  go_loopg [12, 13] (1 + m) (fun g bn n wr => ∃ k : Nat, k ≤ 1 + m ∧ g = 1 + m - k ∧ bn = .int .i64 (bestI (chosenC l (1 + m) P) k : Nat) ∧ n = .int .i64 k ∧ InvC w2 (chosenC l (1 + m) P) (1 + pw) (4 + pl) k wr)
  case atStart => exact ⟨0, by omega, by simp, rfl, rfl, unhide HST⟩
  case round =>
    obtain ⟨k, hk, rfl, rfl, rfl, hI⟩ := hrel
    clear HST
    by_cases hlt : k < 1 + m
    · obtain ⟨v, hb1, hown⟩ := hI.conf
      have HI := hide hI
      have qk : (k : Int) < 1 + (m : Int) := by omega
      have hbl0 := bestI_le (chosenC l (1 + m) P) k
      generalize hbi : bestI (chosenC l (1 + m) P) k = bi at *
      have HBI := hide hbi
      have HX0 : Hid (∀ c : CredM, l.getD k credZ = c → InvC w2 (chosenC l (1 + m) P) (1 + pw) (4 + pl) k (wr.alloc (.cells #[.int .i64 c.p, .int .i64 c.t, .int .i64 c.e, .int .i64 c.v] 39)) ∧ Box (wr.alloc (.cells #[.int .i64 c.p, .int .i64 c.t, .int .i64 c.e, .int .i64 c.v] 39)) wr.heap.size (credCells (l.getD k credZ)).toArray 39) := fun c hc => by
        refine ⟨(unhide HI).alloc _, ?_⟩
        rw [hc]
        exact Box.new wr _ _
      have HWN := hide (fun b h => (hown.lt b h).2)
      have HV0 := hide (show wr.cell? ⟨w2.heap.size, 0, none⟩ = some v from hb1.cell 0)
      clear hI hb1 hown hbi
      go_upto_if 53 with fail
      go_cut [] (fun wc => InvC w2 (chosenC l (1 + m) P) (1 + pw) (4 + pl) k wc ∧ Box wc wr.heap.size (credCells (l.getD k credZ)).toArray 39 ∧ w2.heap.size + 1 ≤ wr.heap.size ∧ ∀ u, wc.cell? ⟨w2.heap.size, 0, none⟩ = some u → u.ownBlock ≠ some wr.heap.size)
      case first =>
        have hxs : w2.heap.size + 1 ≤ wr.heap.size := (unhide HI).size
        have HXS : Hid (∀ o : Obj, ∀ u, (wr.alloc o).cell? ⟨w2.heap.size, 0, none⟩ = some u → u.ownBlock ≠ some wr.heap.size) := fun o u hu hc => by
          have e1 : wr.cell? ⟨w2.heap.size, 0, none⟩ = some u := (World.cell?_of_block (Below.heap_alloc wr o w2.heap.size (by omega))).symm.trans hu
          have e2 := (unhide HV0).symm.trans e1
          have e3 : v = u := by simpa using e2
          subst e3
          exact Nat.lt_irrefl _ (unhide HWN _ hc)
        by_cases hkl : k < l.length
        · obtain ⟨rg, ro, rfl, hrg, hcell⟩ := unhide HROW (by omega)
          have hbl := (unhide HI).below
          have r0 := (World.cell?_of_block (hbl.block rg hrg)).trans (hcell k 0 hkl (by omega))
          have r1 := (World.cell?_of_block (hbl.block rg hrg)).trans (hcell k 1 hkl (by omega))
          have r2 := (World.cell?_of_block (hbl.block rg hrg)).trans (hcell k 2 hkl (by omega))
          have r3 := (World.cell?_of_block (hbl.block rg hrg)).trans (hcell k 3 hkl (by omega))
          simp only [credCells, Nat.add_zero] at r0 r1 r2 r3
          have hrl : rg < wr.heap.size := Nat.lt_of_lt_of_le hrg hbl.size
          have fin := hide (unhide HX0 _ rfl)
          have HX2 := hide hxs
          clear HX0 hcell hbl HR hxs
          generalize l.getD k credZ = c at *
          go_wp2
          go_meet
          case rel => exact ⟨(unhide fin).1, (unhide fin).2, unhide HX2, unhide HXS _⟩
        · have fin := hide (unhide HX0 credZ (by simp [List.getD_eq_getElem?_getD, Nat.le_of_not_lt hkl]))
          have HX2 := hide hxs
          clear HX0 hxs
          go_wp2
          go_meet
          case rel => exact ⟨(unhide fin).1, (unhide fin).2, unhide HX2, unhide HXS _⟩
      case rest =>
        obtain ⟨hi2, hx, hxs, hxn⟩ := hcut
        clear HX0 HI HWN HV0
        have hcc : I64 (l.getD k credZ).t ∧ I64 (l.getD k credZ).e ∧ I64 (l.getD k credZ).v := by
          rw [List.getD_eq_getElem?_getD]
          cases hg : l[k]? with
          | none => exact ⟨by simp [credZ, I64], by simp [credZ, I64], by simp [credZ, I64]⟩
          | some c => exact ((unhide HR).i64 c (List.mem_of_getElem? hg)).2
        have x0 : wc.cell? ⟨wr.heap.size, 0, none⟩ = some (.int .i64 (l.getD k credZ).p) := hx.cell 0
        have x1 : wc.cell? ⟨wr.heap.size, 1, none⟩ = some (.int .i64 (l.getD k credZ).t) := hx.cell 1
        have x2 : wc.cell? ⟨wr.heap.size, 2, none⟩ = some (.int .i64 (l.getD k credZ).e) := hx.cell 2
        have x3 : wc.cell? ⟨wr.heap.size, 3, none⟩ = some (.int .i64 (l.getD k credZ).v) := hx.cell 3
        have f0 := hx.frozen 0
        have f1 := hx.frozen 1
        have f2 := hx.frozen 2
        have f3 := hx.frozen 3
        have H1 := hide (fun w => pick_any (l.getD k credZ).t (1 + m) w (by omega) (by omega) hcc.1.1 hcc.1.2)
        have H2 := hide (fun w => pick_any (l.getD k credZ).e (P + 1) w (by omega) (by omega) hcc.2.1.1 hcc.2.1.2)
        have H3 := hide (fun w => pick_any (l.getD k credZ).v 1000 w (by omega) (by omega) hcc.2.2.1 hcc.2.2.2)
        have hdk : chosenC l (1 + m) P k = ⟨P, pickI (l.getD k credZ).t (1 + m), pickI (l.getD k credZ).e (P + 1), pickI (l.getD k credZ).v 1000⟩ := rfl
        generalize hn1 : pickI (l.getD k credZ).t (1 + m) = n1 at *
        generalize hn2 : pickI (l.getD k credZ).e (P + 1) = n2 at *
        generalize hn3 : pickI (l.getD k credZ).v 1000 = n3 at *
        generalize l.getD k credZ = c at *
        have HDK := hide hdk
        have HI2 := hide hi2
        have HXX := hide hx
        have HXN := hide hxn
        have hwrap : IntKind.i64.wrap (P + 1) = P + 1 := by rw [IntKind.wrap_i64]; omega
        clear hi2 hx hxn hcc hdk hn1 hn2 hn3
        go_upto_region 11 with fail
        go_cut [] (fun wd => InvC w2 (chosenC l (1 + m) P) (1 + pw) (4 + pl) k wd ∧ Box wd wr.heap.size #[.int .i64 P, .int .i64 n1, .int .i64 n2, .int .i64 n3] 39 ∧ ∀ u, wd.cell? ⟨w2.heap.size, 0, none⟩ = some u → u.ownBlock ≠ some wr.heap.size)
        case first =>
          have fin : Hid (InvC w2 (chosenC l (1 + m) P) (1 + pw) (4 + pl) k ((((wc.setCell ⟨wr.heap.size, 0, none⟩ (.int .i64 P)).setCell ⟨wr.heap.size, 1, none⟩ (.int .i64 n1)).setCell ⟨wr.heap.size, 2, none⟩ (.int .i64 n2)).setCell ⟨wr.heap.size, 3, none⟩ (.int .i64 n3)).drew ∧ Box ((((wc.setCell ⟨wr.heap.size, 0, none⟩ (.int .i64 P)).setCell ⟨wr.heap.size, 1, none⟩ (.int .i64 n1)).setCell ⟨wr.heap.size, 2, none⟩ (.int .i64 n2)).setCell ⟨wr.heap.size, 3, none⟩ (.int .i64 n3)).drew wr.heap.size #[.int .i64 P, .int .i64 n1, .int .i64 n2, .int .i64 n3] 39 ∧
              ∀ u, ((((wc.setCell ⟨wr.heap.size, 0, none⟩ (.int .i64 P)).setCell ⟨wr.heap.size, 1, none⟩ (.int .i64 n1)).setCell ⟨wr.heap.size, 2, none⟩ (.int .i64 n2)).setCell ⟨wr.heap.size, 3, none⟩ (.int .i64 n3)).drew.cell? ⟨w2.heap.size, 0, none⟩ = some u → u.ownBlock ≠ some wr.heap.size) := by
            have h4 := (unhide HI2).four (b := wr.heap.size) hxs (unhide HXN) (.int .i64 P) (.int .i64 n1) (.int .i64 n2) (.int .i64 n3)
            exact ⟨h4.1.drew, ((((unhide HXX).set 0 _).set 1 _).set 2 _).set 3 _, h4.2⟩
          clear HI2 HXX HXN HDK
          go_region_with (first | (go_at_call_of 15 (Value.int .i64 c.t); refine (unhide H1 _).mono ?_; rintro o w1 ⟨rfl, rfl⟩) | (go_at_call_of 15 (Value.int .i64 c.e); refine (unhide H2 _).mono ?_; rintro o w1 ⟨rfl, rfl⟩) | (go_at_call_of 15 (Value.int .i64 c.v); refine (unhide H3 _).mono ?_; rintro o w1 ⟨rfl, rfl⟩))
          all_goals
            go_wp2_with fail
            go_meet
            case rel => exact unhide fin
        case rest =>
          obtain ⟨hi3, hx3, hxn3⟩ := hcut
          clear x0 x1 x2 x3 f0 f1 f2 f3 H1 H2 H3 HXX HXN HI2
          obtain ⟨v3, hb1, hown⟩ := hi3.conf
          obtain ⟨va, vcap, hv⟩ := row_shape hown
          have q0 := hb1.cell 0
          have fz := hb1.frozen 0
          have x0 : wc.cell? ⟨wr.heap.size, 0, none⟩ = some (.int .i64 P) := hx3.cell 0
          have x1 : wc.cell? ⟨wr.heap.size, 1, none⟩ = some (.int .i64 n1) := hx3.cell 1
          have x2 : wc.cell? ⟨wr.heap.size, 2, none⟩ = some (.int .i64 n2) := hx3.cell 2
          have x3 : wc.cell? ⟨wr.heap.size, 3, none⟩ = some (.int .i64 n3) := hx3.cell 3
          have HFIN := hide (fun d hd X w2' g cap hX hg ho => InvC.appended (X := X) (w2 := w2') (g := g) (cap := cap) (d := d) hi3 hb1 hown hd hX hg ho)
          have hlt1 : w2.heap.size < wc.heap.size := hb1.lt
          have hlx : wr.heap.size < wc.heap.size := hx3.lt
          have HA : Hid (∀ o, (wc.alloc o).ownsRow (w2.heap.size + 1) 39 4 v3 k ((listOf (chosenC l (1 + m) P) k).flatMap credCells)) := fun o => hown.alloc o
          have HNEX := hide (hxn3 v3 q0)
          have HFAR : Hid (∀ o w6, (wc.alloc o).grownBy w6 v3.ownBlock → (w6.cell? ⟨w2.heap.size, 0, none⟩ = some v3 ∧ w6.frozen? ⟨w2.heap.size, 0, none⟩ = false) ∧ Box w6 wr.heap.size #[.int .i64 P, .int .i64 n1, .int .i64 n2, .int .i64 n3] 39) := fun o w6 hg => by
            have hb : w6.heap[w2.heap.size]? = wc.heap[w2.heap.size]? := by
              rw [hg.block w2.heap.size (by rw [World.size_alloc]; omega) (fun e => by have := own_base hown e.symm; omega), Below.heap_alloc _ _ _ (by omega)]
            have hbx : w6.heap[wr.heap.size]? = wc.heap[wr.heap.size]? := by
              rw [hg.block wr.heap.size (by rw [World.size_alloc]; omega) (fun e => unhide HNEX e.symm), Below.heap_alloc _ _ _ (by omega)]
            exact ⟨⟨(World.cell?_of_block hb).trans q0, (World.frozen?_of_block hb).trans fz⟩, hbx.trans hx3⟩
          have HNW : Hid (∀ j u, (credCells ⟨P, n1, n2, n3⟩)[j]? = some u → (wc.alloc (.cells (credCells ⟨P, n1, n2, n3⟩).toArray 39)).cell? ((⟨wc.heap.size, 0, none⟩ : Addr).add j) = some u) := fun j u hu =>
            World.news_of_block (heap_alloc_new wc _) j u (by simpa using hu)
          have H1 : Hid (∀ u ∈ credCells ⟨P, n1, n2, n3⟩, u.oneCell' = true) := fun u hu => by
            simp only [credCells, List.mem_cons, List.not_mem_nil, or_false] at hu
            rcases hu with rfl | rfl | rfl | rfl <;> rfl
          have HBX : Hid (∀ (o : Obj), w2.heap.size + 1 ≤ (wc.alloc o).heap.size ∧ Below wc.heap.size wc (wc.alloc o)) := fun o => by
            have := hi3.size
            exact ⟨by rw [World.size_alloc]; omega, (Below.refl wc.heap.size wc).alloc (Nat.le_refl _) o⟩
          obtain ⟨i0, hii, hz0, hz1, hz2⟩ := info_parts Tryz.infoCred
          have hkk : k ≤ 7 := by omega
          rw [hv] at q0
          have HV := hide hv
          clear hi3 hx3 hxn3 hb1 hown hv
          go_upto_region 12 with fail
          go_cut [] (fun wd => InvC w2 (chosenC l (1 + m) P) (1 + pw) (4 + pl) (k + 1) wd ∧ Box wd wr.heap.size #[.int .i64 P, .int .i64 n1, .int .i64 n2, .int .i64 n3] 39)
          case first =>
            go_wp2_with (first | (at_builtin; refine wpList_append_lies _ rfl _ _ _ rfl (w2.heap.size + 1) 39 i0 _ 4 32 Tryz.underlying22 hii hz0 hz1 hz2 rfl (by omega) (.slice va k vcap) k ((listOf (chosenC l (1 + m) P) k).flatMap credCells) rfl (by rw [← unhide HV]; exact unhide HA _) ⟨wc.heap.size, 0, none⟩ 1 1 (credCells ⟨P, n1, n2, n3⟩) rfl rfl (unhide HNW) (unhide H1) (by omega) (by unfold maxLen; omega) (by omega) (unhide HBX _).1 _ rfl ?_; intro g cap2 w6 hown1 hgrow hat hlt6; rw [← unhide HV] at hgrow; obtain ⟨⟨z1, z2⟩, z3⟩ := unhide HFAR _ _ hgrow; have fin := hide (unhide HFIN _ (unhide HDK).symm _ _ _ _ (unhide HBX _).2 hgrow hown1); have fin2 := hide (Box.setOther z3 (a := ⟨w2.heap.size, 0, none⟩) (by show wr.heap.size ≠ w2.heap.size; omega) (.slice (some ⟨g, 0, none⟩) (k + 1) cap2)); clear z3) | go_in)
            go_meet
            case rel => exact ⟨unhide fin, unhide fin2⟩
          case rest =>
            obtain ⟨hi4, hx4⟩ := hcut
            clear x0 x1 x2 x3 q0 fz HFIN HA HNEX HFAR HNW H1 HBX HV hii hz0 hz1 hz2 hlt1 hlx
            obtain ⟨g, gcap, cur, hb1, hrow, hgb, -, -, -⟩ := hi4.row (by omega)
            have q0 : wc.cell? ⟨w2.heap.size, 0, none⟩ = some (.slice (some ⟨g, 0, none⟩) (k + 1) gcap) := hb1.cell 0
            have x2 : wc.cell? ⟨wr.heap.size, 2, none⟩ = some (.int .i64 n2) := hx4.cell 2
            have x3 : wc.cell? ⟨wr.heap.size, 3, none⟩ = some (.int .i64 n3) := hx4.cell 3
            have y2 : wc.cell? ⟨g, bi * 4 + 2, none⟩ = some (.int .i64 (chosenC l (1 + m) P bi).e) := hrow bi 2 (by omega) (by omega)
            have y3 : wc.cell? ⟨g, bi * 4 + 3, none⟩ = some (.int .i64 (chosenC l (1 + m) P bi).v) := hrow bi 3 (by omega) (by omega)
            have HNB0 : Hid (bestI (chosenC l (1 + m) P) (k + 1) = if (decide ((chosenC l (1 + m) P bi).e < n2) || (n2 == (chosenC l (1 + m) P bi).e && decide ((chosenC l (1 + m) P bi).v ≤ n3))) = true then k else bi) := by
              show _ = _
              rw [bestI, unhide HBI, upTo, unhide HDK]
            have HI4 := hide hi4
            generalize (chosenC l (1 + m) P bi).e = eb at *
            generalize (chosenC l (1 + m) P bi).v = vb at *
            have qb : (bi : Int) < (k : Int) + 1 := by omega
            have qb0 : (0 : Int) ≤ (bi : Int) := by omega
            clear hi4 hx4 hb1 hrow hgb HDK HBI
            by_cases hA : eb < n2
            · have HNB : Hid (bestI (chosenC l (1 + m) P) (k + 1) = k) := by
                have := unhide HNB0
                simp [hA] at this
                exact this
              have hdA : decide (eb < n2) = true := by simpa using hA
              clear HNB0
              go_wp2_with fail
              go_quiet (fail)
              go_wp2
              go_roundg (1 + m - (k + 1))
              case measure => omega
              case rel => exact ⟨k + 1, by omega, rfl, by rw [unhide HNB], by simp, (unhide HI4).drewN _⟩
            · have hdA : decide (eb < n2) = false := by simpa using hA
              by_cases hB : n2 = eb
              · have hdB : (n2 == eb) = true := by simpa using hB
                by_cases hC : vb ≤ n3
                · have HNB : Hid (bestI (chosenC l (1 + m) P) (k + 1) = k) := by
                    have := unhide HNB0
                    simp [hdB, hC] at this
                    exact this
                  have hdC : decide (vb ≤ n3) = true := by simpa using hC
                  clear HNB0 hA hB
                  go_wp2_with fail
                  go_quiet (fail)
                  go_wp2
                  go_roundg (1 + m - (k + 1))
                  case measure => omega
                  case rel => exact ⟨k + 1, by omega, rfl, by rw [unhide HNB], by simp, (unhide HI4).drewN _⟩
                · have HNB : Hid (bestI (chosenC l (1 + m) P) (k + 1) = bi) := by
                    have := unhide HNB0
                    simp [hdA, hC] at this
                    exact this
                  have hdC : decide (vb ≤ n3) = false := by simpa using hC
                  clear HNB0 hA hB hC
                  go_wp2_with fail
                  go_quiet (fail)
                  go_wp2
                  go_roundg (1 + m - (k + 1))
                  case measure => omega
                  case rel => exact ⟨k + 1, by omega, rfl, by rw [unhide HNB], by simp, (unhide HI4).drewN _⟩
              · have hdB : (n2 == eb) = false := by simpa using hB
                have HNB : Hid (bestI (chosenC l (1 + m) P) (k + 1) = bi) := by
                  have := unhide HNB0
                  simp [hdA, hdB] at this
                  exact this
                clear HNB0 hA hB
                go_wp2_with fail
                go_quiet (fail)
                go_wp2
                go_roundg (1 + m - (k + 1))
                case measure => omega
                case rel => exact ⟨k + 1, by omega, rfl, by rw [unhide HNB], by simp, (unhide HI4).drewN _⟩
    · have hke : k = 1 + m := by omega
      have hk7 : k ≤ 7 := by omega
      generalize wr = wN at *
      obtain ⟨g, vcap, cur, hb1, hrow, hgb, hgg, hct, hcap⟩ := hI.row (by omega)
      have d0 : wN.cell? ⟨w2.heap.size, 0, none⟩ = some (.slice (some ⟨g, 0, none⟩) k vcap) := hb1.cell 0
      have d1 : wN.cell? ⟨w2.heap.size, 1, none⟩ = some (.int .i64 (1 + pw)) := hb1.cell 1
      have d2 : wN.cell? ⟨w2.heap.size, 2, none⟩ = some (.int .i64 (4 + pl)) := hb1.cell 2
      have d3 : wN.cell? ⟨w2.heap.size, 3, none⟩ = some (.int .i64 1000) := hb1.cell 3
      have hnk : (1 : Int) + m = (k : Int) := by omega
      rw [hnk] at hrow hct ⊢
      have hbl := bestI_lt (chosenC l k P) k (by omega)
      have hgl : g < wN.heap.size := (Array.getElem?_eq_some_iff.1 hgg).1
      have e3 : wN.cell? ⟨g, bestI (chosenC l k P) k * 4 + 3, none⟩ = some (.int .i64 (chosenC l k P (bestI (chosenC l k P) k)).v) := hrow _ 3 hbl (by omega)
      have hcl := listOf_len (chosenC l k P) k
      have hmay : ∀ c ∈ listOf (chosenC l k P) k, c.may k := listOf_mem (chosenC l k P) k (fun i _ => chosenC_may l (by omega) (by omega) i)
      have HNEW := hide ((unhide HD).new wN g vcap (listOf (chosenC l k P) k) (1 + pw) (4 + pl) 1000 cur 39 (by rw [hcl]; omega) (by rw [hcl]; omega) (by omega) (by omega) (by omega) (by rw [hcl]; exact hmay) hgg (by rw [hcl]; exact hct) (by rw [hcl]; exact hcap))
      rw [hcl] at HNEW
      have HBL := hide hI.below
      have HB1 := hide hb1
      obtain ⟨T1, T1a, T2, hM⟩ := chosen_plain l k (by omega) P (1 + pw) (4 + pl) (by omega) (by omega) (by omega)
      generalize TownM.new (1 + pw) (4 + pl) 1000 (listOf (chosenC l k P) k) = T0 at *
      generalize (chosenC l k P (bestI (chosenC l k P) k)).v = bv at *
      generalize bestI (chosenC l k P) k = bi at *
      have HM := hide hM
      have HE3 := hide e3
      have HD0 := hide d0
      have HGL := hide hgl
      have HW0 := hide (show w2.heap.size < wN.heap.size from hb1.lt)
      clear hI hb1 hrow hgg hct hcap hcl hmay hM hgb HR HROW hlt hke hnk hgl e3 hk
      go_wp2_with fail
      refine (unhide HNEW).mono ?_
      rintro o w3 ⟨bt, bs, rfl, hR, hB, hbs⟩
      have HV0 : Hid (LivesC S wN bt 8 T0 w3) := ⟨⟨bs, hR, hbs⟩, hB, (unhide HM).fits.1⟩
      have HDA := hide (fun w bs h => deliverAll_any S (unhide HD) w bt bs T0 8 h (unhide HM).fits.1 (by omega))
      have HT1 := hide (fun w bs h => (unhide HD).tick (1 + pw) w bt bs T1 6008 h (unhide HM).fits.2.1 (by omega) ⟨by omega, by omega⟩)
      have HDB := hide (fun w bs h => deliverAll_any S (unhide HD) w bt bs T1a 6308 h (unhide HM).fits.2.2.1 (by omega))
      have HEV := hide (fun w bs h => (unhide HD3).events w bt bs T2 12308 h (unhide HM).fits.2.2.2)
      have HS2 := hide (fun (j : Nat) (hj : j ≤ 7) w bs h => (unhide HD).state (j : Int) w bt bs T2 12308 h (unhide HM).fits.2.2.2 (by omega) ⟨by omega, by omega⟩)
      have HK2 := hide (fun (j : Nat) (hj : j ≤ 7) w bs h => (unhide HD).disk (j : Int) w bt bs T2 12308 h (unhide HM).fits.2.2.2 (by omega) ⟨by omega, by omega⟩)
      rw [(unhide HM).f1] at HDA
      rw [(unhide HM).f2] at HDB
      rw [(unhide HM).t1, tickE_in (show (1 : Int) ≤ 1 + pw ∧ 1 + pw ≤ 1000 by omega)] at HT1
      rw [(unhide HM).ev] at HEV
      clear hR hB hbs HNEW HD HD3 d0 d2 d3
      go_wp2_with fail
      obtain ⟨bs0, hR0, hnx0⟩ := (unhide HV0).step
      refine (unhide HDA _ _ hR0).mono ?_
      rintro o v0 ⟨rfl, hd⟩
      have HV1 := hide (hnx0 v0 _ _ hd (unhide HM).fits.2.1)
      clear hd hnx0 hR0 HV0 HDA
      have d1' := (World.cell?_of_block ((unhide HV1).below.block w2.heap.size (unhide HW0))).trans d1
      clear d1
      go_wp2_with fail
      obtain ⟨bs1, hR1, hnx1⟩ := (unhide HV1).step
      refine (unhide HT1 _ _ hR1).mono ?_
      rintro o v1 ⟨rfl, hd⟩
      have HV2 := hide (hnx1 v1 _ _ hd (unhide HM).fits.2.2.1)
      clear hd hnx1 hR1 HV1 HT1 d1'
      go_wp2_with fail
      obtain ⟨bs2, hR2, hnx2⟩ := (unhide HV2).step
      refine (unhide HDB _ _ hR2).mono ?_
      rintro o v2 ⟨rfl, hd⟩
      have HV3 := hide (hnx2 v2 _ _ hd (unhide HM).fits.2.2.2)
      clear hd hnx2 hR2 HV2 HDB
      go_wp2_with fail
      obtain ⟨bs3, hR3, hnx3⟩ := (unhide HV3).step
      refine (unhide HEV _ _ hR3).mono ?_
      rintro o v3 ⟨ea, ecap, rfl, hrowE, hd, -⟩
      have HV4 := hide (hnx3 v3 _ _ hd (unhide HM).fits.2.2.2)
      clear hd hnx3 hR3 HV3 HEV
      obtain ⟨ge, ecap2, ecur, hea, -, hge, -, -, -, hte⟩ : ∃ g cap cur, Value.slice ea 1 ecap = .slice (some ⟨g, 0, none⟩) 1 cap ∧ v2.heap.size ≤ g ∧ v3.heap[g]? = some (.cells cur 49 (0, 0)) ∧ 1 ≤ cap ∧ cap ≤ maxLen ∧ cur.size = cap * 2 ∧ cur.toList.take (1 * 2) = evCells [((bi : Int), P + 1)] := by
        rcases hrowE.2 with ⟨_, h0⟩ | h
        · exact absurd h0 (by simp)
        · exact h
      simp only [Value.slice.injEq] at hea
      obtain ⟨rfl, -, rfl⟩ := hea
      have ev0 : v3.cell? ⟨ge, 0, none⟩ = some (.int .i64 bi) := by
        rw [cell_of_row v3 ge 0 ecur _ (0, 0) hge]
        have : (ecur.toList.take (1 * 2))[0]? = ecur[0]? := by rw [List.getElem?_take_of_lt (by omega), Array.getElem?_toList]
        rw [← this, hte]; rfl
      have ev1 : v3.cell? ⟨ge, 1, none⟩ = some (.int .i64 (P + 1)) := by
        rw [cell_of_row v3 ge 1 ecur _ (0, 0) hge]
        have : (ecur.toList.take (1 * 2))[1]? = ecur[1]? := by rw [List.getElem?_take_of_lt (by omega), Array.getElem?_toList]
        rw [← this, hte]; rfl
      clear hge hte hrowE
      go_wp2_with fail
      go_loopg [21] k (fun g i wx => ∃ j : Nat, j ≤ k ∧ g = k - j ∧ i = .int .i64 j ∧ LivesC S wN bt 12308 T2 wx)
      case atStart => exact ⟨0, by omega, by simp, rfl, unhide HV4⟩
      case round =>
        obtain ⟨j, hj, rfl, rfl, hL⟩ := hrel
        clear HV4 ev0 ev1
        by_cases hjn : j < k
        · have qj : (j : Int) < (k : Int) := by omega
          obtain ⟨s1, s2, s3, kd, hdk⟩ := (unhide HM).s2 j hjn
          have HSJ := hide (unhide HS2 j (by omega))
          have HKJ := hide (unhide HK2 j (by omega))
          have HNJ := hide (fun w => unhide HN (T2.diskOf (j : Int)) w hdk.len hdk.bytes)
          rw [s1, s3] at HSJ
          rw [s2] at HKJ
          rw [hdk.newest] at HNJ
          generalize (if kd % 2 = 0 then (28 : Int) else 0) = ka at *
          have HSV : Hid ((if j = bi then (2 : Int) else 1) = if j = bi then 2 else 1) := rfl
          generalize hsv : (if j = bi then (2 : Int) else 1) = sv at *
          have HSV2 := hide hsv
          generalize strOfNums (T2.diskOf (j : Int)) = ds at *
          have HVA := hide hL
          clear hsv HSV
          clear hL s1 s2 s3 hdk HS2 HK2 HN
          go_wp2_with fail
          obtain ⟨bsa, hRa, hnxa⟩ := (unhide HVA).step
          refine (unhide HSJ _ _ hRa).mono ?_
          rintro o va ⟨rfl, hd⟩
          have HVB := hide (hnxa va _ _ hd (unhide HM).fits.2.2.2)
          clear hd hnxa hRa HVA HSJ
          go_wp2_with fail
          obtain ⟨bsb, hRb, hnxb⟩ := (unhide HVB).step
          refine (unhide HKJ _ _ hRb).mono ?_
          rintro o vb ⟨rfl, hd⟩
          have HVJ := hide (hnxb vb _ _ hd (unhide HM).fits.2.2.2)
          clear hd hnxb hRb HVB HKJ
          go_wp2_with fail
          refine (unhide HNJ _).mono ?_
          rintro o vc ⟨rfl, hB⟩
          have HBJ := hide hB
          have c0 := (World.cell?_of_block (((unhide HVJ).below.trans (hB.mono (unhide HVJ).below.size)).block w2.heap.size (unhide HW0))).trans (unhide HD0)
          have c3 := (World.cell?_of_block (((unhide HVJ).below.trans (hB.mono (unhide HVJ).below.size)).block g (unhide HGL))).trans (unhide HE3)
          have l0 : w2.heap.size < vc.heap.size := Nat.lt_of_lt_of_le (unhide HW0) ((unhide HVJ).below.trans (hB.mono (unhide HVJ).below.size)).size
          have l1 : g < vc.heap.size := Nat.lt_of_lt_of_le (unhide HGL) ((unhide HVJ).below.trans (hB.mono (unhide HVJ).below.size)).size
          have qb : (bi : Int) < (k : Int) := by omega
          clear hB HNJ
          by_cases hjb : j = bi
          · have hs2 : sv = 2 := by rw [← unhide HSV2, if_pos hjb]
            subst hs2
            subst hjb
            go_wp2_with fail
            go_quiet (fail)
            go_wp2
            go_roundg (k - (j + 1))
            case measure => omega
            case rel => exact ⟨j + 1, by omega, rfl, by simp, LivesC.later (unhide HVJ) (below_drewN ((unhide HBJ).alloc (unhide HBJ).size _) _)⟩
          · have hs2 : sv = 1 := by rw [← unhide HSV2, if_neg hjb]
            subst hs2
            have qe : ¬ ((j : Int) = (bi : Int)) := by omega
            go_wp2_with fail
            go_quiet (fail)
            go_wp2
            go_roundg (k - (j + 1))
            case measure => omega
            case rel => exact ⟨j + 1, by omega, rfl, by simp, LivesC.later (unhide HVJ) (below_drewN ((unhide HBJ).alloc (unhide HBJ).size _) _)⟩
        · have qj : ¬ (j : Int) < (k : Int) := by omega
          have HVX := hide hL
          have fin := hide (((unhide HBL).trans (hL.below.mono (unhide HBL).size)))
          clear hL hjn hj HVX HS2 HK2 HN
          go_wp2
          go_ret
          exact ⟨rfl, unhide fin⟩
end Go.Proofs.YtceappncglfciaaGreat
