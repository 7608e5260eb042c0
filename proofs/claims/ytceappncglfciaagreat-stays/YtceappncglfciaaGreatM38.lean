import Derived.Test.YtceappncglfciaaGreatM37
import Derived.Test.YtceappncglfciaaGreatM07
import Derived.Test.YtceappncglfciaaGreatM23
import Derived.Test.YtceappncglfciaaGreatM25
import Derived.Test.YtceappncglfciaaGreatM10
set_option linter.unusedVariables false
set_option linter.unusedSimpArgs false
/-
  Stays: the walk.
-/
namespace Go.Proofs.YtceappncglfciaaGreat
open Go.RowKit
attribute [local go_sem ↓] Go.wp_at_zero Go.wp_at_succ

/-- The statement's town, in the midst of it. -/
structure Lives (S : TownRep) (w0 : World) (bw bt n : Nat) (K : Int) (T : TownM) (wr : World) : Prop where
  rep : ∃ bs, S.R wr bt bs T ∧ bw ∉ bs ∧ ∀ x ∈ bs, w0.heap.size ≤ x
  kw : KW wr bw bt n
  bw : w0.heap.size ≤ bw
  below : Below w0.heap.size w0 wr
  fits : Fits K T
  len : T.ps.length = n
theorem Lives.step {S : TownRep} {w0 : World} {bw bt n : Nat} {K : Int} {T : TownM} {wr : World} (h : Lives S w0 bw bt n K T wr) :
    ∃ bs, S.R wr bt bs T ∧ bw ∉ bs ∧ ∀ w' T' K', TDid S wr bt bs w' T' → Fits K' T' → T'.ps.length = n → Lives S w0 bw bt n K' T' w' := by
  obtain ⟨bs, h1, h2, h3⟩ := h.rep
  refine ⟨bs, h1, h2, fun w' T' K' hd hf hl => ?_⟩
  obtain ⟨bs', r1, r2, r3⟩ := hd
  have hlt := h.kw.lt
  refine ⟨⟨bs', r1, fun hx => ?_, fun x hx => ?_⟩, h.kw.keep r2 h2, h.bw, ?_, hf, hl⟩
  · rcases r3 _ hx with e | e
    · exact h2 e
    · omega
  · rcases r3 x hx with e | e
    · exact h3 x e
    · exact Nat.le_trans h.below.size e
  · refine h.below.trans ⟨r2.os, r2.tape, r2.output, r2.size, fun k hk => ?_⟩
    exact r2.block k (Nat.lt_of_lt_of_le hk h.below.size) (fun hx => by have := h3 k hx; omega)
/-- Steps of a script. -/
structure StepA where
  k : Int
  a : Int
  b : Int
def stepZ : StepA := ⟨0, 0, 0⟩
structure StepsAt (W : World) (v : Value) (l : List StepA) : Prop where
  is : ∃ a cap, v = .slice a l.length cap ∧ (0 < l.length → ∃ g o, a = some ⟨g, o, none⟩ ∧ g < W.heap.size ∧ ∀ i j, i < l.length → j < 3 → W.cell? ⟨g, o + i * 3 + j, none⟩ = [Value.int .i64 (l.getD i stepZ).k, .int .i64 (l.getD i stepZ).a, .int .i64 (l.getD i stepZ).b][j]?)
  len : l.length ≤ 100000000000000
  i64 : ∀ c ∈ l, I64 c.k ∧ I64 c.a ∧ I64 c.b
def stepsTo (T : TownM) (l : List StepA) : Nat → TownM
  | 0 => T
  | k + 1 => (stepsTo T l k).stepM (l.getD k stepZ).k (l.getD k stepZ).a (l.getD k stepZ).b
set_option maxRecDepth 100000 in
set_option maxHeartbeats 1000000 in
theorem stays_any (S : TownRep) (D : Does S) (raw script : Value) (l : List CredM) (sl : List StepA) (wait lease : Int) (W : World) (hr : RawAt W raw l) (hw : I64 wait) (hl : I64 lease) (hs : StepsAt W script sl) :
    Calls Tryz.prog 8 #[raw, .int .i64 wait, .int .i64 lease, script] W fun o w' => o = .returned (.bool true) ∧ Below W.heap.size W w' := by
  obtain ⟨sa, scap, rfl, hrow⟩ := hs.is
  have hlen := hs.len
  have hpr := pickI_range (l.length + 6) 7 (by omega)
  have hqr := pickI_range wait 5 (by omega)
  have hsr := pickI_range lease 20 (by omega)
  have HWD := hide (world_any S D raw l wait lease W hr hw hl)
  have hpe : peersOf l.length = 1 + pickI (l.length + 6) 7 := rfl
  obtain ⟨n, hn⟩ : ∃ n : Nat, peersOf l.length = n := ⟨(peersOf l.length).toNat, by omega⟩
  have hn1 : 1 ≤ n ∧ n ≤ 7 := by omega
  have hcl : ∀ j, (credsTo l n j).length = j := by
    intro j
    induction j with
    | zero => rfl
    | succ j ih => rw [credsTo, List.length_append, ih]; rfl
  have hok : ∀ j, ∀ c ∈ credsTo l n j, c.ok := by
    intro j
    induction j with
    | zero => intro c hc; exact absurd hc List.not_mem_nil
    | succ j ih =>
      intro c hc
      rw [credsTo] at hc
      rcases List.mem_append.1 hc with h | h
      · exact ih c h
      · rw [List.mem_singleton.1 h]
        exact CredM.may_ok hn1.2 (credI_may _ hn1.1)
  have hF0 : Fits 8 (TownM.new (1 + pickI wait 5) (4 + pickI lease 20) 1000 (credsTo l n n)) := Fits.new (by rw [hcl]; exact hn1) (by omega) (by omega) (by omega) (hok n)
  have hL0 : (TownM.new (1 + pickI wait 5) (4 + pickI lease 20) 1000 (credsTo l n n)).ps.length = n := by rw [new_len, hcl]
  rw [hn, show ((n : Int)).toNat = n from rfl] at HWD
  generalize TownM.new (1 + pickI wait 5) (4 + pickI lease 20) 1000 (credsTo l n n) = T0 at *
  have HROW := hide hrow
  have HI := hide hs.i64
  have HD := hide D
  have HF := hide (And.intro hF0 hL0)
  clear hrow hs D hr hw hl hpr hqr hsr hpe hn hcl hok hF0 hL0
  go_enter Tryz.func8, Tryz.ntmps8
  go_wp2_with fail
  refine (unhide HWD).mono ?_
  rintro o w1 ⟨bw, bt, bs, rfl, hkw, hR, hB, hbw, hnb, hbs⟩
  have hL : Lives S W bw bt n 8 T0 w1 := ⟨⟨bs, hR, hnb, hbs⟩, hkw, hbw, hB, (unhide HF).1, (unhide HF).2⟩
  have HL := hide hL
  clear hL hkw hR hB hbw hnb hbs HWD HF
  go_wp2_with fail
  go_loopg [10] sl.length (fun g i wr => ∃ k : Nat, k ≤ sl.length ∧ k ≤ 400 ∧ g = sl.length - k ∧ i = .int .i64 k ∧ Lives S W bw bt n (8 + 90 * k) (stepsTo T0 sl k) wr)
  case atStart => exact ⟨0, by omega, by omega, by simp, rfl, unhide HL⟩
  case round =>
    obtain ⟨k, hk, hk4, rfl, rfl, hL⟩ := hrel
    by_cases hlt : k < sl.length ∧ k < 400
    · obtain ⟨sg, so, rfl, hsg, hcell⟩ := unhide HROW (by omega)
      have hbl := hL.below
      have r0 := (World.cell?_of_block (hbl.block sg hsg)).trans (hcell k 0 hlt.1 (by omega))
      have r1 := (World.cell?_of_block (hbl.block sg hsg)).trans (hcell k 1 hlt.1 (by omega))
      have r2 := (World.cell?_of_block (hbl.block sg hsg)).trans (hcell k 2 hlt.1 (by omega))
      simp only [Nat.add_zero] at r0 r1 r2
      obtain ⟨bs, hR, hnb, hnext⟩ := hL.step
      have hi := unhide HI (sl.getD k stepZ) (by rw [List.getD_eq_getElem?_getD]; simp [hlt.1])
      have HST := hide (step_any S (unhide HD) (sl.getD k stepZ).k (sl.getD k stepZ).a (sl.getD k stepZ).b wr bw bt bs (stepsTo T0 sl k) (8 + 90 * k) hR hL.fits (by omega) (by rw [hL.len]; exact hL.kw) hnb hi.1 hi.2.1 hi.2.2)
      have HNX : Hid (∀ w', TDid S wr bt bs w' ((stepsTo T0 sl k).stepM (sl.getD k stepZ).k (sl.getD k stepZ).a (sl.getD k stepZ).b) → Lives S W bw bt n (8 + 90 * ((k + 1 : Nat) : Int)) (stepsTo T0 sl (k + 1)) w') := fun w' hd => by
        have hf := hL.fits.stepM (sl.getD k stepZ).k (sl.getD k stepZ).a (sl.getD k stepZ).b (by omega)
        have e : (8 : Int) + 90 * k + 90 = 8 + 90 * ((k + 1 : Nat) : Int) := by omega
        rw [e] at hf
        exact hnext w' _ _ hd hf (show ((stepsTo T0 sl k).stepM (sl.getD k stepZ).k (sl.getD k stepZ).a (sl.getD k stepZ).b).ps.length = n by rw [stepM_len]; exact hL.len)
      generalize sl.getD k stepZ = st at *
      clear hcell hbl hR hnb hnext hi hL HI HROW HD HL
      obtain ⟨hl1, hl4⟩ := hlt
      have q1 : (k : Int) < (sl.length : Int) := by omega
      have q4 : (k : Int) < 400 := by omega
      go_wp2_with fail
      refine (unhide HST).mono ?_
      rintro o w2 ⟨rfl, hd⟩
      have fin := hide (unhide HNX w2 hd)
      clear hd HST HNX
      go_wp2
      go_roundg (sl.length - (k + 1))
      case measure => omega
      case rel => exact ⟨k + 1, by omega, by omega, rfl, by simp, unhide fin⟩
    · generalize stepsTo T0 sl k = T1 at *
      have hK1 : (8 : Int) + 90 * k ≤ 36008 := by omega
      generalize (8 : Int) + 90 * k = K1 at *
      have HL1 := hide hL
      clear hL HL HI HROW
      go_upto_region 5 with fail
      go_cut [40] (fun b wc => b = .bool false ∧ wc = wr)
      case first =>
        by_cases hq : k < sl.length
        · have q1 : (k : Int) < (sl.length : Int) := by omega
          have q4 : ¬ (k : Int) < 400 := by omega
          clear hlt
          go_wp2_with fail
          go_meet
          case rel => exact ⟨rfl, rfl⟩
        · have q1 : ¬ (k : Int) < (sl.length : Int) := by omega
          clear hlt
          go_wp2_with fail
          go_meet
          case rel => exact ⟨rfl, rfl⟩
      case rest =>
        obtain ⟨rfl, rfl⟩ := hcut
        clear hlt
        go_wp2_with fail
        go_loopg [11] n (fun g i wx => ∃ j : Nat, j ≤ n ∧ g = n - j ∧ i = .int .i64 j ∧ ∃ T, Lives S W bw bt n (K1 + j) T wx)
        case atStart => exact ⟨0, by omega, by simp, rfl, T1, by simpa using unhide HL1⟩
        case round =>
          obtain ⟨j, hj, rfl, rfl, T, hL⟩ := hrel
          clear HL1
          by_cases hjn : j < n
          · have hjt : j < T.ps.length := by rw [hL.len]; exact hjn
            obtain ⟨p0, p1, p2, p3, p4, p5, p6, p7, p8, p9, p10, p11⟩ := stays_one hL.fits hjt
            have hF2 := hL.fits.crash (j : Int)
            have hl2 : (T.crash j).ps.length = n := by rw [crash_len]; exact hL.len
            have hi1 : T.isE (j : Int) = 0 := by unfold TownM.isE; rw [if_pos (is_nat hjt)]
            have hi2 : (T.crash j).isE (j : Int) = 0 := by unfold TownM.isE; rw [if_pos (is_nat (by rw [hl2]; exact hjn))]
            have hi3 : ((T.crash j).restart j).isE (j : Int) = 0 := by unfold TownM.isE; rw [if_pos (is_nat (by rw [p11]; exact hjt))]
            have hI : I64 (j : Int) := ⟨by omega, by omega⟩
            have HDk1 := hide (fun W bs h => (unhide HD).disk (j : Int) W bt bs T _ h hL.fits (by omega) hI)
            have HSt1 := hide (fun W bs h => (unhide HD).state (j : Int) W bt bs T _ h hL.fits (by omega) hI)
            have HCr := hide (fun W bs h => (unhide HD).crash (j : Int) W bt bs T _ h hL.fits (by omega) hI)
            have HSt2 := hide (fun W bs h => (unhide HD).state (j : Int) W bt bs (T.crash j) _ h hF2 (by omega) hI)
            have HDk2 := hide (fun W bs h => (unhide HD).disk (j : Int) W bt bs (T.crash j) _ h hF2 (by omega) hI)
            have HRs := hide (fun W bs h => (unhide HD).restart (j : Int) W bt bs (T.crash j) _ h hF2 (by omega) hI)
            have HSt3 := hide (fun W bs h => (unhide HD).state (j : Int) W bt bs ((T.crash j).restart j) _ h p10 (by omega) hI)
            have HDk3 := hide (fun W bs h => (unhide HD).disk (j : Int) W bt bs ((T.crash j).restart j) _ h p10 (by omega) hI)
            have HRs2 := hide (fun W bs h => (unhide HD).restart (j : Int) W bt bs ((T.crash j).restart j) _ h p10 (by omega) hI)
            rw [p9] at HRs2
            rw [hi1] at HDk1
            rw [p1, p2] at HSt2
            rw [hi2, p3] at HDk2
            rw [p4] at HRs
            rw [p5, p6] at HSt3
            rw [hi3, p7] at HDk3
            rw [p8] at HRs2
            have HFT := hide (And.intro hL.fits (And.intro hF2 p10))
            have HLN := hide (And.intro hL.len (And.intro hl2 (p11.trans hL.len)))
            have hbe : Hid (T.upE (j : Int) true = 0 ∨ T.upE (j : Int) true = 2) := p0
            generalize T.upE (j : Int) true = ue at *
            generalize T.stateOf (j : Int) = us at *
            generalize strOfNums (T.diskOf (j : Int)) = ds at *
            generalize (T.crash j).restart j = T3 at *
            generalize T.crash j = T2 at *
            have HV0 := hide hL
            have e0 := hL.kw.c0
            have e1 := hL.kw.c1
            clear hL p0 p1 p2 p3 p4 p5 p6 p7 p8 p9 p10 p11 hF2 hl2 hi1 hi2 hi3 hI hjt
            have qj : (j : Int) < (n : Int) := by omega
            go_wp2_with fail
            obtain ⟨bs0, hR0, hnb0, hnx0⟩ := (unhide HV0).step
            refine (unhide HDk1 _ _ hR0).mono ?_
            rintro o v0 ⟨rfl, hd⟩
            have HV1 := hide (hnx0 v0 _ _ hd (unhide HFT).1 (unhide HLN).1)
            clear hd hnx0 hnb0 hR0 HV0 HDk1 e0 e1
            have e0 := (unhide HV1).kw.c0
            have e1 := (unhide HV1).kw.c1
            go_wp2_with fail
            obtain ⟨bs1, hR1, hnb1, hnx1⟩ := (unhide HV1).step
            refine (unhide HSt1 _ _ hR1).mono ?_
            rintro o v1 ⟨rfl, hd⟩
            have HV2 := hide (hnx1 v1 _ _ hd (unhide HFT).1 (unhide HLN).1)
            clear hd hnx1 hnb1 hR1 HV1 HSt1 e0 e1
            have e0 := (unhide HV2).kw.c0
            have e1 := (unhide HV2).kw.c1
            go_wp2_with fail
            obtain ⟨bs2, hR2, hnb2, hnx2⟩ := (unhide HV2).step
            refine (unhide HCr _ _ hR2).mono ?_
            rintro o v2 ⟨rfl, hd⟩
            have HV3 := hide (hnx2 v2 _ _ hd (unhide HFT).2.1 (unhide HLN).2.1)
            clear hd hnx2 hnb2 hR2 HV2 HCr e0 e1
            have e0 := (unhide HV3).kw.c0
            have e1 := (unhide HV3).kw.c1
            go_wp2_with fail
            obtain ⟨bs3, hR3, hnb3, hnx3⟩ := (unhide HV3).step
            refine (unhide HSt2 _ _ hR3).mono ?_
            rintro o v3 ⟨rfl, hd⟩
            have HV4 := hide (hnx3 v3 _ _ hd (unhide HFT).2.1 (unhide HLN).2.1)
            clear hd hnx3 hnb3 hR3 HV3 HSt2 e0 e1
            have e0 := (unhide HV4).kw.c0
            have e1 := (unhide HV4).kw.c1
            go_wp2_with fail
            obtain ⟨bs4, hR4, hnb4, hnx4⟩ := (unhide HV4).step
            refine (unhide HDk2 _ _ hR4).mono ?_
            rintro o v4 ⟨rfl, hd⟩
            have HV5 := hide (hnx4 v4 _ _ hd (unhide HFT).2.1 (unhide HLN).2.1)
            clear hd hnx4 hnb4 hR4 HV4 HDk2 e0 e1
            have e0 := (unhide HV5).kw.c0
            have e1 := (unhide HV5).kw.c1
            go_wp2_with fail
            obtain ⟨bs5, hR5, hnb5, hnx5⟩ := (unhide HV5).step
            refine (unhide HRs _ _ hR5).mono ?_
            rintro o v5 ⟨rfl, hd⟩
            have HV6 := hide (hnx5 v5 _ _ hd (unhide HFT).2.2 (unhide HLN).2.2)
            clear hd hnx5 hnb5 hR5 HV5 HRs e0 e1
            have e0 := (unhide HV6).kw.c0
            have e1 := (unhide HV6).kw.c1
            go_wp2_with fail
            obtain ⟨bs6, hR6, hnb6, hnx6⟩ := (unhide HV6).step
            refine (unhide HSt3 _ _ hR6).mono ?_
            rintro o v6 ⟨rfl, hd⟩
            have HV7 := hide (hnx6 v6 _ _ hd (unhide HFT).2.2 (unhide HLN).2.2)
            clear hd hnx6 hnb6 hR6 HV6 HSt3 e0 e1
            have e0 := (unhide HV7).kw.c0
            have e1 := (unhide HV7).kw.c1
            go_wp2_with fail
            obtain ⟨bs7, hR7, hnb7, hnx7⟩ := (unhide HV7).step
            refine (unhide HDk3 _ _ hR7).mono ?_
            rintro o v7 ⟨rfl, hd⟩
            have HV8 := hide (hnx7 v7 _ _ hd (unhide HFT).2.2 (unhide HLN).2.2)
            clear hd hnx7 hnb7 hR7 HV7 HDk3 e0 e1
            have e0 := (unhide HV8).kw.c0
            have e1 := (unhide HV8).kw.c1
            go_wp2_with fail
            obtain ⟨bs8, hR8, hnb8, hnx8⟩ := (unhide HV8).step
            refine (unhide HRs2 _ _ hR8).mono ?_
            rintro o v8 ⟨rfl, hd⟩
            have HV9 := hide (hnx8 v8 _ _ hd (unhide HFT).2.2 (unhide HLN).2.2)
            clear hd hnx8 hnb8 hR8 HV8 HRs2 e0 e1
            have e0 := (unhide HV9).kw.c0
            have e1 := (unhide HV9).kw.c1
            have hke : K1 + (j : Int) + 1 = K1 + ((j + 1 : Nat) : Int) := by omega
            rw [hke] at HV9
            clear hke
            rcases unhide hbe with hb | hb
            · subst hb
              go_wp2
              go_roundg (n - (j + 1))
              case measure => omega
              case rel => exact ⟨j + 1, by omega, rfl, by simp, T3, unhide HV9⟩
            · subst hb
              go_wp2
              go_roundg (n - (j + 1))
              case measure => omega
              case rel => exact ⟨j + 1, by omega, rfl, by simp, T3, unhide HV9⟩
          · have qj : ¬ (j : Int) < (n : Int) := by omega
            have e0 := hL.kw.c0
            have e1 := hL.kw.c1
            have fin := hide hL.below
            clear hL HD
            go_wp2
            go_ret
            exact ⟨rfl, unhide fin⟩
end Go.Proofs.YtceappncglfciaaGreat

/-
  Lost: the walk.
-/
namespace Go.Proofs.YtceappncglfciaaGreat
open Go.RowKit TownM
attribute [local go_sem ↓] Go.wp_at_zero Go.wp_at_succ

/-- A town that lies from some world on: what lay there ahead of it is as it was. -/
structure LivesC (S : TownRep) (wN : World) (bt : Nat) (K : Int) (T : TownM) (wr : World) : Prop where
  rep : ∃ bs, S.R wr bt bs T ∧ ∀ x ∈ bs, wN.heap.size ≤ x
  below : Below wN.heap.size wN wr
  fits : Fits K T
theorem LivesC.step {S : TownRep} {wN : World} {bt : Nat} {K : Int} {T : TownM} {wr : World} (h : LivesC S wN bt K T wr) :
    ∃ bs, S.R wr bt bs T ∧ ∀ w' T' K', TDid S wr bt bs w' T' → Fits K' T' → LivesC S wN bt K' T' w' := by
  obtain ⟨bs, h1, h3⟩ := h.rep
  refine ⟨bs, h1, fun w' T' K' hd hf => ?_⟩
  obtain ⟨bs', r1, r2, r3⟩ := hd
  refine ⟨⟨bs', r1, fun x hx => ?_⟩, ?_, hf⟩
  · rcases r3 x hx with e | e
    · exact h3 x e
    · exact Nat.le_trans h.below.size e
  · refine h.below.trans ⟨r2.os, r2.tape, r2.output, r2.size, fun k hk => ?_⟩
    exact r2.block k (Nat.lt_of_lt_of_le hk h.below.size) (fun hx => by have := h3 k hx; omega)
theorem LivesC.later {S : TownRep} {wN : World} {bt : Nat} {K : Int} {T : TownM} {wr w' : World} (h : LivesC S wN bt K T wr) (hb : Below wr.heap.size wr w') : LivesC S wN bt K T w' := by
  obtain ⟨bs, h1, h3⟩ := h.rep
  exact ⟨⟨bs, S.below h1 hb, h3⟩, h.below.trans (hb.mono h.below.size), h.fits⟩
theorem Fits.flush {K : Int} : ∀ (f : Nat) (T : TownM), Fits K T → K + 2 * f ≤ 4294967294 → Fits (K + 2 * f) (flush f T).2
  | 0, T, h, _ => h.mono (by omega)
  | f + 1, T, h, hK => by
    unfold Go.Proofs.YtceappncglfciaaGreat.flush
    split
    · exact h.mono (by omega)
    · split
      · exact h.mono (by omega)
      · have := Fits.flush f _ (h.deliver 0 (by omega)) (by omega)
        exact this.mono (by omega)
theorem tickC_in {T : TownM} {n : Int} (h : 1 ≤ n ∧ n ≤ 1000) : T.tickC n = T.tickN n.toNat := by unfold TownM.tickC; rw [if_pos h]
theorem tickE_in {n : Int} (h : 1 ≤ n ∧ n ≤ 1000) : TownM.tickE n = 0 := by unfold TownM.tickE; rw [if_pos h]
theorem stateOf_up {T : TownM} {j : Nat} (hj : j < T.ps.length) (hu : (T.peer j).up = true) : T.upE (j : Int) true = 0 ∧ T.stateOf (j : Int) = (T.peer j).state := by
  have h1 : T.upE (j : Int) true = 0 := by
    unfold TownM.upE
    have h2 : T.is (j : Int) = true := by
      unfold TownM.is
      simp only [Bool.and_eq_true, decide_eq_true_eq]
      omega
    rw [if_pos h2]
    show (if (T.peer j).up = true then _ else _) = _
    rw [if_pos hu]
  refine ⟨h1, ?_⟩
  unfold TownM.stateOf
  rw [if_pos h1]
  rfl
/-- The credentials of Lost. -/
def lostC (l : List CredM) (i : Nat) : CredM := ⟨0, 0, 0, pickI (l.getD i credZ).v 1000⟩
theorem lostC_may (l : List CredM) (i : Nat) {n : Nat} (hn : 1 ≤ n) : (lostC l i).may n := by
  have h4 := pickI_range (l.getD i credZ).v 1000 (by omega)
  exact ⟨Int.le_refl _, Int.le_refl _, by show (0 : Int) ≤ 1000; omega, Int.le_refl _, by show (0 : Int) < n; omega, h4.1, by show pickI (l.getD i credZ).v 1000 ≤ 1000000000; omega⟩
/-- What Lost sees, in plain numbers. -/
structure LostM (T0 T1 T1a T2 T3 T4 : TownM) (n : Nat) (lease : Int) : Prop where
  f1 : flush 3000 T0 = (true, T1)
  t1 : T1.tickC 1 = T1a
  f2 : flush 3000 T1a = (true, T2)
  ev : T2.events.length = 1
  t2 : T2.tickC (lease - 1) = T3
  t3 : T3.tickC 1 = T4
  fits : Fits 8 T0 ∧ Fits 6008 T1 ∧ Fits 6023 T1a ∧ Fits 12023 T2 ∧ Fits 13523 T3 ∧ Fits 13538 T4
  s3 : ∀ j : Nat, j < n → T3.upE (j : Int) true = 0 ∧ T3.stateOf (j : Int) ≠ 0
  s4 : ∀ j : Nat, j < n → T4.upE (j : Int) true = 0 ∧ T4.stateOf (j : Int) = 0
theorem lost_plain (l : List CredM) (n : Nat) (hn : 2 ≤ n ∧ n ≤ 7) (lease : Int) (hl : 4 ≤ lease ∧ lease ≤ 100) : ∃ T1 T1a T2 T3 T4, LostM (TownM.new 1 lease 1000 (listOf (lostC l) n)) T1 T1a T2 T3 T4 n lease := by
  have hlen := listOf_len (lostC l) n
  have hmay : ∀ c ∈ listOf (lostC l) n, c.may n := listOf_mem (lostC l) n (fun i _ => lostC_may l i (by omega))
  have hok : ∀ c ∈ listOf (lostC l) n, c.ok := fun c hc => CredM.may_ok hn.2 (hmay c hc)
  have hp0 : ∀ c ∈ listOf (lostC l) n, c.p = 0 := listOf_mem (P := fun c => c.p = 0) (lostC l) n (fun i _ => rfl)
  have he0 : ∀ c ∈ listOf (lostC l) n, c.e ≤ 0 := listOf_mem (P := fun c => c.e ≤ 0) (lostC l) n (fun i _ => Int.le_refl _)
  obtain ⟨b, T1, T2, hb, hbest, hf1, hf2, hs⟩ := chosen_pure (P := 0) (wait := 1) (lease := lease) (l := listOf (lostC l) n) (by rw [hlen]; omega) hok hp0 he0 (by omega) (by omega)
  rw [hlen] at hb
  have e1 : T1.tickC 1 = T1.tickN 1 := tickC_in (by omega)
  have hf2' : flush 3000 (T1.tickN 1) = (true, T2) := hf2
  have F0 : Fits 8 (TownM.new 1 lease 1000 (listOf (lostC l) n)) := Fits.new (by rw [hlen]; omega) (by omega) hl (by omega) hok
  have F1 : Fits 6008 T1 := by
    have := F0.flush 3000 _ (by omega)
    rw [hf1] at this
    exact this.mono (by omega)
  have F1a : Fits 6023 (T1.tickC 1) := by
    rw [e1]
    exact (F1.tickN 1 (by omega)).mono (by omega)
  have F2 : Fits 12023 T2 := by
    have := F1a.flush 3000 _ (by omega)
    rw [e1, hf2'] at this
    exact this.mono (by omega)
  have e3 : T2.tickC (lease - 1) = T2.tickN (lease - 1).toNat := tickC_in (by omega)
  have F3 : Fits 13523 (T2.tickC (lease - 1)) := by
    rw [e3]
    exact (F2.tickN (lease - 1).toNat (by omega)).mono (by omega)
  have e4 : (T2.tickC (lease - 1)).tickC 1 = (T2.tickN (lease - 1).toNat).tick1 := by
    rw [tickC_in (by omega), e3]
    rfl
  have F4 : Fits 13538 ((T2.tickC (lease - 1)).tickC 1) := by
    rw [tickC_in (by omega)]
    exact (F3.tickN 1 (by omega)).mono (by omega)
  obtain ⟨g1, g2⟩ := lost_pure (by rw [hlen]; omega) (by rw [hlen]; exact hb) (by omega) hs
  have hl2 : T2.ps.length = n := by rw [hs.conf.len, hlen]
  refine ⟨T1, T1.tickC 1, T2, T2.tickC (lease - 1), (T2.tickC (lease - 1)).tickC 1, hf1, rfl, by rw [e1]; exact hf2', by rw [hs.ev]; rfl, rfl, rfl, ⟨F0, F1, F1a, F2, F3, F4⟩, fun j hj => ?_, fun j hj => ?_⟩
  · have h := g1 j (by rw [hlen]; exact hj)
    have hs := stateOf_up (T := T2.tickN (lease - 1).toNat) (j := j) (by rw [tickN_len, hl2]; exact hj) h.1
    rw [e3]
    exact ⟨hs.1, by rw [hs.2]; exact h.2⟩
  · have h := g2 j (by rw [hlen]; exact hj)
    have hs := stateOf_up (T := (T2.tickN (lease - 1).toNat).tick1) (j := j) (by rw [tick1_len, tickN_len, hl2]; exact hj) h.1
    rw [e4]
    exact ⟨hs.1, by rw [hs.2]; exact h.2⟩
set_option maxRecDepth 100000 in
set_option maxHeartbeats 1000000 in
theorem lost_any (S : TownRep) (D : Does1 S) (D3 : Does3 S) (raw : Value) (l : List CredM) (lease : Int) (W : World) (hr : RawAt W raw l) (hl : I64 lease) :
    Calls Tryz.prog 7 #[raw, .int .i64 lease] W fun o w' => o = .returned (.bool true) ∧ Below W.heap.size W w' := by
  obtain ⟨ra, rcap, rfl, hrow⟩ := hr.is
  have hlen := hr.len
  have hpr := pickI_range l.length 6 (by omega)
  have hsr := pickI_range lease 97 (by omega)
  have HP1 := hide (fun w => pick_any l.length 6 w (by omega) (by omega) (by omega) (by omega))
  have HP3 := hide (fun w => pick_any lease 97 w (by omega) (by omega) hl.1 hl.2)
  obtain ⟨m, hm⟩ := Int.eq_ofNat_of_zero_le hpr.1
  rw [hm] at HP1 hpr
  have hm6 : m < 6 := by omega
  generalize pickI lease 97 = pl at *
  have HROW := hide hrow
  have HR := hide hr
  have HD := hide D
  have HD3 := hide D3
  have HST := hide (InvC.start W (lostC l) 1 (4 + pl))
  clear hrow hr hl D D3 hm hpr
  go_enter Tryz.func7, Tryz.ntmps7
  go_wp2_with fail
  refine (unhide HP1 _).mono ?_
  rintro o w1 ⟨rfl, rfl⟩
  go_wp2_with fail
  refine (unhide HP3 _).mono ?_
  rintro o w2 ⟨rfl, rfl⟩
  go_wp2_with fail
  clear HP1 HP3
  go_loopg [7] (2 + m) (fun g n wr => ∃ k : Nat, k ≤ 2 + m ∧ g = 2 + m - k ∧ n = .int .i64 k ∧ InvC w2 (lostC l) 1 (4 + pl) k wr)
  case atStart => exact ⟨0, by omega, by simp, rfl, unhide HST⟩
  case round =>
    obtain ⟨k, hk, rfl, rfl, hI⟩ := hrel
    clear HST
    by_cases hlt : k < 2 + m
    · obtain ⟨v, hb1, hown⟩ := hI.conf
      have HI := hide hI
      have qk : (k : Int) < 2 + (m : Int) := by omega
      have HX0 : Hid (∀ c : CredM, l.getD k credZ = c → InvC w2 (lostC l) 1 (4 + pl) k (wr.alloc (.cells #[.int .i64 c.p, .int .i64 c.t, .int .i64 c.e, .int .i64 c.v] 39)) ∧ Box (wr.alloc (.cells #[.int .i64 c.p, .int .i64 c.t, .int .i64 c.e, .int .i64 c.v] 39)) wr.heap.size (credCells (l.getD k credZ)).toArray 39) := fun c hc => by
        refine ⟨(unhide HI).alloc _, ?_⟩
        rw [hc]
        exact Box.new wr _ _
      clear hI hb1 hown
      go_upto_if 38 with fail
      go_cut [] (fun wc => InvC w2 (lostC l) 1 (4 + pl) k wc ∧ Box wc wr.heap.size (credCells (l.getD k credZ)).toArray 39)
      case first =>
        by_cases hkl : k < l.length
        · obtain ⟨rg, ro, rfl, hrg, hcell⟩ := unhide HROW (by omega)
          have hbl := (unhide HI).below
          have r0 := (World.cell?_of_block (hbl.block rg hrg)).trans (hcell k 0 hkl (by omega))
          have r1 := (World.cell?_of_block (hbl.block rg hrg)).trans (hcell k 1 hkl (by omega))
          have r2 := (World.cell?_of_block (hbl.block rg hrg)).trans (hcell k 2 hkl (by omega))
          have r3 := (World.cell?_of_block (hbl.block rg hrg)).trans (hcell k 3 hkl (by omega))
          simp only [credCells, Nat.add_zero] at r0 r1 r2 r3
          have hrl : rg < wr.heap.size := Nat.lt_of_lt_of_le hrg hbl.size
          have fin := hide (unhide HX0 _ rfl)
          clear HX0 hcell hbl HR
          generalize l.getD k credZ = c at *
          go_wp2
          go_meet
          case rel => exact unhide fin
        · have fin := hide (unhide HX0 credZ (by simp [List.getD_eq_getElem?_getD, Nat.le_of_not_lt hkl]))
          clear HX0
          go_wp2
          go_meet
          case rel => exact unhide fin
      case rest =>
        obtain ⟨hi2, hx⟩ := hcut
        clear HX0 HI
        obtain ⟨v3, hb1, hown⟩ := hi2.conf
        obtain ⟨va, vcap, hv⟩ := row_shape hown
        have q0 := hb1.cell 0
        have fz := hb1.frozen 0
        have hci : I64 (l.getD k credZ).v := by
          rw [List.getD_eq_getElem?_getD]
          cases hg : l[k]? with
          | none => simp [credZ, I64]
          | some c => exact ((unhide HR).i64 c (List.mem_of_getElem? hg)).2.2.2
        have x3 : wc.cell? ⟨wr.heap.size, 3, none⟩ = some (.int .i64 (l.getD k credZ).v) := hx.cell 3
        have HFIN := hide (fun d hd X w2' g cap hX hg ho => InvC.appended (X := X) (w2 := w2') (g := g) (cap := cap) (d := d) hi2 hb1 hown hd hX hg ho)
        have HCR := hide (fun w => pick_any (l.getD k credZ).v 1000 w (by omega) (by omega) hci.1 hci.2)
        have HLC : Hid (lostC l k = ⟨0, 0, 0, pickI (l.getD k credZ).v 1000⟩) := rfl
        generalize pickI (l.getD k credZ).v 1000 = nv at *
        generalize (l.getD k credZ).v = cv at *
        have hlt1 : w2.heap.size < wc.heap.size := hb1.lt
        have hsz0 : wc.drew.heap.size = wc.heap.size := rfl
        have HA : Hid (∀ o, (wc.drew.alloc o).ownsRow (w2.heap.size + 1) 39 4 v3 k ((listOf (lostC l) k).flatMap credCells)) := fun o => (show wc.drew.ownsRow _ _ _ _ _ _ from hown).alloc o
        have HFAR : Hid (∀ o w6, (wc.drew.alloc o).grownBy w6 v3.ownBlock → w6.cell? ⟨w2.heap.size, 0, none⟩ = some v3 ∧ w6.frozen? ⟨w2.heap.size, 0, none⟩ = false) := fun o w6 hg => by
          have hb : w6.heap[w2.heap.size]? = wc.heap[w2.heap.size]? := by
            rw [hg.block w2.heap.size (by rw [World.size_alloc]; omega) (fun e => by have := own_base hown e.symm; omega), Below.heap_alloc _ _ _ (by omega)]
            rfl
          exact ⟨(World.cell?_of_block hb).trans q0, (World.frozen?_of_block hb).trans fz⟩
        have HNW : Hid (∀ j u, (credCells ⟨0, 0, 0, nv⟩)[j]? = some u → (wc.drew.alloc (.cells (credCells ⟨0, 0, 0, nv⟩).toArray 39)).cell? ((⟨wc.heap.size, 0, none⟩ : Addr).add j) = some u) := fun j u hu =>
          World.news_of_block (heap_alloc_new wc.drew _) j u (by simpa using hu)
        have H1 : Hid (∀ u ∈ credCells ⟨0, 0, 0, nv⟩, u.oneCell' = true) := fun u hu => by
          simp only [credCells, List.mem_cons, List.not_mem_nil, or_false] at hu
          rcases hu with rfl | rfl | rfl | rfl <;> rfl
        have HBX : Hid (∀ (o : Obj), w2.heap.size + 1 ≤ (wc.drew.alloc o).heap.size ∧ Below wc.heap.size wc (wc.drew.alloc o)) := fun o => by
          have := hi2.size
          exact ⟨by rw [World.size_alloc]; omega, ((Below.refl wc.heap.size wc).drew).alloc (by omega) o⟩
        obtain ⟨i0, hii, hz0, hz1, hz2⟩ := info_parts Tryz.infoCred
        have hkk : k ≤ 7 := by omega
        rw [hv] at q0
        have HV := hide hv
        clear hi2 hx hb1 hown hv hci
        go_upto_region 9 with fail
        go_region_law (first | (go_simp; go_at_call 15; refine (unhide HCR _).mono ?_; rintro o w5 ⟨rfl, rfl⟩) | (refine step_append_lies _ (by rfl) _ _ _ (by rfl) (w2.heap.size + 1) 39 i0 _ 4 32 Tryz.underlying22 hii hz0 hz1 hz2 rfl (by omega) (.slice va k vcap) k ((listOf (lostC l) k).flatMap credCells) (by rfl) (by rw [← unhide HV]; exact unhide HA _) ⟨wc.heap.size, 0, none⟩ 1 1 (credCells ⟨0, 0, 0, nv⟩) (by rfl) (by rfl) (unhide HNW) (unhide H1) (by omega) (by unfold maxLen; omega) (by omega) (unhide HBX _).1 _ rfl ?_; intro g cap2 w6 hown1 hgrow hat hlt6; rw [← unhide HV] at hgrow; obtain ⟨z1, z2⟩ := unhide HFAR _ _ hgrow; have fin := hide (unhide HFIN _ (unhide HLC).symm _ _ _ _ (unhide HBX _).2 hgrow hown1)))
        all_goals
          go_wp2
          go_roundg (2 + m - (k + 1))
          case measure => omega
          case rel => exact ⟨k + 1, by omega, rfl, by simp, unhide fin⟩
    · have hke : k = 2 + m := by omega
      generalize wr = wN at *
      obtain ⟨g, vcap, cur, hb1, -, hgb, hgg, hct, hcap⟩ := hI.row (by omega)
      have d0 : wN.cell? ⟨w2.heap.size, 0, none⟩ = some (.slice (some ⟨g, 0, none⟩) k vcap) := hb1.cell 0
      have d1 : wN.cell? ⟨w2.heap.size, 1, none⟩ = some (.int .i64 1) := hb1.cell 1
      have d2 : wN.cell? ⟨w2.heap.size, 2, none⟩ = some (.int .i64 (4 + pl)) := hb1.cell 2
      have d3 : wN.cell? ⟨w2.heap.size, 3, none⟩ = some (.int .i64 1000) := hb1.cell 3
      have hcl := listOf_len (lostC l) k
      have hmay : ∀ c ∈ listOf (lostC l) k, c.may k := listOf_mem (lostC l) k (fun i _ => lostC_may l i (by omega))
      have HNEW := hide ((unhide HD).new wN g vcap (listOf (lostC l) k) 1 (4 + pl) 1000 cur 39 (by rw [hcl]; omega) (by rw [hcl]; omega) (by omega) (by omega) (by omega) (by rw [hcl]; exact hmay) hgg (by rw [hcl]; exact hct) (by rw [hcl]; exact hcap))
      rw [hcl] at HNEW
      have HBL := hide hI.below
      have HB1 := hide hb1
      have qk : ¬ (k : Int) < 2 + (m : Int) := by omega
      have HKE := hide hke
      obtain ⟨T1, T1a, T2, T3, T4, hM⟩ := lost_plain l k (by omega) (4 + pl) (by omega)
      generalize TownM.new 1 (4 + pl) 1000 (listOf (lostC l) k) = T0 at *
      have HM := hide hM
      clear hI hb1 hgg hct hcap hcl hmay hM hgb HR HROW hlt hke
      go_wp2_with fail
      refine (unhide HNEW).mono ?_
      rintro o w3 ⟨bt, bs, rfl, hR, hB, hbs⟩
      have HV0 : Hid (LivesC S wN bt 8 T0 w3) := ⟨⟨bs, hR, hbs⟩, hB, (unhide HM).fits.1⟩
      have HDA := hide (fun w bs h => deliverAll_any S (unhide HD) w bt bs T0 8 h (unhide HM).fits.1 (by omega))
      have HT1 := hide (fun w bs h => (unhide HD).tick 1 w bt bs T1 6008 h (unhide HM).fits.2.1 (by omega) ⟨by omega, by omega⟩)
      have HDB := hide (fun w bs h => deliverAll_any S (unhide HD) w bt bs T1a 6023 h (unhide HM).fits.2.2.1 (by omega))
      have HEV := hide (fun w bs h => (unhide HD3).events w bt bs T2 12023 h (unhide HM).fits.2.2.2.1)
      have HT2 := hide (fun w bs h => (unhide HD).tick (4 + pl - 1) w bt bs T2 12023 h (unhide HM).fits.2.2.2.1 (by omega) ⟨by omega, by omega⟩)
      have HS2 := hide (fun (j : Nat) (hj : j ≤ 7) w bs h => (unhide HD).state (j : Int) w bt bs T3 13523 h (unhide HM).fits.2.2.2.2.1 (by omega) ⟨by omega, by omega⟩)
      have HT3 := hide (fun w bs h => (unhide HD).tick 1 w bt bs T3 13523 h (unhide HM).fits.2.2.2.2.1 (by omega) ⟨by omega, by omega⟩)
      have HS3 := hide (fun (j : Nat) (hj : j ≤ 7) w bs h => (unhide HD).state (j : Int) w bt bs T4 13538 h (unhide HM).fits.2.2.2.2.2 (by omega) ⟨by omega, by omega⟩)
      rw [(unhide HM).f1] at HDA
      rw [(unhide HM).f2] at HDB
      rw [(unhide HM).t1, tickE_in (show (1 : Int) ≤ 1 ∧ (1 : Int) ≤ 1000 by omega)] at HT1
      rw [(unhide HM).ev] at HEV
      rw [(unhide HM).t2, tickE_in (show (1 : Int) ≤ 4 + pl - 1 ∧ 4 + pl - 1 ≤ 1000 by omega)] at HT2
      rw [(unhide HM).t3, tickE_in (show (1 : Int) ≤ 1 ∧ (1 : Int) ≤ 1000 by omega)] at HT3
      clear hR hB hbs HNEW HD HD3 d0 d1 d3
      go_wp2_with fail
      obtain ⟨bs0, hR0, hnx0⟩ := (unhide HV0).step
      refine (unhide HDA _ _ hR0).mono ?_
      rintro o v0 ⟨rfl, hd⟩
      have HV1 := hide (hnx0 v0 _ _ hd (unhide HM).fits.2.1)
      clear hd hnx0 hR0 HV0 HDA
      go_wp2_with fail
      obtain ⟨bs1, hR1, hnx1⟩ := (unhide HV1).step
      refine (unhide HT1 _ _ hR1).mono ?_
      rintro o v1 ⟨rfl, hd⟩
      have HV2 := hide (hnx1 v1 _ _ hd (unhide HM).fits.2.2.1)
      clear hd hnx1 hR1 HV1 HT1
      go_wp2_with fail
      obtain ⟨bs2, hR2, hnx2⟩ := (unhide HV2).step
      refine (unhide HDB _ _ hR2).mono ?_
      rintro o v2 ⟨rfl, hd⟩
      have HV3 := hide (hnx2 v2 _ _ hd (unhide HM).fits.2.2.2.1)
      clear hd hnx2 hR2 HV2 HDB
      go_wp2_with fail
      obtain ⟨bs3, hR3, hnx3⟩ := (unhide HV3).step
      refine (unhide HEV _ _ hR3).mono ?_
      rintro o v3 ⟨ea, ecap, rfl, -, hd, -⟩
      have HV4 := hide (hnx3 v3 _ _ hd (unhide HM).fits.2.2.2.1)
      clear hd hnx3 hR3 HV3 HEV
      have d2' := (World.cell?_of_block ((unhide HV4).below.block w2.heap.size (unhide HB1).lt)).trans d2
      clear d2
      go_wp2_with fail
      obtain ⟨bs4, hR4, hnx4⟩ := (unhide HV4).step
      refine (unhide HT2 _ _ hR4).mono ?_
      rintro o v4 ⟨rfl, hd⟩
      have HV5 := hide (hnx4 v4 _ _ hd (unhide HM).fits.2.2.2.2.1)
      clear hd hnx4 hR4 HV4 HT2
      go_wp2_with fail
      go_loopg [14] (2 + m) (fun g i wx => ∃ j : Nat, j ≤ 2 + m ∧ g = 2 + m - j ∧ i = .int .i64 j ∧ LivesC S wN bt 13523 T3 wx)
      case atStart => exact ⟨0, by omega, by simp, rfl, unhide HV5⟩
      case round =>
        obtain ⟨j, hj, rfl, rfl, hL⟩ := hrel
        clear HV5
        by_cases hjn : j < 2 + m
        · have qj : (j : Int) < 2 + (m : Int) := by omega
          have hs := (unhide HM).s3 j (by rw [unhide HKE]; exact hjn)
          have HSJ := hide (unhide HS2 j (by omega))
          rw [hs.1] at HSJ
          have hne := hs.2
          generalize T3.stateOf (j : Int) = sj at *
          obtain ⟨bsj, hRj, hnxj⟩ := hL.step
          have HRJ := hide hRj
          have HNJ := hide hnxj
          have HFJ := hide hL.fits
          clear hL hRj hnxj hs
          go_wp2_with fail
          refine (unhide HSJ _ _ (unhide HRJ)).mono ?_
          rintro o vj ⟨rfl, hd⟩
          have HVJ := hide (unhide HNJ vj _ _ hd (unhide HFJ))
          clear hd HRJ HNJ HSJ HFJ
          go_wp2
          go_roundg (2 + m - (j + 1))
          case measure => omega
          case rel => exact ⟨j + 1, by omega, rfl, by simp, unhide HVJ⟩
        · have qj : ¬ (j : Int) < 2 + (m : Int) := by omega
          have HVX := hide hL
          clear hL hjn hj
          go_wp2_with fail
          obtain ⟨bs5, hR5, hnx5⟩ := (unhide HVX).step
          refine (unhide HT3 _ _ hR5).mono ?_
          rintro o v5 ⟨rfl, hd⟩
          have HV6 := hide (hnx5 v5 _ _ hd (unhide HM).fits.2.2.2.2.2)
          clear hd hnx5 hR5 HVX HT3
          go_wp2_with fail
          go_loopg [18] (2 + m) (fun g i wx => ∃ j : Nat, j ≤ 2 + m ∧ g = 2 + m - j ∧ i = .int .i64 j ∧ LivesC S wN bt 13538 T4 wx)
          case atStart => exact ⟨0, by omega, by simp, rfl, unhide HV6⟩
          case round =>
            obtain ⟨j, hj, rfl, rfl, hL⟩ := hrel
            clear HV6
            by_cases hjn : j < 2 + m
            · have qj : (j : Int) < 2 + (m : Int) := by omega
              have hs := (unhide HM).s4 j (by rw [unhide HKE]; exact hjn)
              have HSJ := hide (unhide HS3 j (by omega))
              rw [hs.1] at HSJ
              rw [hs.2] at HSJ
              obtain ⟨bsj, hRj, hnxj⟩ := hL.step
              have HRJ := hide hRj
              have HNJ := hide hnxj
              have HFJ := hide hL.fits
              clear hL hRj hnxj hs
              go_wp2_with fail
              refine (unhide HSJ _ _ (unhide HRJ)).mono ?_
              rintro o vj ⟨rfl, hd⟩
              have HVJ := hide (unhide HNJ vj _ _ hd (unhide HFJ))
              clear hd HRJ HNJ HSJ HFJ
              go_wp2
              go_roundg (2 + m - (j + 1))
              case measure => omega
              case rel => exact ⟨j + 1, by omega, rfl, by simp, unhide HVJ⟩
            · have qj : ¬ (j : Int) < 2 + (m : Int) := by omega
              have HVX := hide hL
              clear hL hjn hj
              have fin := hide (((unhide HBL).trans ((unhide HVX).below.mono (unhide HBL).size)))
              go_wp2
              go_ret
              exact ⟨rfl, unhide fin⟩
end Go.Proofs.YtceappncglfciaaGreat
