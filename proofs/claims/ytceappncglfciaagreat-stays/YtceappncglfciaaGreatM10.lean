import Derived.Test.YtceappncglfciaaGreatM09
set_option linter.unusedVariables false
set_option linter.unusedSimpArgs false
/-
  Where nothing fails: the Welcomes, and the whole: one is established, all others follow it.
-/
namespace Go.Proofs.YtceappncglfciaaGreat
open TownM
section
variable {l : List CredM} {b : Nat} {P wait lease : Int}

/-! ### Welcome -/
structure StW (l : List CredM) (b : Nat) (P wait lease : Int) (t : Nat) (T : TownM) : Prop where
  conf : Conf l wait lease T
  now : T.now = wait
  old : ∀ i, t ≤ i → i < l.length → i ≠ b → Fol l b wait 2 (cred1 l b P i) (T.peer i)
  new : ∀ i, i < t → i ≠ b → Fol l b wait 3 (cred2 l b P i) (T.peer i)
  mem : MemIs (T.peer b) b l.length l.length (memA P wait) (memJ P wait)
  lead : Lead wait 3 (cred2 l b P b) (P + 1) true (T.peer b)
  ev : T.events = [((b : Int), P + 1)]
  way : T.way = (folFrom b t (l.length - t)).map (wel l b P)
theorem StW.of {T : TownM} (g : Given l b P) (h : StA l b P wait lease l.length T) : StW l b P wait lease 0 T := by
  have hn := g.n
  have hna := notesTo_all g
  rcases h.is with ⟨hno, _, _⟩ | ⟨_, hL, hev, hw⟩
  · rw [hna] at hno; omega
  · refine ⟨h.conf, h.now, fun i _ hi hb => h.fol i hi hb, fun i hi => by omega, h.mem, hL, hev, ?_⟩
    rw [hw, Nat.sub_self, Nat.sub_zero, folTo_all]
    simp [folFrom]
theorem StW.skip {T : TownM} (g : Given l b P) (h : StW l b P wait lease b T) : StW l b P wait lease (b + 1) T := by
  refine ⟨h.conf, h.now, fun i hi => h.old i (by omega), fun i hi hb => h.new i (by omega) hb, h.mem, h.lead, h.ev, ?_⟩
  rw [← folFrom_skip g.bl]
  exact h.way
theorem StW.step {T : TownM} {t : Nat} (g : Given l b P) (h : StW l b P wait lease t T) (ht : t < l.length) (htb : t ≠ b) : ∃ T', Goes 1 T T' ∧ StW l b P wait lease (t + 1) T' := by
  have hl := h.conf.len
  have hn := g.n
  have hlt := g.lt
  have hi : t < T.ps.length := by rw [hl]; exact ht
  have hff := folFrom_cons (b := b) ht htb
  have hfl := folFrom_len b (l.length - (t + 1)) (t + 1)
  have hF := h.old t (Nat.le_refl _) ht htb
  have hway := h.way
  rw [hff, List.map_cons] at hway
  generalize hrest : (folFrom b (t + 1) (l.length - (t + 1))).map (wel l b P) = rest at hway
  have hlen : rest.length ≤ 20 := by rw [← hrest, map_len]; omega
  have hdst : (wel l b P t).dst.toNat = t := rfl
  have hdel := deliver0 hway (by rw [hdst]; exact hF.up) (by rw [hdst, hF.state]; decide)
  rw [hdst] at hdel
  refine ⟨T.deliver 0, Goes.one (by rw [hway]; simp) (by rw [hway]; simp; omega), ?_⟩
  rw [hdel]
  have hpt : ({ T with way := rest } : TownM).peer t = T.peer t := rfl
  have hhe : ({ T with way := rest } : TownM).hears t (wel l b P t) = ({ T with way := rest } : TownM).following t (wel l b P t) := by
    unfold TownM.hears
    rw [if_neg (show ¬ (wel l b P t).kind = 1 by show ¬ (5 : Int) = 1; decide), hpt, hF.state, if_neg (by decide), if_pos ⟨rfl, by rw [hF.vote]; rfl⟩]
  rw [hhe]
  unfold TownM.following
  have hce := g.credE ht
  rw [if_neg (show ¬ (wel l b P t).kind = 6 by show ¬ (5 : Int) = 6; decide), if_pos (show (wel l b P t).kind = 5 from rfl)]
  have hq1 : (T.peer t).c.p = (wel l b P t).epoch := by rw [hF.cred]; rfl
  have hq2 : (T.peer t).c.t = (wel l b P t).src := by rw [hF.cred]; rfl
  have hq3 : (T.peer t).c.e ≠ (wel l b P t).epoch := by
    rw [hF.cred]
    show (l.getD t credZ).e ≠ P + 1
    omega
  rw [hpt, if_pos ⟨hq1, hq2, hq3⟩]
  have hcr : ({ (T.peer t).c with e := (wel l b P t).epoch, v := (wel l b P t).news } : CredM) = cred2 l b P t := by rw [hF.cred]; rfl
  have hw : (({ T with way := rest } : TownM).setPeer t { T.peer t with since := ({ T with way := rest } : TownM).now, c := { (T.peer t).c with e := (wel l b P t).epoch, v := (wel l b P t).news } }).write t = ({ T with way := rest } : TownM).setPeer t { T.peer t with since := T.now, c := cred2 l b P t, disk := diskWrite (T.peer t).disk (cred2 l b P t) 28 } := by
    rw [hcr, write_whole (by rw [peer_set (T := { T with way := rest }) hi]; exact hF.armed), peer_set (T := { T with way := rest }) hi, set_set]
  rw [hw]
  generalize hp : ({ T.peer t with since := T.now, c := cred2 l b P t, disk := diskWrite (T.peer t).disk (cred2 l b P t) 28 } : PeerM) = p
  have hpeer : (({ T with way := rest } : TownM).setPeer t p).peer t = p := peer_set (T := { T with way := rest }) hi p
  have hoth : ∀ j, j ≠ t → (({ T with way := rest } : TownM).setPeer t p).peer j = T.peer j := fun j hj => peer_other (T := { T with way := rest }) (fun e => hj e.symm) p
  have hFp : Fol l b wait 3 (cred2 l b P t) p := by
    rw [← hp]
    exact ⟨hF.up, hF.armed, hF.state, hF.vote, h.now, rfl, hF.disk.whole (by omega) (g.ok2 t)⟩
  refine ⟨⟨(setPeer_len _ _ _).trans hl, h.conf.wait, h.conf.lease, h.conf.net⟩, h.now, fun i hti hil hib => ?_, fun i hti hib => ?_, ?_, ?_, h.ev, hrest.symm⟩
  · rw [hoth i (by omega)]
    exact h.old i (by omega) hil hib
  · by_cases hit : i = t
    · rw [hit, hpeer]; exact hFp
    · rw [hoth i hit]
      exact h.new i (by omega) hib
  · rw [hoth b (fun e => htb e.symm)]; exact h.mem
  · rw [hoth b (fun e => htb e.symm)]; exact h.lead
theorem StW.run (g : Given l b P) : ∀ (k t : Nat) (T : TownM), t + k = l.length → StW l b P wait lease t T → ∃ c T', c ≤ k ∧ Goes c T T' ∧ StW l b P wait lease l.length T'
  | 0, t, T, ht, h => ⟨0, T, Nat.le_refl _, Goes.refl T, by rw [← ht]; exact h⟩
  | k + 1, t, T, ht, h => by
    by_cases htb : t = b
    · have h1 : StW l b P wait lease (t + 1) T := by
        rw [htb] at h ⊢
        exact h.skip g
      obtain ⟨c, T', hc, hg, hs⟩ := StW.run g k (t + 1) T (by omega) h1
      exact ⟨c, T', by omega, hg, hs⟩
    · obtain ⟨T1, hg1, hs1⟩ := h.step g (by omega) htb
      obtain ⟨c, T', hc, hg, hs⟩ := StW.run g k (t + 1) T1 (by omega) hs1
      exact ⟨c + 1, T', by omega, hg1.trans hg, hs⟩

/-! ### The whole -/
/-- One is established; all others follow it; nothing is on its way. -/
structure Stood (l : List CredM) (b : Nat) (P wait lease : Int) (T : TownM) : Prop where
  conf : Conf l wait lease T
  now : T.now = wait
  fol : ∀ i, i < l.length → i ≠ b → Fol l b wait 3 (cred2 l b P i) (T.peer i)
  mem : (T.peer b).mem.length = 7 ∧ ∀ k, k < l.length → (T.peer b).mem.getD k memZ = if k = b then memZ else memA P wait
  lead : Lead wait 3 (cred2 l b P b) (P + 1) true (T.peer b)
  ev : T.events = [((b : Int), P + 1)]
  way : T.way = []
theorem flush_done {T : TownM} (h : T.way = []) (f : Nat) : flush (f + 1) T = (true, T) := by
  unfold flush
  rw [if_pos (by rw [h]; rfl)]
theorem stood_several (g : Given l b P) (hw : 1 ≤ wait) {T : TownM} (h : Ready l wait lease b 0 T) : ∃ T', flush 3000 (T.tickN wait.toNat) = (true, T') ∧ Stood l b P wait lease T' := by
  have h1 := StJ.of g (ph2_of_ready g.n hw g.ok g.p h)
  have hn := g.n
  obtain ⟨c1, T1, k1, g1, s1⟩ := StJ.run g l.length 0 _ (by omega) h1
  obtain ⟨c2, T2, k2, g2, s2⟩ := StP.run g l.length 0 _ (by omega) (StP.of g s1)
  obtain ⟨c3, T3, k3, g3, s3⟩ := StA.run g l.length 0 _ (by omega) (StA.of g s2)
  obtain ⟨c4, T4, k4, g4, s4⟩ := StW.run g l.length 0 _ (by omega) (StW.of g s3)
  have hall := ((g1.trans g2).trans g3).trans g4
  have hway : T4.way = [] := by rw [s4.way, Nat.sub_self]; rfl
  refine ⟨T4, ?_, ⟨s4.conf, s4.now, fun i hi hb => s4.new i hi hb, ⟨s4.mem.len, fun k hk => by rw [s4.mem.at_ k hk, if_pos hk]⟩, s4.lead, s4.ev, hway⟩⟩
  obtain ⟨f, hf⟩ : ∃ f, 3000 = (f + 1) + (c4 + (c3 + (c2 + c1))) := ⟨3000 - 1 - (c4 + (c3 + (c2 + c1))), by omega⟩
  rw [hf, hall, flush_done hway]
/-- The only peer. -/
theorem stood_only (hl : l.length = 1) (hc : ∀ c ∈ l, c.ok) (hP : ∀ c ∈ l, c.p = P) (hlt : 0 ≤ P ∧ P < 1000) (hw : 1 ≤ wait) {T : TownM} (h : Ready l wait lease 0 0 T) : ∃ T', flush 3000 (T.tickN wait.toNat) = (true, T') ∧ Stood l 0 P wait lease T' := by
  obtain ⟨k, hk⟩ : ∃ k : Nat, wait.toNat = k + 1 := ⟨wait.toNat - 1, by omega⟩
  have hr := ready_ticks h k (by omega)
  rw [hk, TownM.tickN]
  unfold TownM.tick1
  rw [hr.conf.len, hl]
  obtain ⟨vs, hp⟩ := hr.peer 0 (by omega)
  generalize hT : ({ T.tickN k with now := (T.tickN k).now + 1 } : TownM) = U
  have hUp : U.peer 0 = look1 l 0 (ownV l 0) vs true := by rw [← hT]; exact hp
  have hUl : U.ps.length = 1 := by rw [← hT]; show (T.tickN k).ps.length = 1; rw [hr.conf.len, hl]
  have hUnow : U.now = wait := by rw [← hT]; show (T.tickN k).now + 1 = wait; rw [hr.now]; omega
  have hUway : U.way = [] := by rw [← hT]; exact hr.way
  have hUev : U.events = [] := by rw [← hT]; exact hr.ev
  have hUc : Conf l wait lease U := by rw [← hT]; exact ⟨hr.conf.len, hr.conf.wait, hr.conf.lease, hr.conf.net⟩
  have hck := getD_ok hc (i := 0) (by omega)
  have hcp := getD_p hP (i := 0) (by omega)
  have hi : 0 < U.ps.length := by omega
  have hstep : U.ticksTo 1 = U.lead 0 := by
    show U.tickAt 0 = _
    unfold TownM.tickAt
    rw [hUp, if_pos ⟨rfl, by show (0 : Int) ≠ 3; decide⟩]
    unfold TownM.tick
    have hcond : (look1 l 0 (ownV l 0) vs true).waits = true ∧ U.wait ≤ U.now - (look1 l 0 (ownV l 0) vs true).since := by
      refine ⟨rfl, ?_⟩
      rw [hUc.wait, hUnow]
      show wait ≤ wait - 0
      omega
    rw [hUp, if_pos (show (look1 l 0 (ownV l 0) vs true).state = 0 from rfl), if_pos hcond, if_pos (show (look1 l 0 (ownV l 0) vs true).vote.p = ((0 : Nat) : Int) from rfl)]
  rw [hstep]
  unfold TownM.lead
  rw [if_pos hUl]
  generalize hq : ({ U.peer 0 with state := 2, epoch := 0, mem := mem7, stands := false, since := U.now } : PeerM) = q
  have hl0 : U.lead0 0 = U.setPeer 0 q := by unfold TownM.lead0; rw [hq]
  rw [hl0]
  have hqp : (U.setPeer 0 q).peer 0 = q := peer_set hi q
  have hqa : q.armed = -1 := by rw [← hq, hUp]; rfl
  have hqc : q.c = l.getD 0 credZ := by rw [← hq, hUp]; rfl
  have hqd : q.disk = (l.getD 0 credZ).slot 1 ++ List.replicate 28 0 := by rw [← hq, hUp]; rfl
  have hqm : q.mem = mem7 := by rw [← hq]
  have hqs : q.stands = false := by rw [← hq]
  have hqu : q.up = true := by rw [← hq, hUp]; rfl
  have hqst : q.state = 2 := by rw [← hq]
  have hqsi : q.since = wait := by rw [← hq]; exact hUnow
  have hlen1 : (U.setPeer 0 q).ps.length = 1 := (setPeer_len _ _ _).trans hUl
  have hmem0 : ∀ k, mem7.getD k memZ = memZ := by
    intro k
    unfold mem7
    rw [List.getD_eq_getElem?_getD, List.getElem?_replicate]
    split <;> rfl
  have hbest : (U.setPeer 0 q).bestTo 0 (U.setPeer 0 q).ps.length = P := by
    rw [hlen1]
    show (if _ then _ else _) = P
    rw [hqp, hqm, hmem0]
    show (U.setPeer 0 q).bestTo 0 0 = P
    show ((U.setPeer 0 q).peer 0).c.p = P
    rw [hqp, hqc, hcp]
  unfold TownM.propose
  rw [hbest, if_neg (by omega), if_pos (by rw [hqp, hqa]; decide), hqp, set_set, hqc]
  have hc1 : ({ l.getD 0 credZ with p := P + 1, t := ((0 : Nat) : Int) } : CredM) = cred1 l 0 P 0 := rfl
  rw [hc1]
  have hw1 : (U.setPeer 0 { q with c := cred1 l 0 P 0 }).write 0 = U.setPeer 0 { q with c := cred1 l 0 P 0, disk := diskWrite q.disk (cred1 l 0 P 0) 28 } := by
    rw [write_whole (by rw [peer_set hi]; exact hqa), peer_set hi, set_set]
  rw [hw1, peer_set hi, set_set, hlen1]
  generalize hr1 : ({ q with c := cred1 l 0 P 0, disk := diskWrite q.disk (cred1 l 0 P 0) 28, epoch := P + 1 } : PeerM) = r
  have hrp : (U.setPeer 0 r).peer 0 = r := peer_set hi r
  have hrm : r.mem = mem7 := by rw [← hr1]; exact hqm
  have hpro : (U.setPeer 0 r).proposesTo 0 (P + 1) 1 = U.setPeer 0 r := by
    show (if _ then _ else _) = _
    rw [hrp, hrm, hmem0]
    rfl
  rw [hpro]
  have hok1 : (cred1 l 0 P 0).ok := ⟨⟨by show 0 ≤ P + 1; omega, by show P + 1 ≤ 4294967295; omega⟩, u0, hck.2.2⟩
  have hok2 : (cred2 l 0 P 0).ok := ⟨⟨by show 0 ≤ P + 1; omega, by show P + 1 ≤ 4294967295; omega⟩, u0, ⟨by show 0 ≤ P + 1; omega, by show P + 1 ≤ 4294967295; omega⟩, hck.2.2.2⟩
  have hd1 : DiskOK 2 (cred1 l 0 P 0) r.disk := by
    rw [← hr1]
    show DiskOK 2 _ (diskWrite q.disk (cred1 l 0 P 0) 28)
    rw [hqd]
    exact (DiskOK.first hck).whole (by omega) hok1
  have hlr : (U.setPeer 0 r).ps.length = 1 := (setPeer_len _ _ _).trans hUl
  have hak : (U.setPeer 0 r).ackedTo 0 (U.setPeer 0 r).ps.length = 1 := by
    rw [hlr]
    show (if _ then _ else _) = _
    rw [hrp, hrm, hmem0]
    rfl
  have hrs : r.stands = false := by rw [← hr1]; exact hqs
  have hra : r.armed = -1 := by rw [← hr1]; exact hqa
  have hre : r.epoch = P + 1 := by rw [← hr1]
  have hrc : r.c = cred1 l 0 P 0 := by rw [← hr1]
  have hmo : (U.setPeer 0 r).most 1 = true := by unfold TownM.most; rw [hlr]; decide
  unfold TownM.check
  rw [hak, hrp, hrs, hmo, if_neg (by decide), if_pos (by rw [hra]; decide), hlr]
  have hst : (U.setPeer 0 r).stand 0 = { U.setPeer 0 { r with stands := true, c := cred2 l 0 P 0 } with events := [(((0 : Nat) : Int), P + 1)] } := by
    unfold TownM.stand
    have hce : ({ r.c with e := r.epoch } : CredM) = cred2 l 0 P 0 := by rw [hre, hrc]; rfl
    rw [hrp, hce, set_set]
    show ({ U.setPeer 0 { r with stands := true, c := cred2 l 0 P 0 } with events := U.events ++ [(((0 : Nat) : Int), r.epoch)] } : TownM) = _
    rw [hUev]
    exact congrArg (fun x => ({ U.setPeer 0 { r with stands := true, c := cred2 l 0 P 0 } with events := [(((0 : Nat) : Int), x)] } : TownM)) hre
  rw [hst]
  have hpb : ({ U.setPeer 0 { r with stands := true, c := cred2 l 0 P 0 } with events := [(((0 : Nat) : Int), P + 1)] } : TownM).peer 0 = { r with stands := true, c := cred2 l 0 P 0 } := peer_set hi _
  rw [write_whole (by rw [hpb]; exact hra), hpb]
  have hset : ∀ z : PeerM, ({ U.setPeer 0 { r with stands := true, c := cred2 l 0 P 0 } with events := [(((0 : Nat) : Int), P + 1)] } : TownM).setPeer 0 z = { U.setPeer 0 z with events := [(((0 : Nat) : Int), P + 1)] } := by
    intro z
    unfold TownM.setPeer
    simp
  rw [hset]
  generalize hz : ({ r with stands := true, c := cred2 l 0 P 0, disk := diskWrite r.disk (cred2 l 0 P 0) 28 } : PeerM) = z
  have hzp : ({ U.setPeer 0 z with events := [(((0 : Nat) : Int), P + 1)] } : TownM).peer 0 = z := peer_set hi z
  have hzm : z.mem = mem7 := by rw [← hz]; exact hrm
  have hwel : ({ U.setPeer 0 z with events := [(((0 : Nat) : Int), P + 1)] } : TownM).welcomesTo 0 1 = { U.setPeer 0 z with events := [(((0 : Nat) : Int), P + 1)] } := by
    show (if _ then _ else _) = _
    rw [hzp, hzm, hmem0]
    rfl
  rw [hwel]
  have hwz : ({ U.setPeer 0 z with events := [(((0 : Nat) : Int), P + 1)] } : TownM).way = [] := hUway
  refine ⟨_, flush_done hwz 2999, ⟨⟨(setPeer_len _ _ _).trans hUc.len, hUc.wait, hUc.lease, hUc.net⟩, hUnow, fun i hil hi0 => by omega, ?_, ?_, rfl, hwz⟩⟩
  · rw [hzp, hzm]
    exact ⟨rfl, fun k hk => by rw [hmem0, if_pos (by omega)]⟩
  · rw [hzp]
    refine ⟨?_, ?_, ?_, ?_, ?_, ?_, ?_, ?_⟩
    · rw [← hz, ← hr1]; exact hqu
    · rw [← hz]; exact hra
    · rw [← hz, ← hr1]; exact hqst
    · rw [← hz, ← hr1]; exact hqsi
    · rw [← hz]
    · rw [← hz]
      exact hd1.whole (by omega) hok2
    · rw [← hz]; exact hre
    · rw [← hz]
/-- The whole: all messages, Wait ticks, all messages: the one with the best vote stands. -/
theorem chosen_pure (hn : 1 ≤ l.length ∧ l.length ≤ 7) (hc : ∀ c ∈ l, c.ok) (hP : ∀ c ∈ l, c.p = P) (hE : ∀ c ∈ l, c.e ≤ P) (hlt : 0 ≤ P ∧ P < 1000) (hw : 1 ≤ wait) :
    ∃ b T1 T2, b < l.length ∧ (∀ j, j < l.length → (ownV l j).better (ownV l b) = false) ∧ flush 3000 (TownM.new wait lease 1000 l) = (true, T1) ∧ flush 3000 (T1.tickN wait.toNat) = (true, T2) ∧ Stood l b P wait lease T2 := by
  obtain ⟨h1, h2⟩ := ph1_new (wait := wait) (lease := lease) hn hc
  obtain ⟨T1, hf1, hp1, hw1⟩ := ph1_flush hn.2 3000 _ h1 h2 (by omega)
  obtain ⟨b, hb, hbest, hall⟩ := ph1_end hn.1 hp1 hw1
  have hr := ready_of hp1 hw1 hall
  by_cases h0 : l.length = 1
  · have hb0 : b = 0 := by omega
    subst hb0
    obtain ⟨T2, hf2, hs⟩ := stood_only h0 hc hP hlt hw hr
    exact ⟨0, T1, T2, hb, hbest, hf1, hf2, hs⟩
  · obtain ⟨T2, hf2, hs⟩ := stood_several ⟨⟨by omega, hn.2⟩, hb, hc, hP, hE, hlt, hbest⟩ hw hr
    exact ⟨b, T1, T2, hb, hbest, hf1, hf2, hs⟩
end
end Go.Proofs.YtceappncglfciaaGreat

/-
  Of whom nobody hears any more, that one looks again when the session is over, and all do.
-/
namespace Go.Proofs.YtceappncglfciaaGreat
open TownM
section
variable {l : List CredM} {b : Nat} {P wait lease : Int} {T : TownM}
/-- As it stood, but for the time and what is on its way. -/
structure Still (l : List CredM) (b : Nat) (P wait lease : Int) (now : Int) (T : TownM) : Prop where
  conf : Conf l wait lease T
  now : T.now = now
  fol : ∀ i, i < l.length → i ≠ b → Fol l b wait 3 (cred2 l b P i) (T.peer i)
  mem : ∀ k, k < l.length → (T.peer b).mem.getD k memZ = if k = b then memZ else memA P wait
  lead : Lead wait 3 (cred2 l b P b) (P + 1) true (T.peer b)
theorem Still.of (h : Stood l b P wait lease T) : Still l b P wait lease wait T := ⟨h.conf, h.now, h.fol, h.mem.2, h.lead⟩
theorem pingsTo_cfg (T : TownM) (i : Nat) : ∀ k, (T.pingsTo i k).net = T.net ∧ (T.pingsTo i k).wait = T.wait ∧ (T.pingsTo i k).lease = T.lease ∧ (T.pingsTo i k).now = T.now
  | 0 => ⟨rfl, rfl, rfl, rfl⟩
  | k + 1 => by
    have ih := pingsTo_cfg T i k
    unfold TownM.pingsTo
    split
    · unfold TownM.send
      split
      · exact ih
      · exact ih
    · exact ih
theorem Still.pings {x : Int} (h : Still l b P wait lease x T) (k : Nat) : Still l b P wait lease x (T.pingsTo b k) := by
  have hc := pingsTo_cfg T b k
  have hp : ∀ i, (T.pingsTo b k).peer i = T.peer i := fun i => peer_of_ps (pingsTo_ps T b k) i
  exact ⟨⟨by rw [pingsTo_ps]; exact h.conf.len, hc.2.1.trans h.conf.wait, hc.2.2.1.trans h.conf.lease, hc.1.trans h.conf.net⟩, hc.2.2.2.trans h.now, fun i hi hb => by rw [hp]; exact h.fol i hi hb, fun j hj => by rw [hp]; exact h.mem j hj, by rw [hp]; exact h.lead⟩
theorem Still.at_ {x : Int} (h : Still l b P wait lease x T) (hx : x - wait < lease) {i : Nat} (hi : i < l.length) : Still l b P wait lease x (T.tickAt i) := by
  unfold TownM.tickAt
  by_cases hib : i = b
  · subst hib
    rw [if_pos ⟨h.lead.up, by rw [h.lead.state]; decide⟩]
    unfold TownM.tick
    rw [h.lead.state, if_neg (by decide), if_neg (by decide), if_pos rfl, if_neg (by rw [h.conf.lease, h.now, h.lead.since]; omega)]
    split
    · exact h.pings _
    · exact h
  · have hF := h.fol i hi hib
    rw [if_pos ⟨hF.up, by rw [hF.state]; decide⟩]
    unfold TownM.tick
    rw [hF.state, if_neg (by decide), if_pos rfl, if_neg (by rw [h.conf.lease, h.now, hF.since]; omega)]
    exact h
theorem Still.ticksTo {x : Int} (h : Still l b P wait lease x T) (hx : x - wait < lease) : ∀ k, k ≤ l.length → Still l b P wait lease x (T.ticksTo k)
  | 0, _ => h
  | k + 1, hk => (Still.ticksTo h hx k (by omega)).at_ hx (by omega)
theorem Still.tick {x : Int} (h : Still l b P wait lease x T) (hx : x + 1 - wait < lease) : Still l b P wait lease (x + 1) T.tick1 := by
  unfold TownM.tick1
  rw [h.conf.len]
  refine Still.ticksTo (T := { T with now := T.now + 1 }) ⟨⟨h.conf.len, h.conf.wait, h.conf.lease, h.conf.net⟩, ?_, h.fol, h.mem, h.lead⟩ hx l.length (Nat.le_refl _)
  show T.now + 1 = x + 1
  rw [h.now]
theorem Still.ticks (h : Still l b P wait lease wait T) : ∀ k : Nat, (k : Int) < lease → Still l b P wait lease (wait + k) (T.tickN k)
  | 0, _ => by
    have e : wait + ((0 : Nat) : Int) = wait := by omega
    rw [e]
    exact h
  | k + 1, hk => by
    have ih := Still.ticks h k (by omega)
    have := ih.tick (by omega)
    rw [TownM.tickN]
    have e : wait + (k : Int) + 1 = wait + ((k + 1 : Nat) : Int) := by omega
    rw [← e]
    exact this
/-- When the session is over, behind the first k peers. -/
structure Over (l : List CredM) (b : Nat) (P wait lease : Int) (k : Nat) (T : TownM) : Prop where
  conf : Conf l wait lease T
  now : T.now = wait + lease
  done : ∀ i, i < k → (T.peer i).up = true ∧ (T.peer i).state = 0
  fol : ∀ i, k ≤ i → i < l.length → i ≠ b → Fol l b wait 3 (cred2 l b P i) (T.peer i)
  mem : k ≤ b → ∀ j, j < l.length → (T.peer b).mem.getD j memZ = if j = b then memZ else memA P wait
  lead : k ≤ b → Lead wait 3 (cred2 l b P b) (P + 1) true (T.peer b)
theorem Over.step (hn : 2 ≤ l.length) (hb : b < l.length) {k : Nat} (h : Over l b P wait lease k T) (hk : k < l.length) : Over l b P wait lease (k + 1) (T.tickAt k) := by
  have hi : k < T.ps.length := by rw [h.conf.len]; exact hk
  have hlook : T.tickAt k = T.look k ∧ (T.peer k).up = true := by
    unfold TownM.tickAt
    by_cases hkb : k = b
    · subst hkb
      have hL := h.lead (Nat.le_refl _)
      have hm := h.mem (Nat.le_refl _)
      refine ⟨?_, hL.up⟩
      rw [if_pos ⟨hL.up, by rw [hL.state]; decide⟩]
      unfold TownM.tick
      have hheard : ∀ j, j ≤ l.length → T.heardTo k j = 1 := by
        intro j
        induction j with
        | zero => intro _; rfl
        | succ j ih =>
          intro hj
          rw [TownM.heardTo, ih (by omega), hm j (by omega)]
          by_cases hjb : j = k
          · rw [if_pos hjb]; rfl
          · rw [if_neg hjb, if_neg]
            rw [h.now, h.conf.lease]
            show ¬ ((true && decide (wait + lease - wait < lease)) = true)
            simp
            omega
      rw [hL.state, if_neg (by decide), if_neg (by decide), if_pos rfl, if_pos]
      refine ⟨by rw [h.conf.lease, h.now, hL.since]; omega, ?_⟩
      rw [h.conf.len, hheard l.length (Nat.le_refl _)]
      exact most_not h.conf.len (by omega)
    · have hF := h.fol k (Nat.le_refl _) hk hkb
      refine ⟨?_, hF.up⟩
      rw [if_pos ⟨hF.up, by rw [hF.state]; decide⟩]
      unfold TownM.tick
      rw [hF.state, if_neg (by decide), if_pos rfl, if_pos (by rw [h.conf.lease, h.now, hF.since]; omega)]
  rw [hlook.1]
  have hc := look_cfg (T := T) (i := k)
  refine ⟨⟨(look_len T k).trans h.conf.len, hc.2.1.trans h.conf.wait, hc.2.2.1.trans h.conf.lease, hc.1.trans h.conf.net⟩, look_now.trans h.now, fun i hik => ?_, fun i hki hil hib => ?_, fun hkb j hj => ?_, fun hkb => ?_⟩
  · by_cases he : k = i
    · subst he
      rw [look_peer hi]
      exact ⟨hlook.2, rfl⟩
    · rw [look_other he]
      exact h.done i (by omega)
  · rw [look_other (by omega)]
    exact h.fol i (by omega) hil hib
  · rw [look_other (by omega)]
    exact h.mem (by omega) j hj
  · rw [look_other (by omega)]
    exact h.lead (by omega)
theorem Over.all (hn : 2 ≤ l.length) (hb : b < l.length) (h : Over l b P wait lease 0 T) : ∀ k, k ≤ l.length → Over l b P wait lease k (T.ticksTo k)
  | 0, _ => h
  | k + 1, hk => (Over.all hn hb h k (by omega)).step hn hb (by omega)
/-- Lease ticks behind the last word: none looks ahead of the last of them, and behind it all do. -/
theorem lost_pure (hn : 2 ≤ l.length) (hb : b < l.length) (hle : 1 ≤ lease) (h : Stood l b P wait lease T) :
    (∀ i, i < l.length → ((T.tickN (lease - 1).toNat).peer i).up = true ∧ ((T.tickN (lease - 1).toNat).peer i).state ≠ 0) ∧
    (∀ i, i < l.length → ((T.tickN (lease - 1).toNat).tick1.peer i).up = true ∧ ((T.tickN (lease - 1).toNat).tick1.peer i).state = 0) := by
  have hs := (Still.of h).ticks (lease - 1).toNat (by omega)
  refine ⟨fun i hi => ?_, ?_⟩
  · by_cases hib : i = b
    · subst hib
      exact ⟨hs.lead.up, by rw [hs.lead.state]; decide⟩
    · have hF := hs.fol i hi hib
      exact ⟨hF.up, by rw [hF.state]; decide⟩
  · generalize T.tickN (lease - 1).toNat = U at *
    have ho : Over l b P wait lease 0 ({ U with now := U.now + 1 } : TownM) := by
      refine ⟨⟨hs.conf.len, hs.conf.wait, hs.conf.lease, hs.conf.net⟩, ?_, fun i hi => by omega, fun i _ hi hib => hs.fol i hi hib, fun _ => hs.mem, fun _ => hs.lead⟩
      show U.now + 1 = wait + lease
      rw [hs.now]
      omega
    have := Over.all hn hb ho l.length (Nat.le_refl _)
    intro i hi
    unfold TownM.tick1
    rw [hs.conf.len]
    exact this.done i hi
end
end Go.Proofs.YtceappncglfciaaGreat
