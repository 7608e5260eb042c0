import Derived.Test.YtceappncglfciaaGreatM08
set_option linter.unusedVariables false
set_option linter.unusedSimpArgs false
/-
  Where nothing fails: Join, Propose, Ack, Welcome, each of all followers in their order.
-/
namespace Go.Proofs.YtceappncglfciaaGreat
open TownM

/-- What this part is about. -/
structure Given (l : List CredM) (b : Nat) (P : Int) : Prop where
  n : 2 ≤ l.length ∧ l.length ≤ 7
  bl : b < l.length
  ok : ∀ c ∈ l, c.ok
  p : ∀ c ∈ l, c.p = P
  e : ∀ c ∈ l, c.e ≤ P
  lt : 0 ≤ P ∧ P < 1000
  best : ∀ j, j < l.length → (ownV l j).better (ownV l b) = false
section
variable {l : List CredM} {b : Nat} {P wait lease : Int}
/-- Credentials on the way. -/
def cred1 (l : List CredM) (b : Nat) (P : Int) (i : Nat) : CredM := { l.getD i credZ with p := P + 1, t := b }
def cred2 (l : List CredM) (b : Nat) (P : Int) (_ : Nat) : CredM := ⟨P + 1, b, P + 1, (l.getD b credZ).v⟩
theorem Given.ok1 (g : Given l b P) {i : Nat} (hi : i < l.length) : (cred1 l b P i).ok := by
  have h := getD_ok g.ok hi
  have := g.lt
  have := g.bl
  have := g.n
  exact ⟨⟨by show 0 ≤ P + 1; omega, by show P + 1 ≤ 4294967295; omega⟩, ⟨by show (0 : Int) ≤ (b : Int); omega, by show (b : Int) ≤ 4294967295; omega⟩, h.2.2⟩
theorem Given.ok2 (g : Given l b P) (i : Nat) : (cred2 l b P i).ok := by
  have h := getD_ok g.ok g.bl
  have := g.lt
  have := g.bl
  have := g.n
  exact ⟨⟨by show 0 ≤ P + 1; omega, by show P + 1 ≤ 4294967295; omega⟩, ⟨by show (0 : Int) ≤ (b : Int); omega, by show (b : Int) ≤ 4294967295; omega⟩, ⟨by show 0 ≤ P + 1; omega, by show P + 1 ≤ 4294967295; omega⟩, h.2.2.2⟩
theorem Given.credP (g : Given l b P) {i : Nat} (hi : i < l.length) : (l.getD i credZ).p = P := getD_p g.p hi
theorem Given.credE (g : Given l b P) {i : Nat} (hi : i < l.length) : (l.getD i credZ).e ≤ P := g.e _ (by rw [List.getD_eq_getElem?_getD]; simp [hi])
def memJ (P wait : Int) : MemM := ⟨true, false, true, P, wait⟩
def memA (P wait : Int) : MemM := ⟨true, true, true, P, wait⟩
def ackMsg (l : List CredM) (b : Nat) (P : Int) (i : Nat) : MsgM := ⟨4, i, b, 0, 0, ownV l i, P + 1, 0⟩

/-! ### Join -/
structure StJ (l : List CredM) (b : Nat) (P wait lease : Int) (t : Nat) (T : TownM) : Prop where
  conf : Conf l wait lease T
  now : T.now = wait
  ev : T.events = []
  fol : ∀ i, i < l.length → i ≠ b → Fol l b wait 1 (l.getD i credZ) (T.peer i)
  mem : MemIs (T.peer b) b t l.length (memJ P wait) memZ
  is : ((2 * (1 + (notesTo b t : Nat) : Int) ≤ l.length) ∧ Lead wait 1 (l.getD b credZ) 0 false (T.peer b) ∧ T.way = (folFrom b t (l.length - t)).map (joinMsg b P)) ∨
    (((l.length : Int) < 2 * (1 + (notesTo b t : Nat))) ∧ Lead wait 2 (cred1 l b P b) (P + 1) false (T.peer b) ∧ T.way = (folFrom b t (l.length - t)).map (joinMsg b P) ++ (folTo b t).map (propMsg b (P + 1)))
theorem folFrom_skip {n : Nat} (hb : b < n) : folFrom b b (n - b) = folFrom b (b + 1) (n - (b + 1)) := by
  obtain ⟨k, hk⟩ : ∃ k, n - b = k + 1 := ⟨n - b - 1, by omega⟩
  rw [hk, show n - (b + 1) = k from by omega]
  conv => lhs; unfold folFrom
  rw [if_pos rfl]
theorem folFrom_cons {t n : Nat} (ht : t < n) (hb : t ≠ b) : folFrom b t (n - t) = t :: folFrom b (t + 1) (n - (t + 1)) := by
  obtain ⟨k, hk⟩ : ∃ k, n - t = k + 1 := ⟨n - t - 1, by omega⟩
  rw [hk, show n - (t + 1) = k from by omega]
  conv => lhs; unfold folFrom
  rw [if_neg hb]
theorem folTo_skip : folTo b (b + 1) = folTo b b := by rw [folTo, if_pos rfl]
theorem notesTo_skip : notesTo b (b + 1) = notesTo b b := by rw [notesTo, if_pos rfl]
theorem folTo_next {t : Nat} (hb : t ≠ b) : folTo b (t + 1) = folTo b t ++ [t] := by rw [folTo, if_neg hb]
theorem notesTo_next {t : Nat} (hb : t ≠ b) : notesTo b (t + 1) = notesTo b t + 1 := by rw [notesTo, if_neg hb]
theorem StJ.skip {T : TownM} (g : Given l b P) (h : StJ l b P wait lease b T) : StJ l b P wait lease (b + 1) T := by
  refine ⟨h.conf, h.now, h.ev, h.fol, h.mem.skip, ?_⟩
  rw [notesTo_skip, folTo_skip, ← folFrom_skip g.bl]
  exact h.is
theorem most_not {T : TownM} {x : Int} (hl : T.ps.length = l.length) (h : 2 * x ≤ l.length) : T.most x = false := by
  unfold TownM.most; rw [hl]; simp; omega
theorem most_so {T : TownM} {x : Int} (hl : T.ps.length = l.length) (h : (l.length : Int) < 2 * x) : T.most x = true := by
  unfold TownM.most; rw [hl]; simp; omega
theorem write_whole {T : TownM} {i : Nat} (ha : (T.peer i).armed = -1) : T.write i = T.setPeer i { T.peer i with disk := diskWrite (T.peer i).disk (T.peer i).c 28 } := by
  unfold TownM.write
  rw [if_pos (by rw [ha]; decide)]
/-- It proposes; nobody has acked yet. -/
theorem propose_is {T : TownM} (g : Given l b P) (hl : T.ps.length = l.length) (hnet : T.net = 1000) (hroom : T.way.length ≤ 100) {t : Nat} (ht : t ≤ l.length) (hm : MemIs (T.peer b) b t l.length (memJ P wait) memZ) (hL : Lead wait 1 (l.getD b credZ) 0 false (T.peer b)) :
    ∃ p, Lead wait 2 (cred1 l b P b) (P + 1) false p ∧ p.mem = (T.peer b).mem ∧ T.propose b = { T.setPeer b p with way := T.way ++ (folTo b t).map (propMsg b (P + 1)) } := by
  have hb := g.bl
  have hi : b < T.ps.length := by rw [hl]; exact hb
  have hbest : T.bestTo b T.ps.length = P := bestTo_is hm (by rw [hL.cred]; exact g.credP hb) rfl rfl _ (by rw [hl]; exact Nat.le_refl _)
  have hn := g.n
  have hlt := g.lt
  refine ⟨{ T.peer b with c := cred1 l b P b, disk := diskWrite (T.peer b).disk (cred1 l b P b) 28, epoch := P + 1 }, ⟨hL.up, hL.armed, hL.state, hL.since, rfl, hL.disk.whole (by omega) (g.ok1 hb), rfl, hL.stands⟩, rfl, ?_⟩
  unfold TownM.propose
  rw [hbest, if_neg (by omega), if_pos (by rw [hL.armed]; decide)]
  have hc : ({ (T.peer b).c with p := P + 1, t := (b : Int) } : CredM) = cred1 l b P b := by rw [hL.cred]; rfl
  rw [hc]
  have hw : (T.setPeer b { T.peer b with c := cred1 l b P b }).write b = T.setPeer b { T.peer b with c := cred1 l b P b, disk := diskWrite (T.peer b).disk (cred1 l b P b) 28 } := by
    rw [write_whole (by rw [peer_set hi]; exact hL.armed), peer_set hi, set_set]
  rw [hw, peer_set hi, set_set]
  generalize hp : ({ T.peer b with c := cred1 l b P b, disk := diskWrite (T.peer b).disk (cred1 l b P b) 28, epoch := P + 1 } : PeerM) = p
  have hpm : p.mem = (T.peer b).mem := by rw [← hp]
  have hps : p.stands = false := by rw [← hp]; exact hL.stands
  have hm' : MemIs ((T.setPeer b p).peer b) b t l.length (memJ P wait) memZ := by
    rw [peer_set hi]
    exact ⟨by rw [hpm]; exact hm.len, fun k hk => by rw [hpm]; exact hm.at_ k hk⟩
  have hpr := proposesTo_is (e := P + 1) hm' rfl rfl (by
    show ((T.way.length : Int)) + l.length < T.net
    rw [hnet]; omega) T.ps.length (by rw [hl]; exact Nat.le_refl _)
  have hmin : min T.ps.length t = t := by rw [hl]; omega
  have hgo : TownM.check ((T.setPeer b p).proposesTo b (P + 1) T.ps.length) b = { T.setPeer b p with way := T.way ++ (folTo b t).map (propMsg b (P + 1)) } := by
    rw [hpr, hmin]
    unfold TownM.check
    rw [if_pos]
    · rfl
    · have hak : TownM.ackedTo ({ T.setPeer b p with way := (T.setPeer b p).way ++ (folTo b t).map (propMsg b (P + 1)) } : TownM) b ({ T.setPeer b p with way := (T.setPeer b p).way ++ (folTo b t).map (propMsg b (P + 1)) } : TownM).ps.length = 1 :=
        ackedTo_none (T := { T.setPeer b p with way := (T.setPeer b p).way ++ (folTo b t).map (propMsg b (P + 1)) }) hm' rfl rfl _ (by show (T.setPeer b p).ps.length ≤ _; rw [setPeer_len, hl]; exact Nat.le_refl _)
      rw [hak, most_not (l := l) (by show (T.setPeer b p).ps.length = _; rw [setPeer_len, hl]) (by omega)]
      simp
  exact hgo
theorem map_len {α β : Type} (f : α → β) (l : List α) : (l.map f).length = l.length := List.length_map f
theorem StJ.step {T : TownM} {t : Nat} (g : Given l b P) (h : StJ l b P wait lease t T) (ht : t < l.length) (htb : t ≠ b) : ∃ T', Goes 1 T T' ∧ StJ l b P wait lease (t + 1) T' := by
  have hl := h.conf.len
  have hb := g.bl
  have hn := g.n
  have hi : b < T.ps.length := by rw [hl]; exact hb
  have hff := folFrom_cons (b := b) ht htb
  have hfl := folFrom_len b (l.length - (t + 1)) (t + 1)
  have hft := folTo_le b t
  have hup : (T.peer b).up = true ∧ (T.peer b).state = 2 := by
    rcases h.is with ⟨_, hL, _⟩ | ⟨_, hL, _⟩
    · exact ⟨hL.up, hL.state⟩
    · exact ⟨hL.up, hL.state⟩
  obtain ⟨rest, hway, hlen⟩ : ∃ rest, T.way = joinMsg b P t :: rest ∧ rest.length ≤ 20 := by
    rcases h.is with ⟨_, _, hw⟩ | ⟨_, _, hw⟩
    · refine ⟨(folFrom b (t + 1) (l.length - (t + 1))).map (joinMsg b P), by rw [hw, hff]; rfl, by rw [map_len]; omega⟩
    · refine ⟨(folFrom b (t + 1) (l.length - (t + 1))).map (joinMsg b P) ++ (folTo b t).map (propMsg b (P + 1)), by rw [hw, hff]; rfl, by rw [List.length_append, map_len, map_len]; omega⟩
  have hdst : (joinMsg b P t).dst.toNat = b := rfl
  have hsrc : (joinMsg b P t).src.toNat = t := rfl
  have hdel := deliver0 hway (by rw [hdst]; exact hup.1) (by rw [hdst, hup.2]; decide)
  rw [hdst] at hdel
  refine ⟨T.deliver 0, Goes.one (by rw [hway]; simp) (by rw [hway]; simp; omega), ?_⟩
  rw [hdel]
  have hhe : ({ T with way := rest } : TownM).hears b (joinMsg b P t) = ({ T with way := rest } : TownM).join b (joinMsg b P t) := by
    unfold TownM.hears
    rw [if_neg (show ¬ (joinMsg b P t).kind = 1 by show ¬ (2 : Int) = 1; decide), if_pos (show (({ T with way := rest } : TownM).peer b).state = 2 from hup.2)]
    unfold TownM.leading
    rw [if_pos (show (joinMsg b P t).kind = 2 from rfl)]
  rw [hhe]
  unfold TownM.join
  dsimp only
  rw [hsrc]
  have hold : (T.peer b).mem.getD t memZ = memZ := by rw [h.mem.at_ t ht, if_neg htb, if_neg (by omega)]
  have hnew : ({ ({ T with way := rest } : TownM).peer b with mem := (({ T with way := rest } : TownM).peer b).mem.set t { (({ T with way := rest } : TownM).peer b).mem.getD t memZ with heard := true, at_ := ({ T with way := rest } : TownM).now, joined := true, promised := (joinMsg b P t).epoch } } : PeerM) = { T.peer b with mem := (T.peer b).mem.set t (memJ P wait) } := by
    show ({ T.peer b with mem := (T.peer b).mem.set t { (T.peer b).mem.getD t memZ with heard := true, at_ := T.now, joined := true, promised := P } } : PeerM) = _
    rw [hold, h.now]
    rfl
  rw [hnew]
  generalize hp : ({ T.peer b with mem := (T.peer b).mem.set t (memJ P wait) } : PeerM) = p
  have hpm : p.mem = (T.peer b).mem.set t (memJ P wait) := by rw [← hp]
  have hmem : MemIs p b (t + 1) l.length (memJ P wait) memZ := h.mem.set htb ht hn.2 hpm
  have hpeer : (({ T with way := rest } : TownM).setPeer b p).peer b = p := peer_set hi p
  have hoth : ∀ j, j ≠ b → (({ T with way := rest } : TownM).setPeer b p).peer j = T.peer j := fun j hj => peer_other (T := { T with way := rest }) (fun e => hj e.symm) p
  have hl1 : (({ T with way := rest } : TownM).setPeer b p).ps.length = l.length := (setPeer_len _ _ _).trans hl
  have hepo : (({ T with way := rest } : TownM).peer b).epoch = (T.peer b).epoch := rfl
  rw [hepo]
  rcases h.is with ⟨hno, hL, hw⟩ | ⟨hyes, hL, hw⟩
  · have hrest : rest = (folFrom b (t + 1) (l.length - (t + 1))).map (joinMsg b P) := by
      rw [hw, hff] at hway
      simpa using hway.symm
    have hLp : Lead wait 1 (l.getD b credZ) 0 false p := by
      rw [← hp]
      exact ⟨hL.up, hL.armed, hL.state, hL.since, hL.cred, hL.disk, hL.epoch, hL.stands⟩
    rw [if_neg (show ¬ 0 < (T.peer b).epoch by rw [hL.epoch]; decide)]
    have hj : (({ T with way := rest } : TownM).setPeer b p).joinedTo b ({ T with way := rest } : TownM).ps.length = 1 + ((notesTo b (t + 1) : Nat) : Int) := by
      have := joinedTo_is (T := ({ T with way := rest } : TownM).setPeer b p) (by rw [hpeer]; exact hmem) rfl rfl ({ T with way := rest } : TownM).ps.length (by show T.ps.length ≤ _; rw [hl]; exact Nat.le_refl _)
      rw [this]
      have hmin : min ({ T with way := rest } : TownM).ps.length (t + 1) = t + 1 := by
        show min T.ps.length (t + 1) = t + 1
        rw [hl]; omega
      rw [hmin]
    rw [hj]
    by_cases hmost : (l.length : Int) < 2 * (1 + ((notesTo b (t + 1) : Nat) : Int))
    · rw [if_pos (most_so hl1 hmost)]
      obtain ⟨q, hq, hqm, hpro⟩ := propose_is (T := ({ T with way := rest } : TownM).setPeer b p) g hl1 h.conf.net (by show rest.length ≤ 100; omega) (t := t + 1) (by omega) (by rw [hpeer]; exact hmem) (by rw [hpeer]; exact hLp)
      rw [hpro, set_set]
      have hq2 : (({ T with way := rest } : TownM).setPeer b q).peer b = q := peer_set hi q
      refine ⟨⟨(setPeer_len _ _ _).trans hl, h.conf.wait, h.conf.lease, h.conf.net⟩, h.now, h.ev, fun i hil hib => ?_, ?_, .inr ⟨hmost, ?_, ?_⟩⟩
      · show Fol l b wait 1 _ ((({ T with way := rest } : TownM).setPeer b q).peer i)
        rw [peer_other (T := { T with way := rest }) (fun e => hib e.symm) q]
        exact h.fol i hil hib
      · show MemIs ((({ T with way := rest } : TownM).setPeer b q).peer b) b (t + 1) l.length _ _
        rw [hq2]
        rw [hpeer] at hqm
        exact ⟨by rw [hqm]; exact hmem.len, fun k hk => by rw [hqm]; exact hmem.at_ k hk⟩
      · show Lead _ _ _ _ _ ((({ T with way := rest } : TownM).setPeer b q).peer b)
        rw [hq2]; exact hq
      · show rest ++ _ = _
        rw [hrest]
    · rw [if_neg (by rw [most_not hl1 (by omega)]; decide)]
      refine ⟨⟨hl1, h.conf.wait, h.conf.lease, h.conf.net⟩, h.now, h.ev, fun i hil hib => by rw [hoth i hib]; exact h.fol i hil hib, by rw [hpeer]; exact hmem, .inl ⟨by omega, by rw [hpeer]; exact hLp, hrest⟩⟩
  · have hrest : rest = (folFrom b (t + 1) (l.length - (t + 1))).map (joinMsg b P) ++ (folTo b t).map (propMsg b (P + 1)) := by
      rw [hw, hff] at hway
      simpa using hway.symm
    have hLp : Lead wait 2 (cred1 l b P b) (P + 1) false p := by
      rw [← hp]
      exact ⟨hL.up, hL.armed, hL.state, hL.since, hL.cred, hL.disk, hL.epoch, hL.stands⟩
    have hlt := g.lt
    rw [hL.epoch, if_pos (by omega), if_neg (show ¬ P + 1 < (joinMsg b P t).epoch by show ¬ P + 1 < P; omega)]
    rw [TownM.send_room_at (by
      show ((rest.length : Int)) < T.net
      rw [h.conf.net]; omega)]
    refine ⟨⟨hl1, h.conf.wait, h.conf.lease, h.conf.net⟩, h.now, h.ev, fun i hil hib => ?_, ?_, .inr ⟨by rw [notesTo_next htb]; omega, ?_, ?_⟩⟩
    · show Fol l b wait 1 _ ((({ T with way := rest } : TownM).setPeer b p).peer i)
      rw [hoth i hib]; exact h.fol i hil hib
    · show MemIs ((({ T with way := rest } : TownM).setPeer b p).peer b) b (t + 1) l.length _ _
      rw [hpeer]; exact hmem
    · show Lead _ _ _ _ _ ((({ T with way := rest } : TownM).setPeer b p).peer b)
      rw [hpeer]; exact hLp
    · show rest ++ [_] = _
      rw [hrest, folTo_next htb, List.map_append, List.append_assoc]
      rfl
theorem StJ.run (g : Given l b P) : ∀ (k t : Nat) (T : TownM), t + k = l.length → StJ l b P wait lease t T → ∃ c T', c ≤ k ∧ Goes c T T' ∧ StJ l b P wait lease l.length T'
  | 0, t, T, ht, h => ⟨0, T, Nat.le_refl _, Goes.refl T, by rw [← ht]; exact h⟩
  | k + 1, t, T, ht, h => by
    by_cases htb : t = b
    · have h1 : StJ l b P wait lease (t + 1) T := by
        rw [htb] at h ⊢
        exact h.skip g
      obtain ⟨c, T', hc, hg, hs⟩ := StJ.run g k (t + 1) T (by omega) h1
      exact ⟨c, T', by omega, hg, hs⟩
    · obtain ⟨T1, hg1, hs1⟩ := h.step g (by omega) htb
      obtain ⟨c, T', hc, hg, hs⟩ := StJ.run g k (t + 1) T1 (by omega) hs1
      exact ⟨c + 1, T', by omega, hg1.trans hg, hs⟩
theorem StJ.of {T : TownM} (g : Given l b P) (h : Ph2 l wait lease b P l.length T) : StJ l b P wait lease 0 T := by
  obtain ⟨hL, hm⟩ := h.lead g.bl
  refine ⟨h.conf, h.now, h.ev, fun i hi hb => h.fol i hi hb, ⟨by rw [hm]; rfl, fun k hk => ?_⟩, .inl ⟨by have := g.n; simp [notesTo]; omega, hL, ?_⟩⟩
  · rw [hm]
    have : mem7.getD k memZ = memZ := by
      unfold mem7
      rw [List.getD_eq_getElem?_getD, List.getElem?_replicate]
      split <;> rfl
    rw [this]
    by_cases hb : k = b
    · rw [if_pos hb]
    · rw [if_neg hb, if_neg (by omega)]
  · rw [h.way, Nat.sub_zero, folTo_all]
end
end Go.Proofs.YtceappncglfciaaGreat

/-
  Where nothing fails: Propose to all followers, and their Acks.
-/
namespace Go.Proofs.YtceappncglfciaaGreat
open TownM
section
variable {l : List CredM} {b : Nat} {P wait lease : Int}

/-! ### Propose -/
structure StP (l : List CredM) (b : Nat) (P wait lease : Int) (t : Nat) (T : TownM) : Prop where
  conf : Conf l wait lease T
  now : T.now = wait
  ev : T.events = []
  old : ∀ i, t ≤ i → i < l.length → i ≠ b → Fol l b wait 1 (l.getD i credZ) (T.peer i)
  new : ∀ i, i < t → i ≠ b → Fol l b wait 2 (cred1 l b P i) (T.peer i)
  mem : MemIs (T.peer b) b l.length l.length (memJ P wait) memZ
  lead : Lead wait 2 (cred1 l b P b) (P + 1) false (T.peer b)
  way : T.way = (folFrom b t (l.length - t)).map (propMsg b (P + 1)) ++ (folTo b t).map (ackMsg l b P)
theorem notesTo_all (g : Given l b P) : notesTo b l.length = l.length - 1 := by rw [notesTo_eq, if_pos g.bl]
theorem StP.of {T : TownM} (g : Given l b P) (h : StJ l b P wait lease l.length T) : StP l b P wait lease 0 T := by
  have hn := g.n
  have hna := notesTo_all g
  rcases h.is with ⟨hno, _, _⟩ | ⟨_, hL, hw⟩
  · rw [hna] at hno; omega
  · refine ⟨h.conf, h.now, h.ev, fun i _ hi hb => h.fol i hi hb, fun i hi => by omega, h.mem, hL, ?_⟩
    rw [hw, Nat.sub_self, Nat.sub_zero, folTo_all]
    simp [folFrom, folTo]
theorem StP.skip {T : TownM} (g : Given l b P) (h : StP l b P wait lease b T) : StP l b P wait lease (b + 1) T := by
  refine ⟨h.conf, h.now, h.ev, fun i hi => h.old i (by omega), fun i hi hb => h.new i (by omega) hb, h.mem, h.lead, ?_⟩
  rw [folTo_skip, ← folFrom_skip g.bl]
  exact h.way
theorem StP.step {T : TownM} {t : Nat} (g : Given l b P) (h : StP l b P wait lease t T) (ht : t < l.length) (htb : t ≠ b) : ∃ T', Goes 1 T T' ∧ StP l b P wait lease (t + 1) T' := by
  have hl := h.conf.len
  have hn := g.n
  have hlt := g.lt
  have hi : t < T.ps.length := by rw [hl]; exact ht
  have hff := folFrom_cons (b := b) ht htb
  have hfl := folFrom_len b (l.length - (t + 1)) (t + 1)
  have hft := folTo_le b t
  have hF := h.old t (Nat.le_refl _) ht htb
  have hway := h.way
  rw [hff, List.map_cons, List.cons_append] at hway
  generalize hrest : (folFrom b (t + 1) (l.length - (t + 1))).map (propMsg b (P + 1)) ++ (folTo b t).map (ackMsg l b P) = rest at hway
  have hlen : rest.length ≤ 20 := by rw [← hrest, List.length_append, map_len, map_len]; omega
  have hdst : (propMsg b (P + 1) t).dst.toNat = t := rfl
  have hdel := deliver0 hway (by rw [hdst]; exact hF.up) (by rw [hdst, hF.state]; decide)
  rw [hdst] at hdel
  refine ⟨T.deliver 0, Goes.one (by rw [hway]; simp) (by rw [hway]; simp; omega), ?_⟩
  rw [hdel]
  have hpt : ({ T with way := rest } : TownM).peer t = T.peer t := rfl
  have hhe : ({ T with way := rest } : TownM).hears t (propMsg b (P + 1) t) = ({ T with way := rest } : TownM).following t (propMsg b (P + 1) t) := by
    unfold TownM.hears
    rw [if_neg (show ¬ (propMsg b (P + 1) t).kind = 1 by show ¬ (3 : Int) = 1; decide), hpt, hF.state, if_neg (by decide), if_pos ⟨rfl, by rw [hF.vote]; rfl⟩]
  rw [hhe]
  unfold TownM.following
  rw [if_neg (show ¬ (propMsg b (P + 1) t).kind = 6 by show ¬ (3 : Int) = 6; decide), if_neg (show ¬ (propMsg b (P + 1) t).kind = 5 by show ¬ (3 : Int) = 5; decide), if_pos (show (propMsg b (P + 1) t).kind = 3 from rfl)]
  rw [hpt, if_pos (show (T.peer t).c.p < (propMsg b (P + 1) t).epoch by rw [hF.cred, g.credP ht]; show P < P + 1; omega)]
  dsimp only
  have hcr : ({ (T.peer t).c with p := (propMsg b (P + 1) t).epoch, t := (propMsg b (P + 1) t).src } : CredM) = cred1 l b P t := by rw [hF.cred]; rfl
  have hw : (({ T with way := rest } : TownM).setPeer t { T.peer t with since := ({ T with way := rest } : TownM).now, c := { (T.peer t).c with p := (propMsg b (P + 1) t).epoch, t := (propMsg b (P + 1) t).src } }).write t = ({ T with way := rest } : TownM).setPeer t { T.peer t with since := T.now, c := cred1 l b P t, disk := diskWrite (T.peer t).disk (cred1 l b P t) 28 } := by
    rw [hcr, write_whole (by rw [peer_set (T := { T with way := rest }) hi]; exact hF.armed), peer_set (T := { T with way := rest }) hi, set_set]
  rw [hw, if_pos (by rw [hF.armed]; decide)]
  generalize hp : ({ T.peer t with since := T.now, c := cred1 l b P t, disk := diskWrite (T.peer t).disk (cred1 l b P t) 28 } : PeerM) = p
  have hpeer : (({ T with way := rest } : TownM).setPeer t p).peer t = p := peer_set (T := { T with way := rest }) hi p
  have hoth : ∀ j, j ≠ t → (({ T with way := rest } : TownM).setPeer t p).peer j = T.peer j := fun j hj => peer_other (T := { T with way := rest }) (fun e => hj e.symm) p
  have hFp : Fol l b wait 2 (cred1 l b P t) p := by
    rw [← hp]
    exact ⟨hF.up, hF.armed, hF.state, hF.vote, h.now, rfl, hF.disk.whole (by omega) (g.ok1 ht)⟩
  unfold TownM.ackTo
  rw [TownM.send_room_at (by
    show ((rest.length : Int)) < T.net
    rw [h.conf.net]; omega)]
  have hown : (({ T with way := rest } : TownM).setPeer t p).own t = ownV l t := by
    unfold TownM.own
    rw [hpeer, hFp.cred]; rfl
  rw [hown]
  refine ⟨⟨(setPeer_len _ _ _).trans hl, h.conf.wait, h.conf.lease, h.conf.net⟩, h.now, h.ev, fun i hti hil hib => ?_, fun i hti hib => ?_, ?_, ?_, ?_⟩
  · show Fol l b wait 1 _ ((({ T with way := rest } : TownM).setPeer t p).peer i)
    rw [hoth i (by omega)]
    exact h.old i (by omega) hil hib
  · show Fol l b wait 2 _ ((({ T with way := rest } : TownM).setPeer t p).peer i)
    by_cases hit : i = t
    · rw [hit, hpeer]; exact hFp
    · rw [hoth i hit]
      exact h.new i (by omega) hib
  · show MemIs ((({ T with way := rest } : TownM).setPeer t p).peer b) _ _ _ _ _
    rw [hoth b (fun e => htb e.symm)]; exact h.mem
  · show Lead _ _ _ _ _ ((({ T with way := rest } : TownM).setPeer t p).peer b)
    rw [hoth b (fun e => htb e.symm)]; exact h.lead
  · show rest ++ [_] = _
    rw [← hrest, folTo_next htb, List.map_append, List.append_assoc]
    rfl
theorem StP.run (g : Given l b P) : ∀ (k t : Nat) (T : TownM), t + k = l.length → StP l b P wait lease t T → ∃ c T', c ≤ k ∧ Goes c T T' ∧ StP l b P wait lease l.length T'
  | 0, t, T, ht, h => ⟨0, T, Nat.le_refl _, Goes.refl T, by rw [← ht]; exact h⟩
  | k + 1, t, T, ht, h => by
    by_cases htb : t = b
    · have h1 : StP l b P wait lease (t + 1) T := by
        rw [htb] at h ⊢
        exact h.skip g
      obtain ⟨c, T', hc, hg, hs⟩ := StP.run g k (t + 1) T (by omega) h1
      exact ⟨c, T', by omega, hg, hs⟩
    · obtain ⟨T1, hg1, hs1⟩ := h.step g (by omega) htb
      obtain ⟨c, T', hc, hg, hs⟩ := StP.run g k (t + 1) T1 (by omega) hs1
      exact ⟨c + 1, T', by omega, hg1.trans hg, hs⟩

/-! ### Ack -/
def wel (l : List CredM) (b : Nat) (P : Int) (i : Nat) : MsgM := welMsg b (P + 1) (l.getD b credZ).v i
structure StA (l : List CredM) (b : Nat) (P wait lease : Int) (t : Nat) (T : TownM) : Prop where
  conf : Conf l wait lease T
  now : T.now = wait
  fol : ∀ i, i < l.length → i ≠ b → Fol l b wait 2 (cred1 l b P i) (T.peer i)
  mem : MemIs (T.peer b) b t l.length (memA P wait) (memJ P wait)
  is : ((2 * (1 + (notesTo b t : Nat) : Int) ≤ l.length) ∧ Lead wait 2 (cred1 l b P b) (P + 1) false (T.peer b) ∧ T.events = [] ∧ T.way = (folFrom b t (l.length - t)).map (ackMsg l b P)) ∨
    (((l.length : Int) < 2 * (1 + (notesTo b t : Nat))) ∧ Lead wait 3 (cred2 l b P b) (P + 1) true (T.peer b) ∧ T.events = [((b : Int), P + 1)] ∧ T.way = (folFrom b t (l.length - t)).map (ackMsg l b P) ++ (folTo b t).map (wel l b P))
theorem StA.of {T : TownM} (g : Given l b P) (h : StP l b P wait lease l.length T) : StA l b P wait lease 0 T := by
  have hn := g.n
  refine ⟨h.conf, h.now, fun i hi hb => h.new i hi hb, h.mem.again, .inl ⟨by simp [notesTo]; omega, h.lead, h.ev, ?_⟩⟩
  rw [h.way, Nat.sub_self, Nat.sub_zero, folTo_all]
  simp [folFrom]
theorem StA.skip {T : TownM} (g : Given l b P) (h : StA l b P wait lease b T) : StA l b P wait lease (b + 1) T := by
  refine ⟨h.conf, h.now, h.fol, h.mem.skip, ?_⟩
  rw [notesTo_skip, folTo_skip, ← folFrom_skip g.bl]
  exact h.is
/-- It checks, and most have acked. -/
theorem check_is {T : TownM} (g : Given l b P) (hl : T.ps.length = l.length) (hnet : T.net = 1000) (hev : T.events = []) (hroom : T.way.length ≤ 100) {t : Nat} (ht : t ≤ l.length) (hm : MemIs (T.peer b) b t l.length (memA P wait) (memJ P wait)) (hL : Lead wait 2 (cred1 l b P b) (P + 1) false (T.peer b))
    (hmost : (l.length : Int) < 2 * (1 + (notesTo b t : Nat))) :
    ∃ p, Lead wait 3 (cred2 l b P b) (P + 1) true p ∧ p.mem = (T.peer b).mem ∧ T.check b = { T.setPeer b p with way := T.way ++ (folTo b t).map (wel l b P), events := [((b : Int), P + 1)] } := by
  have hb := g.bl
  have hi : b < T.ps.length := by rw [hl]; exact hb
  have hn := g.n
  have hmin : min T.ps.length t = t := by rw [hl]; omega
  have hak : T.ackedTo b T.ps.length = 1 + (notesTo b t : Nat) := by
    rw [ackedTo_is hm rfl rfl _ (by rw [hl]; exact Nat.le_refl _), hmin]
  refine ⟨{ T.peer b with stands := true, c := cred2 l b P b, disk := diskWrite (T.peer b).disk (cred2 l b P b) 28 }, ⟨hL.up, hL.armed, hL.state, hL.since, rfl, hL.disk.whole (by omega) (g.ok2 b), hL.epoch, rfl⟩, rfl, ?_⟩
  unfold TownM.check
  rw [hak, hL.stands, most_so hl hmost, if_neg (by decide), if_pos (by rw [hL.armed]; decide)]
  have hc : ({ (T.peer b).c with e := (T.peer b).epoch } : CredM) = cred2 l b P b := by rw [hL.cred, hL.epoch]; rfl
  have hst : T.stand b = { T.setPeer b { T.peer b with stands := true, c := cred2 l b P b } with events := [((b : Int), P + 1)] } := by
    unfold TownM.stand
    rw [hc, hev, hL.epoch]; rfl
  rw [hst]
  have hpb : ({ T.setPeer b { T.peer b with stands := true, c := cred2 l b P b } with events := [((b : Int), P + 1)] } : TownM).peer b = { T.peer b with stands := true, c := cred2 l b P b } := peer_set hi _
  rw [write_whole (by rw [hpb]; exact hL.armed), hpb]
  have hset : ∀ q : PeerM, ({ T.setPeer b { T.peer b with stands := true, c := cred2 l b P b } with events := [((b : Int), P + 1)] } : TownM).setPeer b q = { T.setPeer b q with events := [((b : Int), P + 1)] } := by
    intro q
    unfold TownM.setPeer
    simp
  rw [hset]
  generalize hp : ({ T.peer b with stands := true, c := cred2 l b P b, disk := diskWrite (T.peer b).disk (cred2 l b P b) 28 } : PeerM) = p
  have hpm : p.mem = (T.peer b).mem := by rw [← hp]
  have hpe : p.epoch = P + 1 := by rw [← hp]; exact hL.epoch
  have hpv : p.c.v = (l.getD b credZ).v := by rw [← hp]; rfl
  have hpeer : ({ T.setPeer b p with events := [((b : Int), P + 1)] } : TownM).peer b = p := peer_set hi p
  have hw := welcomesTo_is (T := { T.setPeer b p with events := [((b : Int), P + 1)] }) (b := b) (t := t) (n := l.length) (x := memA P wait) (y := memJ P wait) (e := P + 1) (v := (l.getD b credZ).v) (by rw [hpeer]; exact ⟨by rw [hpm]; exact hm.len, fun k hk => by rw [hpm]; exact hm.at_ k hk⟩) rfl rfl (by rw [hpeer]; exact hpe) (by rw [hpeer]; exact hpv) (by
    show ((T.way.length : Int)) + l.length < T.net
    rw [hnet]; omega) T.ps.length (by rw [hl]; exact Nat.le_refl _)
  rw [hw, hmin]
  rfl
theorem StA.step {T : TownM} {t : Nat} (g : Given l b P) (h : StA l b P wait lease t T) (ht : t < l.length) (htb : t ≠ b) : ∃ T', Goes 1 T T' ∧ StA l b P wait lease (t + 1) T' := by
  have hl := h.conf.len
  have hb := g.bl
  have hn := g.n
  have hlt := g.lt
  have hi : b < T.ps.length := by rw [hl]; exact hb
  have hff := folFrom_cons (b := b) ht htb
  have hfl := folFrom_len b (l.length - (t + 1)) (t + 1)
  have hft := folTo_le b t
  have hup : (T.peer b).up = true ∧ (T.peer b).state = 2 ∧ (T.peer b).epoch = P + 1 := by
    rcases h.is with ⟨_, hL, _⟩ | ⟨_, hL, _⟩
    · exact ⟨hL.up, hL.state, hL.epoch⟩
    · exact ⟨hL.up, hL.state, hL.epoch⟩
  obtain ⟨rest, hway, hlen⟩ : ∃ rest, T.way = ackMsg l b P t :: rest ∧ rest.length ≤ 20 := by
    rcases h.is with ⟨_, _, _, hw⟩ | ⟨_, _, _, hw⟩
    · refine ⟨(folFrom b (t + 1) (l.length - (t + 1))).map (ackMsg l b P), by rw [hw, hff]; rfl, by rw [map_len]; omega⟩
    · refine ⟨(folFrom b (t + 1) (l.length - (t + 1))).map (ackMsg l b P) ++ (folTo b t).map (wel l b P), by rw [hw, hff]; rfl, by rw [List.length_append, map_len, map_len]; omega⟩
  have hdst : (ackMsg l b P t).dst.toNat = b := rfl
  have hsrc : (ackMsg l b P t).src.toNat = t := rfl
  have hdel := deliver0 hway (by rw [hdst]; exact hup.1) (by rw [hdst, hup.2.1]; decide)
  rw [hdst] at hdel
  refine ⟨T.deliver 0, Goes.one (by rw [hway]; simp) (by rw [hway]; simp; omega), ?_⟩
  rw [hdel]
  have hpb : ({ T with way := rest } : TownM).peer b = T.peer b := rfl
  have hhe : ({ T with way := rest } : TownM).hears b (ackMsg l b P t) = ({ T with way := rest } : TownM).ack b (ackMsg l b P t) := by
    unfold TownM.hears
    rw [if_neg (show ¬ (ackMsg l b P t).kind = 1 by show ¬ (4 : Int) = 1; decide), if_pos (show (({ T with way := rest } : TownM).peer b).state = 2 from hup.2.1)]
    unfold TownM.leading
    rw [if_neg (show ¬ (ackMsg l b P t).kind = 2 by show ¬ (4 : Int) = 2; decide), if_neg (show ¬ (ackMsg l b P t).kind = 7 by show ¬ (4 : Int) = 7; decide), if_pos ⟨rfl, by rw [hpb, hup.2.2]; rfl⟩]
  rw [hhe]
  unfold TownM.ack
  dsimp only
  rw [hsrc]
  have hold : (T.peer b).mem.getD t memZ = memJ P wait := by rw [h.mem.at_ t ht, if_neg htb, if_neg (by omega)]
  have hear : ({ T with way := rest } : TownM).hearOf b t = ({ T with way := rest } : TownM).setPeer b { T.peer b with mem := (T.peer b).mem.set t (memJ P wait) } := by
    unfold TownM.hearOf
    rw [hpb, hold]
    have : ({ memJ P wait with heard := true, at_ := ({ T with way := rest } : TownM).now } : MemM) = memJ P wait := by
      show (⟨true, false, true, P, T.now⟩ : MemM) = _
      rw [h.now]; rfl
    rw [this]
  rw [hear]
  have hcond : (!(({ T with way := rest } : TownM).peer b).stands && (decide ((({ T with way := rest } : TownM).peer b).c.e < (ackMsg l b P t).vote.e) || ((ackMsg l b P t).vote.e == (({ T with way := rest } : TownM).peer b).c.e && decide ((({ T with way := rest } : TownM).peer b).c.v < (ackMsg l b P t).vote.n)))) = false := by
    rw [hpb]
    rcases h.is with ⟨_, hL, _⟩ | ⟨_, hL, _⟩
    · have hbst := g.best t ht
      rw [better_not] at hbst
      have e1 : (T.peer b).c.e = (l.getD b credZ).e := by rw [hL.cred]; rfl
      have e2 : (T.peer b).c.v = (l.getD b credZ).v := by rw [hL.cred]; rfl
      have e3 : (ackMsg l b P t).vote.e = (l.getD t credZ).e := rfl
      have e4 : (ackMsg l b P t).vote.n = (l.getD t credZ).v := rfl
      have f1 : (ownV l t).e = (l.getD t credZ).e := rfl
      have f2 : (ownV l t).n = (l.getD t credZ).v := rfl
      have f3 : (ownV l b).e = (l.getD b credZ).e := rfl
      have f4 : (ownV l b).n = (l.getD b credZ).v := rfl
      rw [e1, e2, e3, e4]
      rw [f1, f2, f3, f4] at hbst
      simp only [hL.stands, Bool.not_false, Bool.true_and, Bool.or_eq_false_iff, Bool.and_eq_false_iff, decide_eq_false_iff_not, beq_eq_false_iff_ne]
      omega
    · rw [hL.stands]; rfl
  rw [hcond, if_neg (by decide)]
  have hp1 : (({ T with way := rest } : TownM).setPeer b { T.peer b with mem := (T.peer b).mem.set t (memJ P wait) }).peer b = { T.peer b with mem := (T.peer b).mem.set t (memJ P wait) } := peer_set (T := { T with way := rest }) hi _
  rw [hp1, set_set]
  have hnew : ({ ({ T.peer b with mem := (T.peer b).mem.set t (memJ P wait) } : PeerM) with mem := ((T.peer b).mem.set t (memJ P wait)).set t { ((T.peer b).mem.set t (memJ P wait)).getD t memZ with acked := true } } : PeerM) = { T.peer b with mem := (T.peer b).mem.set t (memA P wait) } := by
    rw [getD_set_self (by rw [h.mem.len]; omega), List.set_set]
    rfl
  rw [hnew]
  generalize hp : ({ T.peer b with mem := (T.peer b).mem.set t (memA P wait) } : PeerM) = p
  have hpm : p.mem = (T.peer b).mem.set t (memA P wait) := by rw [← hp]
  have hmem : MemIs p b (t + 1) l.length (memA P wait) (memJ P wait) := h.mem.set htb ht hn.2 hpm
  have hpeer : (({ T with way := rest } : TownM).setPeer b p).peer b = p := peer_set (T := { T with way := rest }) hi p
  have hoth : ∀ j, j ≠ b → (({ T with way := rest } : TownM).setPeer b p).peer j = T.peer j := fun j hj => peer_other (T := { T with way := rest }) (fun e => hj e.symm) p
  have hl1 : (({ T with way := rest } : TownM).setPeer b p).ps.length = l.length := (setPeer_len _ _ _).trans hl
  rw [hpb]
  rcases h.is with ⟨hno, hL, hev, hw⟩ | ⟨hyes, hL, hev, hw⟩
  · have hrest : rest = (folFrom b (t + 1) (l.length - (t + 1))).map (ackMsg l b P) := by
      rw [hw, hff] at hway
      simpa using hway.symm
    have hLp : Lead wait 2 (cred1 l b P b) (P + 1) false p := by
      rw [← hp]
      exact ⟨hL.up, hL.armed, hL.state, hL.since, hL.cred, hL.disk, hL.epoch, hL.stands⟩
    rw [hL.stands, if_neg (by decide)]
    by_cases hmost : (l.length : Int) < 2 * (1 + ((notesTo b (t + 1) : Nat) : Int))
    · obtain ⟨q, hq, hqm, hch⟩ := check_is (T := ({ T with way := rest } : TownM).setPeer b p) g hl1 h.conf.net hev (by show rest.length ≤ 100; omega) (t := t + 1) (by omega) (by rw [hpeer]; exact hmem) (by rw [hpeer]; exact hLp) hmost
      rw [hch, set_set]
      have hq2 : (({ T with way := rest } : TownM).setPeer b q).peer b = q := peer_set (T := { T with way := rest }) hi q
      refine ⟨⟨(setPeer_len _ _ _).trans hl, h.conf.wait, h.conf.lease, h.conf.net⟩, h.now, fun i hil hib => ?_, ?_, .inr ⟨hmost, ?_, rfl, ?_⟩⟩
      · show Fol l b wait 2 _ ((({ T with way := rest } : TownM).setPeer b q).peer i)
        rw [peer_other (T := { T with way := rest }) (fun e => hib e.symm) q]
        exact h.fol i hil hib
      · show MemIs ((({ T with way := rest } : TownM).setPeer b q).peer b) b (t + 1) l.length _ _
        rw [hq2]
        rw [hpeer] at hqm
        exact ⟨by rw [hqm]; exact hmem.len, fun k hk => by rw [hqm]; exact hmem.at_ k hk⟩
      · show Lead _ _ _ _ _ ((({ T with way := rest } : TownM).setPeer b q).peer b)
        rw [hq2]; exact hq
      · show rest ++ _ = _
        rw [hrest]
    · have hak : (({ T with way := rest } : TownM).setPeer b p).ackedTo b (({ T with way := rest } : TownM).setPeer b p).ps.length = 1 + ((notesTo b (t + 1) : Nat) : Int) := by
        rw [ackedTo_is (T := ({ T with way := rest } : TownM).setPeer b p) (by rw [hpeer]; exact hmem) rfl rfl _ (by rw [hl1]; exact Nat.le_refl _), hl1, show min l.length (t + 1) = t + 1 from by omega]
      have hck : (({ T with way := rest } : TownM).setPeer b p).check b = ({ T with way := rest } : TownM).setPeer b p := by
        unfold TownM.check
        rw [hak, most_not hl1 (by omega), hpeer]
        simp
      rw [hck]
      refine ⟨⟨hl1, h.conf.wait, h.conf.lease, h.conf.net⟩, h.now, fun i hil hib => by rw [hoth i hib]; exact h.fol i hil hib, by rw [hpeer]; exact hmem, .inl ⟨by omega, by rw [hpeer]; exact hLp, hev, hrest⟩⟩
  · have hrest : rest = (folFrom b (t + 1) (l.length - (t + 1))).map (ackMsg l b P) ++ (folTo b t).map (wel l b P) := by
      rw [hw, hff] at hway
      simpa using hway.symm
    have hLp : Lead wait 3 (cred2 l b P b) (P + 1) true p := by
      rw [← hp]
      exact ⟨hL.up, hL.armed, hL.state, hL.since, hL.cred, hL.disk, hL.epoch, hL.stands⟩
    rw [hL.stands, if_pos rfl]
    unfold TownM.welcome
    rw [hpeer, hLp.epoch, hLp.cred, TownM.send_room_at (by
      show ((rest.length : Int)) < T.net
      rw [h.conf.net]; omega)]
    refine ⟨⟨hl1, h.conf.wait, h.conf.lease, h.conf.net⟩, h.now, fun i hil hib => ?_, ?_, .inr ⟨by rw [notesTo_next htb]; omega, ?_, hev, ?_⟩⟩
    · show Fol l b wait 2 _ ((({ T with way := rest } : TownM).setPeer b p).peer i)
      rw [hoth i hib]; exact h.fol i hil hib
    · show MemIs ((({ T with way := rest } : TownM).setPeer b p).peer b) b (t + 1) l.length _ _
      rw [hpeer]; exact hmem
    · show Lead _ _ _ _ _ ((({ T with way := rest } : TownM).setPeer b p).peer b)
      rw [hpeer]; exact hLp
    · show rest ++ [_] = _
      rw [hrest, folTo_next htb, List.map_append, List.append_assoc]
      rfl
theorem StA.run (g : Given l b P) : ∀ (k t : Nat) (T : TownM), t + k = l.length → StA l b P wait lease t T → ∃ c T', c ≤ k ∧ Goes c T T' ∧ StA l b P wait lease l.length T'
  | 0, t, T, ht, h => ⟨0, T, Nat.le_refl _, Goes.refl T, by rw [← ht]; exact h⟩
  | k + 1, t, T, ht, h => by
    by_cases htb : t = b
    · have h1 : StA l b P wait lease (t + 1) T := by
        rw [htb] at h ⊢
        exact h.skip g
      obtain ⟨c, T', hc, hg, hs⟩ := StA.run g k (t + 1) T (by omega) h1
      exact ⟨c, T', by omega, hg, hs⟩
    · obtain ⟨T1, hg1, hs1⟩ := h.step g (by omega) htb
      obtain ⟨c, T', hc, hg, hs⟩ := StA.run g k (t + 1) T1 (by omega) hs1
      exact ⟨c + 1, T', by omega, hg1.trans hg, hs⟩
end
end Go.Proofs.YtceappncglfciaaGreat
