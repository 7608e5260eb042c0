import Derived.Test.YtceappncglfciaaGreatM07
set_option linter.unusedVariables false
set_option linter.unusedSimpArgs false
/-
  Where nothing fails: one delivery while all look; and where no message is left.
-/
namespace Go.Proofs.YtceappncglfciaaGreat
open TownM

section
variable {l : List CredM} {wait lease : Int} {T : TownM}
theorem there0 {m : MsgM} {rest : List MsgM} (hw : T.way = m :: rest) : T.there 0 = true := by
  unfold TownM.there
  rw [hw]
  simp
/-- The first message is delivered to one that is up. -/
theorem deliver0 {m : MsgM} {rest : List MsgM} (hw : T.way = m :: rest) (hu : (T.peer m.dst.toNat).up = true) (hs : (T.peer m.dst.toNat).state ≠ 3) : T.deliver 0 = ({ T with way := rest } : TownM).hears m.dst.toNat m := by
  unfold TownM.deliver
  rw [if_pos (there0 hw)]
  dsimp only
  have h0 : (0 : Int).toNat = 0 := rfl
  rw [h0, hw]
  show (if (T.peer m.dst.toNat).up = true ∧ (T.peer m.dst.toNat).state ≠ 3 then _ else _) = _
  rw [if_pos ⟨hu, hs⟩]
  rfl
theorem most_ps {T T' : TownM} (h : T'.ps.length = T.ps.length) (x : Int) : T'.most x = T.most x := by unfold TownM.most; rw [h]

/-- What a Notice of one's own round does to one that looks. -/
structure Took (T : TownM) (d : Nat) (m : MsgM) (T' : TownM) : Prop where
  len : T'.ps.length = T.ps.length
  cfg : T'.net = T.net ∧ T'.wait = T.wait ∧ T'.lease = T.lease ∧ T'.events = T.events
  now : T'.now = T.now
  other : ∀ j, j ≠ d → T'.peer j = T.peer j
  peer : T'.peer d = { T.peer d with vote := if m.vote.better (T.peer d).vote = true then m.vote else (T.peer d).vote, votes := (T.peer d).votes.set m.src.toNat ⟨true, m.vote, 0⟩, since := if (T'.most (T'.countTo d T'.ps.length) && !((T.peer d).waits && !m.vote.better (T.peer d).vote)) = true then T.now else (T.peer d).since, waits := T'.most (T'.countTo d T'.ps.length) }
  way : (m.vote.better (T.peer d).vote = false ∧ T'.way = T.way) ∨ (m.vote.better (T.peer d).vote = true ∧ T'.way.length = T.way.length + notesTo d T.ps.length ∧
    (∀ x ∈ T'.way, x ∈ T.way ∨ ∃ k : Nat, k < T.ps.length ∧ k ≠ d ∧ x = ⟨1, d, k, m.round, (T.peer d).state, m.vote, 0, 0⟩) ∧
    (∀ s k : Nat, lastTo s k T'.way = if s = d ∧ k < T.ps.length ∧ k ≠ d then some m.vote else lastTo s k T.way))
theorem looking_took {d : Nat} {m : MsgM} (hd : d < T.ps.length) (hr : m.round = (T.peer d).round) (hroom : (T.way.length : Int) + T.ps.length ≤ T.net) : Took T d m (T.looking d m) := by
  have hnr : ¬ (T.peer d).round < m.round := by omega
  have hbase : T.base d m = (T.peer d).vote := by unfold TownM.base; rw [if_neg hnr]
  have hgood : T.good d m = m.vote.better (T.peer d).vote := by unfold TownM.good; rw [hbase]
  have hfresh : T.fresh d m = m.vote.better (T.peer d).vote := by unfold TownM.fresh; rw [hgood]; simp [hnr]
  have hvotes : T.votesOn d m = (T.peer d).votes := by unfold TownM.votesOn; rw [if_neg hnr]
  have hvote : T.voteOn d m = if m.vote.better (T.peer d).vote = true then m.vote else (T.peer d).vote := by unfold TownM.voteOn; rw [hgood, hbase]
  have h1p : (T.take1 d m).peer d = { T.peer d with vote := if m.vote.better (T.peer d).vote = true then m.vote else (T.peer d).vote, waits := (T.peer d).waits && !m.vote.better (T.peer d).vote } := by
    unfold TownM.take1
    rw [peer_set hd, hvotes, hvote, hfresh, hr]
  have h1o : ∀ j, j ≠ d → (T.take1 d m).peer j = T.peer j := fun j hj => peer_other (fun e => hj e.symm) _
  have h1l : (T.take1 d m).ps.length = T.ps.length := take1_len T d m
  have h1c : (T.take1 d m).net = T.net ∧ (T.take1 d m).wait = T.wait ∧ (T.take1 d m).lease = T.lease ∧ (T.take1 d m).events = T.events := ⟨rfl, rfl, rfl, rfl⟩
  have h1w : (T.take1 d m).way = T.way := rfl
  -- behind the Notices
  have h2 : (T.take2 d m).ps = (T.take1 d m).ps ∧ ((T.take2 d m).net = T.net ∧ (T.take2 d m).wait = T.wait ∧ (T.take2 d m).lease = T.lease ∧ (T.take2 d m).events = T.events) ∧ (T.take2 d m).now = T.now ∧
      ((m.vote.better (T.peer d).vote = false ∧ (T.take2 d m).way = T.way) ∨ (m.vote.better (T.peer d).vote = true ∧ (T.take2 d m).way.length = T.way.length + notesTo d T.ps.length ∧
        (∀ x ∈ (T.take2 d m).way, x ∈ T.way ∨ ∃ k : Nat, k < T.ps.length ∧ k ≠ d ∧ x = ⟨1, d, k, m.round, (T.peer d).state, m.vote, 0, 0⟩) ∧
        (∀ s k : Nat, lastTo s k (T.take2 d m).way = if s = d ∧ k < T.ps.length ∧ k ≠ d then some m.vote else lastTo s k T.way))) := by
    unfold TownM.take2
    rw [hfresh]
    cases hb : m.vote.better (T.peer d).vote with
    | false => exact ⟨rfl, ⟨rfl, rfl, rfl, rfl⟩, rfl, .inl ⟨rfl, rfl⟩⟩
    | true =>
      rw [if_pos rfl]
      have hw := noticesTo_way (T.take1 d m) d T.ps.length (by rw [h1w]; exact hroom)
      have hpv : (T.take1 d m).peer d = { T.peer d with vote := m.vote, waits := (T.peer d).waits && !true } := by
        rw [h1p, hb]; simp
      have hno : ∀ k : Int, (T.take1 d m).noticeOf d k = ⟨1, d, k, m.round, (T.peer d).state, m.vote, 0, 0⟩ := by
        intro k
        unfold TownM.noticeOf
        rw [hpv, hr]
      have hn : (T.take1 d m).notices d = (T.take1 d m).noticesTo d T.ps.length := by unfold TownM.notices; rw [h1l]
      rw [hn]
      obtain ⟨w1, w2, w3⟩ := hw
      refine ⟨noticesTo_ps _ _ _, noticesTo_cfg _ _ _, noticesTo_now _ _ _, .inr ⟨rfl, w1, fun x hx => ?_, fun s k => ?_⟩⟩
      · rcases w2 x hx with h | ⟨k, hk, hne, rfl⟩
        · exact .inl h
        · exact .inr ⟨k, hk, hne, hno k⟩
      · rw [w3, hpv]; rfl
  obtain ⟨p2, c2, n2, w2⟩ := h2
  have h2l : (T.take2 d m).ps.length = T.ps.length := take2_len T d m
  have h2p : (T.take2 d m).peer d = (T.take1 d m).peer d := peer_of_ps p2 d
  have hkl : ((T.take2 d m).know d m).ps.length = T.ps.length := by rw [know_len]; exact h2l
  have hkp : ((T.take2 d m).know d m).peer d = { (T.take1 d m).peer d with votes := ((T.take1 d m).peer d).votes.set m.src.toNat ⟨true, m.vote, 0⟩ } := by
    unfold TownM.know
    rw [peer_set (by rw [h2l]; exact hd), h2p]
  have hL : T.looking d m = ((T.take2 d m).know d m).count d := by unfold TownM.looking; rw [if_neg (by omega)]
  rw [hL]
  have hcp := count_peer (T := (T.take2 d m).know d m) (i := d) (by rw [hkl]; exact hd)
  have hcount : (((T.take2 d m).know d m).count d).countTo d (((T.take2 d m).know d m).count d).ps.length = ((T.take2 d m).know d m).countTo d ((T.take2 d m).know d m).ps.length := by
    rw [count_len]
    have : ∀ k, (((T.take2 d m).know d m).count d).countTo d k = ((T.take2 d m).know d m).countTo d k := by
      intro k
      induction k with
      | zero => rfl
      | succ k ih => rw [TownM.countTo, TownM.countTo, ih, hcp]
    exact this _
  refine ⟨by rw [count_len, hkl], c2, n2, fun j hj => ?_, ?_, w2⟩
  · rw [count_other (fun e => hj e.symm)]
    show (TownM.setPeer _ d _).peer j = _
    rw [peer_other (fun e => hj e.symm), peer_of_ps p2, h1o j hj]
  · rw [hcp, hcount, most_ps (T := (T.take2 d m).know d m) (T' := ((T.take2 d m).know d m).count d) (count_len _ _)]
    rw [hkp, h1p]
    show PeerM.mk _ _ _ _ _ _ _ _ _ _ (if _ then (T.take2 d m).now else _) _ _ _ = _
    rw [n2]
end

section
variable {l : List CredM} {wait lease : Int} {T : TownM}
theorem getD_set_self {α : Type} {l : List α} {k : Nat} (h : k < l.length) (x d : α) : (l.set k x).getD k d = x := by simp [h]
theorem getD_set_other {α : Type} {l : List α} {k j : Nat} (h : k ≠ j) (x d : α) : (l.set k x).getD j d = l.getD j d := by simp [List.getD_eq_getElem?_getD, h]
theorem ph1_step (hn : l.length ≤ 7) (h : Ph1 l wait lease T) {m : MsgM} {rest : List MsgM} (hw : T.way = m :: rest) (hroom : T.way.length ≤ 950) : Ph1 l wait lease (T.deliver 0) ∧ meas l (T.deliver 0) < meas l T := by
  obtain ⟨s, d, j, hs, hd, hj, hsd, hm⟩ := h.msgs m (by rw [hw]; exact List.mem_cons_self)
  have hdst : m.dst.toNat = d := by rw [hm]; rfl
  have hsrc : m.src.toNat = s := by rw [hm]; rfl
  have hmv : m.vote = ownV l j := by rw [hm]
  have hpd := h.peer d hd
  have hdel := deliver0 hw (by rw [hdst, hpd]; rfl) (by rw [hdst, hpd]; show (0 : Int) ≠ 3; decide)
  rw [hdst] at hdel
  have hlen : T.ps.length = l.length := h.conf.len
  have hR : ({ T with way := rest } : TownM).hears d m = ({ T with way := rest } : TownM).looking d m := by
    unfold TownM.hears
    rw [if_pos (by rw [hm])]
    have : (({ T with way := rest } : TownM).peer d).state = 0 := by
      show (T.peer d).state = 0
      rw [hpd]; rfl
    rw [if_pos this, if_pos (by rw [hm])]
  rw [hdel, hR]
  have tk := looking_took (T := { T with way := rest }) (d := d) (m := m) (by rw [hlen]; exact hd) (by
    show m.round = (T.peer d).round
    rw [hpd, hm]; rfl) (by
    show ((rest.length : Int)) + T.ps.length ≤ T.net
    rw [h.conf.net, hlen]
    rw [hw] at hroom
    simp at hroom
    omega)
  have hcnt : rest.length + 1 = T.way.length := by rw [hw]; rfl
  generalize ({ T with way := rest } : TownM).looking d m = T' at *
  have hP : ∀ k, ({ T with way := rest } : TownM).peer k = T.peer k := fun _ => rfl
  have hoth : ∀ k, k ≠ d → T'.peer k = T.peer k := fun k hk => tk.other k hk
  have hpe := tk.peer
  rw [hP] at hpe
  have hv' : (T'.peer d).vote = if m.vote.better (T.peer d).vote = true then m.vote else (T.peer d).vote := by rw [hpe]
  have hvs' : (T'.peer d).votes = (T.peer d).votes.set s ⟨true, m.vote, 0⟩ := by rw [hpe, ← hsrc]
  have hvl := h.vlen d hd
  -- the vote behind it is no worse than either
  have hge1 : (T.peer d).vote.better (T'.peer d).vote = false := by
    rw [hv']
    split
    · rename_i hb; exact better_flip hb
    · exact better_self _
  have hge2 : m.vote.better (T'.peer d).vote = false := by
    rw [hv']
    split
    · exact better_self _
    · rename_i hb; simpa using hb
  have hfirst : ∀ k i, lastTo k i T.way = (lastTo k i rest).or (if fromTo k i m = true then some m.vote else none) := fun k i => by rw [hw]; rfl
  have hft : ∀ k i : Nat, fromTo k i m = true ↔ k = s ∧ i = d := by
    intro k i
    unfold fromTo
    rw [hm]
    simp only [Bool.and_eq_true, beq_iff_eq]
    omega
  -- the last messages behind it
  have hlast : ∀ k i, i < l.length → i ≠ k → lastTo k i T'.way = if m.vote.better (T.peer d).vote = true ∧ k = d then some m.vote else lastTo k i rest := by
    intro k i hi hik
    rcases tk.way with ⟨hb, hway⟩ | ⟨hb, _, _, hl⟩
    · have hb' : m.vote.better (T.peer d).vote = false := hb
      rw [hway, if_neg (by rw [hb']; simp)]
    · have hb' : m.vote.better (T.peer d).vote = true := hb
      rw [hl]
      show (if k = d ∧ i < T.ps.length ∧ i ≠ d then some m.vote else lastTo k i rest) = _
      rw [hlen]
      by_cases hk : k = d
      · rw [if_pos (by omega), if_pos ⟨hb', hk⟩]
      · rw [if_neg (by omega), if_neg (by omega)]
  refine ⟨⟨⟨tk.len.trans hlen, tk.cfg.2.1.trans h.conf.wait, tk.cfg.2.2.1.trans h.conf.lease, tk.cfg.1.trans h.conf.net⟩, tk.now.trans h.now, tk.cfg.2.2.2.trans h.ev, ?_, ?_, ?_, ?_, ?_, ?_, ?_⟩, ?_⟩
  · intro i hi
    by_cases hid : i = d
    · subst hid
      have hsince : (T.peer i).since = 0 := by rw [hpd]; rfl
      have hnow : ({ T with way := rest } : TownM).now = 0 := h.now
      rw [hnow, hsince, ite_self] at hpe
      rw [hpe, hpd]
      rfl
    · rw [hoth i hid]
      exact h.peer i hi
  · intro i hi
    by_cases hid : i = d
    · subst hid
      rw [hvs', List.length_set]; exact hvl
    · rw [hoth i hid]
      exact h.vlen i hi
  · intro i hi
    by_cases hid : i = d
    · subst hid
      rw [hpe]
    · rw [hoth i hid, h.wts i hi, tk.len]
      have hc : T'.countTo i T.ps.length = T.countTo i T.ps.length := countTo_ps (hoth i hid) _
      show T.most _ = T'.most (T'.countTo i T.ps.length)
      rw [hc]
      exact (most_ps tk.len _).symm
  · intro i hi
    by_cases hid : i = d
    · subst hid
      rw [hv']
      split
      · exact ⟨j, hj, hmv⟩
      · exact h.vin i hi
    · rw [hoth i hid]
      exact h.vin i hi
  · intro i hi
    by_cases hid : i = d
    · subst hid
      exact better_le (h.vge i hi) hge1
    · rw [hoth i hid]
      exact h.vge i hi
  · intro x hx
    rcases tk.way with ⟨_, hway⟩ | ⟨_, _, hall, _⟩
    · rw [hway] at hx
      exact h.msgs x (by rw [hw]; exact List.mem_cons_of_mem _ hx)
    · rcases hall x hx with hx | ⟨k, hk, hkd, rfl⟩
      · exact h.msgs x (by rw [hw]; exact List.mem_cons_of_mem _ hx)
      · refine ⟨d, k, j, hd, ?_, hj, fun e => hkd e.symm, ?_⟩
        · have : k < T.ps.length := hk
          omega
        · have e1 : m.round = 1 := by rw [hm]
          have e2 : (({ T with way := rest } : TownM).peer d).state = 0 := by
            show (T.peer d).state = 0
            rw [hpd]; rfl
          rw [e1, e2, hmv]
  · intro i k hi hk hik
    rw [hlast k i hi hik]
    by_cases hkd : k = d
    · subst hkd
      have hid : i ≠ k := hik
      by_cases hb : m.vote.better (T.peer k).vote = true
      · left
        rw [if_pos ⟨hb, rfl⟩, hv', if_pos hb]
      · have hvk : (T'.peer k).vote = (T.peer k).vote := by rw [hv', if_neg hb]
        rw [if_neg (by simp [hb]), hvk, hoth i hid]
        have := h.pair i k hi hk hik
        rw [hfirst] at this
        rw [if_neg (fun e => by have := (hft k i).1 e; omega), Option.or_none] at this
        exact this
    · rw [if_neg (by simp [hkd]), hoth k hkd]
      have hpr := h.pair i k hi hk hik
      rw [hfirst] at hpr
      by_cases hid : i = d
      · subst hid
        by_cases hks : k = s
        · subst hks
          rw [if_pos ((hft k i).2 ⟨rfl, rfl⟩)] at hpr
          cases hl : lastTo k i rest with
          | some v =>
            rw [hl, Option.some_or] at hpr
            left
            rcases hpr with h1 | ⟨h1, _⟩
            · exact h1
            · exact absurd h1 (by simp)
          | none =>
            rw [hl, Option.none_or] at hpr
            rcases hpr with h1 | ⟨h1, _⟩
            · have hvk : m.vote = (T.peer k).vote := by simpa using h1
              right
              refine ⟨rfl, ?_, ?_⟩
              · rw [hvs', getD_set_self (by rw [hvl]; omega), hvk]
              · rw [← hvk]; exact hge2
            · exact absurd h1 (by simp)
        · rw [if_neg (fun e => hks ((hft k i).1 e).1), Option.or_none] at hpr
          rcases hpr with h1 | ⟨h1, h2, h3⟩
          · exact .inl h1
          · right
            refine ⟨h1, ?_, better_le h3 hge1⟩
            rw [hvs', getD_set_other (fun e => hks e.symm)]
            exact h2
      · rw [if_neg (fun e => hid ((hft k i).1 e).2), Option.or_none] at hpr
        rw [hoth i hid]
        exact hpr
  · unfold meas
    rcases tk.way with ⟨hb, hway⟩ | ⟨hb, hlen2, _, _⟩
    · have hb' : m.vote.better (T.peer d).vote = false := hb
      have hvk : (T'.peer d).vote = (T.peer d).vote := by rw [hv', if_neg (by rw [hb']; decide)]
      have hs1 : sumTo (fun i => rankV l (T'.peer i).vote) l.length = sumTo (fun i => rankV l (T.peer i).vote) l.length := sumTo_congr _ (fun k hk => by
        by_cases hkd : k = d
        · rw [hkd, hvk]
        · rw [hoth k hkd])
      rw [hs1, hway]
      show rest.length + _ < _
      omega
    · have hb' : m.vote.better (T.peer d).vote = true := hb
      have hvk : (T'.peer d).vote = ownV l j := by rw [hv', if_pos hb', hmv]
      have hs1 : sumTo (fun i => rankV l (T'.peer i).vote) l.length + 1 ≤ sumTo (fun i => rankV l (T.peer i).vote) l.length := sumTo_lt (i := d) _ hd (fun k hk hkd => by
        show rankV l (T'.peer k).vote = rankV l (T.peer k).vote
        rw [hoth k hkd]) (by
        show rankV l (T'.peer d).vote < rankV l (T.peer d).vote
        rw [hvk]
        exact rank_lt hj (by rw [← hmv]; exact hb'))
      have hle2 : T'.way.length = rest.length + (l.length - 1) := by
        have : T'.way.length = rest.length + notesTo d T.ps.length := hlen2
        rw [this, notesTo_eq, hlen, if_pos hd]
      have hmul := Nat.mul_le_mul_left (l.length - 1) hs1
      rw [Nat.mul_add, Nat.mul_one] at hmul
      omega

/-- Where no message is left: all have the best vote, and wait. -/
theorem ph1_end (hn : 1 ≤ l.length) (h : Ph1 l wait lease T) (hw : T.way = []) :
    ∃ b, b < l.length ∧ (∀ j, j < l.length → (ownV l j).better (ownV l b) = false) ∧ ∀ i, i < l.length → (T.peer i).vote = ownV l b ∧ (T.peer i).waits = true := by
  have hall : ∀ i k, i < l.length → k < l.length → i ≠ k → (T.peer i).votes.getD k knownZ = ⟨true, (T.peer k).vote, 0⟩ ∧ (T.peer k).vote.better (T.peer i).vote = false := by
    intro i k hi hk hik
    rcases h.pair i k hi hk hik with h1 | ⟨_, h2, h3⟩
    · rw [hw] at h1; exact absurd h1 (by simp [lastTo])
    · exact ⟨h2, h3⟩
  have heq : ∀ i, i < l.length → (T.peer i).vote = (T.peer 0).vote := by
    intro i hi
    by_cases h0 : i = 0
    · rw [h0]
    · exact better_anti (hall 0 i (by omega) hi (fun e => h0 e.symm)).2 (hall i 0 hi (by omega) h0).2
  obtain ⟨b, hb, hvb⟩ := h.vin 0 (by omega)
  refine ⟨b, hb, fun j hj => ?_, fun i hi => ⟨(heq i hi).trans hvb, ?_⟩⟩
  · have := h.vge j hj
    rw [heq j hj, hvb] at this
    exact this
  · rw [h.wts i hi, h.conf.len]
    have hc : ∀ k, k ≤ l.length → T.countTo i k = if i < k then (k : Int) else k + 1 := by
      intro k
      induction k with
      | zero => intro _; simp [TownM.countTo]
      | succ k ih =>
        intro hk
        rw [TownM.countTo, ih (by omega)]
        by_cases hki : k = i
        · subst hki
          simp
        · have h1 := (hall i k hi (by omega) (fun e => hki e.symm)).1
          rw [h1]
          have h2 : (T.peer k).vote.eqb (T.peer i).vote = true := by rw [heq k (by omega), heq i hi, eqb_iff]
          simp only [hki, decide_false, Bool.not_false, h2, Bool.and_self, if_true]
          by_cases h3 : i < k
          · rw [if_pos h3, if_pos (by omega)]
            omega
          · rw [if_neg h3, if_neg (by omega)]
            omega
    rw [hc l.length (Nat.le_refl _), if_pos hi]
    unfold TownM.most
    rw [h.conf.len]
    simp
    omega

/-- All messages are delivered, the first one first; whether none is left. -/
def flush : Nat → TownM → Bool × TownM
  | 0, T => (false, T)
  | f + 1, T => if T.way.length = 0 then (true, T) else if 950 < T.way.length then (false, T) else flush f (T.deliver 0)
theorem ph1_flush (hn : l.length ≤ 7) : ∀ (f : Nat) (T : TownM), Ph1 l wait lease T → meas l T ≤ 300 → meas l T < f → ∃ T', flush f T = (true, T') ∧ Ph1 l wait lease T' ∧ T'.way = []
  | 0, T, _, _, hf => by omega
  | f + 1, T, h, hm, hf => by
    unfold flush
    by_cases h0 : T.way.length = 0
    · rw [if_pos h0]
      exact ⟨T, rfl, h, List.length_eq_zero_iff.1 h0⟩
    · have hlen : T.way.length ≤ meas l T := Nat.le_add_right _ _
      rw [if_neg h0, if_neg (by omega)]
      cases hw : T.way with
      | nil => rw [hw] at h0; exact absurd rfl h0
      | cons m rest =>
        obtain ⟨h1, h2⟩ := ph1_step hn h hw (by omega)
        exact ph1_flush hn f _ h1 (by omega) (by omega)
end
end Go.Proofs.YtceappncglfciaaGreat

/-
  Where nothing fails: Wait ticks go by: the best one leads, all others follow it.
-/
namespace Go.Proofs.YtceappncglfciaaGreat
open TownM

/-- The followers below t, in their order. -/
def folTo (b : Nat) : Nat → List Nat
  | 0 => []
  | t + 1 => if t = b then folTo b t else folTo b t ++ [t]
/-- The k followers' places from t on. -/
def folFrom (b : Nat) : Nat → Nat → List Nat
  | _, 0 => []
  | t, k + 1 => if t = b then folFrom b (t + 1) k else t :: folFrom b (t + 1) k
theorem folTo_from (b : Nat) : ∀ k t, folTo b t ++ folFrom b t k = folTo b (t + k)
  | 0, t => by simp [folFrom]
  | k + 1, t => by
    have ih := folTo_from b k (t + 1)
    unfold folFrom
    rw [show t + (k + 1) = t + 1 + k from by omega]
    split
    · rename_i h
      rw [← ih]
      conv => rhs; unfold folTo
      rw [if_pos h]
    · rename_i h
      rw [← ih]
      conv => rhs; lhs; unfold folTo
      rw [if_neg h]
      simp
theorem folTo_all (b n : Nat) : folFrom b 0 n = folTo b n := by
  have := folTo_from b n 0
  simpa [folTo] using this
theorem folTo_len (b : Nat) : ∀ t, (folTo b t).length = notesTo b t
  | 0 => rfl
  | t + 1 => by
    unfold folTo notesTo
    split
    · exact folTo_len b t
    · simp [folTo_len b t]
theorem folFrom_len (b : Nat) : ∀ k t, (folFrom b t k).length ≤ k
  | 0, _ => Nat.le_refl _
  | k + 1, t => by
    have := folFrom_len b k (t + 1)
    unfold folFrom
    split
    · omega
    · simp; omega

def joinMsg (b : Nat) (P : Int) (i : Nat) : MsgM := ⟨2, i, b, 0, 0, voteZ, P, 0⟩

/-- One that follows. -/
structure Fol (l : List CredM) (b : Nat) (since : Int) (num : Int) (c : CredM) (p : PeerM) : Prop where
  up : p.up = true
  armed : p.armed = -1
  state : p.state = 1
  vote : p.vote = ownV l b
  since : p.since = since
  cred : p.c = c
  disk : DiskOK num c p.disk
/-- One that leads. -/
structure Lead (since : Int) (num : Int) (c : CredM) (epoch : Int) (stands : Bool) (p : PeerM) : Prop where
  up : p.up = true
  armed : p.armed = -1
  state : p.state = 2
  since : p.since = since
  cred : p.c = c
  disk : DiskOK num c p.disk
  epoch : p.epoch = epoch
  stands : p.stands = stands

section
variable {l : List CredM} {wait lease : Int} {T : TownM} {b : Nat} {P : Int}
/-- Behind all messages, at a time ahead of Wait. -/
structure Ready (l : List CredM) (wait lease : Int) (b : Nat) (k : Int) (T : TownM) : Prop where
  conf : Conf l wait lease T
  now : T.now = k
  ev : T.events = []
  way : T.way = []
  peer : ∀ i, i < l.length → ∃ vs, T.peer i = look1 l i (ownV l b) vs true
theorem ready_of (h : Ph1 l wait lease T) (hw : T.way = []) (hall : ∀ i, i < l.length → (T.peer i).vote = ownV l b ∧ (T.peer i).waits = true) : Ready l wait lease b 0 T :=
  ⟨h.conf, h.now, h.ev, hw, fun i hi => ⟨(T.peer i).votes, by rw [h.peer i hi, (hall i hi).1, (hall i hi).2]; rfl⟩⟩
theorem ready_at {k : Int} (h : Ready l wait lease b k T) {i : Nat} (hi : i < l.length) (hk : k < wait) : T.tickAt i = T := by
  obtain ⟨vs, hp⟩ := h.peer i hi
  unfold TownM.tickAt
  rw [hp]
  rw [if_pos ⟨rfl, by show (0 : Int) ≠ 3; decide⟩]
  unfold TownM.tick
  rw [hp]
  rw [if_pos (show (look1 l i (ownV l b) vs true).state = 0 from rfl), if_neg]
  rintro ⟨_, h2⟩
  rw [h.conf.wait, h.now] at h2
  have : (look1 l i (ownV l b) vs true).since = 0 := rfl
  omega
theorem ready_tick {k : Int} (h : Ready l wait lease b k T) (hk : k + 1 < wait) : Ready l wait lease b (k + 1) T.tick1 := by
  have h1 : Ready l wait lease b (k + 1) ({ T with now := T.now + 1 } : TownM) := ⟨⟨h.conf.len, h.conf.wait, h.conf.lease, h.conf.net⟩, by show T.now + 1 = k + 1; rw [h.now], h.ev, h.way, h.peer⟩
  have : ∀ j, j ≤ l.length → ({ T with now := T.now + 1 } : TownM).ticksTo j = { T with now := T.now + 1 } := by
    intro j
    induction j with
    | zero => intro _; rfl
    | succ j ih =>
      intro hj
      rw [TownM.ticksTo, ih (by omega)]
      exact ready_at h1 (by omega) hk
  unfold TownM.tick1
  rw [h.conf.len, this l.length (Nat.le_refl _)]
  exact h1
theorem ready_ticks (h : Ready l wait lease b 0 T) : ∀ k : Nat, (k : Int) < wait → Ready l wait lease b k (T.tickN k)
  | 0, _ => h
  | k + 1, hk => by
    have ih := ready_ticks h k (by omega)
    have := ready_tick ih (by omega)
    rw [TownM.tickN]
    simpa using this

/-- At the time Wait, behind the first k peers. -/
structure Ph2 (l : List CredM) (wait lease : Int) (b : Nat) (P : Int) (k : Nat) (T : TownM) : Prop where
  conf : Conf l wait lease T
  now : T.now = wait
  ev : T.events = []
  way : T.way = (folTo b k).map (joinMsg b P)
  fol : ∀ i, i < k → i ≠ b → Fol l b wait 1 (l.getD i credZ) (T.peer i)
  lead : b < k → Lead wait 1 (l.getD b credZ) 0 false (T.peer b) ∧ (T.peer b).mem = mem7
  rest : ∀ i, k ≤ i → i < l.length → ∃ vs, T.peer i = look1 l i (ownV l b) vs true
theorem getD_ok (hc : ∀ c ∈ l, c.ok) {i : Nat} (hi : i < l.length) : (l.getD i credZ).ok := hc _ (by rw [List.getD_eq_getElem?_getD]; simp [hi])
theorem getD_p (hP : ∀ c ∈ l, c.p = P) {i : Nat} (hi : i < l.length) : (l.getD i credZ).p = P := hP _ (by rw [List.getD_eq_getElem?_getD]; simp [hi])
theorem folTo_le (b : Nat) (t : Nat) : (folTo b t).length ≤ t := by rw [folTo_len]; exact notesTo_le b t
theorem ph2_step (h2 : 2 ≤ l.length ∧ l.length ≤ 7) (hc : ∀ c ∈ l, c.ok) (hP : ∀ c ∈ l, c.p = P) {k : Nat} (hk : k < l.length) (h : Ph2 l wait lease b P k T) : Ph2 l wait lease b P (k + 1) (T.tickAt k) := by
  obtain ⟨vs, hp⟩ := h.rest k (Nat.le_refl _) hk
  have hi : k < T.ps.length := by rw [h.conf.len]; exact hk
  have hck := getD_ok hc hk
  have hta : T.tickAt k = T.tick k := by
    unfold TownM.tickAt
    rw [hp, if_pos ⟨rfl, by show (0 : Int) ≠ 3; decide⟩]
  have htk : T.tick k = if (b : Int) = (k : Int) then T.lead k else T.follow k (ownV l b) := by
    unfold TownM.tick
    have hcond : (look1 l k (ownV l b) vs true).waits = true ∧ T.wait ≤ T.now - (look1 l k (ownV l b) vs true).since := by
      refine ⟨rfl, ?_⟩
      rw [h.conf.wait, h.now]
      show wait ≤ wait - 0
      omega
    rw [hp, if_pos (show (look1 l k (ownV l b) vs true).state = 0 from rfl), if_pos hcond]
    rfl
  rw [hta, htk]
  by_cases hb : b = k
  · subst hb
    rw [if_pos rfl]
    have hl : T.lead b = T.lead0 b := by unfold TownM.lead; rw [if_neg (by rw [h.conf.len]; omega)]
    rw [hl]
    have hpb : (T.lead0 b).peer b = { T.peer b with state := 2, epoch := 0, mem := mem7, stands := false, since := T.now } := peer_set hi _
    have hpo : ∀ j, j ≠ b → (T.lead0 b).peer j = T.peer j := fun j hj => peer_other (fun e => hj e.symm) _
    refine ⟨⟨(T.setPeer_len _ _).trans h.conf.len, h.conf.wait, h.conf.lease, h.conf.net⟩, h.now, h.ev, ?_, ?_, ?_, ?_⟩
    · show T.way = _
      rw [h.way]
      conv => rhs; unfold folTo
      rw [if_pos rfl]
    · intro i hik hne
      rw [hpo i hne]
      exact h.fol i (by omega) hne
    · intro _
      rw [hpb, hp]
      exact ⟨⟨rfl, rfl, rfl, h.now, rfl, DiskOK.first hck, rfl, rfl⟩, rfl⟩
    · intro i hki hil
      rw [hpo i (by omega)]
      exact h.rest i (by omega) hil
  · rw [if_neg (by omega)]
    unfold TownM.follow
    have hroom : (((T.setPeer k { T.peer k with state := 1, vote := ownV l b, since := T.now }).way.length : Int)) < (T.setPeer k { T.peer k with state := 1, vote := ownV l b, since := T.now }).net := by
      show ((T.way.length : Int)) < T.net
      rw [h.way, h.conf.net, List.length_map]
      have := folTo_le b k
      omega
    rw [send_room hroom]
    have hpk : (T.setPeer k { T.peer k with state := 1, vote := ownV l b, since := T.now }).peer k = { T.peer k with state := 1, vote := ownV l b, since := T.now } := peer_set hi _
    have hpo : ∀ j, j ≠ k → (T.setPeer k { T.peer k with state := 1, vote := ownV l b, since := T.now }).peer j = T.peer j := fun j hj => peer_other (fun e => hj e.symm) _
    refine ⟨⟨(T.setPeer_len _ _).trans h.conf.len, h.conf.wait, h.conf.lease, h.conf.net⟩, h.now, h.ev, ?_, ?_, ?_, ?_⟩
    · show T.way ++ [_] = _
      rw [h.way]
      conv => rhs; unfold folTo
      rw [if_neg (fun e => hb e.symm), List.map_append]
      congr 1
      have hpp : (T.peer k).c.p = P := by rw [hp]; exact getD_p hP hk
      rw [hpp]
      rfl
    · intro i hik hne
      show Fol l b wait 1 _ ((T.setPeer k _).peer i)
      by_cases hik2 : i = k
      · subst hik2
        rw [hpk, hp]
        exact ⟨rfl, rfl, rfl, rfl, h.now, rfl, DiskOK.first hck⟩
      · rw [hpo i hik2]
        exact h.fol i (by omega) hne
    · intro hbk
      show Lead wait 1 _ 0 false ((T.setPeer k _).peer b) ∧ ((T.setPeer k _).peer b).mem = mem7
      rw [hpo b hb]
      exact h.lead (by omega)
    · intro i hki hil
      show ∃ vs, (T.setPeer k _).peer i = _
      rw [hpo i (by omega)]
      exact h.rest i (by omega) hil
theorem ph2_all (h2 : 2 ≤ l.length ∧ l.length ≤ 7) (hc : ∀ c ∈ l, c.ok) (hP : ∀ c ∈ l, c.p = P) (h : Ph2 l wait lease b P 0 T) : ∀ k, k ≤ l.length → Ph2 l wait lease b P k (T.ticksTo k)
  | 0, _ => h
  | k + 1, hk => ph2_step h2 hc hP (by omega) (ph2_all h2 hc hP h k (by omega))
/-- Behind Wait ticks. -/
theorem ph2_of_ready (h2 : 2 ≤ l.length ∧ l.length ≤ 7) (hw : 1 ≤ wait) (hc : ∀ c ∈ l, c.ok) (hP : ∀ c ∈ l, c.p = P) (h : Ready l wait lease b 0 T) : Ph2 l wait lease b P l.length (T.tickN wait.toNat) := by
  obtain ⟨k, hk⟩ : ∃ k : Nat, wait.toNat = k + 1 := ⟨wait.toNat - 1, by omega⟩
  have hr := ready_ticks h k (by omega)
  rw [hk, TownM.tickN]
  unfold TownM.tick1
  rw [hr.conf.len]
  refine ph2_all (T := { T.tickN k with now := (T.tickN k).now + 1 }) h2 hc hP ⟨⟨hr.conf.len, hr.conf.wait, hr.conf.lease, hr.conf.net⟩, ?_, hr.ev, hr.way, fun i hi => by omega, fun hb => by omega, fun i _ hi => hr.peer i hi⟩ l.length (Nat.le_refl _)
  show (T.tickN k).now + 1 = wait
  rw [hr.now]
  omega
end
end Go.Proofs.YtceappncglfciaaGreat

/-
  Where nothing fails: those who follow join; the one who leads proposes.
-/
namespace Go.Proofs.YtceappncglfciaaGreat
open TownM

/-- So many deliveries lead from one town to another. -/
def Goes (c : Nat) (T T' : TownM) : Prop := ∀ f, flush (f + c) T = flush f T'
theorem Goes.refl (T : TownM) : Goes 0 T T := fun _ => rfl
theorem Goes.trans {c d : Nat} {T T' T'' : TownM} (h : Goes c T T') (k : Goes d T' T'') : Goes (d + c) T T'' := fun f => by
  rw [← Nat.add_assoc, h, k]
theorem Goes.one {T : TownM} (h0 : T.way.length ≠ 0) (h1 : T.way.length ≤ 950) : Goes 1 T (T.deliver 0) := fun f => by
  show flush (f + 1) T = _
  conv => lhs; unfold flush
  rw [if_neg h0, if_neg (by omega)]

theorem TownM.send_room_at {T : TownM} {m : MsgM} (h : (T.way.length : Int) < T.net) : T.send m = { T with way := T.way ++ [m] } := by unfold TownM.send; rw [if_pos h]

/-- What a leader knows of the others: of those below t this, of the others that. -/
structure MemIs (p : PeerM) (b t n : Nat) (x y : MemM) : Prop where
  len : p.mem.length = 7
  at_ : ∀ k, k < n → p.mem.getD k memZ = if k = b then memZ else if k < t then x else y
theorem MemIs.set {p p' : PeerM} {b t n : Nat} {x y : MemM} (h : MemIs p b t n x y) (ht : t ≠ b) (htn : t < n) (hn : n ≤ 7) (hp : p'.mem = p.mem.set t x) : MemIs p' b (t + 1) n x y := by
  refine ⟨by rw [hp, List.length_set]; exact h.len, fun k hk => ?_⟩
  rw [hp]
  by_cases hkt : t = k
  · subst hkt
    rw [getD_set_self (by rw [h.len]; omega), if_neg ht, if_pos (by omega)]
  · rw [getD_set_other hkt, h.at_ k hk]
    by_cases hb : k = b
    · rw [if_pos hb, if_pos hb]
    · rw [if_neg hb, if_neg hb]
      by_cases h1 : k < t
      · rw [if_pos h1, if_pos (by omega)]
      · rw [if_neg h1, if_neg (by omega)]
theorem MemIs.skip {p : PeerM} {b n : Nat} {x y : MemM} (h : MemIs p b b n x y) : MemIs p b (b + 1) n x y := by
  refine ⟨h.len, fun k hk => ?_⟩
  rw [h.at_ k hk]
  by_cases hb : k = b
  · rw [if_pos hb, if_pos hb]
  · rw [if_neg hb, if_neg hb]
    by_cases h1 : k < b
    · rw [if_pos h1, if_pos (by omega)]
    · rw [if_neg h1, if_neg (by omega)]
/-- All are behind: a new turn begins. -/
theorem MemIs.again {p : PeerM} {b n : Nat} {x y z : MemM} (h : MemIs p b n n x y) : MemIs p b 0 n z x := by
  refine ⟨h.len, fun k hk => ?_⟩
  rw [h.at_ k hk, if_pos hk]
  by_cases hb : k = b
  · rw [if_pos hb, if_pos hb]
  · rw [if_neg hb, if_neg hb, if_neg (by omega)]

section
variable {T : TownM} {b t n : Nat} {x y : MemM}
theorem notesTo_min_step {k : Nat} : notesTo b (min (k + 1) t) = if k = b then notesTo b (min k t) else if k < t then notesTo b (min k t) + 1 else notesTo b (min k t) := by
  by_cases h1 : k < t
  · have e1 : min (k + 1) t = k + 1 := by omega
    have e2 : min k t = k := by omega
    rw [e1, e2, notesTo]
    by_cases hb : k = b
    · rw [if_pos hb, if_pos hb]
    · rw [if_neg hb, if_neg hb, if_pos h1]
  · have e1 : min (k + 1) t = t := by omega
    have e2 : min k t = t := by omega
    rw [e1, e2]
    by_cases hb : k = b
    · rw [if_pos hb]
    · rw [if_neg hb, if_neg h1]
theorem folTo_min_step {k : Nat} : folTo b (min (k + 1) t) = if k = b then folTo b (min k t) else if k < t then folTo b (min k t) ++ [k] else folTo b (min k t) := by
  by_cases h1 : k < t
  · have e1 : min (k + 1) t = k + 1 := by omega
    have e2 : min k t = k := by omega
    rw [e1, e2, folTo]
    by_cases hb : k = b
    · rw [if_pos hb, if_pos hb]
    · rw [if_neg hb, if_neg hb, if_pos h1]
  · have e1 : min (k + 1) t = t := by omega
    have e2 : min k t = t := by omega
    rw [e1, e2]
    by_cases hb : k = b
    · rw [if_pos hb]
    · rw [if_neg hb, if_neg h1]
theorem joinedTo_is (h : MemIs (T.peer b) b t n x y) (hx : x.joined = true) (hy : y.joined = false) : ∀ k, k ≤ n → T.joinedTo b k = 1 + (notesTo b (min k t) : Nat)
  | 0, _ => by simp [TownM.joinedTo, notesTo]
  | k + 1, hk => by
    rw [TownM.joinedTo, joinedTo_is h hx hy k (by omega), h.at_ k (by omega), notesTo_min_step]
    by_cases hb : k = b
    · rw [if_pos hb, if_pos hb]; rfl
    · rw [if_neg hb, if_neg hb]
      by_cases h1 : k < t
      · rw [if_pos h1, if_pos h1, if_pos hx]; omega
      · rw [if_neg h1, if_neg h1, if_neg (by rw [hy]; decide)]
theorem ackedTo_is (h : MemIs (T.peer b) b t n x y) (hx : x.acked = true) (hy : y.acked = false) : ∀ k, k ≤ n → T.ackedTo b k = 1 + (notesTo b (min k t) : Nat)
  | 0, _ => by simp [TownM.ackedTo, notesTo]
  | k + 1, hk => by
    rw [TownM.ackedTo, ackedTo_is h hx hy k (by omega), h.at_ k (by omega), notesTo_min_step]
    by_cases hb : k = b
    · rw [if_pos hb, if_pos hb]; rfl
    · rw [if_neg hb, if_neg hb]
      by_cases h1 : k < t
      · rw [if_pos h1, if_pos h1, if_pos hx]; omega
      · rw [if_neg h1, if_neg h1, if_neg (by rw [hy]; decide)]
theorem ackedTo_none (h : MemIs (T.peer b) b t n x y) (hx : x.acked = false) (hy : y.acked = false) : ∀ k, k ≤ n → T.ackedTo b k = 1
  | 0, _ => rfl
  | k + 1, hk => by
    rw [TownM.ackedTo, ackedTo_none h hx hy k (by omega), h.at_ k (by omega)]
    by_cases hb : k = b
    · rw [if_pos hb]; rfl
    · rw [if_neg hb]
      by_cases h1 : k < t
      · rw [if_pos h1, if_neg (by rw [hx]; decide)]
      · rw [if_neg h1, if_neg (by rw [hy]; decide)]
theorem bestTo_is {P : Int} (h : MemIs (T.peer b) b t n x y) (hc : (T.peer b).c.p = P) (hx : x.promised = P) (hy : y.joined = false) : ∀ k, k ≤ n → T.bestTo b k = P
  | 0, _ => hc
  | k + 1, hk => by
    rw [TownM.bestTo, bestTo_is h hc hx hy k (by omega), h.at_ k (by omega)]
    by_cases hb : k = b
    · rw [if_pos hb]; rfl
    · rw [if_neg hb]
      by_cases h1 : k < t
      · rw [if_pos h1, hx, if_neg (by simp)]
      · rw [if_neg h1, if_neg (by rw [hy]; simp)]
def propMsg (b : Nat) (e : Int) (i : Nat) : MsgM := ⟨3, b, i, 0, 0, voteZ, e, 0⟩
def welMsg (b : Nat) (e v : Int) (i : Nat) : MsgM := ⟨5, b, i, 0, 0, voteZ, e, v⟩
theorem with_way (T : TownM) : ({ T with way := T.way } : TownM) = T := rfl
theorem proposesTo_is {e : Int} (h : MemIs (T.peer b) b t n x y) (hx : x.joined = true) (hy : y.joined = false) (hr : (T.way.length : Int) + n < T.net) : ∀ k, k ≤ n → T.proposesTo b e k = { T with way := T.way ++ (folTo b (min k t)).map (propMsg b e) }
  | 0, _ => by simp [TownM.proposesTo, folTo]
  | k + 1, hk => by
    rw [TownM.proposesTo, proposesTo_is h hx hy hr k (by omega), h.at_ k (by omega), folTo_min_step]
    by_cases hb : k = b
    · rw [if_pos hb, if_pos hb]; rfl
    · rw [if_neg hb, if_neg hb]
      by_cases h1 : k < t
      · rw [if_pos h1, if_pos h1, if_pos hx, TownM.send_room_at]
        · simp [propMsg]
        · simp only [List.length_append, List.length_map]
          have := folTo_le b (min k t)
          omega
      · rw [if_neg h1, if_neg h1, if_neg (by rw [hy]; decide)]
theorem welcomesTo_is {e v : Int} (h : MemIs (T.peer b) b t n x y) (hx : x.acked = true) (hy : y.acked = false) (he : (T.peer b).epoch = e) (hv : (T.peer b).c.v = v) (hr : (T.way.length : Int) + n < T.net) : ∀ k, k ≤ n → T.welcomesTo b k = { T with way := T.way ++ (folTo b (min k t)).map (welMsg b e v) }
  | 0, _ => by simp [TownM.welcomesTo, folTo]
  | k + 1, hk => by
    rw [TownM.welcomesTo, welcomesTo_is h hx hy he hv hr k (by omega), h.at_ k (by omega), folTo_min_step]
    by_cases hb : k = b
    · rw [if_pos hb, if_pos hb]; rfl
    · rw [if_neg hb, if_neg hb]
      by_cases h1 : k < t
      · rw [if_pos h1, if_pos h1, if_pos hx]
        unfold TownM.welcome
        have hpe : (({ T with way := T.way ++ (folTo b (min k t)).map (welMsg b e v) } : TownM).peer b) = T.peer b := rfl
        rw [hpe, he, hv, TownM.send_room_at]
        · simp [welMsg]
        · simp only [List.length_append, List.length_map]
          have := folTo_le b (min k t)
          omega
      · rw [if_neg h1, if_neg h1, if_neg (by rw [hy]; decide)]
end
end Go.Proofs.YtceappncglfciaaGreat
