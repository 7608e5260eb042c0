import Derived.Test.YtceappncglfciaaGreatM02
set_option linter.unusedVariables false
set_option linter.unusedSimpArgs false
/-
  Where nothing fails, first part: all look; all messages are delivered in their order: all have the best vote, and wait.
-/
namespace Go.Proofs.YtceappncglfciaaGreat
open TownM

/-! ### Votes are in one order -/
theorem better_iff (a b : VoteM) : a.better b = true ↔ b.e < a.e ∨ (a.e = b.e ∧ (b.n < a.n ∨ (a.n = b.n ∧ b.p < a.p))) := by
  unfold VoteM.better
  by_cases h1 : a.e = b.e
  · by_cases h2 : a.n = b.n
    · simp [h1, h2]
    · have : (a.n == b.n) = false := by simp [h2]
      simp [h1, this]; omega
  · have : (a.e == b.e) = false := by simp [h1]
    simp [this]; omega
theorem better_not (a b : VoteM) : a.better b = false ↔ ¬ (b.e < a.e ∨ (a.e = b.e ∧ (b.n < a.n ∨ (a.n = b.n ∧ b.p < a.p)))) := by
  rw [← better_iff]; simp
theorem VoteM.ext' {a b : VoteM} (h1 : a.e = b.e) (h2 : a.n = b.n) (h3 : a.p = b.p) : a = b := by
  cases a; cases b; simp at h1 h2 h3; simp [h1, h2, h3]
theorem better_self (a : VoteM) : a.better a = false := by rw [better_not]; omega
theorem better_flip {a b : VoteM} (h : a.better b = true) : b.better a = false := by rw [better_iff] at h; rw [better_not]; omega
theorem better_anti {a b : VoteM} (h1 : a.better b = false) (h2 : b.better a = false) : a = b := by
  rw [better_not] at h1 h2
  exact VoteM.ext' (by omega) (by omega) (by omega)
theorem better_le {a b c : VoteM} (h1 : a.better b = false) (h2 : b.better c = false) : a.better c = false := by
  rw [better_not] at *; omega
theorem better_lt {a b c : VoteM} (h1 : a.better b = true) (h2 : b.better c = false → False) : a.better c = true := by
  cases hb : b.better c with
  | false => exact absurd hb h2
  | true => rw [better_iff] at *; omega
theorem eqb_iff (a b : VoteM) : a.eqb b = true ↔ a = b := by
  unfold VoteM.eqb
  constructor
  · intro h
    simp only [Bool.and_eq_true, beq_iff_eq] at h
    exact VoteM.ext' h.1 h.2.1 h.2.2
  · rintro rfl; simp

/-! ### The last message from one to another -/
def fromTo (k i : Nat) (m : MsgM) : Bool := m.src == (k : Int) && m.dst == (i : Int)
def lastTo (k i : Nat) : List MsgM → Option VoteM
  | [] => none
  | m :: l => (lastTo k i l).or (if fromTo k i m = true then some m.vote else none)
theorem lastTo_snoc (k i : Nat) (m : MsgM) : ∀ l : List MsgM, lastTo k i (l ++ [m]) = (if fromTo k i m = true then some m.vote else none).or (lastTo k i l)
  | [] => by simp [lastTo]
  | x :: l => by
    show (lastTo k i (l ++ [m])).or _ = _
    rw [lastTo_snoc k i m l, Option.or_assoc]
    rfl

/-! ### Small facts of the town's parts -/
theorem send_room {T : TownM} {m : MsgM} (h : (T.way.length : Int) < T.net) : T.send m = { T with way := T.way ++ [m] } := by unfold TownM.send; rw [if_pos h]
theorem noticesTo_cfg (T : TownM) (i : Nat) : ∀ k, (T.noticesTo i k).net = T.net ∧ (T.noticesTo i k).wait = T.wait ∧ (T.noticesTo i k).lease = T.lease ∧ (T.noticesTo i k).events = T.events
  | 0 => ⟨rfl, rfl, rfl, rfl⟩
  | k + 1 => by
    have ih := noticesTo_cfg T i k
    unfold TownM.noticesTo
    split
    · exact ih
    · unfold TownM.notice TownM.send
      split
      · exact ih
      · exact ih
theorem noticeOf_ps {T T' : TownM} (h : T'.ps = T.ps) (i : Nat) (k : Int) : T'.noticeOf i k = T.noticeOf i k := by unfold TownM.noticeOf; rw [peer_of_ps h]
/-- How many Notices go out below k. -/
def notesTo (i : Nat) : Nat → Nat
  | 0 => 0
  | k + 1 => if k = i then notesTo i k else notesTo i k + 1
theorem notesTo_le (i : Nat) : ∀ k, notesTo i k ≤ k
  | 0 => Nat.le_refl _
  | k + 1 => by have := notesTo_le i k; unfold notesTo; split <;> omega
theorem notesTo_eq (i : Nat) : ∀ k, notesTo i k = if i < k then k - 1 else k
  | 0 => by simp [notesTo]
  | k + 1 => by
    have ih := notesTo_eq i k
    unfold notesTo
    rw [ih]
    split <;> split <;> split <;> omega
theorem noticesTo_way (T : TownM) (i : Nat) : ∀ k : Nat, (T.way.length : Int) + k ≤ T.net → (T.noticesTo i k).way.length = T.way.length + notesTo i k ∧
    (∀ m ∈ (T.noticesTo i k).way, m ∈ T.way ∨ ∃ d : Nat, d < k ∧ d ≠ i ∧ m = T.noticeOf i d) ∧
    (∀ s d : Nat, lastTo s d (T.noticesTo i k).way = if s = i ∧ d < k ∧ d ≠ i then some (T.peer i).vote else lastTo s d T.way)
  | 0, _ => ⟨rfl, fun m hm => .inl hm, fun s d => by rw [if_neg (by omega)]; rfl⟩
  | k + 1, hr => by
    obtain ⟨h1, h2, h3⟩ := noticesTo_way T i k (by omega)
    unfold TownM.noticesTo notesTo
    split
    · rename_i hk
      refine ⟨h1, fun m hm => ?_, fun s d => ?_⟩
      · rcases h2 m hm with h | ⟨d, hd, hne, he⟩
        · exact .inl h
        · exact .inr ⟨d, by omega, hne, he⟩
      · rw [h3]
        by_cases hc : s = i ∧ d < k ∧ d ≠ i
        · rw [if_pos hc, if_pos (by omega)]
        · rw [if_neg hc, if_neg (by omega)]
    · rename_i hk
      have hroom : (((T.noticesTo i k).way.length : Int)) < (T.noticesTo i k).net := by
        rw [h1, (noticesTo_cfg T i k).1]
        have := notesTo_le i k
        omega
      unfold TownM.notice
      rw [send_room hroom, noticeOf_ps (noticesTo_ps T i k)]
      refine ⟨by simp [h1]; omega, fun m hm => ?_, fun s d => ?_⟩
      · rcases List.mem_append.1 hm with hm | hm
        · rcases h2 m hm with h | ⟨d, hd, hne, he⟩
          · exact .inl h
          · exact .inr ⟨d, by omega, hne, he⟩
        · exact .inr ⟨k, by omega, hk, List.mem_singleton.1 hm⟩
      · show lastTo s d ((T.noticesTo i k).way ++ [T.noticeOf i k]) = _
        rw [lastTo_snoc, h3]
        have hf : fromTo s d (T.noticeOf i k) = true ↔ s = i ∧ d = k := by
          unfold fromTo TownM.noticeOf
          simp only [Bool.and_eq_true, beq_iff_eq]
          omega
        by_cases hc : s = i ∧ d = k
        · rw [if_pos (hf.2 hc), Option.some_or, if_pos (show s = i ∧ d < k + 1 ∧ d ≠ i by omega)]
          rfl
        · rw [if_neg (fun h => hc (hf.1 h)), Option.none_or]
          by_cases hd : s = i ∧ d < k ∧ d ≠ i
          · rw [if_pos hd, if_pos (by omega)]
          · rw [if_neg hd, if_neg (by omega)]

/-! ### All are looking -/
def ownV (l : List CredM) (j : Nat) : VoteM := (l.getD j credZ).vote j
/-- A peer that looks, in its first round, at the time 0. -/
def look1 (l : List CredM) (i : Nat) (v : VoteM) (vs : List KnownM) (w : Bool) : PeerM :=
  ⟨(l.getD i credZ).slot 1 ++ List.replicate 28 0, true, -1, 0, l.getD i credZ, 1, v, vs, known7, w, 0, 0, mem7, false⟩
structure Conf (l : List CredM) (wait lease : Int) (T : TownM) : Prop where
  len : T.ps.length = l.length
  wait : T.wait = wait
  lease : T.lease = lease
  net : T.net = 1000
/-- Each message is a Notice of one that looks, in the first round, with a vote that is some peer's for itself. -/
def Note1 (l : List CredM) (m : MsgM) : Prop := ∃ s d j : Nat, s < l.length ∧ d < l.length ∧ j < l.length ∧ s ≠ d ∧ m = ⟨1, s, d, 1, 0, ownV l j, 0, 0⟩
structure Ph1 (l : List CredM) (wait lease : Int) (T : TownM) : Prop where
  conf : Conf l wait lease T
  now : T.now = 0
  ev : T.events = []
  peer : ∀ i, i < l.length → T.peer i = look1 l i (T.peer i).vote (T.peer i).votes (T.peer i).waits
  vlen : ∀ i, i < l.length → (T.peer i).votes.length = 7
  wts : ∀ i, i < l.length → (T.peer i).waits = T.most (T.countTo i T.ps.length)
  vin : ∀ i, i < l.length → ∃ j, j < l.length ∧ (T.peer i).vote = ownV l j
  vge : ∀ i, i < l.length → (ownV l i).better (T.peer i).vote = false
  msgs : ∀ m ∈ T.way, Note1 l m
  pair : ∀ i k, i < l.length → k < l.length → i ≠ k → lastTo k i T.way = some (T.peer k).vote ∨ (lastTo k i T.way = none ∧ (T.peer i).votes.getD k knownZ = ⟨true, (T.peer k).vote, 0⟩ ∧ (T.peer k).vote.better (T.peer i).vote = false)

/-! ### The measure -/
def sumTo (f : Nat → Nat) : Nat → Nat
  | 0 => 0
  | k + 1 => sumTo f k + f k
theorem sumTo_congr {f g : Nat → Nat} : ∀ n, (∀ j, j < n → f j = g j) → sumTo f n = sumTo g n
  | 0, _ => rfl
  | k + 1, h => by rw [sumTo, sumTo, sumTo_congr k (fun j hj => h j (by omega)), h k (by omega)]
theorem sumTo_lt {f g : Nat → Nat} {i : Nat} : ∀ n, i < n → (∀ j, j < n → j ≠ i → g j = f j) → g i < f i → sumTo g n + 1 ≤ sumTo f n
  | 0, h, _, _ => by omega
  | k + 1, h, hs, hl => by
    rw [sumTo, sumTo]
    by_cases hk : i = k
    · subst hk
      rw [sumTo_congr i (fun j hj => hs j (by omega) (by omega))]
      omega
    · have := sumTo_lt k (by omega) (fun j hj hne => hs j (by omega) hne) hl
      rw [hs k (by omega) (fun e => hk e.symm)]
      omega
theorem sumTo_le {f : Nat → Nat} {b : Nat} : ∀ n, (∀ j, j < n → f j ≤ b) → sumTo f n ≤ n * b
  | 0, _ => by simp [sumTo]
  | k + 1, h => by
    rw [sumTo, Nat.succ_mul]
    have := sumTo_le k (fun j hj => h j (by omega))
    have := h k (by omega)
    omega
/-- How many own votes are better than a vote. -/
def rankV (l : List CredM) (v : VoteM) : Nat := sumTo (fun j => if (ownV l j).better v = true then 1 else 0) l.length
theorem sumTo_mono {f g : Nat → Nat} : ∀ n, (∀ j, j < n → g j ≤ f j) → sumTo g n ≤ sumTo f n
  | 0, _ => Nat.le_refl _
  | k + 1, h => by
    rw [sumTo, sumTo]
    have := sumTo_mono k (fun j hj => h j (by omega))
    have := h k (by omega)
    omega
theorem sumTo_strict {f g : Nat → Nat} {i : Nat} : ∀ n, i < n → (∀ j, j < n → g j ≤ f j) → g i < f i → sumTo g n < sumTo f n
  | 0, h, _, _ => by omega
  | k + 1, h, hs, hl => by
    rw [sumTo, sumTo]
    by_cases hk : i = k
    · subst hk
      have := sumTo_mono (f := f) (g := g) i (fun j hj => hs j (by omega))
      omega
    · have := sumTo_strict k (by omega) (fun j hj => hs j (by omega)) hl
      have := hs k (by omega)
      omega
theorem rank_le (l : List CredM) (v : VoteM) : rankV l v ≤ l.length := by
  have := sumTo_le (f := fun j => if (ownV l j).better v = true then 1 else 0) (b := 1) l.length (fun j _ => by split <;> omega)
  unfold rankV; omega
theorem rank_lt {l : List CredM} {v : VoteM} {j : Nat} (hj : j < l.length) (h : (ownV l j).better v = true) : rankV l (ownV l j) < rankV l v := by
  refine sumTo_strict l.length hj (fun k _ => ?_) ?_
  · by_cases hk : (ownV l k).better (ownV l j) = true
    · rw [if_pos hk, if_pos (by rw [better_iff] at *; omega)]
      exact Nat.le_refl _
    · rw [if_neg hk]; omega
  · rw [if_pos h, if_neg (by rw [better_self]; decide)]
    omega
def meas (l : List CredM) (T : TownM) : Nat := T.way.length + (l.length - 1) * sumTo (fun i => rankV l (T.peer i).vote) l.length
end Go.Proofs.YtceappncglfciaaGreat

/-
  Where nothing fails: New, and the first delivery of all messages.
-/
namespace Go.Proofs.YtceappncglfciaaGreat
open TownM

section
variable {T : TownM} {i : Nat}
theorem countTo_ps {T T' : TownM} (h : T'.peer i = T.peer i) : ∀ k, T'.countTo i k = T.countTo i k
  | 0 => rfl
  | k + 1 => by rw [TownM.countTo, TownM.countTo, countTo_ps h k, h]
theorem known7_get (k : Nat) : known7.getD k knownZ = knownZ := by
  unfold known7
  rw [List.getD_eq_getElem?_getD, List.getElem?_replicate]
  split <;> rfl
theorem countTo_none (h : (T.peer i).votes = known7) : ∀ k, T.countTo i k = 1
  | 0 => rfl
  | k + 1 => by
    rw [TownM.countTo, countTo_none h k, h, known7_get]
    simp [knownZ]
theorem count_peer (hi : i < T.ps.length) : (T.count i).peer i = { T.peer i with since := if (T.most (T.countTo i T.ps.length) && !(T.peer i).waits) = true then T.now else (T.peer i).since, waits := T.most (T.countTo i T.ps.length) } := peer_set hi _
theorem count_other {j : Nat} (h : i ≠ j) : (T.count i).peer j = T.peer j := peer_other h _
/-- What looking makes of a peer. -/
def lookP (T : TownM) (i : Nat) : PeerM := { T.peer i with state := 0, round := (T.peer i).round + 1, vote := T.own i, votes := known7, settled := known7, since := if T.most 1 = true then T.now else (T.peer i).since, waits := T.most 1 }
theorem look_peer (hi : i < T.ps.length) : (T.look i).peer i = lookP T i := by
  unfold TownM.look lookP
  rw [count_peer (by rw [notices_ps, setPeer_len]; exact hi), notices_peer, peer_set hi]
  rw [countTo_none (by rw [notices_peer, peer_set hi])]
  unfold TownM.most
  rw [notices_ps, setPeer_len]
  have : ((T.setPeer i { T.peer i with state := 0, round := (T.peer i).round + 1, vote := T.own i, waits := false, votes := known7, settled := known7 }).notices i).now = T.now := noticesTo_now _ _ _
  rw [this]
  simp
theorem look_other {j : Nat} (h : i ≠ j) : (T.look i).peer j = T.peer j := by
  unfold TownM.look
  rw [count_other h, notices_peer, peer_other h]
theorem look_now : (T.look i).now = T.now := by
  unfold TownM.look
  exact noticesTo_now _ _ _
theorem look_cfg : (T.look i).net = T.net ∧ (T.look i).wait = T.wait ∧ (T.look i).lease = T.lease ∧ (T.look i).events = T.events := by
  unfold TownM.look
  exact noticesTo_cfg _ _ _
end

/-! ### New -/
section
variable {l : List CredM} {wait lease : Int}
theorem getD_map_new {k : Nat} (hk : k < l.length) : (l.map TownM.newPeer).getD k peerZ = TownM.newPeer (l.getD k credZ) := by
  simp [List.getD_eq_getElem?_getD, hk]
/-- Behind the first k peers have come up. -/
structure Ph0 (l : List CredM) (wait lease : Int) (k : Nat) (T : TownM) : Prop where
  conf : Conf l wait lease T
  now : T.now = 0
  ev : T.events = []
  up : ∀ i, i < k → T.peer i = look1 l i (ownV l i) known7 (T.most 1)
  down : ∀ i, k ≤ i → i < l.length → T.peer i = TownM.newPeer (l.getD i credZ)
  msgs : ∀ m ∈ T.way, Note1 l m
  last : ∀ s d, d < l.length → lastTo s d T.way = if s < k ∧ d ≠ s then some (ownV l s) else none
  size : T.way.length = k * (l.length - 1)
theorem ph0_start (l : List CredM) (wait lease : Int) : Ph0 l wait lease 0 ⟨wait, lease, 1000, l.map TownM.newPeer, 0, [], []⟩ :=
  ⟨⟨by simp, rfl, rfl, rfl⟩, rfl, rfl, fun i hi => by omega, fun i _ hi => getD_map_new hi, fun m hm => absurd hm List.not_mem_nil, fun s d _ => by rw [if_neg (by omega)]; rfl, by simp⟩
theorem come_eq {T : TownM} {k : Nat} {c : CredM} (hc : c.ok) (hp : T.peer k = TownM.newPeer c) : T.come k = (T.setPeer k ⟨c.slot 1 ++ List.replicate 28 0, true, -1, 3, c, 0, voteZ, known7, known7, false, 0, 0, mem7, false⟩).look k := by
  have hd : (T.peer k).disk = c.slot 1 ++ List.replicate 28 0 := by rw [hp]; rfl
  unfold TownM.come
  dsimp only
  rw [hd, (DiskOK.first hc).newest]
  rw [if_pos (show (0 : Int) ≤ (if (1 : Int) % 2 = 0 then 28 else 0) from by decide)]
theorem ph0_step (hn : l.length ≤ 7) (hc : ∀ c ∈ l, c.ok) {T : TownM} {k : Nat} (hk : k < l.length) (h : Ph0 l wait lease k T) : Ph0 l wait lease (k + 1) (T.come k) := by
  have hck : (l.getD k credZ).ok := hc _ (by rw [List.getD_eq_getElem?_getD]; simp [hk])
  rw [come_eq hck (h.down k (Nat.le_refl _) hk)]
  generalize hpp : (⟨(l.getD k credZ).slot 1 ++ List.replicate 28 0, true, -1, 3, l.getD k credZ, 0, voteZ, known7, known7, false, 0, 0, mem7, false⟩ : PeerM) = pp
  have hi : k < T.ps.length := by rw [h.conf.len]; exact hk
  have hi' : k < (T.setPeer k pp).ps.length := by rw [setPeer_len]; exact hi
  have hpk : (T.setPeer k pp).peer k = pp := peer_set hi pp
  have hmost : (T.setPeer k pp).most 1 = T.most 1 := by unfold TownM.most; rw [setPeer_len]
  have hmost2 : ((T.setPeer k pp).look k).most 1 = T.most 1 := by unfold TownM.most; rw [look_len, setPeer_len]
  have hsz := h.size
  have hsq : k * (l.length - 1) ≤ 6 * 6 := Nat.mul_le_mul (by omega) (by omega)
  have hnet : T.net = 1000 := h.conf.net
  -- the way
  have hS : ∀ q : PeerM, (T.setPeer k q).way = T.way := fun _ => rfl
  have hw := noticesTo_way ((T.setPeer k pp).setPeer k { (T.setPeer k pp).peer k with state := 0, round := ((T.setPeer k pp).peer k).round + 1, vote := (T.setPeer k pp).own k, waits := false, votes := known7, settled := known7 }) k T.ps.length (by
    show ((T.way.length : Int)) + T.ps.length ≤ T.net
    rw [hnet, hsz, h.conf.len]
    omega)
  have hwl : ((T.setPeer k pp).look k).way = (((T.setPeer k pp).setPeer k { (T.setPeer k pp).peer k with state := 0, round := ((T.setPeer k pp).peer k).round + 1, vote := (T.setPeer k pp).own k, waits := false, votes := known7, settled := known7 }).noticesTo k T.ps.length).way := by
    show (TownM.noticesTo _ k ((T.setPeer k pp).setPeer k _).ps.length).way = _
    rw [setPeer_len, setPeer_len]
  rw [← hwl] at hw
  have hpeer : ((T.setPeer k pp).setPeer k { (T.setPeer k pp).peer k with state := 0, round := ((T.setPeer k pp).peer k).round + 1, vote := (T.setPeer k pp).own k, waits := false, votes := known7, settled := known7 }).peer k = { pp with state := 0, round := pp.round + 1, vote := ownV l k, waits := false, votes := known7, settled := known7 } := by
    rw [peer_set hi']
    unfold TownM.own
    rw [hpk, ← hpp]
    rfl
  obtain ⟨w1, w2, w3⟩ := hw
  refine ⟨⟨by rw [look_len, setPeer_len]; exact h.conf.len, look_cfg.2.1.trans h.conf.wait, look_cfg.2.2.1.trans h.conf.lease, look_cfg.1.trans h.conf.net⟩, look_now.trans h.now, look_cfg.2.2.2.trans h.ev, ?_, ?_, ?_, ?_, ?_⟩
  · intro i hik
    rw [hmost2]
    by_cases he : k = i
    · subst he
      rw [look_peer hi']
      unfold lookP
      rw [hpk, hmost]
      have hown : (T.setPeer k pp).own k = ownV l k := by unfold TownM.own; rw [hpk, ← hpp]; rfl
      have hnow : (T.setPeer k pp).now = 0 := h.now
      rw [hown, hnow, ← hpp]
      simp [look1]
    · rw [look_other he, peer_other he]
      exact h.up i (by omega)
  · intro i hki hil
    rw [look_other (by omega), peer_other (by omega)]
    exact h.down i (by omega) hil
  · intro m hm
    rcases w2 m hm with hm | ⟨d, hd, hne, rfl⟩
    · exact h.msgs m hm
    · refine ⟨k, d, k, hk, by rw [← h.conf.len]; exact hd, hk, fun e => hne e.symm, ?_⟩
      unfold TownM.noticeOf
      rw [hpeer, ← hpp]
      rfl
  · intro s d hd
    rw [w3, hpeer]
    show (if s = k ∧ d < T.ps.length ∧ d ≠ k then some (ownV l k) else lastTo s d T.way) = _
    by_cases hs : s = k ∧ d < T.ps.length ∧ d ≠ k
    · rw [if_pos hs, if_pos (by omega), hs.1]
    · rw [if_neg hs, h.last s d hd]
      rw [h.conf.len] at hs
      by_cases h2 : s < k ∧ d ≠ s
      · rw [if_pos h2, if_pos (by omega)]
      · rw [if_neg h2, if_neg (by omega)]
  · rw [w1]
    show T.way.length + notesTo k T.ps.length = _
    rw [notesTo_eq, if_pos hi, hsz, h.conf.len, Nat.succ_mul]
theorem ph0_all (hn : l.length ≤ 7) (hc : ∀ c ∈ l, c.ok) : ∀ k, k ≤ l.length → Ph0 l wait lease k (TownM.comesTo ⟨wait, lease, 1000, l.map TownM.newPeer, 0, [], []⟩ k)
  | 0, _ => ph0_start l wait lease
  | k + 1, hk => ph0_step hn hc (by omega) (ph0_all hn hc k (by omega))
theorem countTo_known {T : TownM} {i : Nat} (h : (T.peer i).votes = known7) : T.countTo i T.ps.length = 1 := countTo_none h _
theorem ph1_new (hn : 1 ≤ l.length ∧ l.length ≤ 7) (hc : ∀ c ∈ l, c.ok) : Ph1 l wait lease (TownM.new wait lease 1000 l) ∧ meas l (TownM.new wait lease 1000 l) ≤ 300 := by
  have h := ph0_all (wait := wait) (lease := lease) hn.2 hc l.length (Nat.le_refl _)
  have hu : ∀ i, i < l.length → (TownM.new wait lease 1000 l).peer i = look1 l i (ownV l i) known7 ((TownM.new wait lease 1000 l).most 1) := fun i hi => h.up i hi
  refine ⟨⟨h.conf, h.now, h.ev, ?_, ?_, ?_, ?_, ?_, h.msgs, ?_⟩, ?_⟩
  · intro i hi
    rw [hu i hi]; rfl
  · intro i hi
    rw [hu i hi]; rfl
  · intro i hi
    rw [countTo_known (by rw [hu i hi]; rfl), hu i hi]; rfl
  · intro i hi
    exact ⟨i, hi, by rw [hu i hi]; rfl⟩
  · intro i hi
    rw [hu i hi]
    exact better_self _
  · intro i k hi hk hne
    left
    have := h.last k i hi
    rw [if_pos ⟨hk, hne⟩] at this
    rw [hu k hk]
    exact this
  · unfold meas
    have h1 := h.size
    have h2 : l.length * (l.length - 1) ≤ 7 * 6 := Nat.mul_le_mul hn.2 (by omega)
    have h3 := sumTo_le (f := fun i => rankV l ((TownM.new wait lease 1000 l).peer i).vote) (b := 6) l.length (fun j hj => by
      show rankV l ((TownM.new wait lease 1000 l).peer j).vote ≤ 6
      rw [hu j hj]
      have a1 : rankV l (ownV l j) < l.length := by
        have h0 := sumTo_le (f := fun _ => 1) (b := 1) l.length (fun _ _ => Nat.le_refl _)
        have := sumTo_strict (f := fun _ => 1) (g := fun k => if (ownV l k).better (ownV l j) = true then 1 else 0) l.length hj (fun k _ => by split <;> omega) (by rw [if_neg (by rw [better_self]; decide)]; omega)
        show sumTo _ _ < _
        omega
      show rankV l (ownV l j) ≤ 6
      omega)
    have h4 : (l.length - 1) * sumTo (fun i => rankV l ((TownM.new wait lease 1000 l).peer i).vote) l.length ≤ 6 * 42 := Nat.mul_le_mul (by omega) (by omega)
    show (TownM.comesTo _ l.length).way.length + _ ≤ 300
    rw [h1]
    omega
end
end Go.Proofs.YtceappncglfciaaGreat

/-
  A peer that goes down says so, keeps its disk, comes up once, and looks.
-/
namespace Go.Proofs.YtceappncglfciaaGreat
open TownM
section
variable {K : Int} {T : TownM} {i : Nat}
theorem is_nat (hi : i < T.ps.length) : T.is (i : Int) = true := by
  unfold TownM.is
  simp only [Bool.and_eq_true, decide_eq_true_eq]
  omega
theorem upE_nat (hi : i < T.ps.length) (b : Bool) : T.upE (i : Int) b = if (T.peer i).up = b then 0 else 2 := by
  unfold TownM.upE
  rw [if_pos (is_nat hi)]
  rfl
/-- A peer behind it has gone down and come up. -/
theorem come_facts (h : Fits K T) (hi : i < T.ps.length) : ((T.come i).peer i).up = true ∧ ((T.come i).peer i).state = 0 ∧ ((T.come i).peer i).disk = (T.peer i).disk := by
  obtain ⟨k, c, hd, _⟩ := (h.peer hi).disk
  unfold TownM.come
  dsimp only
  rw [hd.newest, if_pos (show (0 : Int) ≤ (if k % 2 = 0 then 28 else 0) from by split <;> decide)]
  rw [look_peer (by rw [setPeer_len]; exact hi)]
  unfold lookP
  rw [peer_set hi]
  exact ⟨rfl, rfl, rfl⟩
theorem crash_facts (hi : i < T.ps.length) : ((T.crash i).peer i).up = false ∧ ((T.crash i).peer i).disk = (T.peer i).disk ∧ (T.crash i).ps.length = T.ps.length := by
  unfold TownM.crash
  rw [upE_nat hi]
  cases hu : (T.peer i).up with
  | true =>
    rw [if_pos rfl, if_pos rfl]
    show ((T.setPeer i { T.peer i with up := false, armed := -1 }).peer i).up = false ∧ _
    have : ((i : Int)).toNat = i := rfl
    rw [this, peer_set hi]
    exact ⟨rfl, rfl, setPeer_len _ _ _⟩
  | false =>
    rw [if_neg (by decide)]
    exact ⟨hu, rfl, rfl⟩
/-- What Stays asks of one peer. -/
theorem stays_one (h : Fits K T) (hi : i < T.ps.length) :
    (T.upE i true = 0 ∨ T.upE i true = 2) ∧ (T.crash i).upE i true = 2 ∧ (T.crash i).stateOf i = 0 ∧ (T.crash i).diskOf i = T.diskOf i ∧ (T.crash i).upE i false = 0 ∧
    ((T.crash i).restart i).upE i true = 0 ∧ ((T.crash i).restart i).stateOf i = 0 ∧ ((T.crash i).restart i).diskOf i = T.diskOf i ∧ ((T.crash i).restart i).upE i false = 2 ∧
    ((T.crash i).restart i).restart i = (T.crash i).restart i ∧ Fits (K + 1) ((T.crash i).restart i) ∧ ((T.crash i).restart i).ps.length = T.ps.length := by
  obtain ⟨c1, c2, c3⟩ := crash_facts (T := T) hi
  have hf := h.crash (i : Int)
  have hi1 : i < (T.crash i).ps.length := by rw [c3]; exact hi
  have e1 : (T.crash i).upE i false = 0 := by rw [upE_nat hi1, c1]; rfl
  have e2 : (T.crash i).upE i true = 2 := by rw [upE_nat hi1, c1]; rfl
  have e3 : (T.crash i).restart i = (T.crash i).come i := by unfold TownM.restart; rw [if_pos e1]; rfl
  obtain ⟨d1, d2, d3⟩ := come_facts hf hi1
  have hi2 : i < ((T.crash i).come i).ps.length := by rw [come_len]; exact hi1
  have e4 : ((T.crash i).come i).upE i true = 0 := by rw [upE_nat hi2, d1]; rfl
  have e5 : ((T.crash i).come i).upE i false = 2 := by rw [upE_nat hi2, d1]; rfl
  refine ⟨?_, e2, ?_, ?_, e1, ?_, ?_, ?_, ?_, ?_, ?_, ?_⟩
  · rw [upE_nat hi]
    split
    · exact .inl rfl
    · exact .inr rfl
  · unfold TownM.stateOf; rw [e2]; rfl
  · unfold TownM.diskOf
    rw [if_pos (is_nat hi1), if_pos (is_nat hi)]
    exact c2
  · rw [e3]; exact e4
  · rw [e3]
    unfold TownM.stateOf
    rw [if_pos e4]
    exact d2
  · rw [e3]
    unfold TownM.diskOf
    rw [if_pos (is_nat hi2), if_pos (is_nat hi)]
    show (((T.crash i).come i).peer i).disk = _
    rw [d3]
    exact c2
  · rw [e3]; exact e5
  · rw [e3]
    unfold TownM.restart
    rw [e5]; rfl
  · exact hf.restart _
  · rw [e3, come_len]; exact c3
end
end Go.Proofs.YtceappncglfciaaGreat
