import Derived.Test.YtceappncglfciaaGreatM04
set_option linter.unusedVariables false
set_option linter.unusedSimpArgs false
namespace Go.Proofs.YtceappncglfciaaGreat
section
variable {P:PTown} {T:TownM} {i:Nat}
theorem top_best {n:Nat} {j:List (Option Int)} (r:JRel n i j (T.peer i).mem) (hn:n ≤ 7):∀ k,k ≤ 7 → PeerP.topL (fun _ => false) j ((T.peer i).c.p + 1) k = T.bestTo i (min k n) + 1
 | 0,_ => by simp [PeerP.topL,TownM.bestTo]
 | k + 1,hk => by
  have ih:=top_best r hn k (by omega)
  have hr:=r.at_ k
  rw [PeerP.topL]
  cases ha:atL j k with
  | none =>
   rw [ha] at hr
   simp only [] at hr ⊢
   rw [ih]
   by_cases hkn:k < n
   ·rw [Nat.min_eq_left (by omega),Nat.min_eq_left (by omega),TownM.bestTo,hr]
    simp
   ·rw [Nat.min_eq_right (by omega),Nat.min_eq_right (by omega)]
  | some v =>
   rw [ha] at hr
   obtain ⟨hkn,_,h2,h3⟩:=hr
   simp only [Bool.false_eq_true,if_false]
   rw [ih,Nat.min_eq_left (by omega),Nat.min_eq_left (by omega),TownM.bestTo,h2,h3]
   simp only [Bool.true_and,decide_eq_true_eq]
   split <;> omega
theorem best_ge (T:TownM) (i:Nat):∀ k,(T.peer i).c.p ≤ T.bestTo i k
 | 0 => Int.le_refl _
 | k + 1 => by
  have ih:=best_ge T i k
  rw [TownM.bestTo]
  split
  ·rename_i h
   simp only [Bool.and_eq_true,decide_eq_true_eq] at h
   omega
  ·exact ih
theorem look_setP (hi:i < P.ps.length) (e:Int):(P.setP i { P.peer i with epoch:=e }).look i = P.look i:=by
 rw [look_eq (by rw [PTown.setLen];exact hi),look_eq hi,PTown.setSet,PTown.setLen]
 have:lookPP (P.setP i { P.peer i with epoch:=e }) i = lookPP P i:=by
  unfold lookPP PTown.forItself
  rw [PTown.peerSet hi]
  rfl
 rw [this]
theorem Dk.whole {r:Int} {d:List Int} (h:Dk (1 + r) d) (hr:0 ≤ r) {c:CredM} (hc:c.ok):Dk r (diskWrite d c 28):=by
 obtain ⟨k,c0,hd,hk⟩:=h
 exact ⟨k + 1,c,hd.whole (by omega) hc,by omega⟩
theorem Dk.mono {r r':Int} {d:List Int} (h:Dk r d) (hr:r' ≤ r):Dk r' d:=by
 obtain ⟨k,c0,hd,hk⟩:=h
 exact ⟨k,c0,hd,by omega⟩
theorem Sim.propose (h:Sim P T) (hi:i < P.ps.length) (hu:(P.peer i).up = true) (hs:(P.peer i).state = 2) (hn:P.ps.length ≤ 7) (hnow:Tm P.now) (he:(P.peer i).epoch = 0) (hd:Dk 2 (P.peer i).disk):Sim (P.propose i) (T.propose i):=by
 have hp:=h.ps i hi
 have hiT:i < T.ps.length:=by rw [h.len];exact hi
 obtain ⟨hh,j,a,e1,e2,e3,r1,r2,r3,e4,e5,e6⟩:=hp.lead hu hs
 have htop:(P.peer i).top = T.bestTo i T.ps.length + 1:=by
  unfold PeerP.top
  have:=top_best (T:=T) r2 hn 7 (Nat.le_refl _)
  rw [Nat.min_eq_right hn,hp.c hu] at this
  rw [e2,h.len]
  exact this
 unfold PTown.propose TownM.propose
 simp only []
 have hbc:0 ≤ T.bestTo i T.ps.length:=by
  have:=best_ge T i T.ps.length
  rw [hp.c hu] at this
  have:=hp.cok.1.1
  omega
 obtain ⟨t,ht⟩:∃ t,t = T.bestTo i T.ps.length + 1:=⟨_,rfl⟩
 rw [htop,← ht]
 by_cases hb:1000 < t
 ·rw [if_pos hb,if_pos (by omega),look_setP hi]
  exact h.look hi hu hn hnow
 ·rw [if_neg hb,if_neg (show ¬ 1000 ≤ T.bestTo i T.ps.length from by omega)]
  obtain ⟨p1,hp1⟩:∃ p1:PeerP,p1 = { P.peer i with epoch:=t }:=⟨_,rfl⟩
  obtain ⟨q1,hq1⟩:∃ q1:PeerM,q1 = { T.peer i with epoch:=t }:=⟨_,rfl⟩
  obtain ⟨c1,hc1⟩:∃ c1:CredM,c1 = { (P.peer i).c with p:=t,t:=(i:Int) }:=⟨_,rfl⟩
  have hcok:c1.ok:=by rw [hc1];exact ⟨⟨by show 0 ≤ t;omega,by show t ≤ 4294967295;omega⟩,⟨by show (0:Int) ≤ (i:Int);omega,by show (i:Int) ≤ 4294967295;omega⟩,hp.cok.2.2⟩
  have hu1:p1.up = true:=by rw [hp1];exact hu
  have hs1:PSim P.ps.length i p1 q1:=by
   rw [hp1,hq1]
   refine PSim.ofUp hu hp.disk (h.up hi hu) hp.cok ⟨by show 0 ≤ t;omega,by show t ≤ 4294967295;omega⟩ hp.wf (fun e => absurd hs e) (hp.armed hu) (hp.state hu) (hp.c hu) (hp.round hu) (hp.vote hu) (fun e => ?_) (fun e => ?_) (fun _ => ⟨hh,j,a,e1,e2,e3,r1,r2,r3,e4,rfl,e6⟩)
   ·rw [show (P.peer i).state = 0 from e] at hs;cases hs
   ·rw [show (P.peer i).state = 1 from e] at hs;cases hs
  have hpend:pend (T.peer i) = 0:=by
   unfold pend
   rw [if_neg]
   rw [e5,he]
   simp
  have eP:(P.setP i { P.peer i with epoch:=t }).promise i t i = P.setP i (p1.writeP c1):=by
   unfold PTown.promise PTown.write
   rw [PTown.peerSet hi,PTown.setSet,hp1,hc1]
  have eT:(T.setPeer i { T.peer i with c:={ (T.peer i).c with p:=t,t:=(i:Int) } }).write i = T.setPeer i (wq (T.peer i) c1):=by
   rw [hc1,← hp.c hu]
   exact write_eqT hiT _ _
  rw [eP,eT]
  by_cases ha:(P.peer i).armed = true
  ·rw [if_pos ha,if_neg (fun e => (armed_iff hp hu).1 e ha)]
   have h0:=h.set hi (p:=p1.writeP c1) (q:=wq (T.peer i) c1) ?_ ?_
   ·exact h0
   ·unfold PeerP.writeP wq
    rw [if_pos (by rw [hp1];exact ha),if_neg (fun e => (armed_iff hp hu).1 e ha)]
    refine PSim.zero _ _ ?_ rfl
    rcases hp.armed hu with ⟨h1,_⟩ | ⟨h1,h2,_,_⟩
    ·rw [h1] at ha;cases ha
    ·show diskWrite (T.peer i).disk c1 (T.peer i).armed.toNat = diskWrite p1.disk c1 p1.bytes.toNat
     rw [hp1,hp.disk,h2]
   ·have:=(pot_wq (q:=T.peer i) c1 hcok (by rw [hp.disk];exact hd.mono (by omega)) (armed_le hp hu)).1
    omega
  ·rw [if_neg ha,if_pos ((armed_iff hp hu).2 ha)]
   have hpw:p1.writeP c1 = { p1 with disk:=diskWrite p1.disk c1 28,c:=c1 }:=by
    unfold PeerP.writeP
    rw [if_neg (by rw [hp1];exact ha)]
   have hqw:wq q1 c1 = { q1 with c:=c1,disk:=diskWrite q1.disk c1 28 }:=by
    unfold wq
    rw [if_pos (by rw [hq1];exact (armed_iff hp hu).2 ha)]
   have hqw0:wq (T.peer i) c1 = { T.peer i with c:=c1,disk:=diskWrite (T.peer i).disk c1 28 }:=by
    unfold wq
    rw [if_pos ((armed_iff hp hu).2 ha)]
   have hpot:pot (T.peer i) ≤ pot (wq q1 c1):=by
    have h1:=(pot_wq (q:=T.peer i) c1 hcok (by rw [hp.disk];exact hd.mono (by omega)) (armed_le hp hu)).2 ((armed_iff hp hu).2 ha)
    have h2:=pend_01 (wq q1 c1)
    have h3:pend (wq (T.peer i) c1) = 0:=by
     rw [hqw0];exact hpend
    unfold pot at h1 ⊢
    rw [h3,hpend] at h1
    rw [hpend]
    have h4:(wq q1 c1).disk = (wq (T.peer i) c1).disk:=by rw [hqw,hqw0,hq1]
    rw [h4]
    omega
   have hS:=h.set hi (hs1.write hu1 c1 hcok) hpot
   have eT2:(T.setPeer i (wq (T.peer i) c1)).setPeer i { (T.setPeer i (wq (T.peer i) c1)).peer i with epoch:=t } = T.setPeer i (wq q1 c1):=by
    rw [TownM.peer_set hiT,TownM.set_set,hqw,hqw0,hq1]
   rw [eT2]
   obtain ⟨P2,hP2⟩:∃ P2:PTown,P2 = P.setP i (p1.writeP c1):=⟨_,rfl⟩
   obtain ⟨T2,hT2⟩:∃ T2:TownM,T2 = T.setPeer i (wq q1 c1):=⟨_,rfl⟩
   rw [← hP2,← hT2] at hS ⊢
   have hpp:P2.peer i = { p1 with disk:=diskWrite p1.disk c1 28,c:=c1 }:=by
    rw [hP2,PTown.peerSet hi,hpw]
   have htt:T2.peer i = { q1 with c:=c1,disk:=diskWrite q1.disk c1 28 }:=by
    rw [hT2,TownM.peer_set hiT,hqw]
   have hlen2:P2.ps.length = P.ps.length:=by rw [hP2];exact PTown.setLen _ _
   have hlenT:T2.ps.length = T.ps.length:=by rw [hS.len,hlen2,h.len]
   have hk:keysOf 0 (mapL (P.peer i).joined) = keysOf 0 (mapL (P2.peer i).joined):=by rw [hpp,hp1]
   have hpe:P2.proposalM i = ⟨3,0,0,0,0,voteZ,t,0⟩:=by
    unfold PTown.proposalM
    rw [hpp,hp1]
   rw [hk,proposes_sends,hpe]
   have hS2:=hS.toJoined (by rw [hlen2];exact hi) (by rw [hpp];exact hu1) (by rw [hpp,hp1];exact hs) (by rw [hlen2];exact hn) ⟨3,0,0,0,0,voteZ,t,0⟩ (fun k => ⟨3,i,k,0,0,voteZ,t,0⟩) (fun k => rfl) (fun _ => by show 1 ≤ t;omega)
   rw [hlenT] at hS2
   have hpeer:(P2.sendTo ⟨3,0,0,0,0,voteZ,t,0⟩ i (keysOf 0 (mapL (P2.peer i).joined))).peer i = P2.peer i:=by
    unfold PTown.peer
    rw [sendTo_psP]
   have hl3:(P2.sendTo ⟨3,0,0,0,0,voteZ,t,0⟩ i (keysOf 0 (mapL (P2.peer i).joined))).ps.length = P.ps.length:=by rw [sendTo_psP,hlen2]
   refine hS2.check (by rw [hl3];exact hi) ?_ ?_ (by rw [hl3];exact hn) ?_ ?_
   ·rw [hpeer,hpp];exact hu1
   ·rw [hpeer,hpp,hp1];exact hs
   ·rw [hpeer,hpp,hp1];show 1 ≤ t;omega
   ·rw [hpeer,hpp,hp1]
    exact hd.whole (by decide) hcok
theorem Sim.lead0 (h:Sim P T) (hi:i < P.ps.length) (hu:(P.peer i).up = true):Sim (P.setP i { (P.peer i).become 2 with leadsFrom:=P.now,heard:=some none7,joined:=some none7,acked:=some none7 }) (T.lead0 i):=by
 have hp:=h.ps i hi
 unfold TownM.lead0
 refine h.set hi (PSim.ofUp hu hp.disk (h.up hi hu) hp.cok u0 tm0 (fun e => absurd rfl e) (hp.armed hu) rfl (hp.c hu) (hp.round hu) (hp.vote hu) (fun e => (by cases e)) (fun e => (by cases e)) (fun _ => ⟨none7,none7,none7,rfl,rfl,rfl,HRel.none _,JRel.none _ _,ARel.none _ _,h.now,rfl,rfl⟩)) ?_
 refine pot_le rfl ?_
 have h0:=(pend_01 (T.peer i)).1
 unfold pend at h0 ⊢
 rw [if_neg (c:=(_ = true))] <;> simp_all
theorem Sim.lead (h:Sim P T) (hi:i < P.ps.length) (hu:(P.peer i).up = true) (hn:P.ps.length ≤ 7) (hnow:Tm P.now) (hd:Dk 2 (P.peer i).disk):Sim (P.lead i) (T.lead i):=by
 have h1:=h.lead0 hi hu
 unfold PTown.lead TownM.lead
 simp only []
 rw [h.len]
 by_cases e:P.ps.length = 1
 ·rw [if_pos e,if_pos e]
  refine h1.propose (by rw [PTown.setLen];exact hi) ?_ ?_ (by rw [PTown.setLen];exact hn) hnow ?_ ?_
  ·rw [PTown.peerSet hi];exact hu
  ·rw [PTown.peerSet hi];rfl
  ·rw [PTown.peerSet hi];rfl
  ·rw [PTown.peerSet hi];exact hd
 ·rw [if_neg e,if_neg e];exact h1
theorem Sim.settle (h:Sim P T) (hi:i < P.ps.length) (hu:(P.peer i).up = true) (hn:P.ps.length ≤ 7) (hnow:Tm P.now) (hd:Dk 2 (P.peer i).disk) (hv:0 ≤ (P.peer i).vote.p ∧ (P.peer i).vote.p < P.ps.length):Sim (P.settle i) (if (T.peer i).vote.p = (i:Int) then T.lead i else T.follow i (T.peer i).vote):=by
 have hp:=h.ps i hi
 unfold PTown.settle
 rw [hp.vote hu]
 by_cases e:(P.peer i).vote.p = (i:Int)
 ·rw [if_pos e,if_pos e];exact h.lead hi hu hn hnow hd
 ·rw [if_neg e,if_neg e]
  exact h.follow hi hu _ (k:=(P.peer i).vote.p.toNat) (by omega) (by omega) (by omega)
end
end Go.Proofs.YtceappncglfciaaGreat
namespace Go.Proofs.YtceappncglfciaaGreat
section
variable {P:PTown} {T:TownM} {i:Nat}
theorem setP_self (hi:i < P.ps.length):P.setP i (P.peer i) = P:=by
 unfold PTown.setP PTown.peer
 have:P.ps.set i (P.ps.getD i (PeerP.zeroed [])) = P.ps:=by
  rw [List.getD_eq_getElem?_getD,List.getElem?_eq_getElem hi]
  simp
 rw [this]
theorem PSim.turn {n:Nat} {p:PeerP} {q:PeerM} (hp:PSim n i p q) (hu:p.up = true) (hs:p.state = 0) (r:Int) (v:VoteM) (l:List (Option VoteM)) (ks:List KnownM) (hv:VRel n i l ks) (w:Bool) (hw:w = true → p.waits = true) :
  PSim n i { p with round:=r,votes:=some l,vote:=v,waits:=w } { q with round:=r,votes:=ks,vote:=v,waits:=w }:=by
 obtain ⟨l0,s,hl,hse,hv0,hsr,hww,hsi,hnl⟩:=hp.look hu hs
 refine PSim.ofUp hu hp.disk (hp.up.trans hu) hp.cok hp.ep hp.wf hp.other (hp.armed hu) (hp.state hu) (hp.c hu) rfl rfl (fun _ => ⟨l,s,rfl,hse,hv,hsr,rfl,fun e => hsi (hw e),hnl⟩) (fun e => ?_) (fun e => ?_)
 ·rw [show p.state = 1 from e] at hs;cases hs
 ·rw [show p.state = 2 from e] at hs;cases hs
theorem Sim.told (h:Sim P T) (hi:i < P.ps.length) (hu:(P.peer i).up = true) (hs:(P.peer i).state = 0) (r:Int) (v:VoteM) (l:List (Option VoteM)) (ks:List KnownM) (hv:VRel P.ps.length i l ks) (w:Bool) (hw:w = true → (P.peer i).waits = true) :
  Sim (P.setP i { P.peer i with round:=r,votes:=some l,vote:=v,waits:=w }) (T.setPeer i { T.peer i with round:=r,votes:=ks,vote:=v,waits:=w }):=by
 refine h.set hi ((h.ps i hi).turn hu hs r v l ks hv w hw) (pot_state rfl ?_)
 show (T.peer i).state ≠ 2
 rw [(h.ps i hi).state hu,hs];decide
theorem Sim.known (h:Sim P T) (hi:i < P.ps.length) (hu:(P.peer i).up = true) (hs:(P.peer i).state = 0) (hn:P.ps.length ≤ 7) (hnow:Tm P.now) {k:Nat} (m:MsgM) (hk:m.src = (k:Int)) (hkn:k < P.ps.length) (hki:k ≠ i) :
  Sim ((P.setP i (PTown.voted (P.peer i) m.src m.vote)).count i) ((T.know i m).count i):=by
 have hp:=h.ps i hi
 obtain ⟨l,s,hl,hse,hv,hsr,hw,hsi,hnl⟩:=hp.look hu hs
 have h1:Sim (P.setP i (PTown.voted (P.peer i) m.src m.vote)) (T.know i m):=by
  unfold PTown.voted TownM.know
  rw [hl,hk,Int.toNat_natCast]
  refine h.set hi ?_ (pot_state rfl ?_)
  ·refine PSim.ofUp hu hp.disk (h.up hi hu) hp.cok hp.ep hp.wf hp.other (hp.armed hu) (hp.state hu) (hp.c hu) (hp.round hu) (hp.vote hu) (fun _ => ⟨_,s,rfl,hse,hv.set hkn hn hki m.vote 0,hsr,hw,hsi,hnl⟩) (fun e => ?_) (fun e => ?_)
   ·rw [show (P.peer i).state = 1 from e] at hs;cases hs
   ·rw [show (P.peer i).state = 2 from e] at hs;cases hs
  ·show (T.peer i).state ≠ 2
   rw [hp.state hu,hs];decide
 refine h1.count (by rw [PTown.setLen];exact hi) ?_ ?_ (by rw [PTown.setLen];exact hn) hnow
 ·rw [PTown.peerSet hi];exact hu
 ·rw [PTown.peerSet hi];exact hs
theorem Sim.compare (h:Sim P T) (hi:i < P.ps.length) (hu:(P.peer i).up = true) (hs:(P.peer i).state = 0) (hn:P.ps.length ≤ 7) (hnow:Tm P.now) {k:Nat} (m:MsgM) (hk:m.src = (k:Int)) (hkn:k < P.ps.length) (hki:k ≠ i):Sim (P.compare i m) (T.looking i m):=by
 have hp:=h.ps i hi
 obtain ⟨l,s,hl,hse,hv,hsr,hw,hsi,hnl⟩:=hp.look hu hs
 unfold PTown.compare TownM.looking
 rw [hp.round hu]
 by_cases hr:m.round < (P.peer i).round
 ·rw [if_pos hr,if_pos hr]
  exact h.tellOne hi hu (by omega)
 ·rw [if_neg hr,if_neg hr]
  simp only []
  obtain ⟨P1,hP1⟩:∃ P1,P1 = (if (P.peer i).round < m.round then P.enter i m.round (P.betterThan i m.vote) else if m.vote.better (P.peer i).vote = true then P.choose i m.vote else P):=⟨_,rfl⟩
  rw [← hP1]
  have key:Sim P1 (T.take2 i m) ∧ P1.ps.length = P.ps.length ∧ (P1.peer i).up = true ∧ (P1.peer i).state = 0 ∧ P1.now = P.now:=by
   have hown:T.own i = P.forItself i:=by unfold TownM.own PTown.forItself;rw [hp.c hu]
   by_cases h1:(P.peer i).round < m.round
   ·rw [if_pos h1] at hP1
    have eb:T.base i m = P.forItself i:=by unfold TownM.base;rw [hp.round hu,if_pos h1,hown]
    have ef:T.fresh i m = true:=by unfold TownM.fresh;rw [hp.round hu];simp [h1]
    have ev:T.voteOn i m = P.betterThan i m.vote:=by unfold TownM.voteOn TownM.good PTown.betterThan;rw [eb]
    have evs:T.votesOn i m = known7:=by unfold TownM.votesOn;rw [hp.round hu,if_pos h1]
    have h2:=h.told hi hu hs m.round (P.betterThan i m.vote) none7 known7 (VRel.none _ _) false (fun e => by cases e)
    have h3:=h2.tellAll (i:=i) (by rw [PTown.setLen];exact hi) (by rw [PTown.peerSet hi];exact hu)
    rw [PTown.setLen] at h3
    have eP:P1 = (P.setP i { P.peer i with round:=m.round,votes:=some none7,vote:=P.betterThan i m.vote,waits:=false }).tell i (PTown.othersTo i P.ps.length):=by
     rw [hP1]
     unfold PTown.enter PTown.choose
     simp only [PTown.peerSet hi,PTown.setSet,PTown.setLen]
    have eT:T.take2 i m = (T.setPeer i { T.peer i with round:=m.round,votes:=known7,vote:=P.betterThan i m.vote,waits:=false }).notices i:=by
     unfold TownM.take2 TownM.take1
     rw [if_pos ef,ef,ev,evs]
     simp only [Bool.not_true,Bool.and_false]
    rw [eP,eT]
    refine ⟨h3,?_,?_,?_,?_⟩
    ·rw [tell_ps,PTown.setLen]
    ·rw [tell_peer,PTown.peerSet hi];exact hu
    ·rw [tell_peer,PTown.peerSet hi];exact hs
    ·rw [(Fr.tell _).now];rfl
   ·rw [if_neg h1] at hP1
    have hre:m.round = (P.peer i).round:=by omega
    have eb:T.base i m = (P.peer i).vote:=by unfold TownM.base;rw [hp.round hu,if_neg h1,hp.vote hu]
    have evs:T.votesOn i m = (T.peer i).votes:=by unfold TownM.votesOn;rw [hp.round hu,if_neg h1]
    by_cases h2:m.vote.better (P.peer i).vote = true
    ·rw [if_pos h2] at hP1
     have eg:T.good i m = true:=by unfold TownM.good;rw [eb];exact h2
     have ef:T.fresh i m = true:=by unfold TownM.fresh;rw [eg];simp
     have ev:T.voteOn i m = m.vote:=by unfold TownM.voteOn;rw [if_pos eg]
     have h3:=h.told hi hu hs m.round m.vote l (T.peer i).votes hv false (fun e => by cases e)
     have h4:=h3.tellAll (i:=i) (by rw [PTown.setLen];exact hi) (by rw [PTown.peerSet hi];exact hu)
     rw [PTown.setLen] at h4
     have eP:P1 = (P.setP i { P.peer i with round:=m.round,votes:=some l,vote:=m.vote,waits:=false }).tell i (PTown.othersTo i P.ps.length):=by
      rw [hP1]
      unfold PTown.choose
      rw [hre,← hl]
     have eT:T.take2 i m = (T.setPeer i { T.peer i with round:=m.round,votes:=(T.peer i).votes,vote:=m.vote,waits:=false }).notices i:=by
      unfold TownM.take2 TownM.take1
      rw [if_pos ef,ef,ev,evs]
      simp only [Bool.not_true,Bool.and_false]
     rw [eP,eT]
     refine ⟨h4,?_,?_,?_,?_⟩
     ·rw [tell_ps,PTown.setLen]
     ·rw [tell_peer,PTown.peerSet hi];exact hu
     ·rw [tell_peer,PTown.peerSet hi];exact hs
     ·rw [(Fr.tell _).now];rfl
    ·rw [if_neg h2] at hP1
     have eg:T.good i m = false:=by unfold TownM.good;rw [eb];simpa using h2
     have ef:T.fresh i m = false:=by unfold TownM.fresh;rw [eg,hp.round hu];simp [h1]
     have ev:T.voteOn i m = (P.peer i).vote:=by unfold TownM.voteOn;rw [if_neg (by rw [eg];simp),eb]
     have h3:=h.told hi hu hs m.round (P.peer i).vote l (T.peer i).votes hv (P.peer i).waits (fun e => e)
     have eP:P1 = P.setP i { P.peer i with round:=m.round,votes:=some l,vote:=(P.peer i).vote,waits:=(P.peer i).waits }:=by
      rw [hP1,hre,← hl]
      exact (setP_self hi).symm
     have eT:T.take2 i m = T.setPeer i { T.peer i with round:=m.round,votes:=(T.peer i).votes,vote:=(P.peer i).vote,waits:=(P.peer i).waits }:=by
      unfold TownM.take2 TownM.take1
      rw [if_neg (by rw [ef];simp),ef,ev,evs,hw]
      simp only [Bool.not_false,Bool.and_true]
     rw [eP,eT]
     refine ⟨h3,PTown.setLen _ _,?_,?_,rfl⟩
     ·rw [PTown.peerSet hi];exact hu
     ·rw [PTown.peerSet hi];exact hs
  obtain ⟨k1,k2,k3,k4,k5⟩:=key
  exact k1.known (by rw [k2];exact hi) k3 k4 (by rw [k2];exact hn) (by rw [k5];exact hnow) m hk (by rw [k2];exact hkn) hki
theorem behind_less {g g':Nat → Bool}:∀ n,(∀ k,k < n → g k = true → g' k = true) → behind (fun _ => false) g n ≤ behind (fun _ => false) g' n
 | 0,_ => Nat.le_refl _
 | n + 1,h => by
  have ih:=behind_less (g:=g) (g':=g') n (fun k hk => h k (by omega))
  rw [behind,behind]
  simp only [Bool.not_false,Bool.true_and]
  by_cases e:g n = true
  ·rw [if_pos e,if_pos (h n (by omega) e)];omega
  ·rw [if_neg e];split <;> omega
theorem leads_only {n:Nat} {ks:List KnownM} (hl:ks.length = 7) {j:Nat} (hj:j < 7) (v:VoteM) (s:Int) (x:Nat) (hx:v.p ≠ (x:Int)) (h0:leadsQ n i ks x = false):leadsQ n i (ks.set j ⟨true,v,s⟩) x = false:=by
 cases hc:leadsQ n i (ks.set j ⟨true,v,s⟩) x with
 | false => rfl
 | true =>
  exfalso
  unfold leadsQ at hc
  simp only [Bool.and_eq_true,decide_eq_true_eq] at hc
  obtain ⟨c1,c2,c3,c4,c5⟩:=hc
  have hg:∀ k,(ks.set j ⟨true,v,s⟩).getD k knownZ = if k = j then ⟨true,v,s⟩ else ks.getD k knownZ:=fun k => getD_set ks j k _ _ (by omega)
  have hxj:x ≠ j:=by
   intro e
   rw [hg x,if_pos e] at c5
   exact hx (by simpa using c5)
  rw [hg x,if_neg hxj] at c3 c4 c5
  have hle:behind (fun _ => false) (fun k => ((ks.set j ⟨true,v,s⟩).getD k knownZ).is && ((ks.set j ⟨true,v,s⟩).getD k knownZ).vote.p == (x:Int)) n ≤ behind (fun _ => false) (fun k => (ks.getD k knownZ).is && (ks.getD k knownZ).vote.p == (x:Int)) n:=by
   refine behind_less n (fun k _ hk => ?_)
   rw [hg k] at hk
   by_cases e:k = j
   ·rw [if_pos e] at hk
    exfalso
    exact hx (by simpa using hk)
   ·rw [if_neg e] at hk;exact hk
  have:leadsQ n i ks x = true:=by
   unfold leadsQ
   simp only [Bool.and_eq_true,decide_eq_true_eq]
   exact ⟨c1,by omega,c3,c4,c5⟩
  rw [this] at h0;cases h0
theorem voting_eq {n:Nat} {p:PeerP} {s:List (Option (VoteM × Int))} {ks:List KnownM} (hs:p.settled = some s) (r:SRel n i s ks) (hn:n ≤ 7) (x:Int):p.voting x = (behind (fun _ => false) (fun k => (ks.getD k knownZ).is && (ks.getD k knownZ).vote.p == x) n:Nat):=by
 unfold PeerP.voting
 have hf:∀ k,p.votingF x k = (match atL s k with | some v => v.1.p == x | none => false):=fun k => by unfold PeerP.votingF;rw [hs];rfl
 rw [behind_cut _ n (fun k hk => ?_) 7 hn]
 ·rw [behind_congr n (fun k hk => ?_)]
  rw [hf]
  have:=r.at_ k
  cases ha:atL s k with
  | none => rw [ha] at this;simp only [] at this;simp only [this];simp
  | some v =>
   rw [ha] at this
   obtain ⟨_,_,h3,h4,_⟩:=this
   simp only [h3,h4]
   simp
 ·rw [hf]
  have:=r.at_ k
  cases ha:atL s k with
  | none => rfl
  | some v => rw [ha] at this;have:=this.1;omega
theorem find_one {f:Nat → Bool} {n x:Nat} (hx:x < n) (h:f x = true) (h1:∀ y,y < n → y ≠ x → f y = false):(List.range n).find? f = some x:=by
 cases hf:(List.range n).find? f with
 | none =>
  have:=List.find?_eq_none.1 hf x (List.mem_range.2 hx)
  exact absurd h this
 | some y =>
  have h2:=List.find?_some hf
  have h3:=List.mem_range.1 (List.mem_of_find?_eq_some hf)
  by_cases e:y = x
  ·rw [e]
  ·rw [h1 y h3 e] at h2;cases h2
theorem Sim.keep (h:Sim P T) (hi:i < P.ps.length) (hu:(P.peer i).up = true) (hs:(P.peer i).state = 0) (hn:P.ps.length ≤ 7) {k:Nat} (m:MsgM) (hk:m.src = (k:Int)) (hkn:k < P.ps.length) (hki:k ≠ i) {x:Nat} (hx:m.vote.p = (x:Int)) (hxn:x < P.ps.length):Sim (P.keep i m) (T.settled i m):=by
 have hp:=h.ps i hi
 have hiT:i < T.ps.length:=by rw [h.len];exact hi
 obtain ⟨l,s,hl,hse,hv,hsr,hw,hsi,hnl⟩:=hp.look hu hs
 obtain ⟨p1,hp1⟩:∃ p1,p1 = PTown.stands (P.peer i) m.src m.vote m.state:=⟨_,rfl⟩
 obtain ⟨q1,hq1⟩:∃ q1:PeerM,q1 = { T.peer i with settled:=(T.peer i).settled.set m.src.toNat ⟨true,m.vote,m.state⟩ }:=⟨_,rfl⟩
 obtain ⟨s1,hs1⟩:∃ s1,s1 = s.set k (some (m.vote,m.state)):=⟨_,rfl⟩
 have hsrc:m.src.toNat = k:=by omega
 have hse1:p1.settled = some s1:=by
  rw [hp1,hs1]
  unfold PTown.stands
  simp only [hse,hsrc]
  rfl
 have hq1s:q1.settled = (T.peer i).settled.set k ⟨true,m.vote,m.state⟩:=by rw [hq1,hsrc]
 have hsr1:SRel P.ps.length i s1 q1.settled:=by
  rw [hs1,hq1s];exact hsr.set hkn hn hki m.vote m.state
 have hother:∀ y,y < P.ps.length → y ≠ x → leadsQ P.ps.length i q1.settled y = false:=by
  intro y hy hyx
  rw [hq1s]
  exact leads_only hsr.len.2 (by omega) m.vote m.state y (by omega) (hnl y hy)
 unfold PTown.keep TownM.settled
 rw [← hp1,← hq1]
 simp only []
 have hpeT:(T.setPeer i q1).peer i = q1:=TownM.peer_set hiT _
 have hfun:(T.setPeer i q1).leads i = leadsQ P.ps.length i q1.settled:=by
  funext y
  unfold TownM.leads leadsQ
  rw [settledTo_behind,hpeT,TownM.setPeer_len,h.len]
  unfold TownM.most
  rw [TownM.setPeer_len,h.len]
 rw [hfun,h.len,hpeT]
 have hps:(∀ y,y < P.ps.length → leadsQ P.ps.length i q1.settled y = false) → PSim P.ps.length i p1 q1:=by
  intro hall
  rw [hp1,hq1]
  refine PSim.ofUp hu hp.disk (h.up hi hu) hp.cok hp.ep hp.wf hp.other (hp.armed hu) (hp.state hu) (hp.c hu) (hp.round hu) (hp.vote hu) (fun _ => ⟨l,s1,hl,?_,hv,?_,hw,hsi,?_⟩) (fun e => ?_) (fun e => ?_)
  ·rw [← hse1,hp1]
  ·rw [hq1] at hsr1;exact hsr1
  ·rw [hq1] at hall;exact hall
  ·rw [show (P.peer i).state = 1 from e] at hs;cases hs
  ·rw [show (P.peer i).state = 2 from e] at hs;cases hs
 have hq2:q1.state ≠ 2:=by
  rw [hq1];show (T.peer i).state ≠ 2
  rw [hp.state hu,hs];decide
 have hstay:(∀ y,y < P.ps.length → leadsQ P.ps.length i q1.settled y = false) → Sim (P.setP i p1) (match (List.range P.ps.length).find? (leadsQ P.ps.length i q1.settled) with | some x => (T.setPeer i q1).follow i (q1.settled.getD x knownZ).vote | none => T.setPeer i q1):=by
  intro hall
  have:(List.range P.ps.length).find? (leadsQ P.ps.length i q1.settled) = none:=by
   rw [List.find?_eq_none]
   intro y hy
   rw [hall y (List.mem_range.1 hy)]
   simp
  rw [this]
  exact h.set hi (hps hall) (pot_state (by rw [hq1]) hq2)
 have hlead:leadsQ P.ps.length i q1.settled x = (match atL s1 x with | some z => P.most (p1.voting m.vote.p) && (z.2 == 2 && z.1.p == m.vote.p) | none => false):=by
  have r:=hsr1.at_ x
  unfold leadsQ
  cases ha:atL s1 x with
  | none => rw [ha] at r;simp only [] at r;simp only [r];simp
  | some z =>
   rw [ha] at r
   obtain ⟨_,r2,r3,r4,r5⟩:=r
   simp only [r3,r4,r5]
   rw [voting_eq hse1 hsr1 hn,hx]
   simp [r2,PTown.most]
 rw [hse1,show mapL (some s1) = s1 from rfl,show m.vote.p.toNat = x from by omega]
 cases ha:atL s1 x with
 | none =>
  simp only []
  rw [ha] at hlead
  refine hstay (fun y hy => ?_)
  by_cases e:y = x
  ·rw [e];exact hlead
  ·exact hother y hy e
 | some z =>
  simp only []
  rw [ha] at hlead
  simp only [] at hlead
  by_cases hc:(P.most (p1.voting m.vote.p) && (z.2 == 2 && z.1.p == m.vote.p)) = true
  ·rw [if_pos hc]
   rw [hc] at hlead
   rw [find_one hxn hlead hother]
   simp only []
   have r:=hsr1.at_ x
   rw [ha] at r
   obtain ⟨_,r2,r3,r4,r5⟩:=r
   rw [r4]
   simp only [Bool.and_eq_true,beq_iff_eq] at hc
   have hzp:z.1.p = (x:Int):=by rw [hc.2.2,hx]
   have e1:(P.setP i p1).follow i z.1 = P.follow i z.1:=by
    rw [follow_eq (by rw [PTown.setLen];exact hi),follow_eq hi,PTown.setSet]
    have:followP (P.setP i p1) i z.1 = followP P i z.1:=by
     unfold followP
     rw [PTown.peerSet hi,hp1]
     rfl
    rw [this,PTown.peerSet hi,hp1]
    rfl
   rw [e1]
   -- the other town: what was kept lies where nothing is asked any more
   have hx7:x < 7:=by omega
   have hsim:=h.follow hi hu z.1 hzp hx7 r2
   rw [follow_eq hi] at hsim ⊢
   unfold TownM.follow at hsim ⊢
   rw [hpeT]
   have hc2:q1.c = (T.peer i).c:=by rw [hq1]
   rw [hc2,TownM.set_set]
   rw [hp.c hu] at hsim ⊢
   have hf:Sim (P.setP i (followP P i z.1)) (T.setPeer i { q1 with state:=1,vote:=z.1,since:=T.now }):=by
    refine h.set hi ?_ (pot_state (by rw [hq1]) n12)
    have ht:z.1.p.toNat = x:=by omega
    have hl7:(none7:List (Option Int)).length = 7:=rfl
    rw [hq1]
    refine PSim.ofUp hu hp.disk (h.up hi hu) hp.cok u0 tm0 (fun _ => ⟨rfl,rfl,rfl⟩) (hp.armed hu) rfl (hp.c hu) (hp.round hu) rfl (fun e => by cases e) (fun _ => ⟨_,rfl,?_,?_,?_⟩) (fun e => by cases e)
    ·simp [hl7]
    ·show atL (none7.set z.1.p.toNat (some P.now)) z.1.p.toNat = some T.now
     rw [ht,atL_set _ _ _ _ (by omega),if_pos rfl,h.now]
    ·intro j t hj
     rw [ht,atL_set _ _ _ _ (by omega)] at hj
     show j = z.1.p.toNat
     by_cases e:j = x
     ·rw [e,ht]
     ·rw [if_neg e,atL_none7] at hj;cases hj
   refine hf.send ⟨?_,fun e => ?_⟩
   ·show (i:Int) ≠ z.1.p
    omega
   ·rcases e with e | e <;> cases e
  ·rw [if_neg hc]
   have hc':(P.most (p1.voting m.vote.p) && (z.2 == 2 && z.1.p == m.vote.p)) = false:=by simpa using hc
   rw [hc'] at hlead
   refine hstay (fun y hy => ?_)
   by_cases e:y = x
   ·rw [e];exact hlead
   ·exact hother y hy e
end
end Go.Proofs.YtceappncglfciaaGreat
