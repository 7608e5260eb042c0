import Derived.Test.YtceappncglfciaaGreatM05
set_option linter.unusedVariables false
set_option linter.unusedSimpArgs false
namespace Go.Proofs.YtceappncglfciaaGreat
structure Comes (n i k x:Nat) (m:MsgM):Prop where
 src:m.src = (k:Int)
 kn:k < n
 ki:k ≠ i
 vote:m.vote.p = (x:Int)
 xn:x < n
 epoch:U32 m.epoch
 news:U32 m.news
 ep:m.kind = 3 ∨ m.kind = 4 → 1 ≤ m.epoch
section
variable {P:PTown} {T:TownM} {i k x:Nat} {m:MsgM}
theorem Sim.notice (h:Sim P T) (hi:i < P.ps.length) (hu:(P.peer i).up = true) (hm:Comes P.ps.length i k x m):Sim (P.answerNotice i m) (if m.state = 0 then T.notice i m.src else T):=by
 unfold PTown.answerNotice
 by_cases e:m.state = 0
 ·rw [if_pos e,if_pos e]
  refine h.tellOne hi hu ?_
  have:=hm.src
  have:=hm.ki
  omega
 ·rw [if_neg e,if_neg e];exact h
theorem PSim.heardF {n:Nat} {p:PeerP} {q:PeerM} (hp:PSim n i p q) (hu:p.up = true) (hs:p.state = 1) (hn:n ≤ 7) (hk:k < n) (hv:p.vote.p = (k:Int)) (now:Int):PSim n i (PTown.hearOf p (k:Int) now) { q with since:=now }:=by
 obtain ⟨l,e1,e2,e3,e4⟩:=hp.fol hu hs
 unfold PTown.hearOf
 refine PSim.ofUp hu hp.disk (hp.up.trans hu) hp.cok hp.ep hp.wf hp.other (hp.armed hu) (hp.state hu) (hp.c hu) (hp.round hu) (hp.vote hu) (fun e => ?_) (fun _ => ⟨_,rfl,?_,?_,?_⟩) (fun e => ?_)
 ·rw [show p.state = 0 from e] at hs;cases hs
 ·rw [e1];simp [mapL,e2]
 ·rw [e1,show mapL (some l) = l from rfl,Int.toNat_natCast]
  show atL (l.set k (some now)) p.vote.p.toNat = some now
  rw [hv,Int.toNat_natCast,atL_set _ _ _ _ (by omega),if_pos rfl]
 ·intro y t hy
  rw [e1,show mapL (some l) = l from rfl,Int.toNat_natCast,atL_set _ _ _ _ (by omega)] at hy
  show y = p.vote.p.toNat
  by_cases e:y = k
  ·rw [hv,e,Int.toNat_natCast]
  ·rw [if_neg e] at hy;exact e4 y t hy
 ·rw [show p.state = 2 from e] at hs;cases hs
theorem Sim.touch (h:Sim P T) (hi:i < P.ps.length) (hu:(P.peer i).up = true) (hs:(P.peer i).state = 1) (hn:P.ps.length ≤ 7) (hm:Comes P.ps.length i k x m) (hv:m.src = (P.peer i).vote.p):Sim (P.noteHeard i m.src) (T.touch i):=by
 have hp:=h.ps i hi
 unfold PTown.noteHeard TownM.touch
 rw [hm.src,h.now]
 refine h.set hi (hp.heardF hu hs hn hm.kn (by rw [← hv,hm.src]) P.now) (pot_state rfl ?_)
 show (T.peer i).state ≠ 2
 rw [hp.state hu,hs];decide
theorem Sim.acks (h:Sim P T) (hi:i < P.ps.length) (hu:(P.peer i).up = true) (hki:k ≠ i) (hk:m.src = (k:Int)) (he:1 ≤ m.epoch):Sim (P.ack i m) (T.ackTo i m):=by
 have hp:=h.ps i hi
 unfold PTown.ack TownM.ackTo
 have:T.own i = P.forItself i:=by unfold TownM.own PTown.forItself;rw [hp.c hu]
 rw [this]
 refine h.send ⟨?_,fun _ => he⟩
 show (i:Int) ≠ m.src
 omega
theorem noteHeard_peer (hi:i < P.ps.length) (s:Int):(P.noteHeard i s).peer i = PTown.hearOf (P.peer i) s P.now:=PTown.peerSet hi _
theorem Sim.fromLeader (h:Sim P T) (hi:i < P.ps.length) (hu:(P.peer i).up = true) (hs:(P.peer i).state = 1) (hn:P.ps.length ≤ 7) (hnow:Tm P.now) (hd:Dk 1 (P.peer i).disk) (hm:Comes P.ps.length i k x m) (hv:m.src = (P.peer i).vote.p):Sim (P.getFromLeader i m) (T.following i m):=by
 have hp:=h.ps i hi
 have hiT:i < T.ps.length:=by rw [h.len];exact hi
 have ht:=h.touch hi hu hs hn hm hv
 have hq2:(T.peer i).state ≠ 2:=by rw [hp.state hu,hs];decide
 have hpe:pend { T.peer i with since:=T.now } ≤ pend (T.peer i):=Int.le_refl _
 have hp1:=hp.heardF hu hs hn hm.kn (by rw [← hv,hm.src]) P.now
 have hl1:(P.noteHeard i m.src).ps.length = P.ps.length:=PTown.setLen _ _
 have hu1:((P.noteHeard i m.src).peer i).up = true:=by rw [noteHeard_peer hi];exact hu
 have hc1:((P.noteHeard i m.src).peer i).c = (P.peer i).c:=by rw [noteHeard_peer hi];rfl
 unfold PTown.getFromLeader TownM.following
 by_cases k3:m.kind = 3
 ·rw [if_pos k3,if_neg (by omega),if_neg (by omega),if_pos k3]
  have he:=hm.ep (.inl k3)
  unfold PTown.answerPropose
  have ha1:((P.noteHeard i m.src).peer i).armed = (P.peer i).armed:=by rw [noteHeard_peer hi];rfl
  rw [hc1,hp.c hu,ha1]
  by_cases hlt:(P.peer i).c.p < m.epoch
  ·rw [if_pos hlt,if_pos hlt]
   simp only []
   have hcok:CredM.ok { (P.peer i).c with p:=m.epoch,t:=m.src }:=by
    refine ⟨hm.epoch,⟨?_,?_⟩,hp.cok.2.2⟩
    ·show 0 ≤ m.src
     have:=hm.src;omega
    ·show m.src ≤ 4294967295
     have:=hm.src;have:=hm.kn;omega
   have hw:=h.write hi (p:=PTown.hearOf (P.peer i) (k:Int) P.now) (q:={ T.peer i with since:=P.now }) hp1 hu rfl (Int.le_refl _) { (P.peer i).c with p:=m.epoch,t:=m.src } hcok hd
   have eP:(P.noteHeard i m.src).promise i m.epoch m.src = (P.setP i (PTown.hearOf (P.peer i) (k:Int) P.now)).write i { (P.peer i).c with p:=m.epoch,t:=m.src }:=by
    unfold PTown.promise
    rw [hc1]
    unfold PTown.noteHeard
    rw [hm.src]
   rw [eP,h.now]
   by_cases ha:(P.peer i).armed = true
   ·rw [if_pos ha,if_neg (fun e => (armed_iff hp hu).1 e ha)]
    exact hw
   ·rw [if_neg ha,if_pos ((armed_iff hp hu).2 ha)]
    refine hw.acks (k:=k) ?_ ?_ hm.ki hm.src he
    ·show i < ((P.setP i _).setP i _).ps.length
     rw [PTown.setLen,PTown.setLen];exact hi
    ·unfold PTown.write
     rw [PTown.setSet,PTown.peerSet hi,PTown.peerSet hi]
     unfold PeerP.writeP
     rw [if_neg (by exact ha)]
     exact hu
  ·rw [if_neg hlt,if_neg hlt]
   have hprom:((P.noteHeard i m.src).peer i).hasPromised m.epoch m.src = true ↔ ((P.peer i).c.p = m.epoch ∧ (P.peer i).c.t = m.src):=by
    unfold PeerP.hasPromised
    rw [hc1]
    simp
   by_cases hpr:(P.peer i).c.p = m.epoch ∧ (P.peer i).c.t = m.src
   ·rw [if_pos (hprom.2 hpr),if_pos hpr]
    exact ht.acks (by rw [hl1];exact hi) hu1 hm.ki hm.src he
   ·rw [if_neg (fun e => hpr (hprom.1 e)),if_neg hpr]
    exact ht.look (by rw [hl1];exact hi) hu1 (by rw [hl1];exact hn) hnow
 ·rw [if_neg k3]
  by_cases k5:m.kind = 5
  ·rw [if_pos k5,if_neg (by omega),if_pos k5]
   unfold PTown.takeWelcome PeerP.hasPromised
   rw [hp.c hu]
   by_cases hc:(P.peer i).c.p = m.epoch ∧ (P.peer i).c.t = m.src ∧ (P.peer i).c.e ≠ m.epoch
   ·rw [if_neg (by simp [hc.1,hc.2.1,hc.2.2]),if_pos hc,h.now]
    have hcok:CredM.ok { (P.peer i).c with e:=m.epoch,v:=m.news }:=⟨hp.cok.1,hp.cok.2.1,hm.epoch,hm.news⟩
    have hw:=h.write hi (p:=PTown.hearOf (P.peer i) (k:Int) P.now) (q:={ T.peer i with since:=P.now }) hp1 hu rfl (Int.le_refl _) { (P.peer i).c with e:=m.epoch,v:=m.news } hcok hd
    unfold PTown.noteHeard
    rw [hm.src]
    exact hw
   ·rw [if_pos ?_,if_neg hc]
    ·exact h
    ·by_cases e1:(P.peer i).c.p = m.epoch
     ·by_cases e2:(P.peer i).c.t = m.src
      ·have e3:(P.peer i).c.e = m.epoch:=by
        by_cases e3:(P.peer i).c.e = m.epoch
        ·exact e3
        ·exact absurd ⟨e1,e2,e3⟩ hc
       simp [e3]
      ·simp [e2]
     ·simp [e1]
  ·rw [if_neg k5]
   by_cases k6:m.kind = 6
   ·rw [if_pos k6,if_pos k6]
    refine ht.send ⟨?_,fun e => ?_⟩
    ·show (i:Int) ≠ m.src
     have:=hm.src;have:=hm.ki;omega
    ·rcases e with e | e <;> cases e
   ·rw [if_neg k6,if_neg k6,if_neg k5,if_neg k3];exact h
theorem PSim.heardL {n:Nat} {p:PeerP} {q:PeerM} (hp:PSim n i p q) (hu:p.up = true) (hs:p.state = 2) (hn:n ≤ 7) (hk:k < n) (now:Int):PSim n i (PTown.hearOf p (k:Int) now) { q with mem:=q.mem.set k { q.mem.getD k memZ with heard:=true,at_:=now } }:=by
 obtain ⟨hh,j,a,e1,e2,e3,r1,r2,r3,e4,e5,e6⟩:=hp.lead hu hs
 unfold PTown.hearOf
 refine PSim.ofUp hu hp.disk (hp.up.trans hu) hp.cok hp.ep hp.wf hp.other (hp.armed hu) (hp.state hu) (hp.c hu) (hp.round hu) (hp.vote hu) (fun e => ?_) (fun e => ?_) (fun _ => ⟨_,j,a,rfl,e2,e3,?_,r2.stay (by omega) _ rfl rfl,r3.stay (by omega) _ rfl,e4,e5,e6⟩)
 ·rw [show p.state = 0 from e] at hs;cases hs
 ·rw [show p.state = 1 from e] at hs;cases hs
 ·rw [e1,show mapL (some hh) = hh from rfl,Int.toNat_natCast]
  exact r1.set hk hn now _ rfl rfl
theorem Sim.heard (h:Sim P T) (hi:i < P.ps.length) (hu:(P.peer i).up = true) (hs:(P.peer i).state = 2) (hn:P.ps.length ≤ 7) (hm:Comes P.ps.length i k x m):Sim (P.noteHeard i m.src) (T.hearOf i m.src.toNat):=by
 unfold PTown.noteHeard TownM.hearOf
 rw [hm.src,h.now,Int.toNat_natCast]
 exact h.set hi ((h.ps i hi).heardL hu hs hn hm.kn P.now) (pot_same rfl rfl rfl rfl rfl)
theorem Sim.takeJoin (h:Sim P T) (hi:i < P.ps.length) (hu:(P.peer i).up = true) (hs:(P.peer i).state = 2) (hn:P.ps.length ≤ 7) (hnow:Tm P.now) (hd:Dk 2 (P.peer i).disk) (hm:Comes P.ps.length i k x m):Sim ((P.noteHeard i m.src).takeJoin i m) (T.join i m):=by
 have hp:=h.ps i hi
 have hiT:i < T.ps.length:=by rw [h.len];exact hi
 obtain ⟨hh,j,a,e1,e2,e3,r1,r2,r3,e4,e5,e6⟩:=hp.lead hu hs
 obtain ⟨p1,hp1⟩:∃ p1,p1 = PTown.join (PTown.hearOf (P.peer i) m.src P.now) m.src m.epoch:=⟨_,rfl⟩
 obtain ⟨q1,hq1⟩:∃ q1:PeerM,q1 = { T.peer i with mem:=(T.peer i).mem.set m.src.toNat { (T.peer i).mem.getD m.src.toNat memZ with heard:=true,at_:=T.now,joined:=true,promised:=m.epoch } }:=⟨_,rfl⟩
 have hsrc:m.src.toNat = k:=by have:=hm.src;omega
 have hk7:k < 7:=Nat.lt_of_lt_of_le hm.kn hn
 have hps:PSim P.ps.length i p1 q1:=by
  rw [hp1,hq1]
  unfold PTown.join PTown.hearOf
  rw [hsrc]
  refine PSim.ofUp hu hp.disk (h.up hi hu) hp.cok hp.ep hp.wf hp.other (hp.armed hu) (hp.state hu) (hp.c hu) (hp.round hu) (hp.vote hu) (fun e => ?_) (fun e => ?_) (fun _ => ⟨_,_,a,rfl,rfl,e3,?_,?_,r3.stay hk7 _ rfl,e4,e5,e6⟩)
  ·rw [show (P.peer i).state = 0 from e] at hs;cases hs
  ·rw [show (P.peer i).state = 1 from e] at hs;cases hs
  ·rw [e1,show mapL (some hh) = hh from rfl]
   exact r1.set hm.kn hn P.now _ rfl h.now
  ·show JRel _ _ ((mapL (P.peer i).joined).set k (some m.epoch)) _
   rw [e2,show mapL (some j) = j from rfl]
   exact r2.set hm.kn hn hm.ki m.epoch _ rfl rfl
 have hS:Sim (P.setP i p1) (T.setPeer i q1):=h.set hi hps (by rw [hq1];exact pot_same rfl rfl rfl rfl rfl)
 have hl1:(P.setP i p1).ps.length = P.ps.length:=PTown.setLen _ _
 have hpe1:(P.setP i p1).peer i = p1:=PTown.peerSet hi _
 have hu1:p1.up = true:=by rw [hp1];exact hu
 have hs1:p1.state = 2:=by rw [hp1];exact hs
 have hep1:p1.epoch = (P.peer i).epoch:=by rw [hp1];rfl
 unfold PTown.takeJoin TownM.join
 rw [← hq1]
 simp only []
 have eP:(P.noteHeard i m.src).setP i (PTown.join ((P.noteHeard i m.src).peer i) m.src m.epoch) = P.setP i p1:=by
  rw [noteHeard_peer hi]
  unfold PTown.noteHeard
  rw [PTown.setSet,hp1]
 have hee:((P.noteHeard i m.src).peer i).epoch = (P.peer i).epoch:=by rw [noteHeard_peer hi];rfl
 have hmo:∀ z,(P.noteHeard i m.src).most z = P.most z:=fun z => by
  unfold PTown.most
  rw [show (P.noteHeard i m.src).ps.length = P.ps.length from PTown.setLen _ _]
 rw [eP,hee,hmo,e5,hpe1]
 have hep:=hp.ep
 by_cases h0:(P.peer i).epoch = 0
 ·rw [if_pos h0,if_neg (show ¬ 0 < (P.peer i).epoch from by omega)]
  obtain ⟨hh1,j1,a1,f1,f2,f3,s1,s2,s3,f4,f5,f6⟩:=hps.lead hu1 hs1
  have hc:(T.setPeer i q1).most ((T.setPeer i q1).joinedTo i T.ps.length) = P.most ((mapL p1.joined).countP Option.isSome + 1):=by
   rw [hS.most,joinedTo_behind,TownM.peer_set hiT,h.len,f2,show mapL (some j1) = j1 from rfl,joined_eq s2 hn]
   unfold PTown.most
   rw [hl1]
   rw [show (1:Int) + (behind (fun _ => false) (fun k => (q1.mem.getD k memZ).joined) P.ps.length:Nat) = (behind (fun _ => false) (fun k => (q1.mem.getD k memZ).joined) P.ps.length:Nat) + 1 from by omega]
  rw [hc]
  by_cases hb:P.most ((mapL p1.joined).countP Option.isSome + 1) = true
  ·rw [if_pos hb,if_pos hb]
   refine hS.propose (by rw [hl1];exact hi) (by rw [hpe1];exact hu1) (by rw [hpe1];exact hs1) (by rw [hl1];exact hn) hnow (by rw [hpe1,hep1];exact h0) ?_
   rw [hpe1,hp1];exact hd
  ·rw [if_neg hb,if_neg hb];exact hS
 ·rw [if_neg h0,if_pos (show 0 < (P.peer i).epoch from by have:=hep.1;omega)]
  by_cases hlt:(P.peer i).epoch < m.epoch
  ·rw [if_pos hlt,if_pos hlt]
   exact hS.look (by rw [hl1];exact hi) (by rw [hpe1];exact hu1) (by rw [hl1];exact hn) hnow
  ·rw [if_neg hlt,if_neg hlt]
   have:(P.setP i p1).proposalM i = ⟨3,0,0,0,0,voteZ,(P.peer i).epoch,0⟩:=by
    unfold PTown.proposalM
    rw [hpe1,hep1]
   rw [this]
   refine hS.send ⟨?_,fun _ => ?_⟩
   ·show (i:Int) ≠ m.src
    have:=hm.src;have:=hm.ki;omega
   ·show 1 ≤ (P.peer i).epoch
    have:=hep.1;omega
theorem Sim.takeAck (h:Sim P T) (hi:i < P.ps.length) (hu:(P.peer i).up = true) (hs:(P.peer i).state = 2) (hn:P.ps.length ≤ 7) (hnow:Tm P.now) (hd:Dk 1 (P.peer i).disk) (hm:Comes P.ps.length i k x m) (he:m.epoch = (P.peer i).epoch) (hk4:m.kind = 4):Sim ((P.noteHeard i m.src).takeAck i m) (T.ack i m):=by
 have hp:=h.ps i hi
 have hiT:i < T.ps.length:=by rw [h.len];exact hi
 obtain ⟨hh,j,a,e1,e2,e3,r1,r2,r3,e4,e5,e6⟩:=hp.lead hu hs
 have hS:=h.heard hi hu hs hn hm
 have hsrc:m.src.toNat = k:=by have:=hm.src;omega
 have hk7:k < 7:=Nat.lt_of_lt_of_le hm.kn hn
 have hl0:(P.noteHeard i m.src).ps.length = P.ps.length:=PTown.setLen _ _
 have hpe0:(P.noteHeard i m.src).peer i = PTown.hearOf (P.peer i) m.src P.now:=noteHeard_peer hi _
 have hu0:((P.noteHeard i m.src).peer i).up = true:=by rw [hpe0];exact hu
 have hs0:((P.noteHeard i m.src).peer i).state = 2:=by rw [hpe0];exact hs
 have hes0:((P.noteHeard i m.src).peer i).established = (P.peer i).established:=by rw [hpe0];rfl
 have hd0:((P.noteHeard i m.src).peer i).disk = (P.peer i).disk:=by rw [hpe0];rfl
 have hep0:((P.noteHeard i m.src).peer i).epoch = (P.peer i).epoch:=by rw [hpe0];rfl
 have hbe:((P.noteHeard i m.src).peer i).isBehind m.vote = (decide ((T.peer i).c.e < m.vote.e) || (m.vote.e == (T.peer i).c.e && decide ((T.peer i).c.v < m.vote.n))):=by
  rw [hpe0,hp.c hu]
  unfold PeerP.isBehind PTown.hearOf
  rw [Bool.beq_comm (a:=m.vote.e)]
 unfold PTown.takeAck TownM.ack
 simp only []
 rw [hes0,hbe,e6]
 by_cases hb:(!(P.peer i).established && (decide ((T.peer i).c.e < m.vote.e) || (m.vote.e == (T.peer i).c.e && decide ((T.peer i).c.v < m.vote.n)))) = true
 ·rw [if_pos hb,if_pos hb]
  exact hS.look (by rw [hl0];exact hi) hu0 (by rw [hl0];exact hn) hnow
 ·rw [if_neg hb,if_neg hb]
  obtain ⟨P0,hP0⟩:∃ P0,P0 = P.noteHeard i m.src:=⟨_,rfl⟩
  obtain ⟨T0,hT0⟩:∃ T0,T0 = T.hearOf i m.src.toNat:=⟨_,rfl⟩
  rw [← hP0] at hS hl0 hpe0 hu0 hs0 hes0 hd0 hep0 ⊢
  rw [← hT0] at hS ⊢
  have hi0:i < P0.ps.length:=by rw [hl0];exact hi
  have hn0:P0.ps.length ≤ 7:=by rw [hl0];exact hn
  have hkn0:k < P0.ps.length:=by rw [hl0];exact hm.kn
  have hq:=hS.ps i hi0
  obtain ⟨hh1,j1,a1,f1,f2,f3,s1,s2,s3,f4,f5,f6⟩:=hq.lead hu0 hs0
  have h2:Sim (P0.setP i (PTown.acks (P0.peer i) m.src)) (T0.setPeer i { T0.peer i with mem:=(T0.peer i).mem.set m.src.toNat { (T0.peer i).mem.getD m.src.toNat memZ with acked:=true } }):=by
   rw [hsrc]
   refine hS.set hi0 ?_ (pot_same rfl rfl rfl rfl rfl)
   unfold PTown.acks
   rw [hsrc]
   refine PSim.ofUp hu0 hq.disk (hS.up hi0 hu0) hq.cok hq.ep hq.wf hq.other (hq.armed hu0) (hq.state hu0) (hq.c hu0) (hq.round hu0) (hq.vote hu0) (fun e => ?_) (fun e => ?_) (fun _ => ⟨hh1,j1,_,f1,f2,rfl,s1.stay hk7 _ rfl rfl,s2.stay hk7 _ rfl rfl,?_,f4,f5,f6⟩)
   ·rw [show (P0.peer i).state = 0 from e] at hs0;cases hs0
   ·rw [show (P0.peer i).state = 1 from e] at hs0;cases hs0
   ·rw [f3,show mapL (some a1) = a1 from rfl]
    exact s3.set hkn0 hn0 hm.ki _ rfl
  have hl2:(P0.setP i (PTown.acks (P0.peer i) m.src)).ps.length = P.ps.length:=by rw [PTown.setLen,hl0]
  have hpe2:(P0.setP i (PTown.acks (P0.peer i) m.src)).peer i = PTown.acks (P0.peer i) m.src:=PTown.peerSet hi0 _
  have hu2:(PTown.acks (P0.peer i) m.src).up = true:=hu0
  have hs2:(PTown.acks (P0.peer i) m.src).state = 2:=hs0
  by_cases hest:(P.peer i).established = true
  ·rw [if_pos hest,if_pos hest]
   have hx:=h2.ps i (by rw [hl2];exact hi)
   rw [hpe2] at hx
   have hlx:=hx.lead hu2 hs2
   obtain ⟨_,_,_,_,_,_,_,_,_,_,g5,_⟩:=hlx
   unfold PTown.welcome TownM.welcome
   rw [hpe2,hx.c hu2,g5]
   refine h2.send ⟨?_,fun e => ?_⟩
   ·show (i:Int) ≠ m.src
    have:=hm.src;have:=hm.ki;omega
   ·rcases e with e | e <;> cases e
  ·rw [if_neg hest,if_neg hest]
   refine h2.check (by rw [hl2];exact hi) (by rw [hpe2];exact hu2) (by rw [hpe2];exact hs2) (by rw [hl2];exact hn) ?_ ?_
   ·rw [hpe2]
    show 1 ≤ (P0.peer i).epoch
    rw [hep0,← he]
    exact hm.ep (.inr hk4)
   ·rw [hpe2]
    show Dk 1 (P0.peer i).disk
    rw [hd0];exact hd
theorem Sim.get (h:Sim P T) (hi:i < P.ps.length) (hu:(P.peer i).up = true) (h3:0 ≤ (P.peer i).state ∧ (P.peer i).state ≤ 2) (hn:P.ps.length ≤ 7) (hnow:Tm P.now) (hd:Dk 2 (P.peer i).disk) (hm:Comes P.ps.length i k x m):Sim (P.get i m) (T.hears i m):=by
 have hp:=h.ps i hi
 have hd1:=hd.mono (r':=1) (by omega)
 unfold PTown.get TownM.hears
 rw [hp.state hu,hp.vote hu]
 by_cases s0:(P.peer i).state = 0
 ·rw [if_pos s0]
  unfold PTown.getLooking
  by_cases k1:m.kind = 1
  ·rw [if_neg (fun e => e k1),if_pos k1,if_pos s0]
   by_cases e:m.state = 0
   ·rw [if_pos e,if_pos e]
    exact h.compare hi hu s0 hn hnow m hm.src hm.kn hm.ki
   ·rw [if_neg e,if_neg e]
    exact h.keep hi hu s0 hn m hm.src hm.kn hm.ki hm.vote hm.xn
  ·rw [if_pos k1,if_neg k1,if_neg (by omega),if_neg (by omega)];exact h
 ·rw [if_neg s0]
  by_cases s1:(P.peer i).state = 1
  ·rw [if_pos s1]
   unfold PTown.getFollowing
   by_cases k1:m.kind = 1
   ·rw [if_pos k1,if_pos k1,if_neg s0];exact h.notice hi hu hm
   ·rw [if_neg k1,if_neg k1,if_neg (show ¬ (P.peer i).state = 2 from by omega)]
    by_cases hv:m.src = (P.peer i).vote.p
    ·rw [if_pos hv,if_pos ⟨s1,hv.symm⟩]
     exact h.fromLeader hi hu s1 hn hnow hd1 hm hv
    ·rw [if_neg hv,if_neg (fun e => hv e.2.symm)];exact h
  ·have s2:(P.peer i).state = 2:=by omega
   rw [if_neg s1,if_pos s2]
   unfold PTown.getLeading
   by_cases k1:m.kind = 1
   ·rw [if_pos k1,if_pos k1,if_neg s0];exact h.notice hi hu hm
   ·rw [if_neg k1,if_neg k1,if_pos s2]
    unfold TownM.leading
    by_cases k2:m.kind = 2
    ·rw [if_pos k2,if_pos k2]
     exact h.takeJoin hi hu s2 hn hnow hd hm
    ·rw [if_neg k2,if_neg k2]
     obtain ⟨_,_,_,_,_,_,_,_,_,_,e5,_⟩:=hp.lead hu s2
     rw [e5]
     by_cases k4:m.kind = 4
     ·rw [if_pos k4,if_neg (show ¬ m.kind = 7 from by omega)]
      by_cases he:m.epoch = (P.peer i).epoch
      ·rw [if_pos he,if_pos ⟨k4,he⟩]
       exact h.takeAck hi hu s2 hn hnow hd1 hm he k4
      ·rw [if_neg he,if_neg (fun e => he e.2)];exact h
     ·rw [if_neg k4]
      by_cases k7:m.kind = 7
      ·rw [if_pos k7,if_pos k7]
       exact h.heard hi hu s2 hn hm
      ·rw [if_neg k7,if_neg k7,if_neg (fun e => k4 e.1)];exact h
end
end Go.Proofs.YtceappncglfciaaGreat
namespace Go.Proofs.YtceappncglfciaaGreat
section
variable {P:PTown} {T:TownM} {i:Nat} {K:Int}
theorem Sim.hn (h:Sim P T) (hf:Fits K T):P.ps.length ≤ 7:=by have:=hf.n.2;rw [h.len] at this;exact this
theorem Sim.tm (h:Sim P T) (hf:Fits K T) (hK:K ≤ 4294967294):Tm P.now:=by
 have:=hf.now
 rw [h.now] at this
 exact ⟨this.1,by omega⟩
theorem Sim.dk (h:Sim P T) (hf:Fits K T) (r:Int) (hK:K + r ≤ 4294967294) (hi:i < P.ps.length):Dk r (P.peer i).disk:=by
 obtain ⟨k,c,h1,h2⟩:=(hf.peer (by rw [h.len];exact hi)).disk
 rw [(h.ps i hi).disk] at h1
 exact ⟨k,c,h1,by omega⟩
theorem lately_eq {n:Nat} {p:PeerP} {hh:List (Option Int)} {ms:List MemM} (e:p.heard = some hh) (r:HRel n hh ms) (hn:n ≤ 7) (now lease:Int):p.lately now lease = (behind (fun _ => false) (fun k => (ms.getD k memZ).heard && decide (now - (ms.getD k memZ).at_ < lease)) n:Nat):=by
 unfold PeerP.lately
 have hf:∀ k,p.latelyF now lease k = (match atL hh k with | some t => decide (now - t < lease) | none => false):=fun k => by unfold PeerP.latelyF;rw [e];rfl
 rw [behind_cut _ n (fun k hk => ?_) 7 hn]
 ·rw [behind_congr n (fun k hk => ?_)]
  rw [hf]
  have:=r.at_ k
  cases ha:atL hh k with
  | none => rw [ha] at this;simp only [] at this;simp only [this];simp
  | some v =>
   rw [ha] at this
   obtain ⟨_,h3,h4⟩:=this
   simp only [h3,h4]
   simp
 ·rw [hf]
  have:=r.at_ k
  cases ha:atL hh k with
  | none => rfl
  | some v => rw [ha] at this;have:=this.1;omega
theorem Sim.tick (h:Sim P T) (hf:Fits K T) (hK:K + 2 ≤ 4294967294) (hi:i < P.ps.length) (hu:(P.peer i).up = true):Sim (P.timeGoes i) (T.tick i):=by
 have hp:=h.ps i hi
 have hn:=h.hn hf
 have hnow:=h.tm hf (by omega)
 have hd:=h.dk hf 2 hK hi
 have hv:=(hf.peer (by rw [h.len];exact hi)).vote.p
 rw [hp.vote hu,h.len] at hv
 unfold PTown.timeGoes TownM.tick
 rw [hp.state hu]
 by_cases s0:(P.peer i).state = 0
 ·rw [if_pos s0,if_pos s0]
  obtain ⟨l,s,hl,hse,hvr,hsr,hw,hsi,hnl⟩:=hp.look hu s0
  rw [hw,h.wait,h.now]
  by_cases hc:(P.peer i).waits = true ∧ P.wait ≤ P.now - (P.peer i).waitsFrom
  ·rw [if_pos (by simp [hc.1,hc.2]),if_pos (by rw [hsi hc.1];exact hc)]
   exact h.settle hi hu hn hnow hd hv
  ·rw [if_neg (by simp only [Bool.and_eq_true,decide_eq_true_eq];exact hc),if_neg (fun e => hc ⟨e.1,by rw [hsi e.1] at e;exact e.2⟩)]
   exact h
 ·rw [if_neg s0,if_neg s0]
  by_cases s1:(P.peer i).state = 1
  ·rw [if_pos s1,if_pos s1]
   obtain ⟨l,e1,e2,e3,e4⟩:=hp.fol hu s1
   rw [e1,show mapL (some l) = l from rfl,e3,Option.getD_some,h.lease,h.now]
   by_cases hc:P.lease ≤ P.now - (T.peer i).since
   ·rw [if_pos hc,if_pos hc];exact h.look hi hu hn hnow
   ·rw [if_neg hc,if_neg hc];exact h
  ·rw [if_neg s1,if_neg s1]
   by_cases s2:(P.peer i).state = 2
   ·rw [if_pos s2,if_pos s2]
    obtain ⟨hh,j,a,e1,e2,e3,r1,r2,r3,e4,e5,e6⟩:=hp.lead hu s2
    rw [e4,h.lease,h.now,h.most,heardTo_behind,h.len,h.now,h.lease,lately_eq e1 r1 hn]
    rw [show (1:Int) + (behind (fun _ => false) (fun k => ((T.peer i).mem.getD k memZ).heard && decide (P.now - ((T.peer i).mem.getD k memZ).at_ < P.lease)) P.ps.length:Nat) = (behind (fun _ => false) (fun k => ((T.peer i).mem.getD k memZ).heard && decide (P.now - ((T.peer i).mem.getD k memZ).at_ < P.lease)) P.ps.length:Nat) + 1 from by omega]
    obtain ⟨z,hz⟩:∃ z:Int,z = (behind (fun _ => false) (fun k => ((T.peer i).mem.getD k memZ).heard && decide (P.now - ((T.peer i).mem.getD k memZ).at_ < P.lease)) P.ps.length:Nat) + 1:=⟨_,rfl⟩
    rw [← hz]
    by_cases hc:P.lease ≤ P.now - (P.peer i).leadsFrom ∧ P.most z = false
    ·rw [if_pos (by simp [hc.1,hc.2]),if_pos hc];exact h.look hi hu hn hnow
    ·rw [if_neg (by simp only [Bool.and_eq_true,decide_eq_true_eq,Bool.not_eq_true'];exact hc),if_neg hc]
     have hl4:=hf.lease
     rw [h.lease] at hl4
     rw [Int.tdiv_eq_ediv_of_nonneg (by omega),Int.tmod_eq_emod_of_nonneg hnow.1]
     by_cases hz0:P.now % (P.lease / 4) = 0
     ·rw [if_pos hz0,if_pos hz0]
      rw [← h.len,pings_sends]
      exact h.toJoined hi hu s2 hn _ _ (fun k => rfl) (fun e => by rcases e with e | e <;> cases e)
     ·rw [if_neg hz0,if_neg hz0];exact h
   ·rw [if_neg s2,if_neg s2];exact h
theorem Sim.tickAt (h:Sim P T) (hf:Fits K T) (hK:K + 2 ≤ 4294967294) (hi:i < P.ps.length):Sim (P.tickAt i) (T.tickAt i):=by
 have hp:=h.ps i hi
 unfold PTown.tickAt TownM.tickAt
 by_cases hu:(P.peer i).up = true
 ·rw [if_pos hu]
  by_cases s3:(P.peer i).state = 3
  ·rw [if_neg (fun e => e.2 ((hp.state hu).trans s3))]
   have:P.timeGoes i = P:=by
    unfold PTown.timeGoes
    rw [if_neg (by omega),if_neg (by omega),if_neg (by omega)]
   rw [this];exact h
  ·rw [if_pos ⟨h.up hi hu,fun e => s3 ((hp.state hu).symm.trans e)⟩]
   exact h.tick hf hK hi hu
 ·rw [if_neg hu,if_neg (fun e => hu (hp.up.symm.trans e.1))];exact h
theorem Sim.ticksTo (h:Sim P T) (hf:Fits K T):∀ k:Nat,k ≤ P.ps.length → K + 2 * k ≤ 4294967294 → Sim (P.ticksTo k) (T.ticksTo k)
 | 0,_,_ => h
 | k + 1,hk,hK => by
  have ih:=Sim.ticksTo h hf k (by omega) (by push_cast at hK ⊢;omega)
  have hfk:=hf.ticksTo k (by rw [h.len];omega) (by push_cast at hK ⊢;omega)
  refine ih.tickAt hfk (by push_cast at hK ⊢;omega) ?_
  rw [(Fr.ticksTo (T:=P) k).len];omega
theorem Sim.later (h:Sim P T):Sim P.later { T with now:=T.now + 1 } :=
 ⟨h.wait,h.lease,h.net,by show T.now + 1 = P.now + 1;rw [h.now],h.way,h.events,h.len,h.ps,h.msgs,h.evs⟩
theorem Fits.later1 (h:Fits K T):Fits (K + 1) { T with now:=T.now + 1 }:=by
 have h1:=h.mono (K':=K + 1) (by omega)
 have:=h.now
 exact ⟨h1.n,h1.wait,h1.lease,h1.net,⟨by show 0 ≤ T.now + 1;omega,by show T.now + 1 ≤ K + 1;omega⟩,h1.len,h1.way,h1.ps⟩
theorem Sim.tick1 (h:Sim P T) (hf:Fits K T) (hK:K + 15 ≤ 4294967294):Sim P.tick1 T.tick1:=by
 unfold PTown.tick1 TownM.tick1
 rw [h.len]
 have hn:=h.hn hf
 exact h.later.ticksTo hf.later1 _ (Nat.le_refl _) (by omega)
theorem Sim.tickN (h:Sim P T) (hf:Fits K T):∀ k:Nat,K + 15 * k ≤ 4294967294 → Sim (P.tickN k) (T.tickN k)
 | 0,_ => h
 | k + 1,hK => (Sim.tickN h hf k (by push_cast at hK ⊢;omega)).tick1 (hf.tickN k (by push_cast at hK ⊢;omega)) (by push_cast at hK ⊢;omega)
end
end Go.Proofs.YtceappncglfciaaGreat
namespace Go.Proofs.YtceappncglfciaaGreat
section
variable {P:PTown} {T:TownM} {i:Nat} {K:Int}
theorem look_state (hi:i < P.ps.length) (p:PeerP) (s:Int):(P.setP i { p with state:=s }).look i = (P.setP i p).look i:=by
 rw [look_eq (by rw [PTown.setLen];exact hi),look_eq (by rw [PTown.setLen];exact hi),PTown.setSet,PTown.setSet,PTown.setLen,PTown.setLen]
 have:lookPP (P.setP i { p with state:=s }) i = lookPP (P.setP i p) i:=by
  unfold lookPP PTown.forItself
  rw [PTown.peerSet hi,PTown.peerSet hi]
  rfl
 rw [this]
theorem Sim.comeUp (h:Sim P T) (hf:Fits K T) (hK:K ≤ 4294967294) (hi:i < P.ps.length) (hu:(P.peer i).up = false):Sim (P.comeUp i) (T.come i):=by
 have hp:=h.ps i hi
 have hn:=h.hn hf
 have hnow:=h.tm hf hK
 obtain ⟨k,c,hd,hk⟩:=(hf.peer (by rw [h.len];exact hi)).disk
 have hx:=hd.newest
 unfold PTown.comeUp TownM.come
 dsimp only
 rw [hx]
 rw [hp.disk] at hx ⊢
 rw [hx]
 dsimp only
 have hat:(0:Int) ≤ (if k % 2 = 0 then 28 else 0):=by split <;> decide
 rw [if_neg (by omega),if_pos hat]
 have hz:=hp.down hu
 have h1:Sim (P.setP i { P.peer i with up:=true,c:=c,state:=3 }) (T.setPeer i ⟨(P.peer i).disk,true,-1,3,c,0,voteZ,known7,known7,false,0,0,mem7,false⟩):=by
  refine h.set hi ?_ (pot_state hp.disk.symm (by show (3:Int) ≠ 2;decide))
  rw [hz]
  refine PSim.ofUp rfl rfl rfl hd.cred u0 tm0 (fun _ => ⟨rfl,rfl,rfl⟩) (.inl ⟨rfl,by show (-1:Int) < 0;decide⟩) rfl rfl rfl rfl (fun e => (by cases e)) (fun e => (by cases e)) (fun e => (by cases e))
 have e:(P.setP i { P.peer i with up:=true,c:=c }).look i = (P.setP i { P.peer i with up:=true,c:=c,state:=3 }).look i:=(look_state hi { P.peer i with up:=true,c:=c } 3).symm
 rw [e]
 refine h1.look (by rw [PTown.setLen];exact hi) ?_ (by rw [PTown.setLen];exact hn) hnow
 rw [PTown.peerSet hi]
theorem Sim.goDown (h:Sim P T) (hi:i < P.ps.length):Sim (P.goDown i) (T.setPeer i { T.peer i with up:=false,armed:=-1 }):=by
 have hp:=h.ps i hi
 unfold PTown.goDown
 refine h.set hi (PSim.zero _ _ hp.disk rfl) (pot_le rfl ?_)
 rw [pend_down (q:={ T.peer i with up:=false,armed:=-1 }) rfl]
 exact (pend_01 _).1
theorem Sim.armP (h:Sim P T) (hi:i < P.ps.length) (hu:(P.peer i).up = true) (n:Int) (hn:0 ≤ n ∧ n ≤ 28):Sim (P.armP i n) (T.setPeer i { T.peer i with armed:=n }):=by
 have hp:=h.ps i hi
 unfold PTown.armP
 exact h.set hi (PSim.ofUp hu hp.disk (h.up hi hu) hp.cok hp.ep hp.wf hp.other (.inr ⟨rfl,rfl,hn⟩) (hp.state hu) (hp.c hu) (hp.round hu) (hp.vote hu) (hp.look hu) (hp.fol hu) (hp.lead hu)) (pot_same rfl rfl rfl rfl rfl)
theorem Sim.hearNews (h:Sim P T) (hi:i < P.ps.length) (hu:(P.peer i).up = true) (hd:Dk 1 (P.peer i).disk) (hv:(P.peer i).c.v < 1000000000):Sim (P.hearNews i) ((T.setPeer i { T.peer i with c:={ (T.peer i).c with v:=(T.peer i).c.v + 1 } }).write i):=by
 have hp:=h.ps i hi
 unfold PTown.hearNews
 have hc:CredM.ok { (P.peer i).c with v:=(P.peer i).c.v + 1 }:=⟨hp.cok.1,hp.cok.2.1,hp.cok.2.2.1,by
  have:=hp.cok.2.2.2
  exact ⟨by show 0 ≤ (P.peer i).c.v + 1;omega,by show (P.peer i).c.v + 1 ≤ 4294967295;omega⟩⟩
 have:=h.write hi hp hu rfl (Int.le_refl _) { (P.peer i).c with v:=(P.peer i).c.v + 1 } hc hd
 rw [setP_self hi] at this
 rw [hp.c hu]
 exact this
theorem Sim.ways (h:Sim P T) (l:List MsgM) (hl:∀ m ∈ l,MsgInv m):Sim { P with way:=l } { T with way:=l } :=
 ⟨h.wait,h.lease,h.net,h.now,rfl,h.events,h.len,h.ps,hl,h.evs⟩
theorem Sim.erase (h:Sim P T) (k:Nat):Sim { P with way:=P.way.eraseIdx k } { T with way:=T.way.eraseIdx k }:=by
 rw [h.way]
 exact h.ways _ (fun m hm => h.msgs m (List.mem_of_mem_eraseIdx hm))
theorem Sim.comes (h:Sim P T) (hf:Fits K T) {m:MsgM} (hm:m ∈ P.way):∃ k x:Nat,Comes P.ps.length m.dst.toNat k x m:=by
 have h1:=hf.way m (by rw [h.way];exact hm)
 rw [h.len] at h1
 have h2:=h.msgs m hm
 have hs:=h1.src
 have hd:=h1.dst
 have hv:=h1.vote.p
 have hne:=h2.ne
 exact ⟨m.src.toNat,m.vote.p.toNat,by omega,by omega,by omega,by omega,by omega,h1.epoch,h1.news,h2.ep⟩
theorem pot_fits {n:Nat} {q:PeerM} (h:PeerOK n K q):pot q ≤ K:=by
 obtain ⟨k,c,hd,hk⟩:=h.disk
 unfold pot
 rw [hd.newest]
 have:=(pend_01 q).1
 show k - pend q ≤ K
 omega
theorem potSum_le:∀ (l:List PeerM),(∀ q ∈ l,pot q ≤ K) → potSum l ≤ K * l.length
 | [],_ => by simp [potSum]
 | q :: r,h => by
  have h1:=h q (List.mem_cons_self ..)
  have h2:=potSum_le r (fun x hx => h x (List.mem_cons_of_mem _ hx))
  simp only [potSum,List.length_cons]
  push_cast
  rw [Int.mul_add]
  omega
theorem Sim.evLen (h:Sim P T) (hf:Fits K T) (hK:K ≤ 4294967294):P.events.length ≤ 40000000000:=by
 have h1:=h.evs
 have h2:=potSum_le (K:=K) T.ps (fun q hq => pot_fits (hf.ps q hq))
 have h3:=hf.n
 have hk0:=hf.k0
 have h4:K * (T.ps.length:Int) ≤ 4294967294 * 7:=by
  refine Int.le_trans (Int.mul_le_mul_of_nonneg_right hK (by omega)) ?_
  omega
 omega
theorem Sim.first {wait lease net:Int} {rb rc:Nat} (l:List CredM) (f:CredM → PeerP) (hf:∀ c ∈ l,f c = { PeerP.zeroed (TownM.newPeer c).disk with c:=c }) (hok:∀ c ∈ l,c.ok):Sim ⟨wait,lease,net,0,l.map f,[],[],rb,rc⟩ ⟨wait,lease,net,l.map TownM.newPeer,0,[],[]⟩:=by
 refine ⟨rfl,rfl,rfl,rfl,rfl,rfl,by simp,?_,fun m hm => absurd hm List.not_mem_nil,?_⟩
 ·intro i hi
  have hil:i < l.length:=by simpa using hi
  have e1:(⟨wait,lease,net,0,l.map f,[],[],rb,rc⟩:PTown).peer i = f l[i]:=by
   unfold PTown.peer
   simp [List.getD_eq_getElem?_getD,hil]
  have e2:(⟨wait,lease,net,l.map TownM.newPeer,0,[],[]⟩:TownM).peer i = TownM.newPeer l[i]:=by
   unfold TownM.peer
   simp [List.getD_eq_getElem?_getD,hil]
  have hm:l[i] ∈ l:=List.getElem_mem hil
  rw [e1,e2,hf _ hm]
  exact ⟨rfl,rfl,fun _ => rfl,hok _ hm,u0,tm0,fun _ => ⟨rfl,rfl,rfl⟩,fun e => (by cases e),fun e => (by cases e),fun e => (by cases e),fun e => (by cases e),fun e => (by cases e),fun e => (by cases e),fun e => (by cases e),fun e => (by cases e)⟩
 ·have:∀ l:List CredM,(∀ c ∈ l,c.ok) → 0 ≤ potSum (l.map TownM.newPeer):=by
   intro l
   induction l with
   | nil => intro _;exact Int.le_refl _
   | cons c r ih =>
    intro h
    have h1:=ih (fun x hx => h x (List.mem_cons_of_mem _ hx))
    have h2:pot (TownM.newPeer c) = 1:=by
     have hd:=(DiskOK.first (h c (List.mem_cons_self ..))).newest
     unfold pot
     rw [pend_down rfl]
     show (newestL (c.slot 1 ++ List.replicate 28 0)).n - 0 = 1
     rw [hd]
     rfl
    simp only [List.map_cons,potSum,h2]
    omega
  exact this l hok
end
end Go.Proofs.YtceappncglfciaaGreat
