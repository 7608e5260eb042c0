import Derived.Test.YtceappncglfciaaGreatM03
set_option linter.unusedVariables false
set_option linter.unusedSimpArgs false
namespace Go.Proofs.YtceappncglfciaaGreat
def keyList (g:Nat → Bool):Nat → List Int
 | 0 => []
 | k + 1 => if g k = true then keyList g k ++ [(k:Int)] else keyList g k
theorem others_key (i:Nat):∀ n,PTown.othersTo i n = keyList (fun k => !decide (k = i)) n
 | 0 => rfl
 | n + 1 => by
  rw [PTown.othersTo,keyList,others_key i n]
  by_cases h:n = i
  ·rw [if_pos h,if_neg (by simp [h])]
  ·rw [if_neg h,if_pos (by simp [h])]
theorem keysOf_append {α:Type}:∀ (l r:List (Option α)) (k:Nat),keysOf k (l ++ r) = keysOf k l ++ keysOf (k + l.length) r
 | [],r,k => by simp [keysOf]
 | none :: l,r,k => by
  simp only [List.cons_append,keysOf,List.length_cons]
  rw [keysOf_append l r (k + 1),show k + 1 + l.length = k + (l.length + 1) from by omega]
 | some v :: l,r,k => by
  simp only [List.cons_append,keysOf,List.length_cons]
  rw [keysOf_append l r (k + 1),show k + 1 + l.length = k + (l.length + 1) from by omega]
theorem take_snoc {α:Type} (l:List (Option α)) (k:Nat) (h:k < l.length):l.take (k + 1) = l.take k ++ [atL l k]:=by
 rw [List.take_add_one,List.getElem?_eq_getElem h]
 unfold atL
 rw [List.getElem?_eq_getElem h]
 rfl
theorem keysOf_key {α:Type} (l:List (Option α)):∀ k,k ≤ l.length → keysOf 0 (l.take k) = keyList (fun j => (atL l j).isSome) k
 | 0,_ => by simp [keysOf,keyList]
 | k + 1,h => by
  rw [take_snoc l k (by omega),keysOf_append,keysOf_key l k (by omega),keyList,List.length_take,Nat.min_eq_left (by omega),Nat.zero_add]
  cases hx:atL l k with
  | none => simp [keysOf,hx]
  | some v => simp [keysOf,hx]
theorem keysOf_all {α:Type} (l:List (Option α)) (hl:l.length = 7):keysOf 0 l = keyList (fun j => (atL l j).isSome) 7:=by
 have:=keysOf_key l 7 (by omega)
 rwa [List.take_of_length_le (by omega)] at this
theorem countP_key {α:Type} (l:List (Option α)):∀ k,k ≤ l.length → (l.take k).countP Option.isSome = behind (fun _ => false) (fun j => (atL l j).isSome) k
 | 0,_ => by simp [behind]
 | k + 1,h => by
  rw [take_snoc l k (by omega),List.countP_append,countP_key l k (by omega),behind]
  cases hx:atL l k with
  | none => simp [hx]
  | some v => simp [hx]
theorem countP_all {α:Type} (l:List (Option α)) (hl:l.length = 7):l.countP Option.isSome = behind (fun _ => false) (fun j => (atL l j).isSome) 7:=by
 have:=countP_key l 7 (by omega)
 rwa [List.take_of_length_le (by omega)] at this
theorem keyList_cut (g:Nat → Bool) (n:Nat) (h:∀ k,n ≤ k → g k = false):∀ m,n ≤ m → keyList g m = keyList g n
 | 0,hm => by rw [show n = 0 from by omega]
 | m + 1,hm => by
  by_cases e:n = m + 1
  ·rw [e]
  ·rw [keyList,if_neg (by rw [h m (by omega)];simp),keyList_cut g n h m (by omega)]
theorem keyList_congr {g g':Nat → Bool}:∀ n,(∀ k,k < n → g k = g' k) → keyList g n = keyList g' n
 | 0,_ => rfl
 | n + 1,h => by rw [keyList,keyList,h n (by omega),keyList_congr n (fun k hk => h k (by omega))]
theorem behind_cut (g:Nat → Bool) (n:Nat) (h:∀ k,n ≤ k → g k = false):∀ m,n ≤ m → behind (fun _ => false) g m = behind (fun _ => false) g n
 | 0,hm => by rw [show n = 0 from by omega]
 | m + 1,hm => by
  by_cases e:n = m + 1
  ·rw [e]
  ·rw [behind,if_neg (by rw [h m (by omega)];simp),behind_cut g n h m (by omega)]
theorem behind_congr {g g':Nat → Bool}:∀ n,(∀ k,k < n → g k = g' k) → behind (fun _ => false) g n = behind (fun _ => false) g' n
 | 0,_ => rfl
 | n + 1,h => by rw [behind,behind,h n (by omega),behind_congr n (fun k hk => h k (by omega))]
theorem sendTo_snoc (m:MsgM) (i:Nat) (k:Int):∀ (l:List Int) (T:PTown),T.sendTo m i (l ++ [k]) = (T.sendTo m i l).lay { m with src:=i,dst:=k }
 | [],_ => rfl
 | x :: r,T => by
  show (T.lay _).sendTo m i (r ++ [k]) = _
  rw [sendTo_snoc m i k r]
  rfl
def sendsTo (T:TownM) (g:Nat → Bool) (f:Nat → MsgM):Nat → TownM
 | 0 => T
 | k + 1 => if g k = true then (sendsTo T g f k).send (f k) else sendsTo T g f k
theorem sendsTo_ps (T:TownM) (g:Nat → Bool) (f:Nat → MsgM):∀ k,(sendsTo T g f k).ps = T.ps
 | 0 => rfl
 | k + 1 => by
  rw [sendsTo]
  split
  ·rw [TownM.send_ps,sendsTo_ps T g f k]
  ·exact sendsTo_ps T g f k
theorem Sim.sends {P:PTown} {T:TownM} (h:Sim P T) (m:MsgM) (i:Nat) (g:Nat → Bool) (f:Nat → MsgM) (hf:∀ k:Nat,f k = { m with src:=(i:Int),dst:=(k:Int) }):∀ n,(∀ k,k < n → g k = true → MsgInv (f k)) → Sim (P.sendTo m i (keyList g n)) (sendsTo T g f n)
 | 0,_ => h
 | n + 1,hi => by
  have ih:=Sim.sends h m i g f hf n (fun k hk => hi k (by omega))
  rw [keyList,sendsTo]
  by_cases hg:g n = true
  ·rw [if_pos hg,if_pos hg,sendTo_snoc,← hf n]
   exact ih.send (hi n (by omega) hg)
  ·rw [if_neg hg,if_neg hg];exact ih
theorem notices_sends (T:TownM) (i:Nat):∀ k,T.noticesTo i k = sendsTo T (fun k => !decide (k = i)) (fun k => T.noticeOf i k) k
 | 0 => rfl
 | k + 1 => by
  rw [TownM.noticesTo,sendsTo,notices_sends T i k]
  by_cases h:k = i
  ·rw [if_pos h,if_neg (by simp [h])]
  ·rw [if_neg h,if_pos (by simp [h])]
   unfold TownM.notice TownM.noticeOf TownM.peer
   rw [sendsTo_ps]
theorem welcomes_sends (T:TownM) (i:Nat):∀ k,T.welcomesTo i k = sendsTo T (fun k => ((T.peer i).mem.getD k memZ).acked) (fun k => ⟨5,i,k,0,0,voteZ,(T.peer i).epoch,(T.peer i).c.v⟩) k
 | 0 => rfl
 | k + 1 => by
  rw [TownM.welcomesTo,sendsTo,welcomes_sends T i k]
  unfold TownM.welcome TownM.peer
  rw [sendsTo_ps]
theorem proposes_sends (T:TownM) (i:Nat) (e:Int):∀ k,T.proposesTo i e k = sendsTo T (fun k => ((T.peer i).mem.getD k memZ).joined) (fun k => ⟨3,i,k,0,0,voteZ,e,0⟩) k
 | 0 => rfl
 | k + 1 => by rw [TownM.proposesTo,sendsTo,proposes_sends T i e k]
theorem pings_sends (T:TownM) (i:Nat):∀ k,T.pingsTo i k = sendsTo T (fun k => ((T.peer i).mem.getD k memZ).joined) (fun k => ⟨6,i,k,0,0,voteZ,0,0⟩) k
 | 0 => rfl
 | k + 1 => by rw [TownM.pingsTo,sendsTo,pings_sends T i k]
theorem countTo_behind (T:TownM) (i:Nat):∀ k,T.countTo i k = 1 + (behind (fun _ => false) (fun k => !(decide (k = i)) && (((T.peer i).votes.getD k knownZ).is && ((T.peer i).votes.getD k knownZ).vote.eqb (T.peer i).vote)) k:Nat)
 | 0 => by simp [TownM.countTo,behind]
 | k + 1 => by
  rw [TownM.countTo,behind,countTo_behind T i k]
  simp only [Bool.not_false,Bool.true_and]
  split <;> push_cast <;> omega
theorem ackedTo_behind (T:TownM) (i:Nat):∀ k,T.ackedTo i k = 1 + (behind (fun _ => false) (fun k => ((T.peer i).mem.getD k memZ).acked) k:Nat)
 | 0 => by simp [TownM.ackedTo,behind]
 | k + 1 => by
  rw [TownM.ackedTo,behind,ackedTo_behind T i k]
  simp only [Bool.not_false,Bool.true_and]
  split <;> push_cast <;> omega
theorem joinedTo_behind (T:TownM) (i:Nat):∀ k,T.joinedTo i k = 1 + (behind (fun _ => false) (fun k => ((T.peer i).mem.getD k memZ).joined) k:Nat)
 | 0 => by simp [TownM.joinedTo,behind]
 | k + 1 => by
  rw [TownM.joinedTo,behind,joinedTo_behind T i k]
  simp only [Bool.not_false,Bool.true_and]
  split <;> push_cast <;> omega
theorem heardTo_behind (T:TownM) (i:Nat):∀ k,T.heardTo i k = 1 + (behind (fun _ => false) (fun k => ((T.peer i).mem.getD k memZ).heard && decide (T.now - ((T.peer i).mem.getD k memZ).at_ < T.lease)) k:Nat)
 | 0 => by simp [TownM.heardTo,behind]
 | k + 1 => by
  rw [TownM.heardTo,behind,heardTo_behind T i k]
  simp only [Bool.not_false,Bool.true_and]
  split <;> push_cast <;> omega
theorem settledTo_behind (q:PeerM) (x:Nat):∀ k,TownM.settledTo q x k = (behind (fun _ => false) (fun k => (q.settled.getD k knownZ).is && (q.settled.getD k knownZ).vote.p == (x:Int)) k:Nat)
 | 0 => by simp [TownM.settledTo,behind]
 | k + 1 => by
  rw [TownM.settledTo,behind,settledTo_behind q x k]
  simp only [Bool.not_false,Bool.true_and]
  split <;> push_cast <;> omega
end Go.Proofs.YtceappncglfciaaGreat
namespace Go.Proofs.YtceappncglfciaaGreat
theorem tm0:Tm 0:=⟨by decide,by decide⟩
theorem n02:(0:Int) ≠ 2:=by decide
theorem n12:(1:Int) ≠ 2:=by decide
section
variable {n i:Nat} {p:PeerP} {q q':PeerM}
theorem PSim.ofUp (hu:p.up = true) (disk:q.disk = p.disk) (up:q.up = true) (cok:p.c.ok) (ep:U32 p.epoch) (wf:Tm p.waitsFrom) (other:p.state ≠ 2 → p.leadsFrom = 0 ∧ p.epoch = 0 ∧ p.established = false)
  (armed:(p.armed = false ∧ q.armed < 0) ∨ (p.armed = true ∧ q.armed = p.bytes ∧ 0 ≤ p.bytes ∧ p.bytes ≤ 28)) (state:q.state = p.state) (c:q.c = p.c) (round:q.round = p.round) (vote:q.vote = p.vote)
  (look:p.state = 0 → ∃ l s,p.votes = some l ∧ p.settled = some s ∧ VRel n i l q.votes ∧ SRel n i s q.settled ∧ q.waits = p.waits ∧ (p.waits = true → q.since = p.waitsFrom) ∧ ∀ x,x < n → leadsQ n i q.settled x = false)
  (fol:p.state = 1 → ∃ l,p.heard = some l ∧ l.length = 7 ∧ atL l p.vote.p.toNat = some q.since ∧ ∀ k t,atL l k = some t → k = p.vote.p.toNat)
  (lead:p.state = 2 → ∃ h j a,p.heard = some h ∧ p.joined = some j ∧ p.acked = some a ∧ HRel n h q.mem ∧ JRel n i j q.mem ∧ ARel n i a q.mem ∧ q.since = p.leadsFrom ∧ q.epoch = p.epoch ∧ q.stands = p.established):PSim n i p q :=
 ⟨disk,up.trans hu.symm,fun h => (by rw [hu] at h;cases h),cok,ep,wf,other,fun _ => armed,fun _ => state,fun _ => c,fun _ => round,fun _ => vote,fun _ => look,fun _ => fol,fun _ => lead⟩
theorem pend_state (h:q.state ≠ 2):pend q = 0:=by
 unfold pend
 rw [if_neg]
 simp [h]
theorem pend_down (h:q.up = false):pend q = 0:=by
 unfold pend
 rw [if_neg]
 simp [h]
theorem pot_le (hd:q'.disk = q.disk) (h:pend q' ≤ pend q):pot q ≤ pot q':=by unfold pot;rw [hd];omega
theorem pot_state (hd:q'.disk = q.disk) (h:q'.state ≠ 2):pot q ≤ pot q':=pot_le hd (by rw [pend_state h];exact (pend_01 q).1)
theorem pot_same (hd:q'.disk = q.disk) (h1:q'.up = q.up) (h2:q'.state = q.state) (h3:q'.stands = q.stands) (h4:q'.epoch = q.epoch):pot q ≤ pot q':=by
 refine pot_le hd ?_
 unfold pend
 rw [h1,h2,h3,h4]
 exact Int.le_refl _
end
section
variable {P:PTown} {T:TownM} {i:Nat}
theorem Sim.up (h:Sim P T) (hi:i < P.ps.length) (hu:(P.peer i).up = true):(T.peer i).up = true:=(h.ps i hi).up.trans hu
theorem Sim.tellAll (h:Sim P T) (hi:i < P.ps.length) (hu:(P.peer i).up = true):Sim (P.tell i (PTown.othersTo i P.ps.length)) (T.notices i):=by
 have hp:=h.ps i hi
 unfold PTown.tell TownM.notices
 rw [others_key,notices_sends,h.len]
 refine h.sends _ i _ _ (fun k => ?_) _ (fun k _ hk => ⟨?_,?_⟩)
 ·unfold TownM.noticeOf PTown.noticeM
  rw [hp.round hu,hp.state hu,hp.vote hu]
 ·show (i:Int) ≠ (k:Int)
  intro e
  have:k = i:=by omega
  simp [this] at hk
 ·intro e
  simp [TownM.noticeOf] at e
theorem Sim.tellOne (h:Sim P T) (hi:i < P.ps.length) (hu:(P.peer i).up = true) {k:Int} (hk:(i:Int) ≠ k):Sim (P.tell i [k]) (T.notice i k):=by
 have hp:=h.ps i hi
 have e:T.noticeOf i k = { P.noticeM i with src:=(i:Int),dst:=k }:=by
  unfold TownM.noticeOf PTown.noticeM
  rw [hp.round hu,hp.state hu,hp.vote hu]
 show Sim (P.lay _) (T.send _)
 rw [e]
 exact h.send ⟨hk,fun e => by simp [PTown.noticeM] at e⟩
theorem same_eq {n:Nat} {p:PeerP} {q:PeerM} {l:List (Option VoteM)} (hl:p.votes = some l) (hv:VRel n i l q.votes) (hq:q.vote = p.vote) (hn:n ≤ 7) :
  p.same = 1 + (behind (fun _ => false) (fun k => !(decide (k = i)) && ((q.votes.getD k knownZ).is && (q.votes.getD k knownZ).vote.eqb q.vote)) n:Nat):=by
 unfold PeerP.same
 have hf:∀ k,p.sameF k = (match atL l k with | some v => v.eqb p.vote | none => false):=fun k => by unfold PeerP.sameF;rw [hl];rfl
 rw [behind_cut p.sameF n (fun k hk => ?_) 7 hn,behind_congr n (fun k hk => ?_)]
 ·rw [hf]
  have:=hv.at_ k
  cases ha:atL l k with
  | none => rw [ha] at this;simp only [] at this;simp only [this];simp
  | some v =>
   rw [ha] at this
   obtain ⟨_,h2,h3,h4⟩:=this
   simp only [h3,h4,hq]
   simp [h2]
 ·rw [hf]
  have:=hv.at_ k
  cases ha:atL l k with
  | none => rfl
  | some v => rw [ha] at this;have:=this.1;omega
theorem Sim.count (h:Sim P T) (hi:i < P.ps.length) (hu:(P.peer i).up = true) (hs:(P.peer i).state = 0) (hn:P.ps.length ≤ 7) (hnow:Tm P.now):Sim (P.count i) (T.count i):=by
 have hp:=h.ps i hi
 obtain ⟨l,s,hl,hse,hv,hsr,hw,hsi,hnl⟩:=hp.look hu hs
 have hq0:(T.peer i).state ≠ 2:=by rw [hp.state hu,hs];decide
 have hsame:(P.peer i).same = T.countTo i T.ps.length:=by
  rw [same_eq hl hv (hp.vote hu) hn,countTo_behind,h.len]
 unfold PTown.count TownM.count PTown.counted
 rw [← hsame,h.most,h.now]
 refine h.set hi ?_ (pot_state rfl hq0)
 by_cases hm:P.most (P.peer i).same = true
 ·rw [if_pos hm]
  by_cases hww:(P.peer i).waits = true
  ·rw [if_pos hww]
   refine PSim.ofUp hu hp.disk (h.up hi hu) hp.cok hp.ep hp.wf hp.other (hp.armed hu) (hp.state hu) (hp.c hu) (hp.round hu) (hp.vote hu) (fun _ => ⟨l,s,hl,hse,hv,hsr,?_,fun _ => ?_,hnl⟩) (fun e => by rw [hs] at e;cases e) (fun e => by rw [hs] at e;cases e)
   ·show P.most (P.peer i).same = (P.peer i).waits
    rw [hm,hww]
   ·show (if (P.most (P.peer i).same && !(T.peer i).waits) = true then P.now else (T.peer i).since) = (P.peer i).waitsFrom
    rw [if_neg (by rw [hw,hww];simp)]
    exact hsi hww
  ·rw [if_neg hww]
   have hww':(P.peer i).waits = false:=by simpa using hww
   refine PSim.ofUp hu hp.disk (h.up hi hu) hp.cok hp.ep hnow hp.other (hp.armed hu) (hp.state hu) (hp.c hu) (hp.round hu) (hp.vote hu) (fun _ => ⟨l,s,hl,hse,hv,hsr,hm,fun _ => ?_,hnl⟩) (fun e => by rw [show (P.peer i).state = 1 from e] at hs;cases hs) (fun e => by rw [show (P.peer i).state = 2 from e] at hs;cases hs)
   show (if (P.most (P.peer i).same && !(T.peer i).waits) = true then P.now else (T.peer i).since) = P.now
   rw [if_pos (by rw [hm,hw,hww'];rfl)]
 ·rw [if_neg hm]
  have hm':P.most (P.peer i).same = false:=by simpa using hm
  refine PSim.ofUp hu hp.disk (h.up hi hu) hp.cok hp.ep hp.wf hp.other (hp.armed hu) (hp.state hu) (hp.c hu) (hp.round hu) (hp.vote hu) (fun _ => ⟨l,s,hl,hse,hv,hsr,hm',fun e => (by cases e),hnl⟩) (fun e => by rw [show (P.peer i).state = 1 from e] at hs;cases hs) (fun e => by rw [show (P.peer i).state = 2 from e] at hs;cases hs)
def lookPP (P:PTown) (i:Nat):PeerP:={ (P.peer i).become 0 with settled:=some none7,round:=(P.peer i).round + 1,votes:=some none7,vote:=P.forItself i,waits:=false }
theorem look_eq (hi:i < P.ps.length):P.look i = ((P.setP i (lookPP P i)).tell i (PTown.othersTo i P.ps.length)).count i:=by
 unfold PTown.look PTown.enter PTown.choose
 simp only [PTown.peerSet hi,PTown.setSet,PTown.setLen]
 rfl
theorem noLead7 (n:Nat):∀ x,x < n → leadsQ n i known7 x = false:=by
 intro x _
 unfold leadsQ
 simp only [getD_known7]
 simp [knownZ]
theorem sendTo_psP:∀ (l:List Int) (m:MsgM) (T:PTown),(T.sendTo m i l).ps = T.ps:=by
 intro l
 induction l with
 | nil => intro m T;rfl
 | cons k r ih =>
  intro m T
  rw [PTown.sendTo,ih]
  unfold PTown.lay
  split <;> rfl
theorem tell_ps (T:PTown) (l:List Int):(T.tell i l).ps = T.ps:=sendTo_psP l _ T
theorem tell_peer (T:PTown) (l:List Int) (j:Nat):(T.tell i l).peer j = T.peer j:=by unfold PTown.peer;rw [tell_ps]
theorem Sim.look (h:Sim P T) (hi:i < P.ps.length) (hu:(P.peer i).up = true) (hn:P.ps.length ≤ 7) (hnow:Tm P.now):Sim (P.look i) (T.look i):=by
 have hp:=h.ps i hi
 have h1:Sim (P.setP i (lookPP P i)) (T.setPeer i { T.peer i with state:=0,round:=(T.peer i).round + 1,vote:=T.own i,waits:=false,votes:=known7,settled:=known7 }):=by
  refine h.set hi ?_ (pot_state rfl n02)
  refine PSim.ofUp hu hp.disk (h.up hi hu) hp.cok u0 tm0 (fun _ => ⟨rfl,rfl,rfl⟩) (hp.armed hu) rfl (hp.c hu) ?_ ?_ (fun _ => ⟨none7,none7,rfl,rfl,VRel.none _ _,SRel.none _ _,rfl,fun e => (by cases e),noLead7 _⟩) (fun e => by cases e) (fun e => by cases e)
  ·show (T.peer i).round + 1 = (P.peer i).round + 1
   rw [hp.round hu]
  ·show T.own i = P.forItself i
   unfold TownM.own PTown.forItself
   rw [hp.c hu]
 have hlen:=PTown.setLen (P:=P) i (lookPP P i)
 have h2:=h1.tellAll (i:=i) (by rw [hlen];exact hi) (by rw [PTown.peerSet hi];exact hu)
 rw [hlen] at h2
 rw [look_eq hi]
 unfold TownM.look
 refine h2.count ?_ ?_ ?_ ?_ ?_
 ·rw [tell_ps,hlen];exact hi
 ·rw [tell_peer,PTown.peerSet hi];exact hu
 ·rw [tell_peer,PTown.peerSet hi];rfl
 ·rw [tell_ps,hlen];exact hn
 ·rw [(Fr.tell _).now];exact hnow
end
end Go.Proofs.YtceappncglfciaaGreat
namespace Go.Proofs.YtceappncglfciaaGreat
theorem lay_setP (P:PTown) (m:MsgM) (i:Nat) (p:PeerP):(P.lay m).setP i p = (P.setP i p).lay m:=by
 unfold PTown.lay
 show (if (P.way.length:Int) < P.net then { P with way:=P.way ++ [m] } else P).setP i p = if (P.way.length:Int) < P.net then _ else _
 split <;> rfl
theorem lay_peer (P:PTown) (m:MsgM) (j:Nat):(P.lay m).peer j = P.peer j:=by unfold PTown.lay;split <;> rfl
theorem lay_lenP (P:PTown) (m:MsgM):(P.lay m).ps.length = P.ps.length:=by unfold PTown.lay;split <;> rfl
theorem lay_nowP (P:PTown) (m:MsgM):(P.lay m).now = P.now:=by unfold PTown.lay;split <;> rfl
section
variable {P:PTown} {T:TownM} {i:Nat}
def followP (P:PTown) (i:Nat) (v:VoteM):PeerP:={ (P.peer i).become 1 with vote:=v,heard:=some (none7.set v.p.toNat (some P.now)) }
theorem follow_eq (hi:i < P.ps.length) (v:VoteM):P.follow i v = (P.setP i (followP P i v)).lay ⟨2,i,v.p,0,0,voteZ,(P.peer i).c.p,0⟩:=by
 unfold PTown.follow PTown.noteHeard
 simp only [PTown.sendTo]
 rw [PTown.setSet,lay_setP,PTown.setSet]
 congr 2
 rw [PTown.peerSet (by rw [lay_lenP,PTown.setLen];exact hi),lay_peer,PTown.peerSet hi]
 show PTown.hearOf _ _ ((PTown.lay _ _).now) = _
 rw [lay_nowP]
 rfl
theorem Sim.follow (h:Sim P T) (hi:i < P.ps.length) (hu:(P.peer i).up = true) (v:VoteM) {k:Nat} (hk:v.p = (k:Int)) (hk7:k < 7) (hki:k ≠ i):Sim (P.follow i v) (T.follow i v):=by
 have hp:=h.ps i hi
 rw [follow_eq hi]
 unfold TownM.follow
 rw [hp.c hu]
 refine (h.set hi (q:={ T.peer i with state:=1,vote:=v,since:=T.now }) ?_ (pot_state rfl n12)).send ⟨?_,?_⟩
 ·have hl:(none7:List (Option Int)).length = 7:=rfl
  have ht:v.p.toNat = k:=by omega
  refine PSim.ofUp hu hp.disk (h.up hi hu) hp.cok u0 tm0 (fun _ => ⟨rfl,rfl,rfl⟩) (hp.armed hu) rfl (hp.c hu) (hp.round hu) rfl (fun e => by cases e) (fun _ => ⟨_,rfl,?_,?_,?_⟩) (fun e => by cases e)
  ·simp [hl]
  ·show atL (none7.set v.p.toNat (some P.now)) v.p.toNat = some T.now
   rw [ht,atL_set _ _ _ _ (by omega),if_pos rfl,h.now]
  ·intro j t hj
   rw [ht,atL_set _ _ _ _ (by omega)] at hj
   show j = v.p.toNat
   by_cases e:j = k
   ·rw [e,ht]
   ·rw [if_neg e,atL_none7] at hj;cases hj
 ·show (i:Int) ≠ v.p
  omega
 ·intro e
  rcases e with e | e <;> cases e
def wq (q:PeerM) (c:CredM):PeerM:=if q.armed < 0 then { q with c:=c,disk:=diskWrite q.disk c 28 } else { q with c:=c,disk:=diskWrite q.disk c q.armed.toNat,up:=false,armed:=-1 }
theorem write_eqT (hi:i < T.ps.length) (q:PeerM) (c:CredM):(T.setPeer i { q with c:=c }).write i = T.setPeer i (wq q c):=by
 unfold TownM.write
 rw [TownM.peer_set hi,TownM.set_set]
 rfl
def Dk (r:Int) (d:List Int):Prop:=∃ k c,DiskOK k c d ∧ k + r ≤ 4294967294
theorem credZ_ok:credZ.ok:=⟨⟨by decide,by decide⟩,⟨by decide,by decide⟩,⟨by decide,by decide⟩,by decide,by decide⟩
theorem PSim.zero {n:Nat} (d:List Int) (q:PeerM) (hd:q.disk = d) (hu:q.up = false):PSim n i (PeerP.zeroed d) q :=
 ⟨hd,hu,fun _ => rfl,credZ_ok,u0,tm0,fun _ => ⟨rfl,rfl,rfl⟩,fun e => (by cases e),fun e => (by cases e),fun e => (by cases e),fun e => (by cases e),fun e => (by cases e),fun e => (by cases e),fun e => (by cases e),fun e => (by cases e)⟩
theorem PSim.write {n:Nat} {p:PeerP} {q:PeerM} (hp:PSim n i p q) (hu:p.up = true) (c:CredM) (hc:c.ok):PSim n i (p.writeP c) (wq q c):=by
 unfold PeerP.writeP wq
 rcases hp.armed hu with ⟨h1,h2⟩ | ⟨h1,h2,h3,h4⟩
 ·rw [if_neg (by rw [h1];simp),if_pos h2]
  refine PSim.ofUp hu ?_ (hp.up.trans hu) hc hp.ep hp.wf hp.other (.inl ⟨h1,h2⟩) (hp.state hu) rfl (hp.round hu) (hp.vote hu) (hp.look hu) (hp.fol hu) (hp.lead hu)
  show diskWrite q.disk c 28 = diskWrite p.disk c 28
  rw [hp.disk]
 ·rw [if_pos h1,if_neg (by omega)]
  refine PSim.zero _ _ ?_ rfl
  show diskWrite q.disk c q.armed.toNat = diskWrite p.disk c p.bytes.toNat
  rw [hp.disk,h2]
theorem pot_wq {q:PeerM} (c:CredM) (hc:c.ok) (hd:Dk 1 q.disk) (ha:q.armed ≤ 28):pot q + pend q ≤ pot (wq q c) ∧ (q.armed < 0 → pot (wq q c) = pot q + 1):=by
 obtain ⟨k,c0,hd,hk⟩:=hd
 have hn:=hd.newest
 unfold wq
 by_cases h:q.armed < 0
 ·rw [if_pos h]
  have h2:=(hd.whole (by omega) hc).newest
  have e1:pend { q with c:=c,disk:=diskWrite q.disk c 28 } = pend q:=rfl
  have e2:=pend_01 q
  unfold pot
  rw [e1]
  simp only [h2,hn]
  omega
 ·rw [if_neg h]
  refine ⟨?_,fun e => absurd e h⟩
  unfold pot
  rw [pend_down (q:={ q with c:=c,disk:=diskWrite q.disk c q.armed.toNat,up:=false,armed:=-1 }) rfl]
  have:k ≤ (newestL (diskWrite q.disk c q.armed.toNat)).n:=by
   rcases hd.write (by omega) hc (k:=q.armed.toNat) (by omega) with h3 | ⟨c2,h3⟩
   ·rw [h3.newest];exact Int.le_refl _
   ·rw [h3.newest];show k ≤ k + 1;omega
  simp only [hn]
  omega
theorem armed_le {n:Nat} {p:PeerP} {q:PeerM} (hp:PSim n i p q) (hu:p.up = true):q.armed ≤ 28:=by
 rcases hp.armed hu with ⟨_,h2⟩ | ⟨_,h2,_,h4⟩ <;> omega
theorem armed_iff {n:Nat} {p:PeerP} {q:PeerM} (hp:PSim n i p q) (hu:p.up = true):q.armed < 0 ↔ ¬ p.armed = true:=by
 rcases hp.armed hu with ⟨h1,h2⟩ | ⟨h1,h2,h3,h4⟩
 ·simp [h1,h2]
 ·simp [h1];omega
theorem Sim.write (h:Sim P T) (hi:i < P.ps.length) {p:PeerP} {q:PeerM} (hp:PSim P.ps.length i p q) (hu:p.up = true) (hd:(T.peer i).disk = q.disk) (hpe:pend q ≤ pend (T.peer i)) (c:CredM) (hc:c.ok) (hk:Dk 1 p.disk):Sim ((P.setP i p).write i c) ((T.setPeer i { q with c:=c }).write i):=by
 rw [write_eqT (by rw [h.len];exact hi)]
 have e:(P.setP i p).write i c = P.setP i (p.writeP c):=by
  unfold PTown.write
  rw [PTown.peerSet hi,PTown.setSet]
 rw [e]
 refine h.set hi (hp.write hu c hc) ?_
 have:=(pot_wq c hc (by rw [hp.disk];exact hk) (armed_le hp hu)).1
 have h2:=pend_01 q
 have h3:=pend_01 (T.peer i)
 unfold pot at this ⊢
 rw [hd]
 omega
end
end Go.Proofs.YtceappncglfciaaGreat
namespace Go.Proofs.YtceappncglfciaaGreat
section
variable {P:PTown} {T:TownM} {i:Nat}
theorem Sim.setEv (h:Sim P T) (hi:i < P.ps.length) {p:PeerP} {q:PeerM} (hp:PSim P.ps.length i p q) (hpot:pot (T.peer i) + 1 ≤ pot q) (x:Int × Int):Sim { P.setP i p with events:=P.events ++ [x] } { T.setPeer i q with events:=T.events ++ [x] }:=by
 have hl:=PTown.setLen (P:=P) i p
 refine ⟨h.wait,h.lease,h.net,h.now,h.way,?_,?_,?_,h.msgs,?_⟩
 ·show T.events ++ [x] = P.events ++ [x]
  rw [h.events]
 ·show (T.setPeer i q).ps.length = (P.setP i p).ps.length
  rw [TownM.setPeer_len,hl];exact h.len
 ·intro j hj
  show PSim (P.setP i p).ps.length j ((P.setP i p).peer j) ((T.setPeer i q).peer j)
  have hj':j < (P.setP i p).ps.length:=hj
  rw [hl] at hj' ⊢
  by_cases e:i = j
  ·subst e
   rw [PTown.peerSet hi,TownM.peer_set (by rw [h.len];exact hi)]
   exact hp
  ·rw [PTown.peerSetNe e,TownM.peer_other e]
   exact h.ps j hj'
 ·have h1:=potSum_set T.ps i (T.peer i) q (TownM.peer_some (by rw [h.len];exact hi))
  show ((P.events ++ [x]).length:Int) ≤ potSum (T.ps.set i q)
  have h2:=h.evs
  simp only [List.length_append,List.length_singleton]
  push_cast
  omega
theorem acked_eq {n:Nat} {a:List (Option Unit)} {ms:List MemM} (h:ARel n i a ms) (hn:n ≤ 7):(a.countP Option.isSome:Nat) = behind (fun _ => false) (fun k => (ms.getD k memZ).acked) n:=by
 rw [countP_all a h.len.1,behind_cut _ n (fun k hk => ?_) 7 hn]
 ·refine behind_congr n (fun k _ => ?_)
  have:=h.at_ k
  cases ha:atL a k with
  | none => rw [ha] at this;simp only [] at this;rw [this];rfl
  | some v => rw [ha] at this;simp only [] at this;rw [this.2.2];rfl
 ·have:=h.at_ k
  cases ha:atL a k with
  | none => rfl
  | some v => rw [ha] at this;have:=this.1;omega
theorem joined_eq {n:Nat} {a:List (Option Int)} {ms:List MemM} (h:JRel n i a ms) (hn:n ≤ 7):(a.countP Option.isSome:Nat) = behind (fun _ => false) (fun k => (ms.getD k memZ).joined) n:=by
 rw [countP_all a h.len.1,behind_cut _ n (fun k hk => ?_) 7 hn]
 ·refine behind_congr n (fun k _ => ?_)
  have:=h.at_ k
  cases ha:atL a k with
  | none => rw [ha] at this;simp only [] at this;rw [this];rfl
  | some v => rw [ha] at this;simp only [] at this;rw [this.2.2.1];rfl
 ·have:=h.at_ k
  cases ha:atL a k with
  | none => rfl
  | some v => rw [ha] at this;have:=this.1;omega
theorem acked_keys {n:Nat} {a:List (Option Unit)} {ms:List MemM} (h:ARel n i a ms) (hn:n ≤ 7):keysOf 0 a = keyList (fun k => (ms.getD k memZ).acked) n:=by
 rw [keysOf_all a h.len.1,keyList_cut _ n (fun k hk => ?_) 7 hn]
 ·refine keyList_congr n (fun k _ => ?_)
  have:=h.at_ k
  cases ha:atL a k with
  | none => rw [ha] at this;simp only [] at this;rw [this];rfl
  | some v => rw [ha] at this;simp only [] at this;rw [this.2.2];rfl
 ·have:=h.at_ k
  cases ha:atL a k with
  | none => rfl
  | some v => rw [ha] at this;have:=this.1;omega
theorem joined_keys {n:Nat} {a:List (Option Int)} {ms:List MemM} (h:JRel n i a ms) (hn:n ≤ 7):keysOf 0 a = keyList (fun k => (ms.getD k memZ).joined) n:=by
 rw [keysOf_all a h.len.1,keyList_cut _ n (fun k hk => ?_) 7 hn]
 ·refine keyList_congr n (fun k _ => ?_)
  have:=h.at_ k
  cases ha:atL a k with
  | none => rw [ha] at this;simp only [] at this;rw [this];rfl
  | some v => rw [ha] at this;simp only [] at this;rw [this.2.2.1];rfl
 ·have:=h.at_ k
  cases ha:atL a k with
  | none => rfl
  | some v => rw [ha] at this;have:=this.1;omega
theorem JRel.ne {n:Nat} {a:List (Option Int)} {ms:List MemM} (h:JRel n i a ms) {k:Nat} (hk:(ms.getD k memZ).joined = true):k ≠ i:=by
 have:=h.at_ k
 cases ha:atL a k with
 | none => rw [ha] at this;simp only [] at this;rw [this] at hk;cases hk
 | some v => rw [ha] at this;exact this.2.1
theorem ARel.ne {n:Nat} {a:List (Option Unit)} {ms:List MemM} (h:ARel n i a ms) {k:Nat} (hk:(ms.getD k memZ).acked = true):k ≠ i:=by
 have:=h.at_ k
 cases ha:atL a k with
 | none => rw [ha] at this;simp only [] at this;rw [this] at hk;cases hk
 | some v => rw [ha] at this;exact this.2.1
theorem Sim.toJoined (h:Sim P T) (hi:i < P.ps.length) (hu:(P.peer i).up = true) (hs:(P.peer i).state = 2) (hn:P.ps.length ≤ 7) (m:MsgM) (f:Nat → MsgM) (hf:∀ k:Nat,f k = { m with src:=(i:Int),dst:=(k:Int) }) (hm:m.kind = 3 ∨ m.kind = 4 → 1 ≤ m.epoch) :
  Sim (P.sendTo m i (keysOf 0 (mapL (P.peer i).joined))) (sendsTo T (fun k => ((T.peer i).mem.getD k memZ).joined) f T.ps.length):=by
 obtain ⟨hh,j,a,e1,e2,e3,r1,r2,r3,e4,e5,e6⟩:=(h.ps i hi).lead hu hs
 rw [e2,h.len,show mapL (some j) = j from rfl,joined_keys r2 hn]
 refine h.sends m i _ _ hf _ (fun k _ hk => ?_)
 have:=r2.ne hk
 rw [hf k]
 exact ⟨by show (i:Int) ≠ (k:Int);omega,hm⟩
theorem Sim.toAcked (h:Sim P T) (hi:i < P.ps.length) (hu:(P.peer i).up = true) (hs:(P.peer i).state = 2) (hn:P.ps.length ≤ 7) (m:MsgM) (f:Nat → MsgM) (hf:∀ k:Nat,f k = { m with src:=(i:Int),dst:=(k:Int) }) (hm:m.kind = 3 ∨ m.kind = 4 → 1 ≤ m.epoch) :
  Sim (P.sendTo m i (keysOf 0 (mapL (P.peer i).acked))) (sendsTo T (fun k => ((T.peer i).mem.getD k memZ).acked) f T.ps.length):=by
 obtain ⟨hh,j,a,e1,e2,e3,r1,r2,r3,e4,e5,e6⟩:=(h.ps i hi).lead hu hs
 rw [e3,h.len,show mapL (some a) = a from rfl,acked_keys r3 hn]
 refine h.sends m i _ _ hf _ (fun k _ hk => ?_)
 have:=r3.ne hk
 rw [hf k]
 exact ⟨by show (i:Int) ≠ (k:Int);omega,hm⟩
theorem Sim.check (h:Sim P T) (hi:i < P.ps.length) (hu:(P.peer i).up = true) (hs:(P.peer i).state = 2) (hn:P.ps.length ≤ 7) (he:1 ≤ (P.peer i).epoch) (hd:Dk 1 (P.peer i).disk):Sim (P.check i) (T.check i):=by
 have hp:=h.ps i hi
 have hiT:i < T.ps.length:=by rw [h.len];exact hi
 obtain ⟨hh,j,a,e1,e2,e3,r1,r2,r3,e4,e5,e6⟩:=hp.lead hu hs
 unfold PTown.check TownM.check
 have hc:((T.peer i).stands || !T.most (T.ackedTo i T.ps.length)) = ((P.peer i).established || !P.most ((mapL (P.peer i).acked).countP Option.isSome + 1)):=by
  rw [e6,h.most,ackedTo_behind,h.len,e3,show mapL (some a) = a from rfl,acked_eq r3 hn]
  rw [show (1:Int) + (behind (fun _ => false) (fun k => ((T.peer i).mem.getD k memZ).acked) P.ps.length:Nat) = (behind (fun _ => false) (fun k => ((T.peer i).mem.getD k memZ).acked) P.ps.length:Nat) + 1 from by omega]
 rw [hc]
 by_cases hb:((P.peer i).established || !P.most ((mapL (P.peer i).acked).countP Option.isSome + 1)) = true
 ·rw [if_pos hb,if_pos hb];exact h
 ·rw [if_neg hb,if_neg hb]
  have hes:(P.peer i).established = false:=by
   cases hx:(P.peer i).established with
   | false => rfl
   | true => rw [hx] at hb;simp at hb
  -- the new ones
  obtain ⟨p1,hp1⟩:∃ p1:PeerP,p1 = { P.peer i with established:=true }:=⟨_,rfl⟩
  obtain ⟨q1,hq1⟩:∃ q1:PeerM,q1 = { T.peer i with stands:=true }:=⟨_,rfl⟩
  obtain ⟨c1,hc1⟩:∃ c1:CredM,c1 = { (P.peer i).c with e:=(P.peer i).epoch }:=⟨_,rfl⟩
  have hcok:c1.ok:=by rw [hc1];exact ⟨hp.cok.1,hp.cok.2.1,hp.ep,hp.cok.2.2.2⟩
  have hu1:p1.up = true:=by rw [hp1];exact hu
  have hs1:PSim P.ps.length i p1 q1:=by
   rw [hp1,hq1]
   refine PSim.ofUp hu hp.disk (h.up hi hu) hp.cok hp.ep hp.wf (fun e => absurd hs e) (hp.armed hu) (hp.state hu) (hp.c hu) (hp.round hu) (hp.vote hu) (fun e => ?_) (fun e => ?_) (fun _ => ⟨hh,j,a,e1,e2,e3,r1,r2,r3,e4,e5,rfl⟩)
   ·rw [show (P.peer i).state = 0 from e] at hs;cases hs
   ·rw [show (P.peer i).state = 1 from e] at hs;cases hs
  have hw:=hs1.write hu1 c1 hcok
  have hpq:=(pot_wq (q:=q1) c1 hcok (by rw [hs1.disk,hp1];exact hd) (armed_le hs1 hu1)).1
  have hpend:pend (T.peer i) = 1:=by
   unfold pend
   rw [if_pos]
   rw [h.up hi hu,hp.state hu,hs,e6,hes,e5]
   simp
   omega
  have hpend1:pend q1 = 0:=by
   unfold pend
   rw [if_neg]
   rw [hq1]
   simp
  have hpot:pot (T.peer i) + 1 ≤ pot (wq q1 c1):=by
   have:pot q1 = (newestL (T.peer i).disk).n - pend q1:=by unfold pot;rw [hq1]
   unfold pot at this hpq ⊢
   omega
  have hS:=h.setEv hi hw hpot ((i:Int),(P.peer i).epoch)
  have eP:(P.stood i).write i { (P.peer i).c with e:=(P.peer i).epoch } = { P.setP i (p1.writeP c1) with events:=P.events ++ [((i:Int),(P.peer i).epoch)] }:=by
   have:(P.stood i).peer i = p1:=by
    rw [hp1];exact PTown.peerSet hi _
   unfold PTown.write
   rw [this,← hc1]
   unfold PTown.stood PTown.setP
   simp
  have eT:(T.stand i).write i = { T.setPeer i (wq q1 c1) with events:=T.events ++ [((i:Int),(P.peer i).epoch)] }:=by
   have hx:(T.stand i).peer i = { q1 with c:=c1 }:=by
    rw [hq1,hc1,← hp.c hu,← e5]
    exact TownM.peer_set hiT _
   unfold TownM.write
   rw [hx]
   unfold TownM.stand TownM.setPeer
   rw [e5]
   simp only [List.set_set]
   rfl
  rw [eP,eT]
  simp only []
  have hq1a:q1.armed = (T.peer i).armed:=by rw [hq1]
  by_cases ha:(P.peer i).armed = true
  ·rw [if_pos ha,if_neg (fun e => (armed_iff hp hu).1 e ha)]
   exact hS
  ·rw [if_neg ha,if_pos ((armed_iff hp hu).2 ha)]
   have hpe:(PTown.setP P i (p1.writeP c1)).peer i = p1.writeP c1:=PTown.peerSet hi _
   have hpw:p1.writeP c1 = { p1 with disk:=diskWrite p1.disk c1 28,c:=c1 }:=by
    unfold PeerP.writeP
    rw [if_neg (by rw [hp1];exact ha)]
   have hqw:wq q1 c1 = { q1 with c:=c1,disk:=diskWrite q1.disk c1 28 }:=by
    unfold wq
    rw [if_pos (by rw [hq1a];exact (armed_iff hp hu).2 ha)]
   obtain ⟨P2,hP2⟩:∃ P2:PTown,P2 = { P.setP i (p1.writeP c1) with events:=P.events ++ [((i:Int),(P.peer i).epoch)] }:=⟨_,rfl⟩
   obtain ⟨T2,hT2⟩:∃ T2:TownM,T2 = { T.setPeer i (wq q1 c1) with events:=T.events ++ [((i:Int),(P.peer i).epoch)] }:=⟨_,rfl⟩
   rw [← hP2,← hT2] at hS ⊢
   have hpp:P2.peer i = { p1 with disk:=diskWrite p1.disk c1 28,c:=c1 }:=by
    rw [hP2];show (P.setP i _).peer i = _;rw [PTown.peerSet hi,hpw]
   have htt:T2.peer i = { q1 with c:=c1,disk:=diskWrite q1.disk c1 28 }:=by
    rw [hT2];show (T.setPeer i _).peer i = _;rw [TownM.peer_set hiT,hqw]
   have hlen2:P2.ps.length = P.ps.length:=by rw [hP2];exact PTown.setLen _ _
   have hlenT:T2.ps.length = T.ps.length:=by rw [hS.len,hlen2,h.len]
   rw [welcomes_sends,← hlenT]
   have hk:keysOf 0 (mapL (P.peer i).acked) = keysOf 0 (mapL (P2.peer i).acked):=by rw [hpp,hp1]
   rw [hk]
   refine hS.toAcked (by rw [hlen2];exact hi) (by rw [hpp];exact hu1) (by rw [hpp,hp1];exact hs) (by rw [hlen2];exact hn) _ _ (fun k => ?_) (fun e => ?_)
   ·rw [hpp,htt,hp1,hq1]
    simp only []
    rw [e5]
   ·rcases e with e | e <;> cases e
end
end Go.Proofs.YtceappncglfciaaGreat
