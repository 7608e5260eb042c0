import Derived.Test.YtceappncglfciaaGreatM02
import Derived.Test.YtceappncglfciaaGreatM00
set_option linter.unusedVariables false
set_option linter.unusedSimpArgs false
namespace Go.Proofs.YtceappncglfciaaGreat
open TownM
end Go.Proofs.YtceappncglfciaaGreat
namespace Go.Proofs.YtceappncglfciaaGreat
structure PeerP where
 disk:List Int
 up:Bool
 armed:Bool
 bytes:Int
 c:CredM
 state:Int
 round:Int
 vote:VoteM
 votes:Option (List (Option VoteM))
 settled:Option (List (Option (VoteM × Int)))
 waits:Bool
 waitsFrom:Int
 heard:Option (List (Option Int))
 leadsFrom:Int
 epoch:Int
 joined:Option (List (Option Int))
 acked:Option (List (Option Unit))
 established:Bool
structure PTown where
 wait:Int
 lease:Int
 net:Int
 now:Int
 ps:List PeerP
 way:List MsgM
 events:List (Int × Int)
 /-- Where the row of its peers lies,and its room. -/
 rowB:Nat
 rowC:Nat
def none7 {α:Type}:List (Option α):=List.replicate 7 none
def mapL {α:Type} (m:Option (List (Option α))):List (Option α):=m.getD none7
def atL {α:Type} (l:List (Option α)) (k:Nat):Option α:=l[k]?.join
namespace PeerP
def zeroed (d:List Int):PeerP:=⟨d,false,false,0,credZ,0,0,voteZ,none,none,false,0,none,0,0,none,none,false⟩
def become (p:PeerP) (s:Int):PeerP:={ p with state:=s,votes:=none,settled:=none,waits:=false,waitsFrom:=0,heard:=none,leadsFrom:=0,epoch:=0,joined:=none,acked:=none,established:=false }
def sameF (p:PeerP) (k:Nat):Bool:=match atL (mapL p.votes) k with | some v => v.eqb p.vote | none => false
def same (p:PeerP):Int:=1 + (behind (fun _ => false) p.sameF 7:Nat)
def votingF (p:PeerP) (x:Int) (k:Nat):Bool:=match atL (mapL p.settled) k with | some s => s.1.p == x | none => false
def voting (p:PeerP) (x:Int):Int:=(behind (fun _ => false) (p.votingF x) 7:Nat)
def latelyF (p:PeerP) (now lease:Int) (k:Nat):Bool:=match atL (mapL p.heard) k with | some t => decide (now - t < lease) | none => false
def lately (p:PeerP) (now lease:Int):Int:=(behind (fun _ => false) (p.latelyF now lease) 7:Nat)
def writeP (p:PeerP) (c:CredM):PeerP:=if p.armed = true then zeroed (diskWrite p.disk c p.bytes.toNat) else { p with disk:=diskWrite p.disk c 28,c:=c }
def hasPromised (p:PeerP) (e k:Int):Bool:=p.c.p == e && p.c.t == k
def isBehind (p:PeerP) (v:VoteM):Bool:=decide (p.c.e < v.e) || (p.c.e == v.e && decide (p.c.v < v.n))
def topL (left:Lit → Bool) (l:List (Option Int)) (x:Int):Nat → Int
 | 0 => x
 | k + 1 => match atL l k with
  | some v => if left (.int .i64 (k:Int)) = true then topL left l x k else max (topL left l x k) (v + 1)
  | none => topL left l x k
def top (p:PeerP):Int:=topL (fun _ => false) (mapL p.joined) (p.c.p + 1) 7
end PeerP
namespace PTown
def peer (T:PTown) (i:Nat):PeerP:=T.ps.getD i (PeerP.zeroed [])
def setP (T:PTown) (i:Nat) (p:PeerP):PTown:={ T with ps:=T.ps.set i p }
def most (T:PTown) (n:Int):Bool:=decide ((T.ps.length:Int) < 2 * n)
def lay (T:PTown) (m:MsgM):PTown:=if (T.way.length:Int) < T.net then { T with way:=T.way ++ [m] } else T
def sendTo (T:PTown) (m:MsgM) (i:Nat):List Int → PTown
 | [] => T
 | k :: r => (T.lay { m with src:=i,dst:=k }).sendTo m i r
def othersTo (i:Nat):Nat → List Int
 | 0 => []
 | k + 1 => if k = i then othersTo i k else othersTo i k ++ [(k:Int)]
def noticeM (T:PTown) (i:Nat):MsgM:=⟨1,0,0,(T.peer i).round,(T.peer i).state,(T.peer i).vote,0,0⟩
def tell (T:PTown) (i:Nat) (to:List Int):PTown:=T.sendTo (T.noticeM i) i to
def choose (T:PTown) (i:Nat) (v:VoteM):PTown:=(T.setP i { T.peer i with vote:=v,waits:=false }).tell i (othersTo i T.ps.length)
def enter (T:PTown) (i:Nat) (r:Int) (v:VoteM):PTown:=(T.setP i { T.peer i with round:=r,votes:=some none7 }).choose i v
def forItself (T:PTown) (i:Nat):VoteM:=(T.peer i).c.vote i
def counted (T:PTown) (p:PeerP):PeerP:=if T.most p.same = true then (if p.waits = true then p else { p with waits:=true,waitsFrom:=T.now }) else { p with waits:=false }
def count (T:PTown) (i:Nat):PTown:=T.setP i (T.counted (T.peer i))
def look (T:PTown) (i:Nat):PTown:=((T.setP i { (T.peer i).become 0 with settled:=some none7 }).enter i ((T.peer i).round + 1) (T.forItself i)).count i
def write (T:PTown) (i:Nat) (c:CredM):PTown:=T.setP i ((T.peer i).writeP c)
def promise (T:PTown) (i:Nat) (e k:Int):PTown:=T.write i { (T.peer i).c with p:=e,t:=k }
def hearOf (p:PeerP) (k now:Int):PeerP:={ p with heard:=some ((mapL p.heard).set k.toNat (some now)) }
def noteHeard (T:PTown) (i:Nat) (k:Int):PTown:=T.setP i (hearOf (T.peer i) k T.now)
def follow (T:PTown) (i:Nat) (v:VoteM):PTown :=
 let T1:=(T.setP i { (T.peer i).become 1 with vote:=v }).sendTo ⟨2,0,0,0,0,voteZ,(T.peer i).c.p,0⟩ i [v.p]
 (T1.setP i { T1.peer i with heard:=some none7 }).noteHeard i v.p
def proposalM (T:PTown) (i:Nat):MsgM:=⟨3,0,0,0,0,voteZ,(T.peer i).epoch,0⟩
def welcome (T:PTown) (i:Nat) (to:List Int):PTown:=T.sendTo ⟨5,0,0,0,0,voteZ,(T.peer i).epoch,(T.peer i).c.v⟩ i to
def stood (T:PTown) (i:Nat):PTown:={ T.setP i { T.peer i with established:=true } with events:=T.events ++ [((i:Int),(T.peer i).epoch)] }
def check (T:PTown) (i:Nat):PTown :=
 if ((T.peer i).established || !T.most ((mapL (T.peer i).acked).countP Option.isSome + 1)) = true then T
 else
  let T1:=(T.stood i).write i { (T.peer i).c with e:=(T.peer i).epoch }
  if (T.peer i).armed = true then T1 else T1.welcome i (keysOf 0 (mapL (T.peer i).acked))
def propose (T:PTown) (i:Nat):PTown :=
 let T1:=T.setP i { T.peer i with epoch:=(T.peer i).top }
 if 1000 < (T.peer i).top then T1.look i
 else
  let T2:=T1.promise i (T.peer i).top i
  if (T.peer i).armed = true then T2 else (T2.sendTo (T2.proposalM i) i (keysOf 0 (mapL (T.peer i).joined))).check i
def lead (T:PTown) (i:Nat):PTown :=
 let T1:=T.setP i { (T.peer i).become 2 with leadsFrom:=T.now,heard:=some none7,joined:=some none7,acked:=some none7 }
 if T.ps.length = 1 then T1.propose i else T1
def settle (T:PTown) (i:Nat):PTown:=if (T.peer i).vote.p = (i:Int) then T.lead i else T.follow i (T.peer i).vote
def answerNotice (T:PTown) (i:Nat) (m:MsgM):PTown:=if m.state = 0 then T.tell i [m.src] else T
def betterThan (T:PTown) (i:Nat) (v:VoteM):VoteM:=if v.better (T.forItself i) = true then v else T.forItself i
def voted (p:PeerP) (k:Int) (v:VoteM):PeerP:={ p with votes:=some ((mapL p.votes).set k.toNat (some v)) }
def compare (T:PTown) (i:Nat) (m:MsgM):PTown :=
 if m.round < (T.peer i).round then T.tell i [m.src]
 else
  let T1:=if (T.peer i).round < m.round then T.enter i m.round (T.betterThan i m.vote) else if m.vote.better (T.peer i).vote = true then T.choose i m.vote else T
  (T1.setP i (voted (T1.peer i) m.src m.vote)).count i
def stands (p:PeerP) (k:Int) (v:VoteM) (s:Int):PeerP:={ p with settled:=some ((mapL p.settled).set k.toNat (some (v,s))) }
def keep (T:PTown) (i:Nat) (m:MsgM):PTown :=
 let p:=stands (T.peer i) m.src m.vote m.state
 let T1:=T.setP i p
 match atL (mapL p.settled) m.vote.p.toNat with
 | some s => if (T.most (p.voting m.vote.p) && (s.2 == 2 && s.1.p == m.vote.p)) = true then T1.follow i s.1 else T1
 | none => T1
def getLooking (T:PTown) (i:Nat) (m:MsgM):PTown:=if m.kind ≠ 1 then T else if m.state = 0 then T.compare i m else T.keep i m
def ack (T:PTown) (i:Nat) (m:MsgM):PTown:=T.sendTo ⟨4,0,0,0,0,T.forItself i,m.epoch,0⟩ i [m.src]
def answerPropose (T:PTown) (i:Nat) (m:MsgM):PTown :=
 if (T.peer i).c.p < m.epoch then
  let T1:=T.promise i m.epoch m.src
  if (T.peer i).armed = true then T1 else T1.ack i m
 else if (T.peer i).hasPromised m.epoch m.src = true then T.ack i m else T.look i
def takeWelcome (T:PTown) (i:Nat) (m:MsgM):PTown :=
 if (!(T.peer i).hasPromised m.epoch m.src || (T.peer i).c.e == m.epoch) = true then T
 else (T.noteHeard i m.src).write i { (T.peer i).c with e:=m.epoch,v:=m.news }
def getFromLeader (T:PTown) (i:Nat) (m:MsgM):PTown :=
 if m.kind = 3 then (T.noteHeard i m.src).answerPropose i m
 else if m.kind = 5 then T.takeWelcome i m
 else if m.kind = 6 then (T.noteHeard i m.src).sendTo ⟨7,0,0,0,0,voteZ,0,0⟩ i [m.src] else T
def getFollowing (T:PTown) (i:Nat) (m:MsgM):PTown:=if m.kind = 1 then T.answerNotice i m else if m.src = (T.peer i).vote.p then T.getFromLeader i m else T
def join (p:PeerP) (k e:Int):PeerP:={ p with joined:=some ((mapL p.joined).set k.toNat (some e)) }
def takeJoin (T:PTown) (i:Nat) (m:MsgM):PTown :=
 let T1:=T.setP i (join (T.peer i) m.src m.epoch)
 if (T.peer i).epoch = 0 then (if T.most ((mapL (T1.peer i).joined).countP Option.isSome + 1) = true then T1.propose i else T1)
 else if (T.peer i).epoch < m.epoch then T1.look i else T1.sendTo (T1.proposalM i) i [m.src]
def acks (p:PeerP) (k:Int):PeerP:={ p with acked:=some ((mapL p.acked).set k.toNat (some ())) }
def takeAck (T:PTown) (i:Nat) (m:MsgM):PTown :=
 if (!(T.peer i).established && (T.peer i).isBehind m.vote) = true then T.look i
 else
  let T1:=T.setP i (acks (T.peer i) m.src)
  if (T.peer i).established = true then T1.welcome i [m.src] else T1.check i
def getLeading (T:PTown) (i:Nat) (m:MsgM):PTown :=
 if m.kind = 1 then T.answerNotice i m
 else if m.kind = 2 then (T.noteHeard i m.src).takeJoin i m
 else if m.kind = 4 then (if m.epoch = (T.peer i).epoch then (T.noteHeard i m.src).takeAck i m else T)
 else if m.kind = 7 then T.noteHeard i m.src else T
def get (T:PTown) (i:Nat) (m:MsgM):PTown :=
 if (T.peer i).state = 0 then T.getLooking i m else if (T.peer i).state = 1 then T.getFollowing i m else if (T.peer i).state = 2 then T.getLeading i m else T
def timeGoes (T:PTown) (i:Nat):PTown :=
 if (T.peer i).state = 0 then (if ((T.peer i).waits && decide (T.wait ≤ T.now - (T.peer i).waitsFrom)) = true then T.settle i else T)
 else if (T.peer i).state = 1 then (if T.lease ≤ T.now - (atL (mapL (T.peer i).heard) (T.peer i).vote.p.toNat).getD 0 then T.look i else T)
 else if (T.peer i).state = 2 then
  (if (decide (T.lease ≤ T.now - (T.peer i).leadsFrom) && !T.most ((T.peer i).lately T.now T.lease + 1)) = true then T.look i
   else if T.now % (T.lease / 4) = 0 then T.sendTo ⟨6,0,0,0,0,voteZ,0,0⟩ i (keysOf 0 (mapL (T.peer i).joined)) else T)
 else T
def comeUp (T:PTown) (i:Nat):PTown :=
 let x:=newestL (T.peer i).disk
 let p:={ T.peer i with up:=true,c:=x.c }
 if x.at_ < 0 then T.setP i { p with state:=3 } else (T.setP i p).look i
def goDown (T:PTown) (i:Nat):PTown:=T.setP i (PeerP.zeroed (T.peer i).disk)
def hearNews (T:PTown) (i:Nat):PTown:=T.write i { (T.peer i).c with v:=(T.peer i).c.v + 1 }
def armP (T:PTown) (i:Nat) (n:Int):PTown:=T.setP i { T.peer i with armed:=true,bytes:=n }
end PTown
end Go.Proofs.YtceappncglfciaaGreat
namespace Go.Proofs.YtceappncglfciaaGreat
structure Fr (T T':PTown):Prop where
 wait:T'.wait = T.wait
 lease:T'.lease = T.lease
 net:T'.net = T.net
 now:T'.now = T.now
 rowB:T'.rowB = T.rowB
 rowC:T'.rowC = T.rowC
 len:T'.ps.length = T.ps.length
namespace Fr
variable {T T' T'':PTown} {i:Nat}
theorem rfl':Fr T T:=⟨rfl,rfl,rfl,rfl,rfl,rfl,rfl⟩
theorem trans (h:Fr T T') (k:Fr T' T''):Fr T T'':=⟨k.wait.trans h.wait,k.lease.trans h.lease,k.net.trans h.net,k.now.trans h.now,k.rowB.trans h.rowB,k.rowC.trans h.rowC,k.len.trans h.len⟩
theorem setP (p:PeerP):Fr T (T.setP i p):=⟨rfl,rfl,rfl,rfl,rfl,rfl,by simp [PTown.setP]⟩
theorem lay (m:MsgM):Fr T (T.lay m):=by unfold PTown.lay;split <;> exact ⟨rfl,rfl,rfl,rfl,rfl,rfl,rfl⟩
theorem sendTo (m:MsgM):∀ (l:List Int) (T:PTown),Fr T (T.sendTo m i l)
 | [],_ => rfl'
 | _ :: r,T => (lay _).trans (sendTo m r _)
theorem tell (l:List Int):Fr T (T.tell i l):=sendTo _ _ _
theorem choose (v:VoteM):Fr T (T.choose i v):=(setP _).trans (tell _)
theorem enter (r:Int) (v:VoteM):Fr T (T.enter i r v):=(setP _).trans (choose v)
theorem count:Fr T (T.count i):=setP _
theorem look:Fr T (T.look i):=((setP _).trans (enter _ _)).trans count
theorem write (c:CredM):Fr T (T.write i c):=setP _
theorem promise (e k:Int):Fr T (T.promise i e k):=write _
theorem noteHeard (k:Int):Fr T (T.noteHeard i k):=setP _
theorem follow (v:VoteM):Fr T (T.follow i v):=(((setP _).trans (sendTo _ _ _)).trans (setP _)).trans (noteHeard _)
theorem welcome (l:List Int):Fr T (T.welcome i l):=sendTo _ _ _
theorem stood:Fr T (T.stood i):=⟨rfl,rfl,rfl,rfl,rfl,rfl,by simp [PTown.stood,PTown.setP]⟩
theorem check:Fr T (T.check i):=by
 unfold PTown.check
 split
 ·exact rfl'
 ·simp only []
  split
  ·exact stood.trans (write _)
  ·exact (stood.trans (write _)).trans (welcome _)
theorem propose:Fr T (T.propose i):=by
 unfold PTown.propose
 simp only []
 split
 ·exact (setP _).trans look
 ·split
  ·exact (setP _).trans (promise _ _)
  ·exact (((setP _).trans (promise _ _)).trans (sendTo _ _ _)).trans check
theorem lead:Fr T (T.lead i):=by
 unfold PTown.lead
 simp only []
 split
 ·exact (setP _).trans propose
 ·exact setP _
theorem settle:Fr T (T.settle i):=by
 unfold PTown.settle
 split
 ·exact lead
 ·exact follow _
theorem timeGoes:Fr T (T.timeGoes i):=by
 unfold PTown.timeGoes
 split
 ·split
  ·exact settle
  ·exact rfl'
 ·split
  ·split
   ·exact look
   ·exact rfl'
  ·split
   ·split
    ·exact look
    ·split
     ·exact sendTo _ _ _
     ·exact rfl'
   ·exact rfl'
theorem comeUp:Fr T (T.comeUp i):=by
 unfold PTown.comeUp
 simp only []
 split
 ·exact setP _
 ·exact (setP _).trans look
end Fr
def PTown.tickAt (T:PTown) (k:Nat):PTown:=if (T.peer k).up = true then T.timeGoes k else T
def PTown.ticksTo (T:PTown):Nat → PTown
 | 0 => T
 | k + 1 => (T.ticksTo k).tickAt k
def PTown.later (T:PTown):PTown:={ T with now:=T.now + 1 }
def PTown.tick1 (T:PTown):PTown:=T.later.ticksTo T.ps.length
def PTown.tickN (T:PTown):Nat → PTown
 | 0 => T
 | k + 1 => (T.tickN k).tick1
theorem Fr.tickAt {T:PTown} {k:Nat}:Fr T (T.tickAt k):=by
 unfold PTown.tickAt
 split
 ·exact Fr.timeGoes
 ·exact Fr.rfl'
theorem Fr.ticksTo {T:PTown}:∀ k,Fr T (T.ticksTo k)
 | 0 => Fr.rfl'
 | k + 1 => (Fr.ticksTo k).trans Fr.tickAt
theorem ptick1_len (T:PTown):T.tick1.ps.length = T.ps.length:=(Fr.ticksTo (T:=T.later) _).len
theorem ptickN_len (T:PTown):∀ k,(T.tickN k).ps.length = T.ps.length
 | 0 => rfl
 | k + 1 => (ptick1_len _).trans (ptickN_len T k)
end Go.Proofs.YtceappncglfciaaGreat
namespace Go.Proofs.YtceappncglfciaaGreat
structure VRel (n i:Nat) (l:List (Option VoteM)) (ks:List KnownM):Prop where
 len:l.length = 7 ∧ ks.length = 7
 at_:∀ k,match atL l k with | some v => k < n ∧ k ≠ i ∧ (ks.getD k knownZ).is = true ∧ (ks.getD k knownZ).vote = v | none => (ks.getD k knownZ).is = false
structure SRel (n i:Nat) (l:List (Option (VoteM × Int))) (ks:List KnownM):Prop where
 len:l.length = 7 ∧ ks.length = 7
 at_:∀ k,match atL l k with | some v => k < n ∧ k ≠ i ∧ (ks.getD k knownZ).is = true ∧ (ks.getD k knownZ).vote = v.1 ∧ (ks.getD k knownZ).state = v.2 | none => (ks.getD k knownZ).is = false
structure HRel (n:Nat) (l:List (Option Int)) (ms:List MemM):Prop where
 len:l.length = 7 ∧ ms.length = 7
 at_:∀ k,match atL l k with | some t => k < n ∧ (ms.getD k memZ).heard = true ∧ (ms.getD k memZ).at_ = t | none => (ms.getD k memZ).heard = false
structure JRel (n i:Nat) (l:List (Option Int)) (ms:List MemM):Prop where
 len:l.length = 7 ∧ ms.length = 7
 at_:∀ k,match atL l k with | some e => k < n ∧ k ≠ i ∧ (ms.getD k memZ).joined = true ∧ (ms.getD k memZ).promised = e | none => (ms.getD k memZ).joined = false
structure ARel (n i:Nat) (l:List (Option Unit)) (ms:List MemM):Prop where
 len:l.length = 7 ∧ ms.length = 7
 at_:∀ k,match atL l k with | some _ => k < n ∧ k ≠ i ∧ (ms.getD k memZ).acked = true | none => (ms.getD k memZ).acked = false
theorem atL_none7 {α:Type} (k:Nat):atL (none7:List (Option α)) k = none:=by
 unfold atL none7
 rw [List.getElem?_replicate]
 split <;> rfl
theorem atL_set {α:Type} (l:List (Option α)) (j k:Nat) (v:α) (hj:j < l.length):atL (l.set j (some v)) k = if k = j then some v else atL l k:=by
 unfold atL
 by_cases h:k = j
 ·subst h
  rw [if_pos rfl,List.getElem?_set_self hj];rfl
 ·rw [if_neg h,List.getElem?_set_ne (fun e => h e.symm)]
theorem getD_set {α:Type} (l:List α) (j k:Nat) (v d:α) (hj:j < l.length):(l.set j v).getD k d = if k = j then v else l.getD k d:=by
 rw [List.getD_eq_getElem?_getD,List.getD_eq_getElem?_getD]
 by_cases h:k = j
 ·subst h
  rw [if_pos rfl,List.getElem?_set_self hj];rfl
 ·rw [if_neg h,List.getElem?_set_ne (fun e => h e.symm)]
theorem getD_known7 (k:Nat):known7.getD k knownZ = knownZ:=by
 unfold known7
 rw [List.getD_eq_getElem?_getD,List.getElem?_replicate]
 split <;> rfl
theorem getD_mem7 (k:Nat):mem7.getD k memZ = memZ:=by
 unfold mem7
 rw [List.getD_eq_getElem?_getD,List.getElem?_replicate]
 split <;> rfl
theorem VRel.none (n i:Nat):VRel n i none7 known7:=⟨⟨rfl,rfl⟩,fun k => by rw [atL_none7,getD_known7];rfl⟩
theorem SRel.none (n i:Nat):SRel n i none7 known7:=⟨⟨rfl,rfl⟩,fun k => by rw [atL_none7,getD_known7];rfl⟩
theorem HRel.none (n:Nat):HRel n none7 mem7:=⟨⟨rfl,rfl⟩,fun k => by rw [atL_none7,getD_mem7];rfl⟩
theorem JRel.none (n i:Nat):JRel n i none7 mem7:=⟨⟨rfl,rfl⟩,fun k => by rw [atL_none7,getD_mem7];rfl⟩
theorem ARel.none (n i:Nat):ARel n i none7 mem7:=⟨⟨rfl,rfl⟩,fun k => by rw [atL_none7,getD_mem7];rfl⟩
theorem VRel.set {n i:Nat} {l:List (Option VoteM)} {ks:List KnownM} (h:VRel n i l ks) {j:Nat} (hj:j < n) (hn:n ≤ 7) (hi:j ≠ i) (v:VoteM) (s:Int):VRel n i (l.set j (some v)) (ks.set j ⟨true,v,s⟩):=by
 have h1:=h.len
 refine ⟨by simp [h1],fun k => ?_⟩
 rw [atL_set l j k v (by omega),getD_set ks j k _ _ (by omega)]
 by_cases e:k = j
 ·subst e;simp [hj,hi]
 ·simp only [if_neg e];exact h.at_ k
theorem SRel.set {n i:Nat} {l:List (Option (VoteM × Int))} {ks:List KnownM} (h:SRel n i l ks) {j:Nat} (hj:j < n) (hn:n ≤ 7) (hi:j ≠ i) (v:VoteM) (s:Int):SRel n i (l.set j (some (v,s))) (ks.set j ⟨true,v,s⟩):=by
 have h1:=h.len
 refine ⟨by simp [h1],fun k => ?_⟩
 rw [atL_set l j k _ (by omega),getD_set ks j k _ _ (by omega)]
 by_cases e:k = j
 ·subst e;simp [hj,hi]
 ·simp only [if_neg e];exact h.at_ k
theorem HRel.set {n:Nat} {l:List (Option Int)} {ms:List MemM} (h:HRel n l ms) {j:Nat} (hj:j < n) (hn:n ≤ 7) (t:Int) (x:MemM) (h1:x.heard = true) (h2:x.at_ = t):HRel n (l.set j (some t)) (ms.set j x):=by
 have hl:=h.len
 refine ⟨by simp [hl],fun k => ?_⟩
 rw [atL_set l j k _ (by omega),getD_set ms j k _ _ (by omega)]
 by_cases e:k = j
 ·subst e;simp only [if_true];exact ⟨hj,h1,h2⟩
 ·simp only [if_neg e];exact h.at_ k
theorem HRel.stay {n:Nat} {l:List (Option Int)} {ms:List MemM} (h:HRel n l ms) {j:Nat} (hj:j < 7) (x:MemM) (h1:x.heard = (ms.getD j memZ).heard) (h2:x.at_ = (ms.getD j memZ).at_):HRel n l (ms.set j x):=by
 have hl:=h.len
 refine ⟨by simp [hl],fun k => ?_⟩
 rw [getD_set ms j k _ _ (by omega)]
 by_cases e:k = j
 ·subst e;simp only [if_true,h1,h2];exact h.at_ k
 ·simp only [if_neg e];exact h.at_ k
theorem JRel.set {n i:Nat} {l:List (Option Int)} {ms:List MemM} (h:JRel n i l ms) {j:Nat} (hj:j < n) (hn:n ≤ 7) (hi:j ≠ i) (t:Int) (x:MemM) (h1:x.joined = true) (h2:x.promised = t):JRel n i (l.set j (some t)) (ms.set j x):=by
 have hl:=h.len
 refine ⟨by simp [hl],fun k => ?_⟩
 rw [atL_set l j k _ (by omega),getD_set ms j k _ _ (by omega)]
 by_cases e:k = j
 ·subst e;simp only [if_true];exact ⟨hj,hi,h1,h2⟩
 ·simp only [if_neg e];exact h.at_ k
theorem JRel.stay {n i:Nat} {l:List (Option Int)} {ms:List MemM} (h:JRel n i l ms) {j:Nat} (hj:j < 7) (x:MemM) (h1:x.joined = (ms.getD j memZ).joined) (h2:x.promised = (ms.getD j memZ).promised):JRel n i l (ms.set j x):=by
 have hl:=h.len
 refine ⟨by simp [hl],fun k => ?_⟩
 rw [getD_set ms j k _ _ (by omega)]
 by_cases e:k = j
 ·subst e;simp only [if_true,h1,h2];exact h.at_ k
 ·simp only [if_neg e];exact h.at_ k
theorem ARel.set {n i:Nat} {l:List (Option Unit)} {ms:List MemM} (h:ARel n i l ms) {j:Nat} (hj:j < n) (hn:n ≤ 7) (hi:j ≠ i) (x:MemM) (h1:x.acked = true):ARel n i (l.set j (some ())) (ms.set j x):=by
 have hl:=h.len
 refine ⟨by simp [hl],fun k => ?_⟩
 rw [atL_set l j k _ (by omega),getD_set ms j k _ _ (by omega)]
 by_cases e:k = j
 ·subst e;simp only [if_true];exact ⟨hj,hi,h1⟩
 ·simp only [if_neg e];exact h.at_ k
theorem ARel.stay {n i:Nat} {l:List (Option Unit)} {ms:List MemM} (h:ARel n i l ms) {j:Nat} (hj:j < 7) (x:MemM) (h1:x.acked = (ms.getD j memZ).acked):ARel n i l (ms.set j x):=by
 have hl:=h.len
 refine ⟨by simp [hl],fun k => ?_⟩
 rw [getD_set ms j k _ _ (by omega)]
 by_cases e:k = j
 ·subst e;simp only [if_true,h1];exact h.at_ k
 ·simp only [if_neg e];exact h.at_ k
def leadsQ (n i:Nat) (ks:List KnownM) (x:Nat):Bool :=
 !(decide (x = i)) && (decide ((n:Int) < 2 * (behind (fun _ => false) (fun k => (ks.getD k knownZ).is && (ks.getD k knownZ).vote.p == (x:Int)) n:Nat)) && ((ks.getD x knownZ).is && ((ks.getD x knownZ).state == 2 && (ks.getD x knownZ).vote.p == (x:Int))))
def Tm (x:Int):Prop:=0 ≤ x ∧ x ≤ 4611686018427387904
structure PSim (n i:Nat) (p:PeerP) (q:PeerM):Prop where
 disk:q.disk = p.disk
 up:q.up = p.up
 down:p.up = false → p = { PeerP.zeroed p.disk with c:=p.c }
 cok:p.c.ok
 ep:U32 p.epoch
 wf:Tm p.waitsFrom
 other:p.state ≠ 2 → p.leadsFrom = 0 ∧ p.epoch = 0 ∧ p.established = false
 armed:p.up = true → (p.armed = false ∧ q.armed < 0) ∨ (p.armed = true ∧ q.armed = p.bytes ∧ 0 ≤ p.bytes ∧ p.bytes ≤ 28)
 state:p.up = true → q.state = p.state
 c:p.up = true → q.c = p.c
 round:p.up = true → q.round = p.round
 vote:p.up = true → q.vote = p.vote
 look:p.up = true → p.state = 0 → ∃ l s,p.votes = some l ∧ p.settled = some s ∧ VRel n i l q.votes ∧ SRel n i s q.settled ∧ q.waits = p.waits ∧ (p.waits = true → q.since = p.waitsFrom) ∧ ∀ x,x < n → leadsQ n i q.settled x = false
 fol:p.up = true → p.state = 1 → ∃ l,p.heard = some l ∧ l.length = 7 ∧ atL l p.vote.p.toNat = some q.since ∧ ∀ k t,atL l k = some t → k = p.vote.p.toNat
 lead:p.up = true → p.state = 2 → ∃ h j a,p.heard = some h ∧ p.joined = some j ∧ p.acked = some a ∧ HRel n h q.mem ∧ JRel n i j q.mem ∧ ARel n i a q.mem ∧ q.since = p.leadsFrom ∧ q.epoch = p.epoch ∧ q.stands = p.established
structure MsgInv (m:MsgM):Prop where
 ne:m.src ≠ m.dst
 ep:m.kind = 3 ∨ m.kind = 4 → 1 ≤ m.epoch
def pend (q:PeerM):Int:=if (q.up && (q.state == 2 && (!q.stands && q.epoch != 0))) = true then 1 else 0
def pot (q:PeerM):Int:=(newestL q.disk).n - pend q
def potSum:List PeerM → Int
 | [] => 0
 | q :: r => pot q + potSum r
theorem pend_01 (q:PeerM):0 ≤ pend q ∧ pend q ≤ 1:=by unfold pend;split <;> omega
theorem potSum_set:∀ (l:List PeerM) (i:Nat) (q q':PeerM),l[i]? = some q → potSum (l.set i q') = potSum l - pot q + pot q'
 | [],_,_,_,h => by simp at h
 | x :: r,0,q,q',h => by
  have:x = q:=by simpa using h
  subst this
  simp only [List.set_cons_zero,potSum];omega
 | x :: r,i + 1,q,q',h => by
  have h1:r[i]? = some q:=by simpa using h
  simp only [List.set_cons_succ,potSum,potSum_set r i q q' h1];omega
structure Sim (P:PTown) (T:TownM):Prop where
 wait:T.wait = P.wait
 lease:T.lease = P.lease
 net:T.net = P.net
 now:T.now = P.now
 way:T.way = P.way
 events:T.events = P.events
 len:T.ps.length = P.ps.length
 ps:∀ i,i < P.ps.length → PSim P.ps.length i (P.peer i) (T.peer i)
 msgs:∀ m ∈ P.way,MsgInv m
 evs:(P.events.length:Int) ≤ potSum T.ps
section
variable {P:PTown} {T:TownM} {i:Nat}
theorem PTown.peerSet {i:Nat} (hi:i < P.ps.length) (p:PeerP):(P.setP i p).peer i = p:=by simp [PTown.peer,PTown.setP,hi]
theorem PTown.peerSetNe {i j:Nat} (hij:i ≠ j) (p:PeerP):(P.setP i p).peer j = P.peer j:=by simp [PTown.peer,PTown.setP,List.getD_eq_getElem?_getD,List.getElem?_set_ne hij]
theorem PTown.setSet {i:Nat} (p p':PeerP):(P.setP i p).setP i p' = P.setP i p':=by simp [PTown.setP,List.set_set]
theorem PTown.setLen (i:Nat) (p:PeerP):(P.setP i p).ps.length = P.ps.length:=by simp [PTown.setP]
theorem Sim.set (h:Sim P T) (hi:i < P.ps.length) {p:PeerP} {q:PeerM} (hp:PSim P.ps.length i p q) (hpot:pot (T.peer i) ≤ pot q):Sim (P.setP i p) (T.setPeer i q):=by
 have hl:=PTown.setLen (P:=P) i p
 refine ⟨h.wait,h.lease,h.net,h.now,h.way,h.events,?_,?_,h.msgs,?_⟩
 ·rw [TownM.setPeer_len,hl];exact h.len
 ·intro j hj
  rw [hl] at hj ⊢
  by_cases e:i = j
  ·subst e
   rw [PTown.peerSet hi,TownM.peer_set (by rw [h.len];exact hi)]
   exact hp
  ·rw [PTown.peerSetNe e,TownM.peer_other e]
   exact h.ps j hj
 ·have:=potSum_set T.ps i (T.peer i) q (TownM.peer_some (by rw [h.len];exact hi))
  show (P.events.length:Int) ≤ potSum (T.ps.set i q)
  have:=h.evs
  omega
theorem Sim.send (h:Sim P T) {m:MsgM} (hm:MsgInv m):Sim (P.lay m) (T.send m):=by
 unfold PTown.lay TownM.send
 rw [h.way,h.net]
 by_cases hc:(P.way.length:Int) < P.net
 ·rw [if_pos hc,if_pos hc]
  refine ⟨h.wait,h.lease,rfl,h.now,rfl,h.events,h.len,h.ps,?_,h.evs⟩
  intro x hx
  rcases List.mem_append.1 hx with h1 | h1
  ·exact h.msgs x h1
  ·rw [List.mem_singleton.1 h1];exact hm
 ·rw [if_neg hc,if_neg hc];exact h
theorem Sim.most (h:Sim P T) (n:Int):T.most n = P.most n:=by unfold TownM.most PTown.most;rw [h.len]
end
end Go.Proofs.YtceappncglfciaaGreat
