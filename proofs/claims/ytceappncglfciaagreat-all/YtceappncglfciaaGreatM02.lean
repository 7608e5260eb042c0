import Derived.Test.YtceappncglfciaaGreatM01
set_option linter.unusedVariables false
set_option linter.unusedSimpArgs false
namespace Go.Proofs.YtceappncglfciaaGreat
def U32 (x:Int):Prop:=0 ≤ x ∧ x ≤ 4294967295
structure VoteOK (n:Nat) (v:VoteM):Prop where
 e:U32 v.e
 w:U32 v.n
 p:0 ≤ v.p ∧ v.p < n
structure MsgOK (n:Nat) (K:Int) (m:MsgM):Prop where
 kind:1 ≤ m.kind ∧ m.kind ≤ 7
 src:0 ≤ m.src ∧ m.src < n
 dst:0 ≤ m.dst ∧ m.dst < n
 round:0 ≤ m.round ∧ m.round ≤ K
 state:0 ≤ m.state ∧ m.state ≤ 3
 vote:VoteOK n m.vote
 epoch:U32 m.epoch
 news:U32 m.news
structure PeerOK (n:Nat) (K:Int) (p:PeerM):Prop where
 disk:∃ k c,DiskOK k c p.disk ∧ k ≤ K
 armed:-1 ≤ p.armed ∧ p.armed ≤ 28
 state:0 ≤ p.state ∧ p.state ≤ 3
 c:p.c.ok
 round:0 ≤ p.round ∧ p.round ≤ K
 vote:VoteOK n p.vote
 votes:p.votes.length = 7 ∧ ∀ x ∈ p.votes,VoteOK n x.vote
 settled:p.settled.length = 7 ∧ ∀ x ∈ p.settled,VoteOK n x.vote
 since:0 ≤ p.since ∧ p.since ≤ K
 epoch:U32 p.epoch
 mem:p.mem.length = 7 ∧ ∀ x ∈ p.mem,U32 x.promised ∧ 0 ≤ x.at_ ∧ x.at_ ≤ K
structure Fits (K:Int) (T:TownM):Prop where
 n:1 ≤ T.ps.length ∧ T.ps.length ≤ 7
 wait:1 ≤ T.wait ∧ T.wait ≤ 20
 lease:4 ≤ T.lease ∧ T.lease ≤ 100
 net:1 ≤ T.net ∧ T.net ≤ 1000
 now:0 ≤ T.now ∧ T.now ≤ K
 len:(T.way.length:Int) ≤ T.net
 way:∀ m ∈ T.way,MsgOK T.ps.length K m
 ps:∀ p ∈ T.ps,PeerOK T.ps.length K p
theorem s0:(0:Int) ≤ 0 ∧ (0:Int) ≤ 3:=⟨by decide,by decide⟩
theorem s1:(0:Int) ≤ 1 ∧ (1:Int) ≤ 3:=⟨by decide,by decide⟩
theorem s2:(0:Int) ≤ 2 ∧ (2:Int) ≤ 3:=⟨by decide,by decide⟩
theorem s3:(0:Int) ≤ 3 ∧ (3:Int) ≤ 3:=⟨by decide,by decide⟩
theorem u0:U32 0:=⟨by decide,by decide⟩
theorem a1:(-1:Int) ≤ -1 ∧ (-1:Int) ≤ 28:=⟨by decide,by decide⟩
theorem d1:(1:Int) ≤ 1 ∧ (1:Int) ≤ 7:=⟨by decide,by decide⟩
theorem d4:(1:Int) ≤ 4 ∧ (4:Int) ≤ 7:=⟨by decide,by decide⟩
theorem voteZ_ok {n:Nat} (h:1 ≤ n):VoteOK n voteZ:=⟨⟨by decide,by decide⟩,⟨by decide,by decide⟩,by decide,by show (0:Int) < n;omega⟩
theorem MsgOK.mono {n:Nat} {K K':Int} {m:MsgM} (h:MsgOK n K m) (hk:K ≤ K'):MsgOK n K' m:=⟨h.kind,h.src,h.dst,⟨h.round.1,Int.le_trans h.round.2 hk⟩,h.state,h.vote,h.epoch,h.news⟩
theorem PeerOK.mono {n:Nat} {K K':Int} {p:PeerM} (h:PeerOK n K p) (hk:K ≤ K'):PeerOK n K' p :=
 ⟨let ⟨k,c,h1,h2⟩:=h.disk;⟨k,c,h1,Int.le_trans h2 hk⟩,h.armed,h.state,h.c,⟨h.round.1,Int.le_trans h.round.2 hk⟩,h.vote,h.votes,h.settled,⟨h.since.1,Int.le_trans h.since.2 hk⟩,h.epoch,h.mem.1,fun x hx => ⟨(h.mem.2 x hx).1,(h.mem.2 x hx).2.1,Int.le_trans (h.mem.2 x hx).2.2 hk⟩⟩
theorem Fits.mono {K K':Int} {T:TownM} (h:Fits K T) (hk:K ≤ K'):Fits K' T :=
 ⟨h.n,h.wait,h.lease,h.net,⟨h.now.1,Int.le_trans h.now.2 hk⟩,h.len,fun m hm => (h.way m hm).mono hk,fun p hp => (h.ps p hp).mono hk⟩
namespace TownM
theorem setPeer_len (T:TownM) (i:Nat) (p:PeerM):(T.setPeer i p).ps.length = T.ps.length:=by simp [setPeer]
theorem peer_set {T:TownM} {i:Nat} (hi:i < T.ps.length) (p:PeerM):(T.setPeer i p).peer i = p:=by simp [peer,setPeer,hi]
theorem peer_other {T:TownM} {i j:Nat} (h:i ≠ j) (p:PeerM):(T.setPeer i p).peer j = T.peer j:=by simp [peer,setPeer,h]
theorem set_set {T:TownM} {i:Nat} (p q:PeerM):(T.setPeer i p).setPeer i q = T.setPeer i q:=by simp [setPeer]
theorem peer_some {T:TownM} {i:Nat} (hi:i < T.ps.length):T.ps[i]? = some (T.peer i):=by simp [peer,hi]
theorem peer_mem {T:TownM} {i:Nat} (hi:i < T.ps.length):T.peer i ∈ T.ps:=List.mem_of_getElem? (peer_some hi)
theorem send_ps (T:TownM) (m:MsgM):(T.send m).ps = T.ps:=by unfold send;split <;> rfl
theorem send_now (T:TownM) (m:MsgM):(T.send m).now = T.now:=by unfold send;split <;> rfl
end TownM
open TownM
section
variable {K:Int} {T:TownM} {i:Nat}
theorem Fits.peer (h:Fits K T) (hi:i < T.ps.length):PeerOK T.ps.length K (T.peer i):=h.ps _ (peer_mem hi)
theorem Fits.setPeer (h:Fits K T) {p:PeerM} (hp:PeerOK T.ps.length K p):Fits K (T.setPeer i p):=by
 have hl:=T.setPeer_len i p
 refine ⟨by rw [hl];exact h.n,h.wait,h.lease,h.net,h.now,h.len,fun m hm => by rw [hl];exact h.way m hm,fun q hq => ?_⟩
 rw [hl]
 rcases List.mem_or_eq_of_mem_set hq with h1 | h1
 ·exact h.ps q h1
 ·rw [h1];exact hp
theorem Fits.send (h:Fits K T) {m:MsgM} (hm:MsgOK T.ps.length K m):Fits K (T.send m):=by
 unfold TownM.send
 split
 ·rename_i hlt
  refine ⟨h.n,h.wait,h.lease,h.net,h.now,by simp;omega,fun x hx => ?_,h.ps⟩
  rcases List.mem_append.1 hx with h1 | h1
  ·exact h.way x h1
  ·rw [List.mem_singleton.1 h1];exact hm
 ·exact h
theorem Fits.own (h:Fits K T) (hi:i < T.ps.length):VoteOK T.ps.length (T.own i):=by
 have hc:=(h.peer hi).c
 exact ⟨hc.2.2.1,hc.2.2.2,by show (0:Int) ≤ (i:Int);omega,by show (i:Int) < T.ps.length;omega⟩
theorem known7_ok {n:Nat} (h:1 ≤ n):known7.length = 7 ∧ ∀ x ∈ known7,VoteOK n x.vote:=⟨rfl,fun x hx => by rw [List.eq_of_mem_replicate hx];exact voteZ_ok h⟩
theorem mem7_ok {K:Int} (h:0 ≤ K):mem7.length = 7 ∧ ∀ x ∈ mem7,U32 x.promised ∧ 0 ≤ x.at_ ∧ x.at_ ≤ K:=⟨rfl,fun x hx => by rw [List.eq_of_mem_replicate hx];exact ⟨⟨by decide,by decide⟩,by decide,h⟩⟩
theorem Fits.k0 (h:Fits K T):0 ≤ K:=Int.le_trans h.now.1 h.now.2
theorem Fits.noticeOf (h:Fits K T) (hi:i < T.ps.length) {k:Int} (hk:0 ≤ k ∧ k < T.ps.length):MsgOK T.ps.length K (T.noticeOf i k):=by
 have hp:=h.peer hi
 exact ⟨d1,⟨by show (0:Int) ≤ (i:Int);omega,by show (i:Int) < T.ps.length;omega⟩,hk,hp.round,hp.state,hp.vote,u0,u0⟩
theorem Fits.notice (h:Fits K T) (hi:i < T.ps.length) {k:Int} (hk:0 ≤ k ∧ k < T.ps.length):Fits K (T.notice i k):=h.send (h.noticeOf hi hk)
theorem noticesTo_ps (T:TownM) (i:Nat):∀ k,(T.noticesTo i k).ps = T.ps
 | 0 => rfl
 | k + 1 => by
  unfold TownM.noticesTo
  split
  ·exact noticesTo_ps T i k
  ·rw [TownM.notice,send_ps,noticesTo_ps T i k]
theorem Fits.noticesTo (h:Fits K T) (hi:i < T.ps.length):∀ k,k ≤ T.ps.length → Fits K (T.noticesTo i k)
 | 0,_ => h
 | k + 1,hk => by
  have ih:=Fits.noticesTo h hi k (by omega)
  unfold TownM.noticesTo
  split
  ·exact ih
  ·refine Fits.notice ih (by rw [noticesTo_ps];exact hi) ⟨by omega,by rw [noticesTo_ps];omega⟩
theorem notices_ps (T:TownM) (i:Nat):(T.notices i).ps = T.ps:=noticesTo_ps T i _
theorem Fits.notices (h:Fits K T) (hi:i < T.ps.length):Fits K (T.notices i):=h.noticesTo hi _ (Nat.le_refl _)
theorem Fits.count (h:Fits K T) (hi:i < T.ps.length):Fits K (T.count i):=by
 have hp:=h.peer hi
 refine h.setPeer ⟨hp.disk,hp.armed,hp.state,hp.c,hp.round,hp.vote,hp.votes,hp.settled,?_,hp.epoch,hp.mem⟩
 dsimp only
 split
 ·exact h.now
 ·exact hp.since
theorem Fits.look (h:Fits K T) (hi:i < T.ps.length):Fits (K + 1) (T.look i):=by
 have hp:=h.peer hi
 have h1:=h.mono (K':=K + 1) (by omega)
 have hp1:=h1.peer hi
 have hr:=hp.round
 have h2:Fits (K + 1) (T.setPeer i { T.peer i with state:=0,round:=(T.peer i).round + 1,vote:=T.own i,waits:=false,votes:=known7,settled:=known7 }) :=
  h1.setPeer ⟨hp1.disk,hp1.armed,s0,hp1.c,⟨by show 0 ≤ (T.peer i).round + 1;omega,by show (T.peer i).round + 1 ≤ K + 1;omega⟩,h1.own hi,known7_ok h.n.1,known7_ok h.n.1,hp1.since,hp1.epoch,hp1.mem⟩
 have hl:=T.setPeer_len i { T.peer i with state:=0,round:=(T.peer i).round + 1,vote:=T.own i,waits:=false,votes:=known7,settled:=known7 }
 exact (h2.notices (by rw [hl];exact hi)).count (by rw [notices_ps,hl];exact hi)
theorem Fits.write (h:Fits K T) (hi:i < T.ps.length) (hK:K + 1 ≤ 4294967294):Fits (K + 1) (T.write i):=by
 have hp:=h.peer hi
 have h1:=h.mono (K':=K + 1) (by omega)
 have hp1:=h1.peer hi
 obtain ⟨k,c,hd,hk⟩:=hp.disk
 have hdisk:∀ b,b ≤ 28 → ∃ k' c',DiskOK k' c' (diskWrite (T.peer i).disk (T.peer i).c b) ∧ k' ≤ K + 1:=by
  intro b hb
  rcases hd.write (by omega) hp.c hb with h2 | ⟨c2,h2⟩
  ·exact ⟨k,c,h2,by omega⟩
  ·exact ⟨k + 1,c2,h2,by omega⟩
 refine h1.setPeer ?_
 split
 ·exact ⟨hdisk 28 (Nat.le_refl _),hp1.armed,hp1.state,hp1.c,hp1.round,hp1.vote,hp1.votes,hp1.settled,hp1.since,hp1.epoch,hp1.mem⟩
 ·have ha:=hp.armed
  exact ⟨hdisk _ (by omega),a1,hp1.state,hp1.c,hp1.round,hp1.vote,hp1.votes,hp1.settled,hp1.since,hp1.epoch,hp1.mem⟩
theorem write_len (T:TownM) (i:Nat):(T.write i).ps.length = T.ps.length:=T.setPeer_len _ _
theorem u32_mem (h:Fits K T) (hi:i < T.ps.length) (k:Nat):U32 ((T.peer i).mem.getD k memZ).promised ∧ 0 ≤ ((T.peer i).mem.getD k memZ).at_ ∧ ((T.peer i).mem.getD k memZ).at_ ≤ K:=by
 have hm:=(h.peer hi).mem
 rw [List.getD_eq_getElem?_getD]
 cases hg:(T.peer i).mem[k]? with
 | none => exact ⟨⟨by decide,by decide⟩,by decide,h.k0⟩
 | some x => exact hm.2 x (List.mem_of_getElem? hg)
theorem Fits.bestTo (h:Fits K T) (hi:i < T.ps.length):∀ k,U32 (T.bestTo i k)
 | 0 => (h.peer hi).c.1
 | k + 1 => by
  unfold TownM.bestTo
  split
  ·exact (u32_mem h hi k).1
  ·exact Fits.bestTo h hi k
theorem Fits.out (h:Fits K T) (hi:i < T.ps.length) {kind k e v:Int} (h1:1 ≤ kind ∧ kind ≤ 7) (hk:0 ≤ k ∧ k < T.ps.length) (he:U32 e) (hv:U32 v):MsgOK T.ps.length K ⟨kind,i,k,0,0,voteZ,e,v⟩ :=
 ⟨h1,⟨by show (0:Int) ≤ (i:Int);omega,by show (i:Int) < T.ps.length;omega⟩,hk,⟨by show (0:Int) ≤ 0;omega,h.k0⟩,s0,voteZ_ok h.n.1,he,hv⟩
theorem welcomesTo_ps (T:TownM) (i:Nat):∀ k,(T.welcomesTo i k).ps = T.ps
 | 0 => rfl
 | k + 1 => by
  unfold TownM.welcomesTo
  split
  ·rw [TownM.welcome,send_ps,welcomesTo_ps T i k]
  ·exact welcomesTo_ps T i k
theorem proposesTo_ps (T:TownM) (i:Nat) (e:Int):∀ k,(T.proposesTo i e k).ps = T.ps
 | 0 => rfl
 | k + 1 => by
  unfold TownM.proposesTo
  split
  ·rw [send_ps,proposesTo_ps T i e k]
  ·exact proposesTo_ps T i e k
theorem pingsTo_ps (T:TownM) (i:Nat):∀ k,(T.pingsTo i k).ps = T.ps
 | 0 => rfl
 | k + 1 => by
  unfold TownM.pingsTo
  split
  ·rw [send_ps,pingsTo_ps T i k]
  ·exact pingsTo_ps T i k
theorem Fits.welcome (h:Fits K T) (hi:i < T.ps.length) {k:Int} (hk:0 ≤ k ∧ k < T.ps.length):Fits K (T.welcome i k) :=
 h.send (h.out hi ⟨by decide,by decide⟩ hk (h.peer hi).epoch (h.peer hi).c.2.2.2)
theorem Fits.welcomesTo (h:Fits K T) (hi:i < T.ps.length):∀ k,k ≤ T.ps.length → Fits K (T.welcomesTo i k)
 | 0,_ => h
 | k + 1,hk => by
  have ih:=Fits.welcomesTo h hi k (by omega)
  unfold TownM.welcomesTo
  split
  ·exact ih.welcome (by rw [welcomesTo_ps];exact hi) ⟨by omega,by rw [welcomesTo_ps];omega⟩
  ·exact ih
theorem Fits.proposesTo (h:Fits K T) (hi:i < T.ps.length) {e:Int} (he:U32 e):∀ k,k ≤ T.ps.length → Fits K (T.proposesTo i e k)
 | 0,_ => h
 | k + 1,hk => by
  have ih:=Fits.proposesTo h hi he k (by omega)
  unfold TownM.proposesTo
  split
  ·exact ih.send (ih.out (by rw [proposesTo_ps];exact hi) ⟨by decide,by decide⟩ ⟨by omega,by rw [proposesTo_ps];omega⟩ he ⟨by decide,by decide⟩)
  ·exact ih
theorem Fits.pingsTo (h:Fits K T) (hi:i < T.ps.length):∀ k,k ≤ T.ps.length → Fits K (T.pingsTo i k)
 | 0,_ => h
 | k + 1,hk => by
  have ih:=Fits.pingsTo h hi k (by omega)
  unfold TownM.pingsTo
  split
  ·exact ih.send (ih.out (by rw [pingsTo_ps];exact hi) ⟨by decide,by decide⟩ ⟨by omega,by rw [pingsTo_ps];omega⟩ ⟨by decide,by decide⟩ ⟨by decide,by decide⟩)
  ·exact ih
theorem Fits.events (h:Fits K T) (l:List (Int × Int)):Fits K { T with events:=l }:=⟨h.n,h.wait,h.lease,h.net,h.now,h.len,h.way,h.ps⟩
theorem Fits.stand (h:Fits K T) (hi:i < T.ps.length):Fits K (T.stand i):=by
 have hp:=h.peer hi
 exact Fits.events (T:=T.setPeer i { T.peer i with stands:=true,c:={ (T.peer i).c with e:=(T.peer i).epoch } }) (h.setPeer ⟨hp.disk,hp.armed,hp.state,⟨hp.c.1,hp.c.2.1,hp.epoch,hp.c.2.2.2⟩,hp.round,hp.vote,hp.votes,hp.settled,hp.since,hp.epoch,hp.mem⟩) _
theorem stand_len (T:TownM) (i:Nat):(T.stand i).ps.length = T.ps.length:=T.setPeer_len _ _
theorem Fits.check (h:Fits K T) (hi:i < T.ps.length) (hK:K + 1 ≤ 4294967294):Fits (K + 1) (T.check i):=by
 have hi':i < (T.stand i).ps.length:=by rw [stand_len];exact hi
 have h1:=(h.stand hi).write hi' hK
 unfold TownM.check
 split
 ·exact h.mono (by omega)
 ·split
  ·exact h1.welcomesTo (by rw [write_len];exact hi') _ (by rw [write_len,stand_len];exact Nat.le_refl _)
  ·exact h1
theorem Fits.propose (h:Fits K T) (hi:i < T.ps.length) (hK:K + 2 ≤ 4294967294):Fits (K + 2) (T.propose i):=by
 have hp:=h.peer hi
 have hb:=h.bestTo hi T.ps.length
 unfold TownM.propose
 split
 ·exact (h.look hi).mono (by omega)
 ·rename_i hlt
  have hbe:U32 (T.bestTo i T.ps.length + 1):=⟨by have:=hb.1;omega,by omega⟩
  have h1:Fits K (T.setPeer i { T.peer i with c:={ (T.peer i).c with p:=T.bestTo i T.ps.length + 1,t:=i } }):=by
   refine h.setPeer ⟨hp.disk,hp.armed,hp.state,⟨hbe,⟨by show (0:Int) ≤ (i:Int);omega,?_⟩,hp.c.2.2⟩,hp.round,hp.vote,hp.votes,hp.settled,hp.since,hp.epoch,hp.mem⟩
   show (i:Int) ≤ 4294967295
   have:=h.n.2
   omega
  have hl:=T.setPeer_len i { T.peer i with c:={ (T.peer i).c with p:=T.bestTo i T.ps.length + 1,t:=i } }
  generalize T.setPeer i { T.peer i with c:={ (T.peer i).c with p:=T.bestTo i T.ps.length + 1,t:=i } } = T1 at *
  have h2:=h1.write (by rw [hl];exact hi) (by omega)
  split
  ·have hl2:=write_len T1 i
   generalize T1.write i = T2 at *
   have hi2:i < T2.ps.length:=by rw [hl2,hl];exact hi
   have hp2:=h2.peer hi2
   have h3:Fits (K + 1) (T2.setPeer i { T2.peer i with epoch:=T.bestTo i T.ps.length + 1 }) :=
    h2.setPeer ⟨hp2.disk,hp2.armed,hp2.state,hp2.c,hp2.round,hp2.vote,hp2.votes,hp2.settled,hp2.since,hbe,hp2.mem⟩
   have hl3:=T2.setPeer_len i { T2.peer i with epoch:=T.bestTo i T.ps.length + 1 }
   have hi3:i < (T2.setPeer i { T2.peer i with epoch:=T.bestTo i T.ps.length + 1 }).ps.length:=by rw [hl3];exact hi2
   have h4:=h3.proposesTo hi3 hbe T.ps.length (by rw [hl3,hl2,hl];exact Nat.le_refl _)
   have:=h4.check (by rw [proposesTo_ps];exact hi3) (by omega)
   exact this.mono (by omega)
  ·exact h2.mono (by omega)
theorem Fits.lead0 (h:Fits K T) (hi:i < T.ps.length):Fits K (T.lead0 i):=by
 have hp:=h.peer hi
 exact h.setPeer ⟨hp.disk,hp.armed,s2,hp.c,hp.round,hp.vote,hp.votes,hp.settled,h.now,u0,mem7_ok h.k0⟩
theorem Fits.lead (h:Fits K T) (hi:i < T.ps.length) (hK:K + 2 ≤ 4294967294):Fits (K + 2) (T.lead i):=by
 unfold TownM.lead
 split
 ·exact (h.lead0 hi).propose (by rw [TownM.lead0,setPeer_len];exact hi) hK
 ·exact (h.lead0 hi).mono (by omega)
theorem Fits.follow (h:Fits K T) (hi:i < T.ps.length) {v:VoteM} (hv:VoteOK T.ps.length v):Fits K (T.follow i v):=by
 have hp:=h.peer hi
 have h1:Fits K (T.setPeer i { T.peer i with state:=1,vote:=v,since:=T.now }) :=
  h.setPeer ⟨hp.disk,hp.armed,s1,hp.c,hp.round,hv,hp.votes,hp.settled,h.now,hp.epoch,hp.mem⟩
 have hl:=T.setPeer_len i { T.peer i with state:=1,vote:=v,since:=T.now }
 exact h1.send (h1.out (by rw [hl];exact hi) ⟨by decide,by decide⟩ (by rw [hl];exact hv.p) hp.c.1 ⟨by decide,by decide⟩)
theorem mem_set_ok {α:Type} {P:α → Prop} {l:List α} (h:∀ x ∈ l,P x) (k:Nat) {y:α} (hy:P y):∀ x ∈ l.set k y,P x:=by
 intro x hx
 rcases List.mem_or_eq_of_mem_set hx with h1 | h1
 ·exact h x h1
 ·rw [h1];exact hy
theorem Fits.base (h:Fits K T) (hi:i < T.ps.length) (m:MsgM):VoteOK T.ps.length (T.base i m):=by
 unfold TownM.base
 split
 ·exact h.own hi
 ·exact (h.peer hi).vote
theorem Fits.voteOn (h:Fits K T) (hi:i < T.ps.length) {m:MsgM} (hm:MsgOK T.ps.length K m):VoteOK T.ps.length (T.voteOn i m):=by
 unfold TownM.voteOn
 split
 ·exact hm.vote
 ·exact h.base hi m
theorem Fits.take1 (h:Fits K T) (hi:i < T.ps.length) {m:MsgM} (hm:MsgOK T.ps.length K m):Fits K (T.take1 i m):=by
 have hp:=h.peer hi
 refine h.setPeer ⟨hp.disk,hp.armed,hp.state,hp.c,hm.round,h.voteOn hi hm,?_,hp.settled,hp.since,hp.epoch,hp.mem⟩
 dsimp only
 unfold TownM.votesOn
 split
 ·exact known7_ok h.n.1
 ·exact hp.votes
theorem take1_len (T:TownM) (i:Nat) (m:MsgM):(T.take1 i m).ps.length = T.ps.length:=T.setPeer_len _ _
theorem take2_len (T:TownM) (i:Nat) (m:MsgM):(T.take2 i m).ps.length = T.ps.length:=by
 unfold TownM.take2
 split
 ·rw [notices_ps,take1_len]
 ·exact take1_len T i m
theorem Fits.take2 (h:Fits K T) (hi:i < T.ps.length) {m:MsgM} (hm:MsgOK T.ps.length K m):Fits K (T.take2 i m):=by
 unfold TownM.take2
 split
 ·exact (h.take1 hi hm).notices (by rw [take1_len];exact hi)
 ·exact h.take1 hi hm
theorem Fits.know (h:Fits K T) (hi:i < T.ps.length) {m:MsgM} (hm:MsgOK T.ps.length K m):Fits K (T.know i m):=by
 have hp:=h.peer hi
 exact h.setPeer ⟨hp.disk,hp.armed,hp.state,hp.c,hp.round,hp.vote,⟨by simpa using hp.votes.1,mem_set_ok hp.votes.2 _ hm.vote⟩,hp.settled,hp.since,hp.epoch,hp.mem⟩
theorem know_len (T:TownM) (i:Nat) (m:MsgM):(T.know i m).ps.length = T.ps.length:=T.setPeer_len _ _
theorem Fits.looking (h:Fits K T) (hi:i < T.ps.length) {m:MsgM} (hm:MsgOK T.ps.length K m):Fits K (T.looking i m):=by
 unfold TownM.looking
 split
 ·exact h.notice hi hm.src
 ·exact ((h.take2 hi hm).know (by rw [take2_len];exact hi) (by rw [take2_len];exact hm)).count (by rw [know_len,take2_len];exact hi)
theorem Fits.settled (h:Fits K T) (hi:i < T.ps.length) {m:MsgM} (hm:MsgOK T.ps.length K m):Fits K (T.settled i m):=by
 have hp:=h.peer hi
 unfold TownM.settled
 dsimp only
 have h1:Fits K (T.setPeer i { T.peer i with settled:=(T.peer i).settled.set m.src.toNat ⟨true,m.vote,m.state⟩ }) :=
  h.setPeer ⟨hp.disk,hp.armed,hp.state,hp.c,hp.round,hp.vote,hp.votes,⟨by simpa using hp.settled.1,mem_set_ok hp.settled.2 _ hm.vote⟩,hp.since,hp.epoch,hp.mem⟩
 have hl:=T.setPeer_len i { T.peer i with settled:=(T.peer i).settled.set m.src.toNat ⟨true,m.vote,m.state⟩ }
 generalize T.setPeer i { T.peer i with settled:=(T.peer i).settled.set m.src.toNat ⟨true,m.vote,m.state⟩ } = T1 at *
 have hi1:i < T1.ps.length:=by rw [hl];exact hi
 split
 ·rename_i x _
  refine h1.follow hi1 ?_
  rw [List.getD_eq_getElem?_getD]
  cases hg:(T1.peer i).settled[x]? with
  | none => exact voteZ_ok h1.n.1
  | some y => exact (h1.peer hi1).settled.2 y (List.mem_of_getElem? hg)
 ·exact h1
theorem Fits.setMem (h:Fits K T) (hi:i < T.ps.length) (k:Nat) {x:MemM} (hx:U32 x.promised ∧ 0 ≤ x.at_ ∧ x.at_ ≤ K):Fits K (T.setPeer i { T.peer i with mem:=(T.peer i).mem.set k x }):=by
 have hp:=h.peer hi
 exact h.setPeer ⟨hp.disk,hp.armed,hp.state,hp.c,hp.round,hp.vote,hp.votes,hp.settled,hp.since,hp.epoch,by simpa using hp.mem.1,mem_set_ok hp.mem.2 _ hx⟩
theorem Fits.hearOf (h:Fits K T) (hi:i < T.ps.length) (k:Nat):Fits K (T.hearOf i k):=h.setMem hi k ⟨(u32_mem h hi k).1,h.now⟩
theorem Fits.join (h:Fits K T) (hi:i < T.ps.length) {m:MsgM} (hm:MsgOK T.ps.length K m) (hK:K + 2 ≤ 4294967294):Fits (K + 2) (T.join i m):=by
 have hp:=h.peer hi
 unfold TownM.join
 dsimp only
 have h1:Fits K (T.setPeer i { T.peer i with mem:=(T.peer i).mem.set m.src.toNat { (T.peer i).mem.getD m.src.toNat memZ with heard:=true,at_:=T.now,joined:=true,promised:=m.epoch } }):=h.setMem hi _ ⟨hm.epoch,h.now⟩
 have hl:=T.setPeer_len i { T.peer i with mem:=(T.peer i).mem.set m.src.toNat { (T.peer i).mem.getD m.src.toNat memZ with heard:=true,at_:=T.now,joined:=true,promised:=m.epoch } }
 generalize T.setPeer i { T.peer i with mem:=(T.peer i).mem.set m.src.toNat { (T.peer i).mem.getD m.src.toNat memZ with heard:=true,at_:=T.now,joined:=true,promised:=m.epoch } } = T1 at *
 have hi1:i < T1.ps.length:=by rw [hl];exact hi
 split
 ·split
  ·exact (h1.look hi1).mono (by omega)
  ·exact (h1.send (h1.out hi1 ⟨by decide,by decide⟩ (by rw [hl];exact hm.src) hp.epoch ⟨by decide,by decide⟩)).mono (by omega)
 ·split
  ·exact h1.propose hi1 hK
  ·exact h1.mono (by omega)
theorem Fits.ack (h:Fits K T) (hi:i < T.ps.length) {m:MsgM} (hm:MsgOK T.ps.length K m) (hK:K + 1 ≤ 4294967294):Fits (K + 1) (T.ack i m):=by
 have h1:=h.hearOf hi m.src.toNat
 have hl:(T.hearOf i m.src.toNat).ps.length = T.ps.length:=T.setPeer_len _ _
 unfold TownM.ack
 dsimp only
 generalize T.hearOf i m.src.toNat = T1 at *
 have hi1:i < T1.ps.length:=by rw [hl];exact hi
 split
 ·exact h1.look hi1
 ·have h2:=h1.setMem hi1 m.src.toNat (x:={ (T1.peer i).mem.getD m.src.toNat memZ with acked:=true }) (u32_mem h1 hi1 _)
  have hl2:=T1.setPeer_len i { T1.peer i with mem:=(T1.peer i).mem.set m.src.toNat { (T1.peer i).mem.getD m.src.toNat memZ with acked:=true } }
  generalize T1.setPeer i { T1.peer i with mem:=(T1.peer i).mem.set m.src.toNat { (T1.peer i).mem.getD m.src.toNat memZ with acked:=true } } = T2 at *
  have hi2:i < T2.ps.length:=by rw [hl2];exact hi1
  split
  ·exact (h2.welcome hi2 (by rw [hl2,hl];exact hm.src)).mono (by omega)
  ·exact h2.check hi2 hK
theorem Fits.leading (h:Fits K T) (hi:i < T.ps.length) {m:MsgM} (hm:MsgOK T.ps.length K m) (hK:K + 2 ≤ 4294967294):Fits (K + 2) (T.leading i m):=by
 unfold TownM.leading
 split
 ·exact h.join hi hm hK
 ·split
  ·exact (h.hearOf hi _).mono (by omega)
  ·split
   ·exact (h.ack hi hm (by omega)).mono (by omega)
   ·exact h.mono (by omega)
theorem Fits.touch (h:Fits K T) (hi:i < T.ps.length):Fits K (T.touch i):=by
 have hp:=h.peer hi
 exact h.setPeer ⟨hp.disk,hp.armed,hp.state,hp.c,hp.round,hp.vote,hp.votes,hp.settled,h.now,hp.epoch,hp.mem⟩
theorem touch_len (T:TownM) (i:Nat):(T.touch i).ps.length = T.ps.length:=T.setPeer_len _ _
theorem Fits.ackTo (h:Fits K T) (hi:i < T.ps.length) {m:MsgM} (hm:MsgOK T.ps.length K m):Fits K (T.ackTo i m) :=
 h.send ⟨d4,⟨by show (0:Int) ≤ (i:Int);omega,by show (i:Int) < T.ps.length;omega⟩,hm.src,⟨by show (0:Int) ≤ 0;omega,h.k0⟩,s0,h.own hi,hm.epoch,u0⟩
theorem Fits.setCred (h:Fits K T) (hi:i < T.ps.length) {c:CredM} (hc:c.ok):Fits K (T.setPeer i { T.peer i with since:=T.now,c:=c }):=by
 have hp:=h.peer hi
 exact h.setPeer ⟨hp.disk,hp.armed,hp.state,hc,hp.round,hp.vote,hp.votes,hp.settled,h.now,hp.epoch,hp.mem⟩
theorem Fits.following (h:Fits K T) (hi:i < T.ps.length) {m:MsgM} (hm:MsgOK T.ps.length K m) (hK:K + 1 ≤ 4294967294):Fits (K + 1) (T.following i m):=by
 have hp:=h.peer hi
 have ht:=h.touch hi
 have htl:=touch_len T i
 unfold TownM.following
 split
 ·exact (ht.send (ht.out (by rw [htl];exact hi) ⟨by decide,by decide⟩ (by rw [htl];exact hm.src) ⟨by decide,by decide⟩ ⟨by decide,by decide⟩)).mono (by omega)
 ·split
  ·split
   ·exact (h.setCred hi (c:={ (T.peer i).c with e:=m.epoch,v:=m.news }) ⟨hp.c.1,hp.c.2.1,hm.epoch,hm.news⟩).write (by rw [setPeer_len];exact hi) hK
   ·exact h.mono (by omega)
  ·split
   ·split
    ·dsimp only
     have hs:U32 m.src:=⟨hm.src.1,by have:=hm.src.2;have:=h.n.2;omega⟩
     have h1:=(h.setCred hi (c:={ (T.peer i).c with p:=m.epoch,t:=m.src }) ⟨hm.epoch,hs,hp.c.2.2⟩).write (by rw [setPeer_len];exact hi) hK
     have hl:((T.setPeer i { T.peer i with since:=T.now,c:={ (T.peer i).c with p:=m.epoch,t:=m.src } }).write i).ps.length = T.ps.length:=by rw [write_len,setPeer_len]
     split
     ·exact h1.ackTo (by rw [hl];exact hi) (by rw [hl];exact hm.mono (by omega))
     ·exact h1
    ·split
     ·exact (ht.ackTo (by rw [htl];exact hi) (by rw [htl];exact hm)).mono (by omega)
     ·exact ht.look (by rw [htl];exact hi)
   ·exact h.mono (by omega)
theorem Fits.hears (h:Fits K T) (hi:i < T.ps.length) {m:MsgM} (hm:MsgOK T.ps.length K m) (hK:K + 2 ≤ 4294967294):Fits (K + 2) (T.hears i m):=by
 unfold TownM.hears
 split
 ·split
  ·split
   ·exact (h.looking hi hm).mono (by omega)
   ·exact (h.settled hi hm).mono (by omega)
  ·split
   ·exact (h.notice hi hm.src).mono (by omega)
   ·exact h.mono (by omega)
 ·split
  ·exact h.leading hi hm hK
  ·split
   ·exact (h.following hi hm (by omega)).mono (by omega)
   ·exact h.mono (by omega)
theorem Fits.tick (h:Fits K T) (hi:i < T.ps.length) (hK:K + 2 ≤ 4294967294):Fits (K + 2) (T.tick i):=by
 unfold TownM.tick
 split
 ·split
  ·split
   ·exact h.lead hi hK
   ·exact (h.follow hi (h.peer hi).vote).mono (by omega)
  ·exact h.mono (by omega)
 ·split
  ·split
   ·exact (h.look hi).mono (by omega)
   ·exact h.mono (by omega)
  ·split
   ·split
    ·exact (h.look hi).mono (by omega)
    ·split
     ·exact (h.pingsTo hi _ (Nat.le_refl _)).mono (by omega)
     ·exact h.mono (by omega)
   ·exact h.mono (by omega)
theorem send_len (T:TownM) (m:MsgM):(T.send m).ps.length = T.ps.length:=by rw [send_ps]
theorem count_len (T:TownM) (i:Nat):(T.count i).ps.length = T.ps.length:=T.setPeer_len _ _
theorem look_len (T:TownM) (i:Nat):(T.look i).ps.length = T.ps.length:=by rw [TownM.look,count_len,notices_ps,setPeer_len]
theorem check_len (T:TownM) (i:Nat):(T.check i).ps.length = T.ps.length:=by
 unfold TownM.check
 split
 ·rfl
 ·split
  ·rw [welcomesTo_ps,write_len,stand_len]
  ·rw [write_len,stand_len]
theorem propose_len (T:TownM) (i:Nat):(T.propose i).ps.length = T.ps.length:=by
 unfold TownM.propose
 split
 ·exact look_len T i
 ·split
  ·rw [check_len,proposesTo_ps,setPeer_len,write_len,setPeer_len]
  ·rw [write_len,setPeer_len]
theorem lead_len (T:TownM) (i:Nat):(T.lead i).ps.length = T.ps.length:=by
 unfold TownM.lead
 split
 ·rw [propose_len,TownM.lead0,setPeer_len]
 ·rw [TownM.lead0,setPeer_len]
theorem follow_len (T:TownM) (i:Nat) (v:VoteM):(T.follow i v).ps.length = T.ps.length:=by rw [TownM.follow,send_len,setPeer_len]
theorem tick_len (T:TownM) (i:Nat):(T.tick i).ps.length = T.ps.length:=by
 unfold TownM.tick
 split
 ·split
  ·split
   ·exact lead_len T i
   ·exact follow_len T i _
  ·rfl
 ·split
  ·split
   ·exact look_len T i
   ·rfl
  ·split
   ·split
    ·exact look_len T i
    ·split
     ·rw [pingsTo_ps]
     ·rfl
   ·rfl
theorem tickAt_len (T:TownM) (i:Nat):(T.tickAt i).ps.length = T.ps.length:=by
 unfold TownM.tickAt
 split
 ·exact tick_len T i
 ·rfl
theorem ticksTo_len (T:TownM):∀ k,(T.ticksTo k).ps.length = T.ps.length
 | 0 => rfl
 | k + 1 => by rw [TownM.ticksTo,tickAt_len,ticksTo_len T k]
theorem tick1_len (T:TownM):T.tick1.ps.length = T.ps.length:=ticksTo_len _ _
theorem tickN_len (T:TownM):∀ k,(T.tickN k).ps.length = T.ps.length
 | 0 => rfl
 | k + 1 => by rw [TownM.tickN,tick1_len,tickN_len T k]
theorem Fits.tickAt (h:Fits K T) (hi:i < T.ps.length) (hK:K + 2 ≤ 4294967294):Fits (K + 2) (T.tickAt i):=by
 unfold TownM.tickAt
 split
 ·exact h.tick hi hK
 ·exact h.mono (by omega)
theorem Fits.ticksTo (h:Fits K T):∀ k:Nat,k ≤ T.ps.length → K + 2 * k ≤ 4294967294 → Fits (K + 2 * k) (T.ticksTo k)
 | 0,_,_ => h.mono (by omega)
 | k + 1,hk,hK => by
  have ih:=Fits.ticksTo h k (by omega) (by omega)
  have:=ih.tickAt (i:=k) (by rw [ticksTo_len];omega) (by omega)
  exact Fits.mono (K':=K + 2 * ((k + 1:Nat):Int)) this (by omega)
theorem Fits.tick1 (h:Fits K T) (hK:K + 15 ≤ 4294967294):Fits (K + 15) T.tick1:=by
 have hn:=h.n
 have h1:=h.mono (K':=K + 1) (by omega)
 have h2:Fits (K + 1) ({ T with now:=T.now + 1 }:TownM):=⟨h1.n,h1.wait,h1.lease,h1.net,⟨by have:=h.now;show 0 ≤ T.now + 1;omega,by have:=h.now;show T.now + 1 ≤ K + 1;omega⟩,h1.len,h1.way,h1.ps⟩
 have:=h2.ticksTo T.ps.length (Nat.le_refl _) (by omega)
 exact this.mono (by omega)
theorem Fits.tickN (h:Fits K T):∀ k:Nat,K + 15 * k ≤ 4294967294 → Fits (K + 15 * k) (T.tickN k)
 | 0,_ => h.mono (by omega)
 | k + 1,hK => by
  have ih:=Fits.tickN h k (by omega)
  exact (ih.tick1 (by omega)).mono (by omega)
theorem Fits.come (h:Fits K T) (hi:i < T.ps.length):Fits (K + 1) (T.come i):=by
 have hp:=h.peer hi
 obtain ⟨k,c,hd,hk⟩:=hp.disk
 unfold TownM.come
 dsimp only
 rw [hd.newest]
 have h1:Fits K (T.setPeer i ⟨(T.peer i).disk,true,-1,3,c,0,voteZ,known7,known7,false,0,0,mem7,false⟩) :=
  h.setPeer ⟨⟨k,c,hd,hk⟩,a1,s3,hd.cred,⟨by show (0:Int) ≤ 0;omega,h.k0⟩,voteZ_ok h.n.1,known7_ok h.n.1,known7_ok h.n.1,⟨by show (0:Int) ≤ 0;omega,h.k0⟩,u0,mem7_ok h.k0⟩
 rw [if_pos (show (0:Int) ≤ (if k % 2 = 0 then 28 else 0) from by split <;> decide)]
 exact h1.look (by rw [setPeer_len];exact hi)
theorem come_len (T:TownM) (i:Nat):(T.come i).ps.length = T.ps.length:=by
 unfold TownM.come
 dsimp only
 split
 ·rw [look_len,setPeer_len]
 ·rw [setPeer_len]
theorem Fits.drop (h:Fits K T) (j:Int):Fits K (T.drop j):=by
 unfold TownM.drop
 split
 ·refine ⟨h.n,h.wait,h.lease,h.net,h.now,?_,fun m hm => h.way m (List.mem_of_mem_eraseIdx hm),h.ps⟩
  have h1:=h.len
  have h2:(T.way.eraseIdx j.toNat).length ≤ T.way.length:=List.length_eraseIdx_le _ _
  show ((T.way.eraseIdx j.toNat).length:Int) ≤ T.net
  omega
 ·exact h
theorem there_get {j:Int} (hj:T.there j = true):T.way[j.toNat]? = some (T.way.getD j.toNat msgZ):=by
 unfold TownM.there at hj
 simp only [Bool.and_eq_true,decide_eq_true_eq] at hj
 have:j.toNat < T.way.length:=by omega
 simp [this]
theorem Fits.msg (h:Fits K T) {j:Int} (hj:T.there j = true):MsgOK T.ps.length K (T.way.getD j.toNat msgZ):=h.way _ (List.mem_of_getElem? (there_get hj))
theorem Fits.deliver (h:Fits K T) (j:Int) (hK:K + 2 ≤ 4294967294):Fits (K + 2) (T.deliver j):=by
 unfold TownM.deliver
 split
 ·rename_i hj
  have hm:=h.msg hj
  have h1:=h.drop j
  unfold TownM.drop at h1
  rw [if_pos hj] at h1
  dsimp only
  split
  ·refine h1.hears ?_ hm hK
   have:=hm.dst
   show (T.way.getD j.toNat msgZ).dst.toNat < T.ps.length
   omega
  ·exact h1.mono (by omega)
 ·exact h.mono (by omega)
theorem Fits.copy (h:Fits K T) (j:Int):Fits K (T.copy j):=by
 unfold TownM.copy
 split
 ·rename_i hj
  refine ⟨h.n,h.wait,h.lease,h.net,h.now,by simp;omega,fun x hx => ?_,h.ps⟩
  rcases List.mem_append.1 hx with h1 | h1
  ·exact h.way x h1
  ·rw [List.mem_singleton.1 h1];exact h.msg hj.1
 ·exact h
theorem is_lt {j:Int} (h:T.is j = true):j.toNat < T.ps.length:=by
 unfold TownM.is at h
 simp only [Bool.and_eq_true,decide_eq_true_eq] at h
 omega
theorem upE_is {j:Int} {b:Bool} (h:T.upE j b = 0):T.is j = true ∧ (T.peer j.toNat).up = b:=by
 unfold TownM.upE at h
 split at h
 ·rename_i h1
  split at h
  ·rename_i h2;exact ⟨h1,h2⟩
  ·exact absurd h (by decide)
 ·exact absurd h (by decide)
theorem Fits.hear (h:Fits K T) (j:Int) (hK:K + 1 ≤ 4294967294):Fits (K + 1) (T.hear j):=by
 unfold TownM.hear
 split
 ·rename_i he
  have hu:T.upE j true = 0:=by
   unfold TownM.hearE at he
   split at he
   ·assumption
   ·exact he
  have hv:¬ 1000000000 ≤ (T.peer j.toNat).c.v:=by
   intro hc
   unfold TownM.hearE at he
   rw [if_pos hu] at he
   rw [if_pos hc] at he
   split at he <;> exact absurd he (by decide)
  have hi:=is_lt (upE_is hu).1
  have hp:=h.peer hi
  refine Fits.write (h.setPeer ⟨hp.disk,hp.armed,hp.state,⟨hp.c.1,hp.c.2.1,hp.c.2.2.1,?_⟩,hp.round,hp.vote,hp.votes,hp.settled,hp.since,hp.epoch,hp.mem⟩) (by rw [setPeer_len];exact hi) hK
  have:=hp.c.2.2.2
  exact ⟨by show 0 ≤ (T.peer j.toNat).c.v + 1;omega,by show (T.peer j.toNat).c.v + 1 ≤ 4294967295;omega⟩
 ·exact h.mono (by omega)
theorem Fits.crash (h:Fits K T) (j:Int):Fits K (T.crash j):=by
 unfold TownM.crash
 split
 ·rename_i hu
  have hp:=h.peer (is_lt (upE_is hu).1)
  exact h.setPeer ⟨hp.disk,a1,hp.state,hp.c,hp.round,hp.vote,hp.votes,hp.settled,hp.since,hp.epoch,hp.mem⟩
 ·exact h
theorem Fits.arm (h:Fits K T) (j b:Int):Fits K (T.arm j b):=by
 unfold TownM.arm
 split
 ·rename_i he
  have hb:T.is j = true ∧ 0 ≤ b ∧ b ≤ 28:=by
   unfold TownM.armE at he
   split at he
   ·assumption
   ·exact absurd he (by decide)
  have hp:=h.peer (is_lt hb.1)
  exact h.setPeer ⟨hp.disk,⟨by show -1 ≤ b;omega,hb.2.2⟩,hp.state,hp.c,hp.round,hp.vote,hp.votes,hp.settled,hp.since,hp.epoch,hp.mem⟩
 ·exact h
theorem Fits.restart (h:Fits K T) (j:Int):Fits (K + 1) (T.restart j):=by
 unfold TownM.restart
 split
 ·rename_i hu
  exact h.come (is_lt (upE_is hu).1)
 ·exact h.mono (by omega)
end
def CredM.may (n:Nat) (c:CredM):Prop:=0 ≤ c.e ∧ c.e ≤ c.p ∧ c.p ≤ 1000 ∧ 0 ≤ c.t ∧ c.t < n ∧ 0 ≤ c.v ∧ c.v ≤ 1000000000
theorem CredM.may_ok {n:Nat} (hn:n ≤ 7) {c:CredM} (h:c.may n):c.ok:=by
 obtain ⟨a,b,d,e,f,g,i⟩:=h
 exact ⟨⟨by omega,by omega⟩,⟨by omega,by omega⟩,⟨by omega,by omega⟩,by omega,by omega⟩
theorem t01:(0:Int) ≤ 0 ∧ (0:Int) ≤ 1:=⟨by decide,by decide⟩
theorem newPeer_ok {n:Nat} (h1:1 ≤ n) {c:CredM} (hc:c.ok):PeerOK n 1 (TownM.newPeer c) :=
 ⟨⟨1,c,DiskOK.first hc,by omega⟩,a1,s0,⟨u0,u0,u0,u0⟩,t01,voteZ_ok h1,known7_ok h1,known7_ok h1,t01,u0,mem7_ok (by omega)⟩
theorem comesTo_len (T:TownM):∀ k,(T.comesTo k).ps.length = T.ps.length
 | 0 => rfl
 | k + 1 => by rw [TownM.comesTo,come_len,comesTo_len T k]
theorem Fits.comesTo {K:Int} {T:TownM} (h:Fits K T):∀ k:Nat,k ≤ T.ps.length → Fits (K + k) (T.comesTo k)
 | 0,_ => h.mono (by omega)
 | k + 1,hk => by
  have ih:=Fits.comesTo h k (by omega)
  exact (ih.come (i:=k) (by rw [comesTo_len];omega)).mono (by omega)
theorem Fits.new {wait lease net:Int} {l:List CredM} (h1:1 ≤ l.length ∧ l.length ≤ 7) (hw:1 ≤ wait ∧ wait ≤ 20) (hl:4 ≤ lease ∧ lease ≤ 100) (hn:1 ≤ net ∧ net ≤ 1000) (hc:∀ c ∈ l,c.ok):Fits 8 (TownM.new wait lease net l):=by
 have h0:Fits 1 ⟨wait,lease,net,l.map TownM.newPeer,0,[],[]⟩ :=
  ⟨by simpa using h1,hw,hl,hn,t01,by simp;omega,fun m hm => absurd hm List.not_mem_nil,fun p hp => by
   obtain ⟨c,hcl,rfl⟩:=List.mem_map.1 hp
   exact newPeer_ok (by simpa using h1.1) (hc c hcl)⟩
 have:=h0.comesTo l.length (by simp)
 exact this.mono (by omega)
end Go.Proofs.YtceappncglfciaaGreat
