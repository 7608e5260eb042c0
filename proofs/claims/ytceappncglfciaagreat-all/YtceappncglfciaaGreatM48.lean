import Derived.Test.YtceappncglfciaaGreatM30
import Derived.Test.YtceappncglfciaaGreatM06
import Derived.Test.YtceappncglfciaaGreatM19
set_option linter.unusedVariables false
set_option linter.unusedSimpArgs false
namespace Go.Proofs.YtceappncglfciaaGreat
open Go.RowKit
def townRep:TownRep :=
 ⟨fun W bt bs T => ∃ pb P,PR W bt pb bs P ∧ Sim P T ∧ P.events.length ≤ 40000000000,fun h => let ⟨_,_,h1,_⟩:=h;h1.lt,fun h hk => let ⟨pb,P,h1,h2⟩:=h;⟨pb,P,h1.keep hk,h2⟩⟩
section
variable {W w':World} {bt:Nat} {pb bs:List Nat} {P P':PTown} {T T':TownM} {K K':Int} {i:Nat}
theorem TDid.of (h:PDid W bt pb bs w' P') (hs:Sim P' T') (hf:Fits K' T') (hK:K' ≤ 4294967294):TDid townRep W bt bs w' T':=by
 obtain ⟨bs',h1,h2,h3⟩:=h
 exact ⟨bs',⟨pb,P',h1,hs,hs.evLen hf hK⟩,h2,h3⟩
theorem Sim.mind (h:Sim P T) (hf:Fits K T) (hK:K + 2 ≤ 4294967294) (hi:i < P.ps.length) (hu:(P.peer i).up = true):MindOK P.ps.length (P.peer i):=by
 have hp:=h.ps i hi
 have hq:=hf.peer (i:=i) (by rw [h.len];exact hi)
 have hr:=hq.round
 have hsi:=hq.since
 have hvp:=hq.vote.p
 rw [hp.round hu] at hr
 rw [hp.vote hu,h.len] at hvp
 refine ⟨⟨hr.1,by omega⟩,hp.wf,?_,⟨(P.peer i).vote.p.toNat,by omega,by omega⟩,hp.cok,⟨?_,?_⟩,hp.ep,?_,?_,?_⟩
 ·by_cases s2:(P.peer i).state = 2
  ·obtain ⟨hh,j,a,e1,e2,e3,r1,r2,r3,e4,e5,e6⟩:=hp.lead hu s2
   rw [← e4]
   exact ⟨hsi.1,by omega⟩
  ·rw [(hp.other s2).1];exact tm0
 ·obtain ⟨k,c,h1,h2⟩:=h.dk hf 2 hK hi
  exact ⟨k,c,h1,h2⟩
 ·intro ha
  rcases hp.armed hu with ⟨h1,_⟩ | ⟨_,_,h3,h4⟩
  ·rw [h1] at ha;cases ha
  ·exact ⟨h3,h4⟩
 ·intro s0
  obtain ⟨l,s,hl,hse,_⟩:=hp.look hu s0
  exact ⟨⟨l,hl⟩,s,hse⟩
 ·intro s1
  obtain ⟨l,e1,e2,e3,e4⟩:=hp.fol hu s1
  refine ⟨l,e1,fun k t hk => ?_⟩
  have:=e4 k t hk
  rw [this,e3] at hk
  have:=Option.some.inj hk
  exact ⟨by omega,by omega⟩
 ·intro s2
  obtain ⟨hh,j,a,e1,e2,e3,r1,r2,r3,e4,e5,e6⟩:=hp.lead hu s2
  refine ⟨⟨hh,e1,fun k t hk => ?_⟩,⟨j,e2,fun k v hk => ?_⟩,a,e3⟩
  ·have hr:=r1.at_ k
   rw [hk] at hr
   obtain ⟨h1,_,h3⟩:=hr
   have hm:=u32_mem hf (i:=i) (by rw [h.len];exact hi) k
   rw [← h3]
   exact ⟨hm.2.1,by have:=hm.2.2;omega⟩
  ·have hr:=r2.at_ k
   rw [hk] at hr
   obtain ⟨h1,_,_,h3⟩:=hr
   have hm:=u32_mem hf (i:=i) (by rw [h.len];exact hi) k
   rw [← h3]
   have:=hm.1
   exact ⟨this.1,by have:=this.2;omega⟩
theorem Comes.inM {n i k x:Nat} {m:MsgM} (h:Comes n i k x m):MsgIn n m:=⟨⟨k,h.kn,h.src⟩,⟨x,h.xn,h.vote⟩,h.epoch,h.news⟩
theorem Sim.net1000 (h:Sim P T) (hf:Fits K T):P.net ≤ 1000:=by have:=hf.net.2;rw [h.net] at this;exact this
theorem Sim.wayLen (h:Sim P T) (hf:Fits K T):(P.way.length:Int) ≤ 1000:=by
 have h1:=hf.len
 have h2:=hf.net.2
 rw [h.way] at h1
 omega
theorem Sim.is (h:Sim P T) (i:Int):T.is i = P.is i:=by unfold TownM.is PTown.is;rw [h.len]
theorem Sim.there (h:Sim P T) (i:Int):T.there i = P.there i:=by unfold TownM.there PTown.there;rw [h.way]
theorem Sim.upE (h:Sim P T) (i:Int):T.upE i true = P.upE i:=by
 unfold TownM.upE PTown.upE
 rw [h.is]
 by_cases hi:P.is i = true
 ·rw [if_pos hi,if_pos hi]
  have:i.toNat < P.ps.length:=by
   unfold PTown.is at hi
   simp only [Bool.and_eq_true,decide_eq_true_eq] at hi
   omega
  rw [(h.ps _ this).up]
 ·rw [if_neg hi,if_neg hi]
theorem Sim.tickOK (h:Sim P T) (hf:Fits K T) (hK:K + 2 ≤ 4294967294):TickOK P:=by
 have hle:=hf.lease
 rw [h.lease] at hle
 exact ⟨h.hn hf,h.net1000 hf,h.evLen hf (by omega),h.tm hf (by omega),hle,fun i hi hu => h.mind hf hK hi hu⟩
theorem calls_same {f:FuncId} {args:Array Value} {o':Ending} (hR:townRep.R W bt bs T) (h:Calls Tryz.prog f args W fun o w' => o = o' ∧ w' = W):Calls Tryz.prog f args W fun o w' => o = o' ∧ TDid townRep W bt bs w' T :=
 h.mono fun _ _ ⟨h1,h2⟩ => ⟨h1,by rw [h2];exact TDid.rfl' hR⟩
end
theorem deliver_does (i:Int) (W:World) (bt:Nat) (bs:List Nat) (T:TownM) (K:Int) (hR:townRep.R W bt bs T) (hf:Fits K T) (hK:K + 2 ≤ 4294967294) :
  Calls Tryz.prog 37 #[.pointer (some ⟨bt,0,none⟩),.int .i64 i] W fun o w' => o = .returned (.int .i64 (T.thereE i)) ∧ TDid townRep W bt bs w' (T.deliver i):=by
 have hR0:=hR
 obtain ⟨pb,P,hr,hs,hev⟩:=hR
 have hfd:=hf.deliver i hK
 rcases P.there_cases i with ⟨h1,k,rfl,hk⟩ | h1
 ·have ht:T.there (k:Int) = true:=(hs.there _).trans h1
  have hm:P.way.getD k msgZ ∈ P.way:=by rw [List.getD_eq_getElem?_getD,List.getElem?_eq_getElem hk];exact List.getElem_mem hk
  obtain ⟨kk,x,hc⟩:=hs.comes hf hm
  obtain ⟨m,hmd⟩:∃ m,m = P.way.getD k msgZ:=⟨_,rfl⟩
  rw [← hmd] at hc hm
  have hmo:=hf.way m (by rw [hs.way];exact hm)
  have hdst:=hmo.dst
  rw [hs.len] at hdst
  obtain ⟨d,hd⟩:∃ d,d = m.dst.toNat:=⟨_,rfl⟩
  rw [← hd] at hc
  have hdl:d < P.ps.length:=by omega
  refine (DeliverOk k d W bt pb bs P hr (hs.wayLen hf) (hs.net1000 hf) (hs.hn hf) hev hk m hmd (by omega) hdl (fun hu => ⟨hs.mind hf hK hdl hu,hc.inM⟩)).mono ?_
  rintro o w' ⟨rfl,hd1⟩
  refine ⟨by unfold TownM.thereE;rw [if_pos ht],TDid.of hd1 ?_ hfd hK⟩
  have e0:T.deliver (k:Int) = if (T.peer d).up = true ∧ (T.peer d).state ≠ 3 then ({ T with way:=T.way.eraseIdx k }:TownM).hears d m else { T with way:=T.way.eraseIdx k }:=by
   unfold TownM.deliver
   rw [if_pos ht]
   simp only [Int.toNat_natCast]
   rw [hs.way,← hmd,← hd]
  rw [e0]
  have hse:=hs.erase k
  have hp:=hs.ps d hdl
  by_cases hu:(P.peer d).up = true
  ·rw [if_pos hu]
   have hst:=(hf.peer (i:=d) (by rw [hs.len];exact hdl)).state
   rw [hp.state hu] at hst
   by_cases s3:(P.peer d).state = 3
   ·rw [if_neg (fun e => e.2 ((hp.state hu).trans s3))]
    have:(P.removed k).get d m = P.removed k:=by
     unfold PTown.get
     have e3:((P.removed k).peer d).state = 3:=s3
     rw [e3]
     rfl
    rw [this];exact hse
   ·rw [if_pos ⟨hs.up hdl hu,fun e => s3 ((hp.state hu).symm.trans e)⟩]
    exact hse.get hdl hu ⟨hst.1,by show (P.peer d).state ≤ 2;omega⟩ (hs.hn hf) (hs.tm hf (by omega)) (hs.dk hf 2 hK hdl) hc
  ·rw [if_neg hu,if_neg (fun e => hu (hp.up.symm.trans e.1))]
   exact hse
 ·have ht:T.there i = false:=(hs.there _).trans h1
  have e1:T.thereE i = 4:=by unfold TownM.thereE;rw [if_neg (by rw [ht];simp)]
  have e2:T.deliver i = T:=by unfold TownM.deliver;rw [if_neg (by rw [ht];simp)]
  rw [e1,e2]
  exact calls_same hR0 (DeliverArg i W bt pb bs P hr (hs.wayLen hf) h1)
theorem tick_does (n:Int) (W:World) (bt:Nat) (bs:List Nat) (T:TownM) (K:Int) (hR:townRep.R W bt bs T) (hf:Fits K T) (hK:1 ≤ n ∧ n ≤ 1000 → K + 15 * n ≤ 4294967294) :
  Calls Tryz.prog 18 #[.pointer (some ⟨bt,0,none⟩),.int .i64 n] W fun o w' => o = .returned (.int .i64 (TownM.tickE n)) ∧ TDid townRep W bt bs w' (T.tickC n):=by
 have hR0:=hR
 obtain ⟨pb,P,hr,hs,hev⟩:=hR
 unfold TownM.tickE TownM.tickC
 by_cases hn:1 ≤ n ∧ n ≤ 1000
 ·rw [if_pos hn,if_pos hn]
  have hK1:=hK hn
  obtain ⟨k,rfl⟩:∃ k:Nat,n = (k:Int):=⟨n.toNat,by omega⟩
  have h1p:1 ≤ P.ps.length:=by have:=hf.n.1;rw [hs.len] at this;exact this
  have h7p:=hs.hn hf
  refine (TickOk (k:Int) W bt pb bs P hr hn h1p (fun j hj q hq => ?_)).mono ?_
  ·have hj15:K + 15 * (j:Int) + 15 ≤ K + 15 * (k:Int):=by omega
   have hsj:=hs.tickN hf j (by omega)
   have hfj:=hf.tickN j (by omega)
   have hfl:=hfj.later1
   have hql:q ≤ P.ps.length:=by omega
   have hlj:(P.tickN j).later.ps.length = P.ps.length:=ptickN_len P j
   have hss:=hsj.later.ticksTo hfl q (by rw [hlj];exact hql) (by omega)
   have hff:=hfl.ticksTo q (by rw [hsj.later.len,hlj];exact hql) (by omega)
   exact hss.tickOK hff (by omega)
  ·rintro o w' ⟨rfl,hd⟩
   refine ⟨rfl,TDid.of hd ?_ (hf.tickN k hK1) hK1⟩
   rw [Int.toNat_natCast]
   exact hs.tickN hf k hK1
 ·rw [if_neg hn,if_neg hn]
  exact calls_same hR0 (TickArg n W bt hn)
theorem conf_of {W:World} {g cap:Nat} {l:List CredM} {cur:Array Value} {t:TypeId} (h:W.heap[g]? = some (.cells cur t (0,0))) (hc:cur.toList.take (l.length * 4) = l.flatMap credCells) (hcap:l.length ≤ cap):ConfAt W g cap l:=by
 refine ⟨hcap,(Array.getElem?_eq_some_iff.1 h).1,fun k j u hk hu => ?_⟩
 have hj:j < 4:=by
  have:=(List.getElem?_eq_some_iff.1 hu).1
  simpa using this
 have hflat:(l.flatMap credCells)[k * 4 + j]? = some u:=by
  have hx:∀ (l:List CredM) (k:Nat),k < l.length → (l.flatMap credCells)[k * 4 + j]? = (credCells (l.getD k credZ))[j]?:=by
   intro l
   induction l with
   | nil => intro k hk;simp at hk
   | cons c r ih =>
    intro k hk
    rw [List.flatMap_cons]
    cases k with
    | zero =>
     rw [List.getElem?_append_left (by simp [credCells];omega)]
     simp
    | succ k =>
     rw [List.getElem?_append_right (by simp [credCells];omega)]
     have:(k + 1) * 4 + j - (credCells c).length = k * 4 + j:=by simp [credCells];omega
     rw [this,ih k (by simpa using hk)]
     simp
  rw [hx l k hk]
  exact hu
 rw [← hc] at hflat
 have h2:cur.toList[k * 4 + j]? = some u:=by
  rw [List.getElem?_take] at hflat
  split at hflat
  ·exact hflat
  ·cases hflat
 have h3:cur[k * 4 + j]? = some u:=by rw [← Array.getElem?_toList];exact h2
 exact (cell_of_row W g (k * 4 + j) cur t (0,0) h).trans h3
theorem comes_sim {wait lease net:Int} {l:List CredM} (rb rc:Nat) (h1:1 ≤ l.length ∧ l.length ≤ 7) (hw:1 ≤ wait ∧ wait ≤ 20) (hle:4 ≤ lease ∧ lease ≤ 100) (hne:1 ≤ net ∧ net ≤ 1000) (hc:∀ c ∈ l,c.ok) :
  ∀ k:Nat,k ≤ l.length → Sim ((newP wait lease net l rb rc).comesTo k) (TownM.comesTo ⟨wait,lease,net,l.map TownM.newPeer,0,[],[]⟩ k)
 | 0,_ => Sim.first l firstP (fun c _ => by unfold firstP;rw [first_disk];rfl) hc
 | k + 1,hk => by
  have ih:=comes_sim rb rc h1 hw hle hne hc k (by omega)
  have h0:Fits 1 ⟨wait,lease,net,l.map TownM.newPeer,0,[],[]⟩ :=
   ⟨by simpa using h1,hw,hle,hne,t01,by simp;omega,fun m hm => absurd hm List.not_mem_nil,fun p hp => by
    obtain ⟨c,hcl,rfl⟩:=List.mem_map.1 hp
    exact newPeer_ok (by simpa using h1.1) (hc c hcl)⟩
  have hf:=h0.comesTo k (by simp;omega)
  have hlen:((newP wait lease net l rb rc).comesTo k).ps.length = l.length:=by rw [(comesTo_fr _ k).len];simp [newP]
  refine ih.comeUp hf (by omega) (by rw [hlen];omega) ?_
  rw [comesTo_oth _ k k (Nat.le_refl _)]
  have hkl:k < l.length:=by omega
  simp [newP,PTown.peer,List.getD_eq_getElem?_getD,hkl,firstP,PeerP.zeroed]
theorem new_does (W:World) (g cap:Nat) (l:List CredM) (wait lease net:Int) (cur:Array Value) (t:TypeId) (h1:1 ≤ l.length) (h7:l.length ≤ 7) (hw:1 ≤ wait ∧ wait ≤ 20) (hle:4 ≤ lease ∧ lease ≤ 100) (hne:1 ≤ net ∧ net ≤ 1000) (hm:∀ c ∈ l,c.may l.length)
  (hg:W.heap[g]? = some (.cells cur t (0,0))) (hcur:cur.toList.take (l.length * 4) = l.flatMap credCells) (hcap:l.length ≤ cap) :
  Calls Tryz.prog 16 #[.agg #[.slice (some ⟨g,0,none⟩) l.length cap,.int .i64 wait,.int .i64 lease,.int .i64 net]] W fun o w' => ∃ bt bs,o = .returned (.tuple #[.pointer (some ⟨bt,0,none⟩),.int .i64 0]) ∧ townRep.R w' bt bs (TownM.new wait lease net l) ∧ Below W.heap.size W w' ∧ ∀ x ∈ bs,W.heap.size ≤ x:=by
 refine (NewOk W g cap l wait lease net h1 h7 hw hle hne hm (conf_of hg hcur hcap)).mono ?_
 rintro o w' ⟨bt,pb,bs,rb,rc,rfl,hr,hb,hx⟩
 have hok:∀ c ∈ l,c.ok:=fun c hc => CredM.may_ok h7 (hm c hc)
 have hs:=comes_sim rb rc ⟨h1,h7⟩ hw hle hne hok l.length (Nat.le_refl _)
 have hf:=Fits.new (l:=l) ⟨h1,h7⟩ hw hle hne hok
 exact ⟨bt,bs,rfl,⟨pb,_,hr,hs,Sim.evLen (K:=8) hs hf (by omega)⟩,hb,hx⟩
end Go.Proofs.YtceappncglfciaaGreat
namespace Go.Proofs.YtceappncglfciaaGreat
open Go.RowKit
theorem drop_does (i:Int) (W:World) (bt:Nat) (bs:List Nat) (T:TownM) (K:Int) (hR:townRep.R W bt bs T) (hf:Fits K T) (hK:K + 2 ≤ 4294967294) :
  Calls Tryz.prog 35 #[.pointer (some ⟨bt,0,none⟩),.int .i64 i] W fun o w' => o = .returned (.int .i64 (T.thereE i)) ∧ TDid townRep W bt bs w' (T.drop i):=by
 have hR0:=hR
 obtain ⟨pb,P,hr,hs,hev⟩:=hR
 have hfd:=hf.drop i
 rcases P.there_cases i with ⟨h1,k,rfl,hk⟩ | h1
 ·have ht:T.there (k:Int) = true:=(hs.there _).trans h1
  refine (DropOk k W bt pb bs P hr (hs.wayLen hf) hk).mono ?_
  rintro o w' ⟨rfl,hd1⟩
  refine ⟨by unfold TownM.thereE;rw [if_pos ht],TDid.of hd1 ?_ hfd (by omega)⟩
  unfold TownM.drop
  rw [if_pos ht,Int.toNat_natCast]
  exact hs.erase k
 ·have ht:T.there i = false:=(hs.there _).trans h1
  have e1:T.thereE i = 4:=by unfold TownM.thereE;rw [if_neg (by rw [ht];simp)]
  have e2:T.drop i = T:=by unfold TownM.drop;rw [if_neg (by rw [ht];simp)]
  rw [e1,e2]
  exact calls_same hR0 (DropArg i W bt pb bs P hr (hs.wayLen hf) h1)
theorem copy_does (i:Int) (W:World) (bt:Nat) (bs:List Nat) (T:TownM) (K:Int) (hR:townRep.R W bt bs T) (hf:Fits K T) (hK:K + 2 ≤ 4294967294) :
  Calls Tryz.prog 36 #[.pointer (some ⟨bt,0,none⟩),.int .i64 i] W fun o w' => o = .returned (.int .i64 (T.copyE i)) ∧ TDid townRep W bt bs w' (T.copy i):=by
 have hR0:=hR
 obtain ⟨pb,P,hr,hs,hev⟩:=hR
 have hfd:=hf.copy i
 rcases P.there_cases i with ⟨h1,k,rfl,hk⟩ | h1
 ·have ht:T.there (k:Int) = true:=(hs.there _).trans h1
  refine (CopyOk k W bt pb bs P hr (hs.wayLen hf) (hs.net1000 hf) hk).mono ?_
  rintro o w' ⟨rfl,hd1⟩
  refine ⟨?_,TDid.of hd1 ?_ hfd (by omega)⟩
  ·unfold TownM.copyE PTown.layE
   rw [if_pos ht,hs.way,hs.net]
  ·have hm:P.way.getD k msgZ ∈ P.way:=by rw [List.getD_eq_getElem?_getD,List.getElem?_eq_getElem hk];exact List.getElem_mem hk
   have e:T.copy (k:Int) = T.send (P.way.getD k msgZ):=by
    unfold TownM.copy TownM.send
    rw [Int.toNat_natCast,hs.way]
    by_cases hc:(P.way.length:Int) < T.net
    ·rw [if_pos ⟨ht,hc⟩,if_pos hc]
    ·rw [if_neg (fun e => hc e.2),if_neg hc]
   rw [e]
   exact hs.send (hs.msgs _ hm)
 ·have ht:T.there i = false:=(hs.there _).trans h1
  have e1:T.copyE i = 4:=by unfold TownM.copyE;rw [if_neg (by rw [ht];simp)]
  have e2:T.copy i = T:=by unfold TownM.copy;rw [if_neg (fun e => by rw [ht] at e;exact absurd e.1 (by simp))]
  rw [e1,e2]
  exact calls_same hR0 (CopyArg i W bt pb bs P hr (hs.wayLen hf) h1)
theorem hear_does (i:Int) (W:World) (bt:Nat) (bs:List Nat) (T:TownM) (K:Int) (hR:townRep.R W bt bs T) (hf:Fits K T) (hK:K + 2 ≤ 4294967294) :
  Calls Tryz.prog 34 #[.pointer (some ⟨bt,0,none⟩),.int .i64 i] W fun o w' => o = .returned (.int .i64 (T.hearE i)) ∧ TDid townRep W bt bs w' (T.hear i):=by
 have hR0:=hR
 obtain ⟨pb,P,hr,hs,hev⟩:=hR
 have hfd:=hf.hear i (by omega)
 have hn:=hs.hn hf
 rcases P.up_cases i with ⟨h0,k,rfl,hk,hu⟩ | h0
 ·obtain ⟨b,hb⟩:=hr.block hk
  have hp:=hs.ps k hk
  have hu0:T.upE (k:Int) true = 0:=(hs.upE _).trans h0
  have hst:((T.peer k).state = 2 ∧ (T.peer k).stands = true) ↔ (P.peer k).established = true:=by
   by_cases s2:(P.peer k).state = 2
   ·obtain ⟨hh,j,a,e1,e2,e3,r1,r2,r3,e4,e5,e6⟩:=hp.lead hu s2
    rw [e6,hp.state hu]
    exact ⟨fun e => e.2,fun e => ⟨s2,e⟩⟩
   ·have:=(hp.other s2).2.2
    rw [hp.state hu,this]
    exact ⟨fun e => absurd e.1 s2,fun e => by cases e⟩
  have eE:T.hearE (k:Int) = if (P.peer k).established = true then (if 1000000000 ≤ (P.peer k).c.v then 3 else 0) else 5:=by
   unfold TownM.hearE
   rw [if_pos hu0,Int.toNat_natCast,hp.c hu]
   by_cases he:(P.peer k).established = true
   ·rw [if_pos he,if_pos (hst.2 he)]
   ·rw [if_neg he,if_neg (fun e => he (hst.1 e))]
  by_cases he:(P.peer k).established = true
  ·by_cases hv:1000000000 ≤ (P.peer k).c.v
   ·have e3:T.hearE (k:Int) = 3:=by rw [eE,if_pos he,if_pos hv]
    have e4:T.hear (k:Int) = T:=by unfold TownM.hear;rw [if_neg (by rw [e3];decide)]
    rw [e3,e4]
    exact calls_same hR0 (HearFull k b W bt pb bs P hr hn hb hu he hv)
   ·have e3:T.hearE (k:Int) = 0:=by rw [eE,if_pos he,if_neg hv]
    have e4:T.hear (k:Int) = (T.setPeer k { T.peer k with c:={ (T.peer k).c with v:=(T.peer k).c.v + 1 } }).write k:=by
     unfold TownM.hear
     rw [if_pos e3,Int.toNat_natCast]
    have hd:=hs.dk hf 1 (by omega) hk
    have hmi:=hs.mind hf hK hk hu
    rw [e3]
    rw [e4] at hfd ⊢
    refine (HearOk k b W bt pb bs P hr hn hb hu he (by omega) ⟨hd,hmi.wr.2⟩ hp.cok).mono ?_
    rintro o w' ⟨rfl,hd1⟩
    exact ⟨rfl,TDid.of hd1 (hs.hearNews hk hu hd (by omega)) hfd (by omega)⟩
  ·have he':(P.peer k).established = false:=by simpa using he
   have e3:T.hearE (k:Int) = 5:=by rw [eE,if_neg he]
   have e4:T.hear (k:Int) = T:=by unfold TownM.hear;rw [if_neg (by rw [e3];decide)]
   rw [e3,e4]
   exact calls_same hR0 (HearState k b W bt pb bs P hr hn hb hu he')
 ·have hu0:T.upE i true ≠ 0:=by rw [hs.upE];exact h0
  have e3:T.hearE i = P.upE i:=by unfold TownM.hearE;rw [if_neg hu0,hs.upE]
  have e4:T.hear i = T:=by unfold TownM.hear;rw [if_neg (by rw [e3];exact h0)]
  rw [e3,e4]
  exact calls_same hR0 (HearNo i W bt pb bs P hr hn h0)
theorem crash_does (i:Int) (W:World) (bt:Nat) (bs:List Nat) (T:TownM) (K:Int) (hR:townRep.R W bt bs T) (hf:Fits K T) (hK:K + 2 ≤ 4294967294) :
  Calls Tryz.prog 23 #[.pointer (some ⟨bt,0,none⟩),.int .i64 i] W fun o w' => o = .returned (.int .i64 (T.upE i true)) ∧ TDid townRep W bt bs w' (T.crash i):=by
 have hR0:=hR
 obtain ⟨pb,P,hr,hs,hev⟩:=hR
 have hfd:=hf.crash i
 have hn:=hs.hn hf
 rcases P.up_cases i with ⟨h0,k,rfl,hk,hu⟩ | h0
 ·obtain ⟨b,hb⟩:=hr.block hk
  have hu0:T.upE (k:Int) true = 0:=(hs.upE _).trans h0
  have e:T.crash (k:Int) = T.setPeer k { T.peer k with up:=false,armed:=-1 }:=by
   unfold TownM.crash
   rw [if_pos hu0,Int.toNat_natCast]
  rw [hu0]
  rw [e] at hfd ⊢
  refine (CrashOk k b W bt pb bs P hr hn hb hu).mono ?_
  rintro o w' ⟨rfl,hd1⟩
  exact ⟨rfl,TDid.of hd1 (hs.goDown hk) hfd (by omega)⟩
 ·have hu0:T.upE i true ≠ 0:=by rw [hs.upE];exact h0
  have e:T.crash i = T:=by unfold TownM.crash;rw [if_neg hu0]
  rw [e,hs.upE]
  exact calls_same hR0 (CrashNo i W bt pb bs P hr hn h0)
theorem arm_does (i n:Int) (W:World) (bt:Nat) (bs:List Nat) (T:TownM) (K:Int) (hR:townRep.R W bt bs T) (hf:Fits K T) (hK:K + 2 ≤ 4294967294) :
  Calls Tryz.prog 33 #[.pointer (some ⟨bt,0,none⟩),.int .i64 i,.int .i64 n] W fun o w' => o = .returned (.int .i64 (T.armE i n)) ∧ TDid townRep W bt bs w' (T.arm i n):=by
 have hR0:=hR
 obtain ⟨pb,P,hr,hs,hev⟩:=hR
 have hfd:=hf.arm i n
 have hn7:=hs.hn hf
 by_cases hn:0 ≤ n ∧ n ≤ 28
 ·rcases P.up_cases i with ⟨h0,k,rfl,hk,hu⟩ | h0
  ·obtain ⟨b,hb⟩:=hr.block hk
   have his:T.is (k:Int) = true:=by rw [hs.is];unfold PTown.is;simp [hk]
   have e0:T.armE (k:Int) n = 0:=by
    unfold TownM.armE
    rw [if_pos ⟨his,hn⟩,Int.toNat_natCast,if_pos (hs.up hk hu)]
   have e:T.arm (k:Int) n = T.setPeer k { T.peer k with armed:=n }:=by
    unfold TownM.arm
    rw [if_pos e0,Int.toNat_natCast]
   rw [e0]
   rw [e] at hfd ⊢
   refine (ArmOk k b n W bt pb bs P hr hn7 hb hu hn).mono ?_
   rintro o w' ⟨rfl,hd1⟩
   exact ⟨rfl,TDid.of hd1 (hs.armP hk hu n hn) hfd (by omega)⟩
  ·have e0:T.armE i n = P.upE i:=by
    rw [← hs.upE]
    unfold TownM.armE TownM.upE
    by_cases his:T.is i = true
    ·rw [if_pos ⟨his,hn⟩,if_pos his]
    ·rw [if_neg (fun e => his e.1),if_neg his]
   have e:T.arm i n = T:=by unfold TownM.arm;rw [if_neg (by rw [e0];exact h0)]
   rw [e0,e]
   exact calls_same hR0 (ArmNo i n W bt pb bs P hr hn7 hn h0)
 ·have e0:T.armE i n = 1:=by
   unfold TownM.armE
   rw [if_neg (fun e => hn e.2)]
  have e:T.arm i n = T:=by unfold TownM.arm;rw [if_neg (by rw [e0];decide)]
  rw [e0,e]
  exact calls_same hR0 (ArmArg i n W bt pb bs P hr hn7 hn)
theorem restart_does (i:Int) (W:World) (bt:Nat) (bs:List Nat) (T:TownM) (K:Int) (hR:townRep.R W bt bs T) (hf:Fits K T) (hK:K + 2 ≤ 4294967294) :
  Calls Tryz.prog 24 #[.pointer (some ⟨bt,0,none⟩),.int .i64 i] W fun o w' => o = .returned (.int .i64 (T.upE i false)) ∧ TDid townRep W bt bs w' (T.restart i):=by
 have hR0:=hR
 obtain ⟨pb,P,hr,hs,hev⟩:=hR
 have hfd:=hf.restart i
 have hn:=hs.hn hf
 rcases P.is_cases i with ⟨h0,k,rfl,hk⟩ | h0
 ·obtain ⟨b,hb⟩:=hr.block hk
  have hp:=hs.ps k hk
  have his:T.is (k:Int) = true:=(hs.is _).trans h0
  by_cases hu:(P.peer k).up = true
  ·have e0:T.upE (k:Int) false = 2:=by
    unfold TownM.upE
    rw [if_pos his,Int.toNat_natCast,if_neg (by rw [hs.up hk hu];decide)]
   have e:T.restart (k:Int) = T:=by unfold TownM.restart;rw [if_neg (by rw [e0];decide)]
   rw [e0,e]
   exact calls_same hR0 (RestartUp k b W bt pb bs P hr hn hb hu)
  ·have hu':(P.peer k).up = false:=by simpa using hu
   have e0:T.upE (k:Int) false = 0:=by
    unfold TownM.upE
    rw [if_pos his,Int.toNat_natCast,if_pos (hp.up.trans hu')]
   have e:T.restart (k:Int) = T.come k:=by
    unfold TownM.restart
    rw [if_pos e0,Int.toNat_natCast]
   obtain ⟨kk,c,hd,_⟩:=hs.dk hf 2 hK hk
   have hz:=hp.down hu'
   rw [e0]
   rw [e] at hfd ⊢
   refine (RestartOk k b W bt pb bs P hr hn hb hu' (hs.net1000 hf) hd.bytes (by rw [hz];exact ⟨Int.le_refl 0,by show (0:Int) ≤ 4611686018427387904;decide⟩)).mono ?_
   rintro o w' ⟨rfl,hd1⟩
   exact ⟨rfl,TDid.of hd1 (hs.comeUp hf (by omega) hk hu') hfd (by omega)⟩
 ·have his:T.is i = false:=(hs.is _).trans h0
  have e0:T.upE i false = 1:=by
   unfold TownM.upE
   rw [if_neg (by rw [his];simp)]
  have e:T.restart i = T:=by unfold TownM.restart;rw [if_neg (by rw [e0];decide)]
  rw [e0,e]
  exact calls_same hR0 (RestartArg i W bt pb bs P hr hn h0)
end Go.Proofs.YtceappncglfciaaGreat
