import Derived.Test.YtceappncglfciaaGreatM22
set_option linter.unusedVariables false
set_option linter.unusedSimpArgs false
namespace Go.Proofs.YtceappncglfciaaGreat
open Go.RowKit Go.Maps
attribute [local go_sem ↓] Go.wp_at_zero Go.wp_at_succ
def TimeOK (x:Int):Prop:=0 ≤ x ∧ x ≤ 4611686018427387904
set_option maxRecDepth 100000 in
set_option maxHeartbeats 2000000 in
theorem heardLately_any (i b:Nat) (W:World) (bt:Nat) (pb bs:List Nat) (T:PTown) (h:PR W bt pb bs T) (hb:pb[i]? = some b) (l:List (Option Int)) (hl:(T.peer i).heard = some l) (hnow:TimeOK T.now) (hh:∀ k t,atL l k = some t → TimeOK t) :
  Calls Tryz.prog 113 #[.pointer (some ⟨b,0,none⟩)] W fun o w' => o = .returned (.int .i64 ((T.peer i).lately T.now T.lease)) ∧ Below W.heap.size W w':=by
 obtain ⟨q,hat⟩:=h.peerAt hb
 have hmh:=hat.mh
 rw [hl] at hmh
 obtain ⟨g,hg,hm⟩:=hmh.some
 have hgl:g < W.heap.size:=hm.lt
 have c77:=hat.f77
 rw [hg] at c77
 obtain ⟨w1,hrun,rg1,gr1,sz1⟩:=hm.1.range (int_keyed Tryz.underlying3) Tryz.underlying105
 have hB1:Below W.heap.size W w1:=⟨gr1.os,gr1.tape,gr1.output,gr1.size,fun k hk => gr1.block k hk (by simp)⟩
 have hlen:=hm.2
 obtain ⟨f,hf⟩:∃ f,f = (T.peer i).latelyF T.now T.lease:=⟨_,rfl⟩
 have hfa:∀ k t,atL l k = some t → f k = decide (T.now - t < T.lease):=fun k t ht => by
  rw [hf];unfold PeerP.latelyF;rw [hl];simp only [mapL,Option.getD_some,ht]
 have H0:Hid (behind (Maps.has (dataOf encInt l)) f 7 = 0):=behind_none _ _ 7 (fun k hk hfk => by
  rw [data_has]
  rw [hf] at hfk
  unfold PeerP.latelyF at hfk
  rw [hl] at hfk
  simp only [mapL,Option.getD_some] at hfk
  cases ha:l[k]?.join with
  | none => rw [show atL l k = none from ha] at hfk;simp at hfk
  | some v => rfl)
 have HL:Hid ((T.peer i).lately T.now T.lease = (behind (fun _ => false) f 7:Nat)):=by rw [hf];exact rfl
 have HFA:=hide hfa
 have HH:=hide h
 have HR1:=hide rg1
 have HB1:=hide hB1
 clear h hat hm hmh rg1 gr1 hB1 hf hfa
 go_enter Tryz.func113,Tryz.ntmps113
 go_wp2
 go_loopw [3] (fun n wr => ∃ left cnt,wr.ranges Tryz.prog 3 rawElem g W.heap.size 7 (dataOf encInt l) left cnt ∧ n = .int .i64 (behind left f 7:Nat) ∧ Below W.heap.size W wr) (fun _ wr => wr.rangeLeft g W.heap.size)
 case atStart => exact ⟨_,_,unhide HR1,by rw [unhide H0];rfl,unhide HB1⟩
 case round =>
  obtain ⟨left,cnt,hrg,rfl,hB⟩:=hrel
  have hle:=behind_le left f 7
  rcases range_next hrg hlen 0 with ⟨h0,hnone,hrn⟩ | ⟨k,u,w2,cnt',hk,hu,hlk,hrn,hrg2,hlt2,hgr2,hsz2,hen⟩
  ·have hs:((behind left f 7:Nat):Int) = (T.peer i).lately T.now T.lease:=by rw [unhide HL,behind_all left _ hnone]
   rw [hs]
   have HBB:=hide hB
   clear hs hrg hB hnone h0 hle HR1 HB1 H0 HL HFA
   go_wp2
   go_ret
   exact ⟨rfl,unhide HBB⟩
  ·have hB2:Below W.heap.size W w2:=hB.grown hgr2 hB.size (fun j hj => by cases hj;exact Nat.le_refl _)
   have hpr2:=(unhide HH).below hB2
   obtain ⟨q2,hat2⟩:=hpr2.peerAt hb
   obtain ⟨bp,capP,way,ev,hbx,_⟩:=hpr2.turn
   have t2:w2.cell? ⟨bt,2,none⟩ = some (.int .i64 T.lease):=hbx.cell 2
   have c0:=hat2.town
   have hur:=hh k u hu
   have HC:Hid (∀ n,Calls Tryz.prog 109 #[.pointer (some ⟨b,0,none⟩),.int .i64 u] (w2.drewN n) fun o w' => o = .returned (.int .i64 (T.now - u)) ∧ w' = w2.drewN n):=fun n => since_any i b u (w2.drewN n) bt pb bs T (hpr2.below (below_drewN (Below.refl w2.heap.size w2) n)) hb hnow hur
   have HST:Hid (behind (fun x => left x && !x.sameKey (.int .i64 (k:Int))) f 7 = behind left f 7 + (if decide (T.now - u < T.lease) = true then 1 else 0)):=by
    show _ = _
    rw [behind_step left _ k hlk 7,unhide HFA k u hu]
    simp [hk]
   have HR2:Hid (∀ (n:Nat),(w2.drewN n).ranges Tryz.prog 3 rawElem g W.heap.size 7 (dataOf encInt l) (fun x => left x && !x.sameKey (.int .i64 (k:Int))) cnt'):=fun n => hrg2
   have HB2:Hid (∀ (n:Nat),Below W.heap.size W (w2.drewN n)):=fun n => below_drewN hB2 n
   have HME:Hid (∀ (n:Nat),(w2.drewN n).rangeLeft g W.heap.size < wr.rangeLeft g W.heap.size):=fun n => by
    rw [hrg.left_eq,World.ranges.left_eq (unhide HR2 n)];exact hlt2
   simp only [encInt] at hrn hen
   clear hrg hrg2 hgr2 hB hB2 hpr2 hat2 hbx HR1 HB1 H0 hlk hu hlt2 HL HFA hur
   by_cases h1:T.now - u < T.lease
   ·have e1:decide (T.now - u < T.lease) = true:=by simpa using h1
    have fin:Hid (behind (fun x => left x && !x.sameKey (.int .i64 (k:Int))) f 7 = behind left f 7 + 1):=by
     show _ = _
     rw [unhide HST,e1];simp
    clear HST h1
    go_upto_region 5 with fail
    go_quiet ((go_at_call 109;exact Calls.quiet_of_same (unhide HC _)))
    go_wp2
    go_roundw
    case rel => exact ⟨_,cnt',unhide HR2 _,by rw [unhide fin];go_num,unhide HB2 _⟩
    case measure => exact unhide HME _
   ·have e1:decide (T.now - u < T.lease) = false:=by simpa using h1
    have fin:Hid (behind (fun x => left x && !x.sameKey (.int .i64 (k:Int))) f 7 = behind left f 7):=by
     show _ = _
     rw [unhide HST,e1];simp
    clear HST h1
    go_upto_region 5 with fail
    go_quiet ((go_at_call 109;exact Calls.quiet_of_same (unhide HC _)))
    go_wp2
    go_roundw
    case rel => exact ⟨_,cnt',unhide HR2 _,by rw [unhide fin],unhide HB2 _⟩
    case measure => exact unhide HME _
set_option maxRecDepth 100000 in
set_option maxHeartbeats 2000000 in
theorem settle_any (i b k:Nat) (W:World) (bt:Nat) (pb bs:List Nat) (T:PTown) (h:PR W bt pb bs T) (hb:pb[i]? = some b) (hp:T.ps.length ≤ 7) (hn:T.net ≤ 1000) (hev:T.events.length ≤ 40000000000)
  (hr:0 ≤ (T.peer i).round ∧ (T.peer i).round ≤ 4611686018427387904) (hw:Wr 2 (T.peer i)) (hc:(T.peer i).c.ok) (hk:k < 7) (hv:(T.peer i).vote.p = (k:Int)) :
  Calls Tryz.prog 110 #[.pointer (some ⟨b,0,none⟩)] W fun o w' => o = .returned (.tuple #[]) ∧ PDid W bt pb bs w' (T.settle i):=by
 obtain ⟨q,hat⟩:=h.peerAt hb
 have c1:=hat.num
 have c70:=hat.f70
 have c71:=hat.f71
 have c72:=hat.f72
 have HT:Hid (T.settle i = if (T.peer i).vote.p = (i:Int) then T.lead i else T.follow i (T.peer i).vote):=rfl
 have HV:=hide hv
 have HH:=hide h
 clear h hat hv
 by_cases h1:(T.peer i).vote.p = (i:Int)
 ·have q1:((T.peer i).vote.p == (i:Int)) = true:=by simp [h1]
  rw [if_pos h1] at HT
  clear h1
  go_enter Tryz.func110,Tryz.ntmps110
  go_upto_region 0 with fail
  go_quiet (fail)
  have hbd:=below_drewN (Below.refl W.heap.size W) nq
  have HA:=hide ((Links.of_below bs hbd).calls (lead_any i b _ bt pb bs T ((unhide HH).below hbd) hb hp hn hev hr hw hc) (unhide HT))
  clear hbd c1 c70 c71 c72 HT HH
  generalize W.drewN nq = W2 at *
  go_wp2_with fail
  refine (unhide HA).mono ?_
  rintro o w8 ⟨rfl,hd⟩
  have HE:=hide hd
  clear hd HA
  go_wp2
  go_end0
  exact ⟨rfl,unhide HE⟩
 ·have q1:((T.peer i).vote.p == (i:Int)) = false:=by simp [h1]
  rw [if_neg h1] at HT
  clear h1
  go_enter Tryz.func110,Tryz.ntmps110
  go_upto_region 0 with fail
  go_quiet (fail)
  have hbd:=below_drewN (Below.refl W.heap.size W) nq
  have HH2:=hide ((unhide HH).below hbd)
  have HA:=hide ((Links.of_below bs hbd).calls (follow_any i b k (T.peer i).vote _ bt pb bs T ((unhide HH).below hbd) hb hn hk (unhide HV)) (unhide HT))
  clear hbd c1 c70 c71 c72 HT HH
  generalize W.drewN nq = W2 at *
  obtain ⟨q,hat⟩:=(unhide HH2).peerAt hb
  have c70:=hat.f70
  have c71:=hat.f71
  have c72:=hat.f72
  clear hat HH2
  go_wp2_with fail
  refine (unhide HA).mono ?_
  rintro o w8 ⟨rfl,hd⟩
  have HE:=hide hd
  clear hd HA
  go_wp2
  go_end0
  exact ⟨rfl,unhide HE⟩
set_option maxRecDepth 100000 in
set_option maxHeartbeats 1000000 in
theorem hearNews_any (i b:Nat) (W:World) (bt:Nat) (pb bs:List Nat) (T:PTown) (h:PR W bt pb bs T) (hb:pb[i]? = some b) (hw:Wr 1 (T.peer i)) (hc:(T.peer i).c.ok) (hv:(T.peer i).c.v < 4294967295) :
  Calls Tryz.prog 117 #[.pointer (some ⟨b,0,none⟩)] W fun o w' => o = .returned (.tuple #[]) ∧ PDid W bt pb bs w' (T.hearNews i):=by
 obtain ⟨q,hat⟩:=h.peerAt hb
 have c64:=hat.f64
 have c65:=hat.f65
 have c66:=hat.f66
 have c67:=hat.f67
 have hv0:=hc.2.2.2.1
 have hX:=(Below.refl W.heap.size W).alloc (Nat.le_refl _) (.cells #[.int .i64 (T.peer i).c.p,.int .i64 (T.peer i).c.t,.int .i64 (T.peer i).c.e,.int .i64 ((T.peer i).c.v + 1)] 39)
 have HC:=hide ((Links.of_below bs hX).calls (wr_any i b { (T.peer i).c with v:=(T.peer i).c.v + 1 } _ bt pb bs T (h.below hX) hb hw ⟨hc.1,hc.2.1,hc.2.2.1,by show 0 ≤ (T.peer i).c.v + 1;omega,by show (T.peer i).c.v + 1 ≤ _;omega⟩) (T':=T.hearNews i) rfl)
 clear h hat hX
 go_enter Tryz.func117,Tryz.ntmps117
 go_wp2_with fail
 refine (unhide HC).mono ?_
 rintro o w8 ⟨rfl,hd⟩
 have HE:=hide hd
 clear hd HC
 go_wp2
 go_end0
 exact ⟨rfl,unhide HE⟩
end Go.Proofs.YtceappncglfciaaGreat
namespace Go.Proofs.YtceappncglfciaaGreat
open Go.RowKit
attribute [local go_sem ↓] Go.wp_at_zero Go.wp_at_succ
structure MindOK (n:Nat) (p:PeerP):Prop where
 round:0 ≤ p.round ∧ p.round ≤ 4611686018427387904
 wf:TimeOK p.waitsFrom
 lf:TimeOK p.leadsFrom
 vote:∃ k:Nat,k < n ∧ p.vote.p = (k:Int)
 cred:p.c.ok
 wr:Wr 2 p
 epoch:0 ≤ p.epoch ∧ p.epoch ≤ 4294967295
 looking:p.state = 0 → (∃ l,p.votes = some l) ∧ ∃ l,p.settled = some l
 following:p.state = 1 → ∃ l,p.heard = some l ∧ ∀ k t,atL l k = some t → TimeOK t
 leading:p.state = 2 → (∃ l,p.heard = some l ∧ ∀ k t,atL l k = some t → TimeOK t) ∧ (∃ l,p.joined = some l ∧ ∀ k v,atL l k = some v → 0 ≤ v ∧ v < 4294967296) ∧ ∃ l,p.acked = some l
set_option maxRecDepth 100000 in
set_option maxHeartbeats 4000000 in
theorem timeGoes_any (i b:Nat) (W:World) (bt:Nat) (pb bs:List Nat) (T:PTown) (h:PR W bt pb bs T) (hb:pb[i]? = some b) (hp:T.ps.length ≤ 7) (hn:T.net ≤ 1000) (hev:T.events.length ≤ 40000000000) (hnow:TimeOK T.now) (hle:4 ≤ T.lease ∧ T.lease ≤ 100) (hm:MindOK T.ps.length (T.peer i)) :
  Calls Tryz.prog 88 #[.pointer (some ⟨b,0,none⟩)] W fun o w' => o = .returned (.tuple #[]) ∧ PDid W bt pb bs w' (T.timeGoes i):=by
 obtain ⟨q,hat⟩:=h.peerAt hb
 have c0:=hat.town
 have c68:=hat.f68
 obtain ⟨kv,hkv,hvp⟩:=hm.vote
 have hkv7:kv < 7:=by omega
 obtain ⟨bp,capP,way,ev,hbx,_⟩:=h.turn
 have t1:W.cell? ⟨bt,1,none⟩ = some (.int .i64 T.wait):=hbx.cell 1
 have t2:W.cell? ⟨bt,2,none⟩ = some (.int .i64 T.lease):=hbx.cell 2
 have t4:W.cell? ⟨bt,4,none⟩ = some (.int .i64 T.now):=hbx.cell 4
 have HSI:Hid (∀ x,TimeOK x → ∀ n,Calls Tryz.prog 109 #[.pointer (some ⟨b,0,none⟩),.int .i64 x] (W.drewN n) fun o w' => o = .returned (.int .i64 (T.now - x)) ∧ w' = W.drewN n):=fun x hx n => since_any i b x (W.drewN n) bt pb bs T (h.below (below_drewN (Below.refl W.heap.size W) n)) hb hnow hx
 have HH:=hide h
 have HVP:=hide hvp
 have HAT:=hide hat
 clear h hat hbx hvp
 by_cases h0:(T.peer i).state = 0
 ·have q0:((T.peer i).state == 0) = true:=by simp [h0]
  have c75:=(unhide HAT).f75
  have c76:=(unhide HAT).f76
  have HSJ:=hide (unhide HSI _ hm.wf)
  have HT:Hid (T.timeGoes i = if ((T.peer i).waits && decide (T.wait ≤ T.now - (T.peer i).waitsFrom)) = true then T.settle i else T):=by
   show _ = _
   unfold PTown.timeGoes;rw [if_pos h0]
  clear h0 HAT t2 t4 HSI
  cases hwa:(T.peer i).waits with
  | false =>
   rw [hwa] at c75 HT
   simp only [Bool.false_and,Bool.false_eq_true,if_false] at HT
   clear hwa
   go_enter Tryz.func88,Tryz.ntmps88
   go_upto_region 2 with fail
   go_quiet ((go_at_call 109;exact Calls.quiet_of_same (unhide HSJ _)))
   have hbd:=below_drewN (Below.refl W.heap.size W) nq
   have HH2:=hide ((unhide HH).below hbd)
   have HX2:=hide (Links.of_below bs hbd)
   clear hbd HH c0 c68 c75 c76 t1 HSJ
   generalize W.drewN nq = W2 at *
   go_wp2
   go_end0
   exact ⟨rfl,by rw [unhide HT];exact (unhide HX2).did (PDid.rfl' (unhide HH2))⟩
  | true =>
   rw [hwa] at c75 HT
   simp only [Bool.true_and] at HT
   clear hwa
   by_cases hge:T.wait ≤ T.now - (T.peer i).waitsFrom
   ·have d1:decide (T.wait ≤ T.now - (T.peer i).waitsFrom) = true:=by simpa using hge
    rw [d1] at HT
    simp only [if_true] at HT
    clear hge
    go_enter Tryz.func88,Tryz.ntmps88
    go_upto_region 2 with fail
    go_quiet ((go_at_call 109;exact Calls.quiet_of_same (unhide HSJ _)))
    have hbd:=below_drewN (Below.refl W.heap.size W) nq
    have HH2:=hide ((unhide HH).below hbd)
    have HX2:=hide (Links.of_below bs hbd)
    clear hbd HH c0 c68 c75 c76 t1 HSJ
    generalize W.drewN nq = W2 at *
    have HA:=hide ((unhide HX2).calls (settle_any i b kv W2 bt pb bs T (unhide HH2) hb hp hn hev hm.round hm.wr hm.cred hkv7 (unhide HVP)) (unhide HT))
    clear HX2 HH2 HT
    go_wp2_with fail
    refine (unhide HA).mono ?_
    rintro o w8 ⟨rfl,hd⟩
    have HE:=hide hd
    clear hd HA
    go_wp2
    go_end0
    exact ⟨rfl,unhide HE⟩
   ·have d1:decide (T.wait ≤ T.now - (T.peer i).waitsFrom) = false:=by simpa using hge
    rw [d1] at HT
    simp only [Bool.false_eq_true,if_false] at HT
    clear hge
    go_enter Tryz.func88,Tryz.ntmps88
    go_upto_region 2 with fail
    go_quiet ((go_at_call 109;exact Calls.quiet_of_same (unhide HSJ _)))
    have hbd:=below_drewN (Below.refl W.heap.size W) nq
    have HH2:=hide ((unhide HH).below hbd)
    have HX2:=hide (Links.of_below bs hbd)
    clear hbd HH c0 c68 c75 c76 t1 HSJ
    generalize W.drewN nq = W2 at *
    go_wp2
    go_end0
    exact ⟨rfl,by rw [unhide HT];exact (unhide HX2).did (PDid.rfl' (unhide HH2))⟩
 ·have q0:((T.peer i).state == 0) = false:=by simp [h0]
  by_cases h1:(T.peer i).state = 1
  ·have q1:((T.peer i).state == 1) = true:=by simp [h1]
   obtain ⟨l,hl,hlt⟩:=hm.following h1
   have hmh:=(unhide HAT).mh
   rw [hl] at hmh
   obtain ⟨g,hg,hmm⟩:=hmh.some
   have c77:=(unhide HAT).f77
   rw [hg] at c77
   have c72:=(unhide HAT).f72
   rw [unhide HVP] at c72
   obtain ⟨x,hx⟩:∃ x,x = (atL l kv).getD 0:=⟨_,rfl⟩
   have hget:∀ n,(Instr.lookup 105 (.map (some g)) (.int .i64 (kv:Int)) false).run Tryz.prog (W.drewN n) = .ok (.int .i64 x) (W.drewN n):=fun n => by
    rw [hx];exact MapIs.get (W:=W.drewN n) (enc:=encInt) (hmm.same rfl) Tryz.underlying105 kv hkv7 0 (zeroInt _)
   have hxt:TimeOK x:=by
    rw [hx]
    cases ha:atL l kv with
    | none => exact ⟨by decide,by decide⟩
    | some t => exact hlt kv t ha
   have HSJ:=hide (unhide HSI _ hxt)
   have HT:Hid (T.timeGoes i = if T.lease ≤ T.now - x then T.look i else T):=by
    show _ = _
    rw [hx];unfold PTown.timeGoes;rw [if_neg h0,if_pos h1,hl,unhide HVP];rfl
   clear h0 h1 HAT hmh hmm HSI t1 t4 hx hxt
   by_cases hge:T.lease ≤ T.now - x
   ·have d1:decide (T.lease ≤ T.now - x) = true:=by simpa using hge
    rw [if_pos hge] at HT
    clear hge
    go_enter Tryz.func88,Tryz.ntmps88
    go_upto_region 5 with fail
    go_quiet ((go_at_call 109;exact Calls.quiet_of_same (unhide HSJ _)))
    have hbd:=below_drewN (Below.refl W.heap.size W) nq
    have HH2:=hide ((unhide HH).below hbd)
    have HX2:=hide (Links.of_below bs hbd)
    clear hbd HH c0 c68 c77 c72 t2 HSJ hget
    generalize W.drewN nq = W2 at *
    have HA:=hide ((unhide HX2).calls (look_any i b W2 bt pb bs T (unhide HH2) hb hp hn hm.round) (unhide HT))
    clear HX2 HH2 HT
    go_wp2_with fail
    refine (unhide HA).mono ?_
    rintro o w8 ⟨rfl,hd⟩
    have HE:=hide hd
    clear hd HA
    go_wp2
    go_end0
    exact ⟨rfl,unhide HE⟩
   ·have d1:decide (T.lease ≤ T.now - x) = false:=by simpa using hge
    rw [if_neg hge] at HT
    clear hge
    go_enter Tryz.func88,Tryz.ntmps88
    go_upto_region 5 with fail
    go_quiet ((go_at_call 109;exact Calls.quiet_of_same (unhide HSJ _)))
    have hbd:=below_drewN (Below.refl W.heap.size W) nq
    have HH2:=hide ((unhide HH).below hbd)
    have HX2:=hide (Links.of_below bs hbd)
    clear hbd HH c0 c68 c77 c72 t2 HSJ hget
    generalize W.drewN nq = W2 at *
    go_wp2
    go_end0
    exact ⟨rfl,by rw [unhide HT];exact (unhide HX2).did (PDid.rfl' (unhide HH2))⟩
  ·have q1:((T.peer i).state == 1) = false:=by simp [h1]
   by_cases h2:(T.peer i).state = 2
   ·have q2:((T.peer i).state == 2) = true:=by simp [h2]
    obtain ⟨⟨lh,hlh,hlht⟩,⟨lj,hlj,_⟩,_⟩:=hm.leading h2
    have c78:=(unhide HAT).f78
    have HSJ:=hide (unhide HSI _ hm.lf)
    obtain ⟨l4,l100⟩:=hle
    have hq1:1 ≤ T.lease / 4:=by omega
    have hq2:T.lease / 4 ≤ 25:=by omega
    obtain ⟨n0,n1⟩:=hnow
    have HT0:Hid (T.timeGoes i = if (decide (T.lease ≤ T.now - (T.peer i).leadsFrom) && !T.most ((T.peer i).lately T.now T.lease + 1)) = true then T.look i else if T.now % (T.lease / 4) = 0 then T.sendTo ⟨6,0,0,0,0,voteZ,0,0⟩ i (keysOf 0 lj) else T):=by
     show _ = _
     unfold PTown.timeGoes;rw [if_neg h0,if_neg h1,if_pos h2,hlj];rfl
    have hbl:b < W.heap.size:=(unhide HAT).box.lt
    clear h0 h1 h2 HAT HSI t1 t4
    by_cases hge:T.lease ≤ T.now - (T.peer i).leadsFrom
    ·have d1:decide (T.lease ≤ T.now - (T.peer i).leadsFrom) = true:=by simpa using hge
     rw [d1] at HT0
     simp only [Bool.true_and] at HT0
     clear hge
     have hbw:=(Below.refl W.heap.size W).drew
     have hlr:0 ≤ (T.peer i).lately T.now T.lease ∧ (T.peer i).lately T.now T.lease ≤ 7:=by
      unfold PeerP.lately
      have:=behind_le (fun _ => false) ((T.peer i).latelyF T.now T.lease) 7
      omega
     obtain ⟨lr0,lr1⟩:=hlr
     have HHL:Hid (Calls Tryz.prog 113 #[.pointer (some ⟨b,0,none⟩)] W.drew fun o w' => o = .returned (.int .i64 ((T.peer i).lately T.now T.lease)) ∧ Below W.heap.size W w'):=(heardLately_any i b W.drew bt pb bs T ((unhide HH).below hbw) hb lh hlh ⟨n0,n1⟩ hlht).mono (fun o w' hh => ⟨hh.1,below_then hbw hh.2⟩)
     have HSW:Hid (Calls Tryz.prog 109 #[.pointer (some ⟨b,0,none⟩),.int .i64 (T.peer i).leadsFrom] W.drew fun o w' => o = .returned (.int .i64 (T.now - (T.peer i).leadsFrom)) ∧ w' = W.drew):=since_any i b _ W.drew bt pb bs T ((unhide HH).below hbw) hb ⟨n0,n1⟩ hm.lf
     have HMO:Hid (∀ w5:World,Below W.heap.size W w5 → Calls Tryz.prog 112 #[.pointer (some ⟨bt,0,none⟩),.int .i64 (IntKind.wrap .i64 ((T.peer i).lately T.now T.lease + 1))] w5 fun o w' => o = .returned (.bool (T.most ((T.peer i).lately T.now T.lease + 1))) ∧ w' = w5):=fun w5 hB => by
      rw [IntWalk.i64_in _ ⟨by omega,by omega⟩]
      exact most_any _ w5 bt pb bs T ((unhide HH).below hB) (by omega) (by omega) hp
     have hbtl:bt < W.heap.size:=by
      obtain ⟨bp3,capP3,way3,ev3,hbx3,_⟩:=(unhide HH).turn
      exact hbx3.lt
     have HQ:Hid (∀ w5:World,Below W.heap.size W w5 → w5.cell? ⟨b,0,none⟩ = some (.pointer (some ⟨bt,0,none⟩)) ∧ w5.cell? ⟨b,78,none⟩ = some (.int .i64 (T.peer i).leadsFrom) ∧ w5.cell? ⟨bt,2,none⟩ = some (.int .i64 T.lease)):=fun w5 hB => ⟨(hB.cell (p:=⟨b,0,none⟩) hbl).trans c0,(hB.cell (p:=⟨b,78,none⟩) hbl).trans c78,(hB.cell (p:=⟨bt,2,none⟩) hbtl).trans t2⟩
     generalize (T.peer i).lately T.now T.lease = la at *
     clear HSJ hbw
     cases hmo:T.most (la + 1) with
     | false =>
      rw [hmo] at HMO HT0
      simp only [Bool.not_false,if_true] at HT0
      clear hmo
      go_enter Tryz.func88,Tryz.ntmps88
      go_upto_region 8 with fail
      go_region_held3 (fun w' => w'.cell? ⟨b,0,none⟩ = some (.pointer (some ⟨bt,0,none⟩)) ∧ w'.cell? ⟨b,78,none⟩ = some (.int .i64 (T.peer i).leadsFrom) ∧ w'.cell? ⟨bt,2,none⟩ = some (.int .i64 T.lease)) (go_keep) (first | (go_at_call 109;refine (unhide HSW).mono ?_;rintro o w1 ⟨rfl,rfl⟩) | (go_at_call 113;refine (unhide HHL).mono ?_;rintro o w5 ⟨rfl,hB5⟩;obtain ⟨e0,e1,e2⟩:=unhide HQ w5 hB5;have HB5:=hide hB5;clear hB5) | (go_at_call 112;refine (unhide HMO _ (unhide HB5)).mono ?_;rintro o w5 ⟨rfl,rfl⟩))
      have HA:=hide ((Links.of_below bs (unhide HB5)).calls (look_any i b w5 bt pb bs T ((unhide HH).below (unhide HB5)) hb hp hn hm.round) (unhide HT0))
      clear HT0 HH HQ HMO HSW HHL
      go_wp2_with fail
      refine (unhide HA).mono ?_
      rintro o w8 ⟨rfl,hd⟩
      have HE:=hide hd
      clear hd HA
      go_wp2
      go_end0
      exact ⟨rfl,unhide HE⟩
     | true =>
      rw [hmo] at HMO HT0
      simp only [Bool.not_true,Bool.false_eq_true,if_false] at HT0
      clear hmo
      go_enter Tryz.func88,Tryz.ntmps88
      go_upto_region 8 with fail
      go_region_held3 (fun w' => w'.cell? ⟨b,0,none⟩ = some (.pointer (some ⟨bt,0,none⟩)) ∧ w'.cell? ⟨b,78,none⟩ = some (.int .i64 (T.peer i).leadsFrom) ∧ w'.cell? ⟨bt,2,none⟩ = some (.int .i64 T.lease)) (go_keep) (first | (go_at_call 109;refine (unhide HSW).mono ?_;rintro o w1 ⟨rfl,rfl⟩) | (go_at_call 113;refine (unhide HHL).mono ?_;rintro o w5 ⟨rfl,hB5⟩;obtain ⟨e0,e1,e2⟩:=unhide HQ w5 hB5;have HB5:=hide hB5;clear hB5) | (go_at_call 112;refine (unhide HMO _ (unhide HB5)).mono ?_;rintro o w5 ⟨rfl,rfl⟩))
      have HH2:=hide ((unhide HH).below (unhide HB5))
      have HX2:=hide (Links.of_below bs (unhide HB5))
      have HT:=hide (unhide HT0)
      clear HT0 HH HQ HMO HSW HHL HB5 e0 e1 e2
      obtain ⟨q2,hat2⟩:=(unhide HH2).peerAt hb
      obtain ⟨bp2,capP2,way2,ev2,hbx2,_⟩:=(unhide HH2).turn
      have d0:=hat2.town
      have d2:w5.cell? ⟨bt,2,none⟩ = some (.int .i64 T.lease):=hbx2.cell 2
      have d4:w5.cell? ⟨bt,4,none⟩ = some (.int .i64 T.now):=hbx2.cell 4
      clear hat2 hbx2
      by_cases hz:T.now % (T.lease / 4) = 0
      ·have z1:(T.now % (T.lease / 4) == 0) = true:=by simp [hz]
       rw [if_pos hz] at HT
       clear hz
       go_upto_region 10 with fail
       go_quiet (fail)
       have hbd3:=below_drewN (Below.refl w5.heap.size w5) nq
       have HH3:=hide ((unhide HH2).below hbd3)
       have HX3:=hide ((unhide HX2).below hbd3)
       clear hbd3 HH2 HX2 d0 d2 d4
       generalize w5.drewN nq = W3 at *
       obtain ⟨q3,hat3⟩:=(unhide HH3).peerAt hb
       have hmj:=hat3.mj
       rw [hlj] at hmj
       obtain ⟨g3,hg3,hm3⟩:=hmj.some
       have d80:=hat3.f80
       rw [hg3] at d80
       have HIO:=hide (inOrderI_any g3 lj W3 hm3)
       have hk7:=keys7 lj hm3.2
       clear hat3 hmj hm3
       go_wp2_with (go_at_call 115;refine (unhide HIO).mono ?_;rintro o w9 ⟨v9,rfl,hv9,hB9⟩)
       have HA:=hide (((unhide HX3).below hB9).calls (send_any i b ⟨6,0,0,0,0,voteZ,0,0⟩ w9 bt pb bs T ((unhide HH3).below hB9) hb hn _ v9 hv9 hk7) (unhide HT))
       simp only [MsgM.val,voteZ] at HA
       clear hv9 hB9 HIO HT HX3 HH3
       refine (unhide HA).mono ?_
       rintro o w10 ⟨rfl,hd⟩
       have HE:=hide hd
       clear hd HA
       go_wp2
       go_end0
       exact ⟨rfl,unhide HE⟩
      ·have z1:(T.now % (T.lease / 4) == 0) = false:=by simp [hz]
       rw [if_neg hz] at HT
       clear hz
       go_upto_region 10 with fail
       go_quiet (fail)
       have hbd3:=below_drewN (Below.refl w5.heap.size w5) nq
       have HF3:=hide (((unhide HX2).below hbd3).did (PDid.rfl' ((unhide HH2).below hbd3)))
       clear hbd3 HH2 HX2 d0 d2 d4
       generalize w5.drewN nq = W3 at *
       go_wp2
       go_end0
       exact ⟨rfl,by rw [unhide HT];exact unhide HF3⟩
    ·have d1:decide (T.lease ≤ T.now - (T.peer i).leadsFrom) = false:=by simpa using hge
     rw [d1] at HT0
     simp only [Bool.false_and,Bool.false_eq_true,if_false] at HT0
     clear hge
     go_enter Tryz.func88,Tryz.ntmps88
     go_upto_region 8 with fail
     go_quiet ((go_at_call 109;exact Calls.quiet_of_same (unhide HSJ _)))
     have hbd:=below_drewN (Below.refl W.heap.size W) nq
     have HH2:=hide ((unhide HH).below hbd)
     have HX2:=hide (Links.of_below bs hbd)
     clear hbd HH c0 c68 c78 t2 HSJ
     generalize W.drewN nq = W2 at *
     have HT:=hide (unhide HT0)
     clear HT0
     obtain ⟨q2,hat2⟩:=(unhide HH2).peerAt hb
     obtain ⟨bp2,capP2,way2,ev2,hbx2,_⟩:=(unhide HH2).turn
     have d0:=hat2.town
     have d2:W2.cell? ⟨bt,2,none⟩ = some (.int .i64 T.lease):=hbx2.cell 2
     have d4:W2.cell? ⟨bt,4,none⟩ = some (.int .i64 T.now):=hbx2.cell 4
     clear hat2 hbx2
     by_cases hz:T.now % (T.lease / 4) = 0
     ·have z1:(T.now % (T.lease / 4) == 0) = true:=by simp [hz]
      rw [if_pos hz] at HT
      clear hz
      go_upto_region 10 with fail
      go_quiet (fail)
      have hbd3:=below_drewN (Below.refl W2.heap.size W2) nq
      have HH3:=hide ((unhide HH2).below hbd3)
      have HX3:=hide ((unhide HX2).below hbd3)
      clear hbd3 HH2 HX2 d0 d2 d4
      generalize W2.drewN nq = W3 at *
      obtain ⟨q3,hat3⟩:=(unhide HH3).peerAt hb
      have hmj:=hat3.mj
      rw [hlj] at hmj
      obtain ⟨g3,hg3,hm3⟩:=hmj.some
      have d80:=hat3.f80
      rw [hg3] at d80
      have HIO:=hide (inOrderI_any g3 lj W3 hm3)
      have hk7:=keys7 lj hm3.2
      clear hat3 hmj hm3
      go_wp2_with (go_at_call 115;refine (unhide HIO).mono ?_;rintro o w9 ⟨v9,rfl,hv9,hB9⟩)
      have HA:=hide (((unhide HX3).below hB9).calls (send_any i b ⟨6,0,0,0,0,voteZ,0,0⟩ w9 bt pb bs T ((unhide HH3).below hB9) hb hn _ v9 hv9 hk7) (unhide HT))
      simp only [MsgM.val,voteZ] at HA
      clear hv9 hB9 HIO HT HX3 HH3
      refine (unhide HA).mono ?_
      rintro o w10 ⟨rfl,hd⟩
      have HE:=hide hd
      clear hd HA
      go_wp2
      go_end0
      exact ⟨rfl,unhide HE⟩
     ·have z1:(T.now % (T.lease / 4) == 0) = false:=by simp [hz]
      rw [if_neg hz] at HT
      clear hz
      go_upto_region 10 with fail
      go_quiet (fail)
      have hbd3:=below_drewN (Below.refl W2.heap.size W2) nq
      have HF3:=hide (((unhide HX2).below hbd3).did (PDid.rfl' ((unhide HH2).below hbd3)))
      clear hbd3 HH2 HX2 d0 d2 d4
      generalize W2.drewN nq = W3 at *
      go_wp2
      go_end0
      exact ⟨rfl,by rw [unhide HT];exact unhide HF3⟩
   ·have q2:((T.peer i).state == 2) = false:=by simp [h2]
    have HT:Hid (T.timeGoes i = T):=by
     show _ = _
     unfold PTown.timeGoes;rw [if_neg h0,if_neg h1,if_neg h2]
    clear h0 h1 h2 HAT HSI t1 t2 t4
    go_enter Tryz.func88,Tryz.ntmps88
    go_wp2
    go_end0
    exact ⟨rfl,by rw [unhide HT];exact PDid.rfl' (unhide HH)⟩
end Go.Proofs.YtceappncglfciaaGreat
