import Derived.Test.YtceappncglfciaaGreatM20
set_option linter.unusedVariables false
set_option linter.unusedSimpArgs false
namespace Go.Proofs.YtceappncglfciaaGreat
open Go.RowKit Go.Maps
attribute [local go_sem ↓] Go.wp_at_zero Go.wp_at_succ
theorem top_has (l:List (Option Int)) (x:Int):∀ n,PeerP.topL (Maps.has (dataOf encInt l)) l x n = x
 | 0 => rfl
 | n + 1 => by
  rw [PeerP.topL,top_has l x n]
  cases ha:atL l n with
  | none => rfl
  | some v =>
   have:Maps.has (dataOf encInt l) (.int .i64 (n:Int)) = true:=by rw [data_has,show l[n]?.join = some v from ha];rfl
   simp [this]
theorem top_all (left:Lit → Bool) (l:List (Option Int)) (x:Int) (h:∀ kl,left kl = false):∀ n,PeerP.topL left l x n = PeerP.topL (fun _ => false) l x n
 | 0 => rfl
 | n + 1 => by
  rw [PeerP.topL,PeerP.topL,top_all left l x h n]
  cases atL l n with
  | none => rfl
  | some v => simp [h]
theorem top_step (left:Lit → Bool) (l:List (Option Int)) (x:Int) (k:Nat) (v:Int) (hk:left (.int .i64 (k:Int)) = true) (hv:atL l k = some v):∀ n,PeerP.topL (fun z => left z && !z.sameKey (.int .i64 (k:Int))) l x n = if k < n then max (PeerP.topL left l x n) (v + 1) else PeerP.topL left l x n
 | 0 => by simp [PeerP.topL]
 | n + 1 => by
  have ih:=top_step left l x k v hk hv n
  rw [PeerP.topL,PeerP.topL,ih]
  by_cases hn:n = k
  ·subst hn
   rw [hv]
   simp [same_int,hk]
  ·have h1:decide ((n:Int) = (k:Int)) = false:=by simp;omega
   simp only [same_int,h1,Bool.not_false,Bool.and_true]
   have h2:(k < n + 1) = (k < n):=by simp;omega
   cases atL l n with
   | none => simp only [h2]
   | some u =>
    simp only [h2]
    by_cases hkn:k < n
    ·simp only [hkn,if_true]
     cases left (.int .i64 (n:Int)) with
     | false => simp;omega
     | true => simp
    ·simp only [hkn,if_false]
theorem top_range (left:Lit → Bool) (l:List (Option Int)) (x B:Int) (hx:0 ≤ x ∧ x ≤ B) (hj:∀ k v,atL l k = some v → 0 ≤ v ∧ v < B):∀ n,0 ≤ PeerP.topL left l x n ∧ PeerP.topL left l x n ≤ B ∧ x ≤ PeerP.topL left l x n
 | 0 => ⟨hx.1,hx.2,Int.le_refl _⟩
 | n + 1 => by
  have ih:=top_range left l x B hx hj n
  rw [PeerP.topL]
  cases ha:atL l n with
  | none => exact ih
  | some v =>
   have:=hj n v ha
   simp only
   split <;> omega
theorem grown_setCell (w:World) (b k:Nat) (u:Value):w.grownBy (w.setCell ⟨b,k,none⟩ u) (some b):=⟨rfl,rfl,rfl,by simp,fun j _ hj => Below.heap_setCell w _ u j (fun e => hj (by have e':j = b:=e;rw [e']))⟩
set_option maxRecDepth 100000 in
set_option maxHeartbeats 4000000 in
theorem propose_any (i b:Nat) (W:World) (bt:Nat) (pb bs:List Nat) (T:PTown) (h:PR W bt pb bs T) (hb:pb[i]? = some b) (hp:T.ps.length ≤ 7) (hn:T.net ≤ 1000) (l:List (Option Int)) (hl:(T.peer i).joined = some l) (la:List (Option Unit)) (hla:(T.peer i).acked = some la) (hev:T.events.length ≤ 40000000000)
  (hr:0 ≤ (T.peer i).round ∧ (T.peer i).round ≤ 4611686018427387904) (hw:Wr 2 (T.peer i)) (hc:(T.peer i).c.ok) (hj:∀ k v,atL l k = some v → 0 ≤ v ∧ v < 4294967296) :
  Calls Tryz.prog 148 #[.pointer (some ⟨b,0,none⟩)] W fun o w' => o = .returned (.tuple #[]) ∧ PDid W bt pb bs w' (T.propose i):=by
 obtain ⟨hi,q,hat,hbt,hbb,hqb,hbq,C⟩:=h.at hb
 have hcp:=hc.1
 obtain ⟨p0,p1⟩:=hcp
 have c64:=hat.f64
 have c79:=hat.f79
 have z79:=hat.fz 79
 have HF:=hide (stores_close hat C [(79,.int .i64 ((T.peer i).c.p + 1))] q { T.peer i with epoch:=(T.peer i).c.p + 1 } (by simp) rfl)
 simp only [sets] at HF
 clear h hat C
 go_enter Tryz.func148,Tryz.ntmps148
 go_upto_region 1 with fail
 generalize W.setCell ⟨b,79,none⟩ (.int .i64 ((T.peer i).c.p + 1)) = W1 at *
 obtain ⟨bs1,h1,k1⟩:=(unhide HF).open
 have HX1:=hide k1
 have hp1:∀ x,(T.setP i { T.peer i with epoch:=x }).peer i = { T.peer i with epoch:=x }:=fun x => PTown.peer_set hi _
 obtain ⟨_,q,hat,_,_,_,_,_⟩:=h1.at hb
 have hmj:=hat.mj
 rw [hp1] at hmj
 simp only [hl] at hmj
 obtain ⟨g,hg,hm⟩:=hmj.some
 have c80:=hat.f80
 rw [hg] at c80
 have hlen:=hm.2
 have hgl:g < W1.heap.size:=hm.lt
 have hbl1:b < W1.heap.size:=hat.box.lt
 have hgb:g ≠ b:=fun e => hat.b_notin (by rw [← e];exact (PL.mem_blocks q g).2 (by simp [hg]))
 obtain ⟨w1,hrun,rg1,gr1,sz1⟩:=hm.1.range (int_keyed Tryz.underlying3) Tryz.underlying105
 have hB1:Below W1.heap.size W1 w1:=⟨gr1.os,gr1.tape,gr1.output,gr1.size,fun k hk => gr1.block k hk (by simp)⟩
 have HR1:=hide rg1
 have HB1:=hide hB1
 have HH1:=hide (h1.below hB1)
 have HN1:=hide h1.new_notin
 have HP1:=hide hp1
 clear hat hm hmj rg1 gr1 hB1 h1 k1 HF c64 c79 z79
 go_wp2
 go_loopw [3] (fun _ wr => ∃ left cnt x bsr,wr.ranges Tryz.prog 3 rawElem g W1.heap.size 7 (dataOf encInt l) left cnt ∧ x = PeerP.topL left l ((T.peer i).c.p + 1) 7 ∧ PR wr bt pb bsr (T.setP i { T.peer i with epoch:=x }) ∧ Keeps bs1 W1 wr ∧ (∀ y ∈ bsr,y ∈ bs1 ∨ W1.heap.size + 1 ≤ y)) (fun _ wr => wr.rangeLeft g W1.heap.size)
 case atStart => exact ⟨_,_,(T.peer i).c.p + 1,bs1,unhide HR1,by rw [top_has],unhide HH1,Keeps.of_below (unhide HB1),fun y hy => .inl hy⟩
 case round =>
  obtain ⟨left,cnt,x,bsr,hrg,hx,hpr,hkp,hbl⟩:=hrel
  have hxr:=top_range left l ((T.peer i).c.p + 1) 4294967296 ⟨by omega,by omega⟩ hj 7
  rw [← hx] at hxr
  obtain ⟨x0,x1,x2⟩:=hxr
  have hrn1:W1.heap.size ∉ bsr:=fun hm => by
   rcases hbl _ hm with h1 | h1
   ·exact unhide HN1 h1
   ·omega
  have hrb:W1.heap.size ≠ b:=by omega
  rcases range_next hrg hlen 0 with ⟨h0,hnone,hrn⟩ | ⟨k,u,w2,cnt',hk,hu,hlk,hrn,hrg2,hlt2,hgr2,hsz2,hen⟩
  ·have htop:x = (T.peer i).top:=by
    rw [hx,top_all left l _ hnone]
    unfold PeerP.top
    rw [hl];rfl
   have HX:=hide ((unhide HX1).trans ⟨hkp,fun y hy => (hbl y hy).elim .inl (fun e => .inr (by omega))⟩)
   obtain ⟨T1,hT1⟩:∃ T1,T1 = T.setP i { T.peer i with epoch:=x }:=⟨_,rfl⟩
   have hpp:T1.peer i = { T.peer i with epoch:=x }:=by rw [hT1];exact unhide HP1 x
   have HT:Hid (T.propose i = if 1000 < x then T1.look i else if (T.peer i).armed = true then T1.promise i x i else ((T1.promise i x i).sendTo ((T1.promise i x i).proposalM i) i (keysOf 0 l)).check i):=by
    show _ = _
    rw [hT1,htop]
    unfold PTown.propose
    rw [hl];rfl
   rw [← hT1] at hpr
   have hl1:T1.ps.length = T.ps.length:=by rw [hT1,PTown.setP_len]
   have hn1:T1.net = T.net:=by rw [hT1];rfl
   have he1:T1.events = T.events:=by rw [hT1];rfl
   have HH:=hide hpr
   obtain ⟨_,q1,hat1,_,_,_,_,_⟩:=hpr.at hb
   have c1:=hat1.num
   have c79:wr.cell? ⟨b,79,none⟩ = some (.int .i64 x):=by rw [hat1.f79,hpp]
   clear hrg hnone hpr hkp hbl hrn1 htop hx hT1 HR1 HB1 HH1 HN1 HP1 HX1 hat1
   by_cases hgt:1000 < x
   ·have d1:decide (1000 < x) = true:=by simpa using hgt
    rw [if_pos hgt] at HT
    have HA:=hide ((unhide HX).calls (look_any i b wr bt pb bsr T1 (unhide HH) hb (by omega) (by omega) (by rw [hpp];exact hr)) (unhide HT))
    clear hgt HT HX HH
    go_wp2_with fail
    refine (unhide HA).mono ?_
    rintro o w8 ⟨rfl,hd⟩
    have HE:=hide hd
    clear hd HA
    go_wp2
    exact bodyPost_ret (v:=.tuple #[]) (by simp [results,Tryz.results148,go_sem]) rfl ⟨rfl,unhide HE⟩
   ·have d1:decide (1000 < x) = false:=by simpa using hgt
    rw [if_neg hgt] at HT
    have hx1000:x ≤ 1000:=by omega
    go_upto_region 7 with fail
    have hb7:=(Below.refl wr.heap.size wr).drew
    have hi7:i < 7:=by omega
    have hcx:({ (T1.peer i).c with p:=x,t:=(i:Int) }:CredM).ok:=by
     rw [hpp]
     exact ⟨⟨x0,by show x ≤ _;omega⟩,⟨by show (0:Int) ≤ (i:Int);omega,by show (i:Int) ≤ _;omega⟩,hc.2.2⟩
    have hwp:Wr 2 (T1.peer i):=by rw [hpp];exact hw.of rfl rfl rfl
    have harm1:(T1.peer i).armed = (T.peer i).armed:=by rw [hpp]
    have HC:=hide ((Links.of_below bsr hb7).calls (promise_any i b x i wr.drew bt pb bsr T1 ((unhide HH).below hb7) hb (hwp.mono (by omega)) hcx) rfl)
    rw [harm1] at HC
    obtain ⟨T2,hT2⟩:∃ T2,T2 = T1.promise i x i:=⟨_,rfl⟩
    rw [← hT2] at HC HT
    have hp2:T2.peer i = (T1.peer i).writeP { (T1.peer i).c with p:=x,t:=(i:Int) }:=by
     rw [hT2];exact PTown.peer_set (by omega) _
    have hl2:T2.ps.length = T.ps.length:=by rw [hT2,← hl1];exact PTown.setP_len _ _
    have hn2:T2.net = T.net:=by rw [hT2,← hn1];rfl
    have he2:T2.events = T.events:=by rw [hT2,← he1];rfl
    cases harm:(T.peer i).armed with
    | true =>
     rw [harm] at HC HT
     simp only [if_true] at HT
     have HQ:Hid (∀ w6,PDid wr bt pb bsr w6 T2 → True):=fun _ _ => trivial
     clear hgt hb7
     go_region_law (first | (go_simp;go_at_call 159;refine (unhide HC).mono ?_;rintro o w5 ⟨rfl,hd⟩;have HD:=hide hd;clear hd))
     all_goals
      go_wp2
      exact bodyPost_ret (v:=.tuple #[]) (by simp [results,Tryz.results148,go_sem]) rfl ⟨rfl,by rw [unhide HT];exact (unhide HX).did (unhide HD)⟩
    | false =>
     rw [harm] at HC HT
     simp only [if_false,Bool.false_eq_true] at HT
     have hp2':T2.peer i = { T.peer i with epoch:=x,disk:=diskWrite (T.peer i).disk { (T.peer i).c with p:=x,t:=(i:Int) } 28,c:={ (T.peer i).c with p:=x,t:=(i:Int) } }:=by
      rw [hp2,hpp]
      unfold PeerP.writeP
      rw [if_neg (by show ¬ (T.peer i).armed = true;rw [harm];simp)]
     have HQ:Hid (∀ w6,PDid wr bt pb bsr w6 T2 → w6.cell? ⟨b,79,none⟩ = some (.int .i64 x) ∧ w6.cell? ⟨b,1,none⟩ = some (.int .i64 (i:Int))):=fun w6 hd => by
      obtain ⟨bs6,h6,_⟩:=hd.open
      obtain ⟨q6,h7⟩:=h6.peerAt hb
      rw [hp2'] at h7
      exact ⟨h7.f79,h7.num⟩
     have hw2:Wr 1 (T2.peer i):=by
      rw [hp2];exact hwp.write hcx (by rw [harm1];exact harm)
     clear hgt hb7 hp2
     go_region_held3 (fun w' => w'.cell? ⟨b,79,none⟩ = some (.int .i64 x) ∧ w'.cell? ⟨b,1,none⟩ = some (.int .i64 (i:Int))) (go_keep) (first | (go_at_call 159;refine (unhide HC).mono ?_;rintro o w5 ⟨rfl,hd⟩;obtain ⟨e1,e2⟩:=unhide HQ w5 hd;have HD:=hide hd;clear hd))
     go_upto_region 8 with fail
     obtain ⟨bs5,h5,k5⟩:=(unhide HD).open
     have HX5:=hide ((unhide HX).trans k5)
     obtain ⟨q5,hat5⟩:=h5.peerAt hb
     rw [hp2'] at hat5
     have hmj5:=hat5.mj
     simp only [hl] at hmj5
     obtain ⟨g5,hg5,hm5⟩:=hmj5.some
     have d80:=hat5.f80
     rw [hg5] at d80
     have hbl5:b < w5.heap.size:=hat5.box.lt
     have hk7:=keys7 l hm5.2
     have hb5:=(Below.refl w5.heap.size w5).drew
     have HQ8:Hid (∀ w6:World,Below w5.heap.size w5 w6 → w6.cell? ⟨b,80,none⟩ = some (.map (some g5))):=fun w6 hB => (hB.cell (p:=⟨b,80,none⟩) hbl5).trans d80
     have HPR:Hid (∀ w6:World,Below w5.heap.size w5 w6 → Calls Tryz.prog 149 #[.pointer (some ⟨b,0,none⟩)] w6 fun o w' => o = .returned (T2.proposalM i).val ∧ Below w5.heap.size w5 w'):=fun w6 hB => (proposal_any i b w6 bt pb bs5 T2 (h5.below hB) hb).mono (fun o w' hh => ⟨hh.1,below_then hB hh.2⟩)
     have HIO:Hid (∀ w6:World,Below w5.heap.size w5 w6 → Calls Tryz.prog 115 #[.map (some g5)] w6 fun o w' => ∃ v,o = .returned v ∧ ToRow w' v (keysOf 0 l) ∧ Below w5.heap.size w5 w'):=fun w6 hB => (inOrderI_any g5 l w6 (hm5.same (hB.block g5 hm5.lt))).mono (fun o w' hh => by obtain ⟨v,e,hv,hb'⟩:=hh;exact ⟨v,e,hv,below_then hB hb'⟩)
     obtain ⟨T3,hT3⟩:∃ T3,T3 = T2.sendTo (T2.proposalM i) i (keysOf 0 l):=⟨_,rfl⟩
     have HSE:Hid (∀ (w6:World) (v:Value),Below w5.heap.size w5 w6 → ToRow w6 v (keysOf 0 l) → Calls Tryz.prog 114 #[.pointer (some ⟨b,0,none⟩),(T2.proposalM i).val,v] w6 fun o w' => o = .returned (.tuple #[]) ∧ PDid w5 bt pb bs5 w' T3):=fun w6 v hB hv => by
      rw [hT3]
      exact (Links.of_below bs5 hB).calls (send_any i b _ w6 bt pb bs5 T2 (h5.below hB) hb (by omega) _ v hv hk7) rfl
     rw [← hT3] at HT
     have hps3:T3.ps = T2.ps:=by rw [hT3,PTown.send_ps]
     have hp3:T3.peer i = T2.peer i:=by unfold PTown.peer;rw [hps3]
     have hn3:T3.net = T.net:=by rw [hT3,PTown.send_net];exact hn2
     have he3:T3.events = T.events:=by rw [hT3,PTown.send_events];exact he2
     have HB0:=hide hb5
     simp only [MsgM.val,PTown.proposalM,hp2',voteZ] at HPR HSE
     clear hat5 hmj5 hm5 h5 k5 hb5 HC HQ HD HX hT3 hT2 e1 e2
     go_region_law (first | (go_simp;go_at_call 149;refine (unhide HPR _ (unhide HB0)).mono ?_;rintro o w6 ⟨rfl,hB6⟩;have f80:=unhide HQ8 w6 hB6;have HB6:=hide hB6;clear hB6) | (go_simp;go_at_call 115;refine (unhide HIO _ (unhide HB6)).mono ?_;rintro o w7 ⟨v7,rfl,hv7,hB7⟩;have HV7:=hide hv7;have HB7:=hide hB7;clear hB7 hv7) | (go_simp;go_at_call 114;refine (unhide HSE _ _ (unhide HB7) (unhide HV7)).mono ?_;rintro o w8 ⟨rfl,hd8⟩;have HD8:=hide hd8;clear hd8))
     all_goals
      obtain ⟨bs8,h8,k8⟩:=(unhide HD8).open
      have HA:=hide (((unhide HX5).trans k8).calls (check_any i b w8 bt pb bs8 T3 h8 hb (by rw [hps3];omega) (by omega) la (by rw [hp3,hp2'];exact hla) (by rw [he3];exact hev) (by rw [hp3];exact hw2) (by
       rw [hp3,hp2']
       exact ⟨⟨x0,by show x ≤ _;omega⟩,⟨by show (0:Int) ≤ (i:Int);omega,by show (i:Int) ≤ _;omega⟩,⟨x0,by show x ≤ _;omega⟩,hc.2.2.2⟩)) (unhide HT))
      clear h8 k8 HD8 HT
      go_wp2_with fail
      refine (unhide HA).mono ?_
      rintro o w9 ⟨rfl,hd⟩
      have HE:=hide hd
      clear hd HA
      go_wp2
      go_end0
      exact ⟨rfl,unhide HE⟩
  ·have hur:=hj k u hu
   obtain ⟨u0,u1⟩:=hur
   have hpr2:PR w2 bt pb bsr (T.setP i { T.peer i with epoch:=x }):=hpr.keep (fun y hy => hgr2.block y (hpr.lt y hy) (fun e => hrn1 (Option.some.inj e ▸ hy)))
   obtain ⟨_,q2,hat2,_,_,_,_,C2⟩:=hpr2.at hb
   have c79:=hat2.f79
   rw [unhide HP1 x] at c79
   have z79:=hat2.fz 79
   have hbl2:b < w2.heap.size:=hat2.box.lt
   have hd3:=stores_close hat2 C2 [(79,.int .i64 (max x (u + 1)))] q2 { (T.setP i { T.peer i with epoch:=x }).peer i with epoch:=max x (u + 1) } (by simp) rfl
   simp only [sets] at hd3
   have e3:(T.setP i { T.peer i with epoch:=x }).setP i { (T.setP i { T.peer i with epoch:=x }).peer i with epoch:=max x (u + 1) } = T.setP i { T.peer i with epoch:=max x (u + 1) }:=by
    rw [PTown.set_set,unhide HP1 x]
   rw [e3] at hd3
   obtain ⟨bs3,h3,k3⟩:=hd3.open
   have hrg3:(w2.setCell ⟨b,79,none⟩ (.int .i64 (max x (u + 1)))).ranges Tryz.prog 3 rawElem g W1.heap.size 7 (dataOf encInt l) (fun z => left z && !z.sameKey (.int .i64 (k:Int))) cnt':=hrg2.kept (grown_setCell w2 b 79 _) (by simpa using hgb) (by simpa using hrb)
   have hk2:Keeps bs1 W1 w2:=⟨hgr2.os.trans hkp.os,hgr2.tape.trans hkp.tape,hgr2.output.trans hkp.output,Nat.le_trans hkp.size hgr2.size,fun y hy hny => (hgr2.block y (Nat.lt_of_lt_of_le hy hkp.size) (fun e => by have:=Option.some.inj e;omega)).trans (hkp.block y hy hny)⟩
   have hsz3:W1.heap.size + 1 ≤ w2.heap.size:=by
    have:=hrg.lt
    omega
   have FIN:Hid (∃ left' cnt'' x' bsr',(w2.setCell ⟨b,79,none⟩ (.int .i64 (max x (u + 1)))).ranges Tryz.prog 3 rawElem g W1.heap.size 7 (dataOf encInt l) left' cnt'' ∧ x' = PeerP.topL left' l ((T.peer i).c.p + 1) 7 ∧ PR (w2.setCell ⟨b,79,none⟩ (.int .i64 (max x (u + 1)))) bt pb bsr' (T.setP i { T.peer i with epoch:=x' }) ∧ Keeps bs1 W1 (w2.setCell ⟨b,79,none⟩ (.int .i64 (max x (u + 1)))) ∧ (∀ y ∈ bsr',y ∈ bs1 ∨ W1.heap.size + 1 ≤ y)):=by
    refine ⟨_,cnt',max x (u + 1),bs3,hrg3,?_,h3,hk2.trans k3.1 (fun y hy => ?_),fun y hy => ?_⟩
    ·rw [top_step left l _ k u hlk hu 7,if_pos hk,← hx]
    ·rcases hbl y hy with h1 | h1
     ·exact .inl h1
     ·exact .inr (by omega)
    ·rcases k3.2 y hy with h1 | h1
     ·exact hbl y h1
     ·exact .inr (by omega)
   have HME:Hid ((w2.setCell ⟨b,79,none⟩ (.int .i64 (max x (u + 1)))).rangeLeft g W1.heap.size < wr.rangeLeft g W1.heap.size):=by
    show _ < _
    rw [hrg.left_eq,hrg3.left_eq];exact hlt2
   simp only [encInt] at hrn hen
   clear hrg hrg2 hrg3 hgr2 hpr hpr2 hat2 C2 hd3 e3 h3 k3 hk2 hkp hbl hrn1 hlk hu hlt2 HR1 HB1 HH1 HN1 HP1 hx hsz3
   go_wp2
   go_roundw
   case rel => exact unhide FIN
   case measure => exact unhide HME
end Go.Proofs.YtceappncglfciaaGreat
namespace Go.Proofs.YtceappncglfciaaGreat
open Go.RowKit
attribute [local go_sem ↓] Go.wp_at_zero Go.wp_at_succ
section
theorem nd_put (q q':PL) (a c:List Nat) (x:Option Nat) (n:Nat) (h1:q.blocks = a ++ (x.toList ++ c)) (h2:q'.blocks = a ++ ((some n).toList ++ c)) (hn:q.blocks.Nodup) (hl:∀ y ∈ q.blocks,y < n):q'.blocks.Nodup ∧ ∀ y ∈ q'.blocks,y < n + 1 ∧ (y ∈ q.blocks ∨ y = n):=by
 refine ⟨?_,?_⟩
 ·rw [h2];rw [h1] at hn hl;exact nodup_insert hn hl
 ·intro y hy
  rw [h2] at hy
  rw [h1] at hl ⊢
  simp only [List.mem_append] at hy hl ⊢
  rcases hy with hy | hy | hy
  ·exact ⟨by have:=hl y (.inl hy);omega,.inl (.inl hy)⟩
  ·have:y = n:=by simpa using hy
   exact ⟨by omega,.inr this⟩
  ·exact ⟨by have:=hl y (.inr (.inr hy));omega,.inl (.inr (.inr hy))⟩
variable {W:World} {bt i b:Nat} {q:PL} {p:PeerP} {pb bs:List Nat} {T:PTown}
theorem fresh3 (hat:PeerAt W bt i b q p) (C:Close W bt i b q pb bs T) :
  PDid W bt pb bs (((((W.setCell ⟨b,77,none⟩ (.map (some W.heap.size))).setCell ⟨b,80,none⟩ (.map (some (W.heap.size + 1)))).setCell ⟨b,81,none⟩ (.map (some (W.heap.size + 1 + 1)))).alloc (.map #[] 0)).alloc (.map #[] 0) |>.alloc (.map #[] 0)) (T.setP i { p with heard:=some none7,joined:=some none7,acked:=some none7 }):=by
 obtain ⟨w0,hw0⟩:∃ w0,w0 = ((W.setCell ⟨b,77,none⟩ (.map (some W.heap.size))).setCell ⟨b,80,none⟩ (.map (some (W.heap.size + 1)))).setCell ⟨b,81,none⟩ (.map (some (W.heap.size + 1 + 1))):=⟨_,rfl⟩
 rw [← hw0]
 have hs0:w0.heap.size = W.heap.size:=by rw [hw0];simp
 have hlt:=hat.lt
 have hbl:=hat.box.lt
 have hbn:=hat.b_notin
 have far0:∀ k,k ≠ b → w0.heap[k]? = W.heap[k]?:=fun k hk => by
  rw [hw0]
  exact ((Below.heap_setCell _ _ _ _ hk).trans (Below.heap_setCell _ _ _ _ hk)).trans (Below.heap_setCell _ _ _ _ hk)
 have hbA:Below w0.heap.size w0 (((w0.alloc (.map #[] 0)).alloc (.map #[] 0)).alloc (.map #[] 0)):=(((Below.refl w0.heap.size w0).alloc (Nat.le_refl _) _).alloc (by simp) _).alloc (by simp;omega) _
 have fq:∀ k ∈ q.blocks,(((w0.alloc (.map #[] 0)).alloc (.map #[] 0)).alloc (.map #[] 0)).heap[k]? = W.heap[k]?:=fun k hk => (hbA.block k (by rw [hs0];exact hlt k hk)).trans (far0 k (fun e => hbn (e ▸ hk)))
 have hs':∀ k,_ → (((w0.alloc (.map #[] 0)).alloc (.map #[] 0)).alloc (.map #[] 0)).heap[k]? = W.heap[k]?:=fun k hk => fq k ((PL.mem_blocks q k).2 hk)
 obtain ⟨s1,r1,c1⟩:=hat.cm
 obtain ⟨s2,r2,c2⟩:=hat.ct
 obtain ⟨s3,r3,c3⟩:=hat.co
 obtain ⟨n1,l1⟩:=nd_put q { q with mh:=some W.heap.size } (([q.cm,q.ct,q.co] ++ q.mv.toList) ++ q.ms.toList) (q.mj.toList ++ q.ma.toList) q.mh W.heap.size (by simp [PL.blocks]) (by simp [PL.blocks]) hat.nd hlt
 obtain ⟨n2,l2⟩:=nd_put { q with mh:=some W.heap.size } { q with mh:=some W.heap.size,mj:=some (W.heap.size + 1) } ((([q.cm,q.ct,q.co] ++ q.mv.toList) ++ q.ms.toList) ++ [W.heap.size]) q.ma.toList q.mj (W.heap.size + 1) (by simp [PL.blocks]) (by simp [PL.blocks]) n1 (fun y hy => (l1 y hy).1)
 obtain ⟨n3,l3⟩:=nd_put { q with mh:=some W.heap.size,mj:=some (W.heap.size + 1) } { q with mh:=some W.heap.size,mj:=some (W.heap.size + 1),ma:=some (W.heap.size + 1 + 1) } (((([q.cm,q.ct,q.co] ++ q.mv.toList) ++ q.ms.toList) ++ [W.heap.size]) ++ [W.heap.size + 1]) [] q.ma (W.heap.size + 1 + 1) (by simp [PL.blocks]) (by simp [PL.blocks]) n2 (fun y hy => (l2 y hy).1)
 have hx0:PBox w0 b bt i (byteCells p.disk) (({ p with heard:=some none7,joined:=some none7,acked:=some none7 }:PeerP).tail { q with mh:=some W.heap.size,mj:=some (W.heap.size + 1),ma:=some (W.heap.size + 1 + 1) }):=by
  rw [hw0]
  exact ((hat.box.set 77 (by omega) (.map (some W.heap.size))).set 80 (by omega) (.map (some (W.heap.size + 1)))).set 81 (by omega) (.map (some (W.heap.size + 1 + 1)))
 have mk0:MapIs Tryz.prog 3 encInt (((w0.alloc (.map #[] 0)).alloc (.map #[] 0)).alloc (.map #[] 0)) W.heap.size none7:=by
  rw [← hs0]
  exact MapIs.same (MapIs.made w0) ((Below.heap_alloc _ _ _ (by rw [World.size_alloc,World.size_alloc];omega)).trans (Below.heap_alloc _ _ _ (by rw [World.size_alloc];omega)))
 have mk1:MapIs Tryz.prog 3 encInt (((w0.alloc (.map #[] 0)).alloc (.map #[] 0)).alloc (.map #[] 0)) (W.heap.size + 1) none7:=by
  rw [← hs0,show w0.heap.size + 1 = (w0.alloc (.map #[] 0)).heap.size from (World.size_alloc _ _).symm]
  exact MapIs.same (MapIs.made (w0.alloc (.map #[] 0))) (Below.heap_alloc _ _ _ (by rw [World.size_alloc (w0.alloc _)];omega))
 have mk2:MapIs Tryz.prog 3 encUnit (((w0.alloc (.map #[] 0)).alloc (.map #[] 0)).alloc (.map #[] 0)) (W.heap.size + 1 + 1) none7:=by
  rw [← hs0,show w0.heap.size + 1 + 1 = ((w0.alloc (.map #[] 0)).alloc (.map #[] 0)).heap.size from by rw [World.size_alloc,World.size_alloc]]
  exact MapIs.made ((w0.alloc (.map #[] 0)).alloc (.map #[] 0))
 refine C _ { q with mh:=some W.heap.size,mj:=some (W.heap.size + 1),ma:=some (W.heap.size + 1 + 1) } _ (PeerAt.mk ?_ ⟨s1,r1,(hs' _ (by simp)).trans c1⟩ ⟨s2,r2,(hs' _ (by simp)).trans c2⟩ ⟨s3,r3,(hs' _ (by simp)).trans c3⟩ ?_ ?_ mk0 mk1 mk2 n3) ?_ ?_
 ·exact hx0.same (hbA.block b (by rw [hs0];exact hbl))
 ·exact hat.mv.same (fun k hk => hs' k (by simp [hk]))
 ·exact hat.ms.same (fun k hk => hs' k (by simp [hk]))
 ·intro x hx
  rcases (l3 x hx).2 with h | h
  ·rcases (l2 x h).2 with h | h
   ·rcases (l1 x h).2 with h | h
    ·exact .inl h
    ·exact .inr (by omega)
   ·exact .inr (by omega)
  ·exact .inr (by omega)
 ·have k0:Keeps (b :: q.blocks) W w0:=by
   rw [hw0];exact (((Keeps.refl _ W).own 77 _).own 80 _).own 81 _
  exact ((k0.alloc _).alloc _).alloc _
end
set_option maxRecDepth 100000 in
set_option maxHeartbeats 2000000 in
theorem lead_any (i b:Nat) (W:World) (bt:Nat) (pb bs:List Nat) (T:PTown) (h:PR W bt pb bs T) (hb:pb[i]? = some b) (hp:T.ps.length ≤ 7) (hn:T.net ≤ 1000) (hev:T.events.length ≤ 40000000000)
  (hr:0 ≤ (T.peer i).round ∧ (T.peer i).round ≤ 4611686018427387904) (hw:Wr 2 (T.peer i)) (hc:(T.peer i).c.ok) :
  Calls Tryz.prog 134 #[.pointer (some ⟨b,0,none⟩)] W fun o w' => o = .returned (.tuple #[]) ∧ PDid W bt pb bs w' (T.lead i):=by
 have hi:i < T.ps.length:=(h.at hb).1
 have HC:=hide (become_any i b 2 W bt pb bs T h hb)
 have hmm:=@run_makeMap Tryz.prog
 clear h
 go_enter Tryz.func134,Tryz.ntmps134
 go_upto_region 1 with (go_at_call 136;refine (unhide HC).mono ?_;rintro o W1 ⟨rfl,hd⟩)
 obtain ⟨bs1,h1,k1⟩:=hd.open
 obtain ⟨T1,hT1⟩:∃ T1,T1 = T.setP i ((T.peer i).become 2):=⟨_,rfl⟩
 rw [← hT1] at h1 hd
 have hp1:T1.peer i = (T.peer i).become 2:=by rw [hT1,PTown.peer_set hi]
 have hn1:T1.now = T.now:=by rw [hT1];rfl
 obtain ⟨_,q,hat,_,_,_,_,C⟩:=h1.at hb
 obtain ⟨bp,capP,way,ev,hbx,_⟩:=h1.turn
 have t4:W1.cell? ⟨bt,4,none⟩ = some (.int .i64 T.now):=by rw [← hn1];exact hbx.cell 4
 have c0:=hat.town
 have c78:=hat.f78
 have z78:=hat.fz 78
 have HF:=hide (stores_close hat C [(78,.int .i64 T.now)] q { T1.peer i with leadsFrom:=T.now } (by simp) rfl)
 simp only [sets] at HF
 have HK:=hide k1
 clear h1 hat C hd HC k1 hbx
 go_upto_region 2 with fail
 generalize W1.setCell ⟨b,78,none⟩ (.int .i64 T.now) = W2 at *
 obtain ⟨bs2,h2,k2⟩:=(unhide HF).open
 have HK2:=hide ((unhide HK).trans k2)
 obtain ⟨_,q,hat,_,_,_,_,C⟩:=h2.at hb
 have c77:=hat.f77
 have c80:=hat.f80
 have c81:=hat.f81
 have z77:=hat.fz 77
 have z80:=hat.fz 80
 have z81:=hat.fz 81
 have hbl:b < W2.heap.size:=hat.box.lt
 have hbl1:b < W2.heap.size + 1:=by omega
 have hbl2:b < W2.heap.size + 1 + 1:=by omega
 have HF2:=hide (fresh3 hat C)
 clear h2 hat C k2 HF HK c78 z78
 go_upto_region 3 with fail
 generalize ((((((W2.setCell ⟨b,77,none⟩ (.map (some W2.heap.size))).setCell ⟨b,80,none⟩ (.map (some (W2.heap.size + 1)))).setCell ⟨b,81,none⟩ (.map (some (W2.heap.size + 1 + 1)))).alloc (.map #[] 0)).alloc (.map #[] 0)).alloc (.map #[] 0)) = W3 at *
 obtain ⟨bs3,h3,k3⟩:=(unhide HF2).open
 obtain ⟨T3,hT3⟩:∃ T3,T3 = T.setP i { (T.peer i).become 2 with leadsFrom:=T.now,heard:=some none7,joined:=some none7,acked:=some none7 }:=⟨_,rfl⟩
 have e3:(T1.setP i { T1.peer i with leadsFrom:=T.now }).setP i { (T1.setP i { T1.peer i with leadsFrom:=T.now }).peer i with heard:=some none7,joined:=some none7,acked:=some none7 } = T3:=by
  rw [PTown.set_set,PTown.peer_set (by rw [hT1,PTown.setP_len];exact hi),hp1,hT1,PTown.set_set,hT3]
 rw [e3] at h3
 have hp3:T3.peer i = { (T.peer i).become 2 with leadsFrom:=T.now,heard:=some none7,joined:=some none7,acked:=some none7 }:=by rw [hT3,PTown.peer_set hi]
 have hl3:T3.ps.length = T.ps.length:=by rw [hT3,PTown.setP_len]
 have hn3:T3.net = T.net:=by rw [hT3];rfl
 have he3:T3.events = T.events:=by rw [hT3];rfl
 have HX3:=hide ((unhide HK2).trans k3)
 have HT:Hid (T.lead i = if T.ps.length = 1 then T3.propose i else T3):=by rw [hT3];exact rfl
 have HH3:=hide h3
 obtain ⟨_,q,hat,_,_,_,_,_⟩:=h3.at hb
 obtain ⟨bp,capP,way,ev,hbx,_⟩:=h3.turn
 have t0:W3.cell? ⟨bt,0,none⟩ = some (.slice (some ⟨bp,0,none⟩) T.ps.length capP):=by rw [← hl3];exact hbx.cell 0
 have d0:=hat.town
 clear h3 k3 hat hbx HF2 HK2 e3 hT3 hT1 hp1 c77 c80 c81 z77 z80 z81 t4 c0
 by_cases h1:T.ps.length = 1
 ·have q1:((T.ps.length:Int) == 1) = true:=by simp;omega
  rw [if_pos h1] at HT
  have HA:=hide ((unhide HX3).calls (propose_any i b W3 bt pb bs3 T3 (unhide HH3) hb (by omega) (by omega) none7 (by rw [hp3]) none7 (by rw [hp3]) (by rw [he3];exact hev) (by rw [hp3];exact hr) (by rw [hp3];exact hw.of rfl rfl rfl) (by rw [hp3];exact hc) (fun k v hv => by
   unfold atL none7 at hv
   rw [List.getElem?_replicate] at hv
   split at hv <;> simp at hv)) (unhide HT))
  clear h1 HT HX3 HH3
  go_wp2_with fail
  refine (unhide HA).mono ?_
  rintro o w8 ⟨rfl,hd⟩
  have HE:=hide hd
  clear hd HA
  go_wp2
  go_end0
  exact ⟨rfl,unhide HE⟩
 ·have q1:((T.ps.length:Int) == 1) = false:=by simp;omega
  rw [if_neg h1] at HT
  clear h1
  go_wp2
  go_end0
  exact ⟨rfl,by rw [unhide HT];exact (unhide HX3).did (PDid.rfl' (unhide HH3))⟩
end Go.Proofs.YtceappncglfciaaGreat
