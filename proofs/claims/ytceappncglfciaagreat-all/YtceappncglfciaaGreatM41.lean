import Derived.Test.YtceappncglfciaaGreatM40
set_option linter.unusedVariables false
set_option linter.unusedSimpArgs false
namespace Go.Proofs.YtceappncglfciaaGreat
open Go.RowKit
attribute [local go_sem ↓] Go.wp_at_zero Go.wp_at_succ
set_option maxRecDepth 100000 in
set_option maxHeartbeats 1000000 in
theorem dArm_any (x n:Int) (W:World) (L:Lies) (T:TownM) (h:Rep W L T) :
  Calls Tryz.prog 58 #[.pointer (some ⟨L.bt,0,none⟩),.int .i64 x,.int .i64 n] W fun o w' => o = .returned (.int .i64 (T.armE x n)) ∧ Did W L w' (T.arm x n):=by
 have HU:=dis_any x W L T h
 by_cases hn:0 ≤ n ∧ n ≤ 28
 ·obtain ⟨n0,n1⟩:=hn
  rcases is_cases T x with ⟨h0,k,rfl,hk⟩ | h0
  ·have q0:(0:Int) ≤ (k:Int):=by omega
   have q1:(k:Int) < (T.ps.length:Int):=by omega
   have c4:=h.cell 4
   have v1:=h.phead hk 1 (by omega)
   have v2:=h.phead hk 2 (by omega)
   have y2:=h.pfrozen (k * 121 + 2)
   simp only [PeerM.head] at v1 v2
   rw [h0] at HU
   have HUH:=hide HU
   cases hu:(T.peer k).up with
   | true =>
    have HE:Hid (T.armE (k:Int) n = 0 ∧ T.arm (k:Int) n = T.setPeer k { T.peer k with armed:=n }):=by
     have e0:T.armE (k:Int) n = 0:=by
      unfold TownM.armE
      rw [if_pos ⟨h0,n0,n1⟩,Int.toNat_natCast,if_pos hu]
     refine ⟨e0,?_⟩
     unfold TownM.arm
     rw [if_pos e0,Int.toNat_natCast]
    have HF:=hide (Did.stored (h.setArmed hk n) ((Keeps.refl L.blocks W).peer (k * 121 + 2) (.int .i64 n)))
    rw [hu] at v1
    rw [(unhide HE).1,(unhide HE).2]
    clear h HU h0 HE hu
    go_enter Tryz.func58,Tryz.ntmps58
    go_wp2_with (go_at_call 83;refine (unhide HUH).mono ?_;rintro o W ⟨rfl,rfl⟩)
    go_ret
    exact ⟨rfl,unhide HF⟩
   | false =>
    have HE:Hid (T.armE (k:Int) n = 2 ∧ T.arm (k:Int) n = T):=by
     have e0:T.armE (k:Int) n = 2:=by
      unfold TownM.armE
      rw [if_pos ⟨h0,n0,n1⟩,Int.toNat_natCast,if_neg (by rw [hu];simp)]
     refine ⟨e0,?_⟩
     unfold TownM.arm
     rw [if_neg (by rw [e0];decide)]
    have HF:=hide (Did.rfl' h)
    rw [hu] at v1
    rw [(unhide HE).1,(unhide HE).2]
    clear h HU h0 HE hu
    go_enter Tryz.func58,Tryz.ntmps58
    go_wp2_with (go_at_call 83;refine (unhide HUH).mono ?_;rintro o W ⟨rfl,rfl⟩)
    go_ret
    exact ⟨rfl,unhide HF⟩
  ·have HE:Hid (T.armE x n = 1 ∧ T.arm x n = T):=by
    have e0:T.armE x n = 1:=by
     unfold TownM.armE
     rw [if_neg (fun e => by rw [h0] at e;exact absurd e.1 (by simp))]
    refine ⟨e0,?_⟩
    unfold TownM.arm
    rw [if_neg (by rw [e0];decide)]
   have HF:=hide (Did.rfl' h)
   rw [h0] at HU
   have HUH:=hide HU
   rw [(unhide HE).1,(unhide HE).2]
   clear h HU h0 HE
   go_enter Tryz.func58,Tryz.ntmps58
   go_wp2_with (go_at_call 83;refine (unhide HUH).mono ?_;rintro o W ⟨rfl,rfl⟩)
   go_ret
   exact ⟨rfl,unhide HF⟩
 ·have HE:Hid (T.armE x n = 1 ∧ T.arm x n = T):=by
   have e0:T.armE x n = 1:=by
    unfold TownM.armE
    rw [if_neg (fun e => hn e.2)]
   refine ⟨e0,?_⟩
   unfold TownM.arm
   rw [if_neg (by rw [e0];decide)]
  have HF:=hide (Did.rfl' h)
  rw [(unhide HE).1,(unhide HE).2]
  obtain ⟨ib,hib⟩:∃ ib,ib = T.is x:=⟨_,rfl⟩
  rw [← hib] at HU
  have HUH:=hide HU
  clear h HU HE hib
  cases ib with
  | false =>
   go_enter Tryz.func58,Tryz.ntmps58
   go_wp2_with (go_at_call 83;refine (unhide HUH).mono ?_;rintro o W ⟨rfl,rfl⟩)
   go_ret
   exact ⟨rfl,unhide HF⟩
  | true =>
   by_cases n0:n < 0
   ·clear hn
    go_enter Tryz.func58,Tryz.ntmps58
    go_wp2_with (go_at_call 83;refine (unhide HUH).mono ?_;rintro o W ⟨rfl,rfl⟩)
    go_ret
    exact ⟨rfl,unhide HF⟩
   ·have n1:28 < n:=by omega
    clear hn
    go_enter Tryz.func58,Tryz.ntmps58
    go_wp2_with (go_at_call 83;refine (unhide HUH).mono ?_;rintro o W ⟨rfl,rfl⟩)
    go_ret
    exact ⟨rfl,unhide HF⟩
set_option maxRecDepth 100000 in
set_option maxHeartbeats 1000000 in
theorem dHear_any (x K:Int) (W:World) (L:Lies) (T:TownM) (h:Rep W L T) (hf:Fits K T) (hK:K + 2 ≤ 4294967294) :
  Calls Tryz.prog 59 #[.pointer (some ⟨L.bt,0,none⟩),.int .i64 x] W fun o w' => o = .returned (.int .i64 (T.hearE x)) ∧ Did W L w' (T.hear x):=by
 have HU:=dup_any x true W L T h
 rcases upE_cases T x true with ⟨h0,k,rfl,hk,hu⟩ | h0
 ·have q0:(0:Int) ≤ (k:Int):=by omega
  have q1:(k:Int) < (T.ps.length:Int):=by omega
  have c4:=h.cell 4
  have v3:=h.phead hk 3 (by omega)
  have v7:=h.phead hk 7 (by omega)
  have v120:=h.pstands hk
  have y7:=h.pfrozen (k * 121 + 7)
  simp only [PeerM.head] at v3 v7
  have HFN:Hid (T.hearE (k:Int) = if (T.peer k).state = 2 ∧ (T.peer k).stands = true then (if 1000000000 ≤ (T.peer k).c.v then 3 else 0) else 5):=by
   show _ = _
   unfold TownM.hearE
   rw [if_pos h0,Int.toNat_natCast]
  have HFT:Hid (T.hear (k:Int) = if T.hearE (k:Int) = 0 then (T.setPeer k { T.peer k with c:={ (T.peer k).c with v:=(T.peer k).c.v + 1 } }).write k else T):=by
   show _ = _
   unfold TownM.hear
   rw [Int.toNat_natCast]
  rw [h0] at HU
  have HUH:=hide HU
  have HNO:=hide (Did.rfl' h)
  by_cases s2:(T.peer k).state = 2
  ·have hs2:((T.peer k).state == 2) = true:=by simp [s2]
   cases hst:(T.peer k).stands with
   | true =>
    rw [hst] at v120
    rw [if_pos ⟨s2,hst⟩] at HFN
    by_cases hv:1000000000 ≤ (T.peer k).c.v
    ·rw [if_pos hv] at HFN
     rw [unhide HFN,if_neg (by decide)] at HFT
     rw [unhide HFN,unhide HFT]
     clear h HU h0 HFN HFT hu hst hs2
     go_enter Tryz.func59,Tryz.ntmps59
     go_wp2_with (go_at_call 81;refine (unhide HUH).mono ?_;rintro o W ⟨rfl,rfl⟩)
     go_ret
     exact ⟨rfl,unhide HNO⟩
    ·rw [if_neg hv] at HFN
     rw [unhide HFN,if_pos rfl] at HFT
     rw [unhide HFN,unhide HFT]
     have hpo:=hf.peer hk
     obtain ⟨dn,dc,hdd,hdk⟩:=hpo.disk
     have cv0:=hpo.c.2.2.2
     obtain ⟨T2,hT2⟩:∃ T2,T2 = T.setPeer k { T.peer k with c:={ (T.peer k).c with v:=(T.peer k).c.v + 1 } }:=⟨_,rfl⟩
     have s2r:Rep (W.setCell ⟨L.bp,k * 121 + 4 + 3,none⟩ (.int .i64 ((T.peer k).c.v + 1))) L T2:=by rw [hT2];exact h.setV1 hk ((T.peer k).c.v + 1)
     have p2:T2.peer k = { T.peer k with c:={ (T.peer k).c with v:=(T.peer k).c.v + 1 } }:=by rw [hT2,TownM.peer_set hk]
     have hk2:k < T2.ps.length:=by rw [hT2,TownM.setPeer_len];exact hk
     have HC0:=twrite_any k dn dc _ L T2 s2r hk2 (by rw [p2];exact hdd) (by omega) (by rw [p2];exact ⟨hpo.c.1,hpo.c.2.1,hpo.c.2.2.1,by show 0 ≤ (T.peer k).c.v + 1;omega,by show (T.peer k).c.v + 1 ≤ 4294967295;omega⟩) (by rw [p2];exact hpo.armed.1) (by rw [p2];exact hpo.armed.2)
     have HC:=hide (HC0.mono (fun o w' ⟨e1,e2⟩ => And.intro e1 (show Did W L w' (T2.write k) from ((DLinks.refl W L).peer (k * 121 + 4 + 3) (.int .i64 ((T.peer k).c.v + 1))).did e2)))
     rw [← hT2]
     obtain ⟨cv00,cv01⟩:=cv0
     clear h HU h0 HFN HFT hu hst hs2 HC0 s2r p2 hk2 hT2 hpo hdd hdk HNO
     go_enter Tryz.func59,Tryz.ntmps59
     go_wp2_with (first | (go_at_call 81;refine (unhide HUH).mono ?_;rintro o W ⟨rfl,rfl⟩) | (go_at_call 84;refine (unhide HC).mono ?_;rintro o w8 ⟨rfl,hd⟩;have HE:=hide hd;clear hd HC))
     go_ret
     exact ⟨rfl,unhide HE⟩
   | false =>
    rw [hst] at v120
    rw [if_neg (fun e => by rw [hst] at e;exact absurd e.2 (by simp))] at HFN
    rw [unhide HFN,if_neg (by decide)] at HFT
    rw [unhide HFN,unhide HFT]
    clear h HU h0 HFN HFT hu hst hs2
    go_enter Tryz.func59,Tryz.ntmps59
    go_wp2_with (go_at_call 81;refine (unhide HUH).mono ?_;rintro o W ⟨rfl,rfl⟩)
    go_ret
    exact ⟨rfl,unhide HNO⟩
  ·have hs3:¬ (T.peer k).state = 2:=s2
   rw [if_neg (fun e => s2 e.1)] at HFN
   rw [unhide HFN,if_neg (by decide)] at HFT
   rw [unhide HFN,unhide HFT]
   clear h HU h0 HFN HFT hu s2
   go_enter Tryz.func59,Tryz.ntmps59
   go_wp2_with (go_at_call 81;refine (unhide HUH).mono ?_;rintro o W ⟨rfl,rfl⟩)
   go_ret
   exact ⟨rfl,unhide HNO⟩
 ·have HE:Hid (T.hearE x = T.upE x true ∧ T.hear x = T):=by
   have e0:T.hearE x = T.upE x true:=by unfold TownM.hearE;rw [if_neg h0]
   refine ⟨e0,?_⟩
   unfold TownM.hear
   rw [if_neg (by rw [e0];exact h0)]
  obtain ⟨u,hu⟩:∃ u,u = T.upE x true:=⟨_,rfl⟩
  rw [(unhide HE).1,(unhide HE).2]
  rw [← hu] at HU h0 ⊢
  have HUH:=hide HU
  have hd:(u == 0) = false:=by simp [h0]
  have HF:=hide (Did.rfl' h)
  clear h HU HE hu
  go_enter Tryz.func59,Tryz.ntmps59
  go_wp2_with (go_at_call 81;refine (unhide HUH).mono ?_;rintro o W ⟨rfl,rfl⟩)
  go_ret
  exact ⟨rfl,unhide HF⟩
end Go.Proofs.YtceappncglfciaaGreat
namespace Go.Proofs.YtceappncglfciaaGreat
open Go.RowKit
attribute [local go_sem ↓] Go.wp_at_zero Go.wp_at_succ
theorem Rep.setNow {W:World} {L:Lies} {T:TownM} (h:Rep W L T) (x:Int):Rep (W.setCell ⟨L.bt,5,none⟩ (.int .i64 x)) L { T with now:=x }:=by
 obtain ⟨cur,hp,hp2,hp3,hp4⟩:=h.peers
 have e0:L.bp ≠ L.bt:=fun e => h.town_ne e.symm
 have hw:L.way.ownBlock ≠ some L.bt:=own_ne h.way h.town (by decide)
 have he:L.ev.ownBlock ≠ some L.bt:=own_ne h.events h.town (by decide)
 refine ⟨Box.set h.town 5 (.int .i64 x),⟨cur,(Below.heap_setCell W ⟨L.bt,5,none⟩ _ L.bp e0).trans hp,hp2,hp3,hp4⟩,own_same h.way (fun b hv => ?_),own_same h.events (fun b hv => ?_),h.fit⟩
 ·exact Below.heap_setCell W ⟨L.bt,5,none⟩ _ b (fun e => hw (by rw [hv];exact congrArg some e))
 ·exact Below.heap_setCell W ⟨L.bt,5,none⟩ _ b (fun e => he (by rw [hv];exact congrArg some e))
theorem DLinks.town {W w:World} {L L1:Lies} (h:DLinks W L w L1) (o:Nat) (u:Value):DLinks W L (w.setCell ⟨L1.bt,o,none⟩ u) L1 :=
 h.trans ⟨rfl,rfl,(Keeps.refl L1.blocks w).setCell (.inl (mem_blocks.2 (.inl rfl))) u,fun _ hx => .inl hx,L1.way,L1.ev,rfl⟩
def TownM.later (T:TownM):TownM:={ T with now:=T.now + 1 }
set_option maxRecDepth 100000 in
set_option maxHeartbeats 1000000 in
theorem dTickNo (n:Int) (W:World) (L:Lies) (T:TownM) (h:Rep W L T) (hn:¬ (1 ≤ n ∧ n ≤ 1000)) :
  Calls Tryz.prog 55 #[.pointer (some ⟨L.bt,0,none⟩),.int .i64 n] W fun o w' => o = .returned (.int .i64 (TownM.tickE n)) ∧ Did W L w' (T.tickC n):=by
 have e1:TownM.tickE n = 1:=by unfold TownM.tickE;rw [if_neg hn]
 have e2:T.tickC n = T:=by unfold TownM.tickC;rw [if_neg hn]
 rw [e1,e2]
 have HF:=hide (Did.rfl' h)
 clear h e1 e2
 by_cases n0:n < 1
 ·clear hn
  go_enter Tryz.func55,Tryz.ntmps55
  go_wp2
  go_ret
  exact ⟨rfl,unhide HF⟩
 ·have n1:1000 < n:=by omega
  clear hn
  go_enter Tryz.func55,Tryz.ntmps55
  go_wp2
  go_ret
  exact ⟨rfl,unhide HF⟩
set_option maxRecDepth 100000 in
set_option maxHeartbeats 2000000 in
theorem dTick_any (n K:Int) (W:World) (L:Lies) (T:TownM) (h:Rep W L T) (hf:Fits K T) (hK:1 ≤ n ∧ n ≤ 1000 → K + 15 * n ≤ 4294967294) (hev:∀ j k:Nat,(j:Int) < n → k < T.ps.length → ((T.tickN j).later.ticksTo k).events.length ≤ 40000000000) :
  Calls Tryz.prog 55 #[.pointer (some ⟨L.bt,0,none⟩),.int .i64 n] W fun o w' => o = .returned (.int .i64 (TownM.tickE n)) ∧ Did W L w' (T.tickC n):=by
 by_cases hn:1 ≤ n ∧ n ≤ 1000
 ·have hK1:=hK hn
  have e1:TownM.tickE n = 0:=by unfold TownM.tickE;rw [if_pos hn]
  have e2:T.tickC n = T.tickN n.toNat:=by unfold TownM.tickC;rw [if_pos hn]
  rw [e1,e2]
  obtain ⟨n0,n1⟩:=hn
  have HH:=hide h
  have HF:=hide hf
  have HEV:=hide hev
  have hp7:T.ps.length ≤ 7:=hf.n.2
  clear h hf hev hK e1 e2
  go_enter Tryz.func55,Tryz.ntmps55
  go_wp2_with fail
  go_loopw [1] (fun c wr => ∃ j:Nat,(j:Int) ≤ n ∧ c = .int .i64 (n - j) ∧ ∃ L2,Rep wr L2 (T.tickN j) ∧ DLinks W L wr L2) (fun c _ => (RowKit.intOf c).toNat)
  case atStart => exact ⟨0,by omega,by simp,L,unhide HH,DLinks.refl W L⟩
  case round =>
   obtain ⟨j,hj,rfl,L2,hr,hx⟩:=hrel
   clear HH
   by_cases hjn:(j:Int) = n
   ·have HE:Hid (Did W L wr (T.tickN n.toNat)):=by
     rw [show n.toNat = j from by omega]
     exact hx.done hr
    have hz:n - (j:Int) = 0:=by omega
    clear hr hx hjn
    go_wp2
    go_ret
    exact ⟨rfl,unhide HE⟩
   ·have hjl:(j:Int) < n:=by omega
    have hpos:0 < n - (j:Int):=by omega
    have hfj:=(unhide HF).tickN j (by omega)
    have hlen:(T.tickN j).ps.length = T.ps.length:=tickN_len T j
    have hno:=hfj.now
    have c5:=hr.cell 5
    have y5:=hr.frozen 5
    have s2:=hr.setNow ((T.tickN j).now + 1)
    have k2:=hx.town 5 (.int .i64 ((T.tickN j).now + 1))
    rw [hx.bt] at c5 y5 s2 k2
    obtain ⟨nw,hnw⟩:∃ nw,nw = (T.tickN j).now:=⟨_,rfl⟩
    have s2':Rep (wr.setCell ⟨L.bt,5,none⟩ (.int .i64 (nw + 1))) L2 (T.tickN j).later:=by rw [hnw];exact s2
    rw [← hnw] at c5 k2 hno
    have HS2:=hide s2'
    have HK2:=hide k2
    have HFJ:=hide hfj
    have HLN:=hide hlen
    clear hr hx hjn s2 s2' k2 hnw hfj hlen
    obtain ⟨nw0,nwK⟩:=hno
    go_wp2_with fail
    generalize wr.setCell ⟨L.bt,5,none⟩ (.int .i64 (nw + 1)) = w2 at *
    clear c5 y5
    go_loopw [5] (fun c wx => ∃ k:Nat,k ≤ T.ps.length ∧ c = .int .i64 (k:Int) ∧ ∃ L3,Rep wx L3 ((T.tickN j).later.ticksTo k) ∧ DLinks W L wx L3) (fun c _ => T.ps.length - (RowKit.intOf c).toNat)
    case atStart => exact ⟨0,Nat.zero_le _,rfl,L2,unhide HS2,unhide HK2⟩
    case round =>
     obtain ⟨k,hk,rfl,L3,hr,hx⟩:=hrel
     clear HS2 HK2
     have hlk:((T.tickN j).later.ticksTo k).ps.length = T.ps.length:=(ticksTo_len _ k).trans (unhide HLN)
     have c4:=hr.cell 4
     rw [hx.bt,hx.bp,hlk] at c4
     by_cases hkl:k < T.ps.length
     ·have hik:k < ((T.tickN j).later.ticksTo k).ps.length:=by rw [hlk];exact hkl
      have q0:(0:Int) ≤ (k:Int):=by omega
      have q1:(k:Int) < (T.ps.length:Int):=by omega
      have v1:=hr.phead hik 1 (by omega)
      have v3:=hr.phead hik 3 (by omega)
      simp only [PeerM.head] at v1 v3
      rw [hx.bp] at v1 v3
      have hfl:Fits (K + 15 * (j:Int) + 1) (T.tickN j).later:=by
       have h1:=(unhide HFJ).mono (K':=K + 15 * (j:Int) + 1) (by omega)
       have h2:=(unhide HFJ).now
       exact ⟨h1.n,h1.wait,h1.lease,h1.net,⟨by show 0 ≤ (T.tickN j).now + 1;omega,by show (T.tickN j).now + 1 ≤ K + 15 * (j:Int) + 1;omega⟩,h1.len,h1.way,h1.ps⟩
      have h7:=(unhide HF).n.2
      have hfk:=hfl.ticksTo k (by show k ≤ (T.tickN j).ps.length;rw [unhide HLN];omega) (by omega)
      have HC0:=dtick_any k _ wr L3 _ hr hik hfk (by omega) (unhide HEV j k hjl hkl)
      rw [hx.bt] at HC0
      obtain ⟨T3,hT3⟩:∃ T3,T3 = (T.tickN j).later.ticksTo k:=⟨_,rfl⟩
      have HTK:Hid ((T.tickN j).later.ticksTo (k + 1) = if (T3.peer k).up = true ∧ (T3.peer k).state ≠ 3 then T3.tick k else T3):=by
       show _ = _
       rw [hT3]
       rfl
      rw [← hT3] at hr HC0 v1 v3
      have HC:=hide HC0
      have HR:=hide hr
      have HX:=hide hx
      clear HC0 hr hx hfl hfk h7 hlk hik hT3
      cases hu:(T3.peer k).up with
      | false =>
       rw [hu] at v1
       have HD:Hid (∃ L3,Rep wr L3 ((T.tickN j).later.ticksTo (k + 1)) ∧ DLinks W L wr L3):=by
        rw [unhide HTK,if_neg (fun e => by rw [hu] at e;exact absurd e.1 (by simp))]
        exact ⟨L3,unhide HR,unhide HX⟩
       clear hu HC HR HX HTK
       go_wp2
       go_roundw
       case rel => exact ⟨k + 1,by omega,by go_num,unhide HD⟩
       case measure => simp [RowKit.intOf];omega
      | true =>
       rw [hu] at v1
       by_cases s3:(T3.peer k).state = 3
       ·have HD:Hid (∃ L3,Rep wr L3 ((T.tickN j).later.ticksTo (k + 1)) ∧ DLinks W L wr L3):=by
         rw [unhide HTK,if_neg (fun e => e.2 s3)]
         exact ⟨L3,unhide HR,unhide HX⟩
        clear hu HC HR HX HTK
        go_wp2
        go_roundw
        case rel => exact ⟨k + 1,by omega,by go_num,unhide HD⟩
        case measure => simp [RowKit.intOf];omega
       ·have HC1:=(unhide HC).mono (fun o w' ⟨e1,e2⟩ => And.intro e1 (show ∃ L3,Rep w' L3 ((T.tickN j).later.ticksTo (k + 1)) ∧ DLinks W L w' L3 from by
         obtain ⟨L4,r4,k4⟩:=e2.open
         refine ⟨L4,?_,(unhide HX).trans k4⟩
         rw [unhide HTK,if_pos ⟨hu,s3⟩];exact r4))
        have HC2:=hide HC1
        clear HC1 hu HC HR HX HTK
        go_wp2_with fail
        refine (unhide HC2).mono ?_
        rintro o w8 ⟨rfl,hd⟩
        have HD:=hide hd
        clear hd HC2
        go_wp2
        go_roundw
        case rel => exact ⟨k + 1,by omega,by go_num,unhide HD⟩
        case measure => simp [RowKit.intOf];omega
     ·have hke:k = T.ps.length:=by omega
      subst hke
      have HD:Hid (∃ j':Nat,(j':Int) ≤ n ∧ Value.int .i64 (n - j - 1) = .int .i64 (n - j') ∧ ∃ L2,Rep wr L2 (T.tickN j') ∧ DLinks W L wr L2):=by
       refine ⟨j + 1,by omega,by congr 1;omega,L3,?_,hx⟩
       have e:T.tickN (j + 1) = (T.tickN j).later.ticksTo T.ps.length:=by
        show ({ T.tickN j with now:=(T.tickN j).now + 1 }:TownM).ticksTo (T.tickN j).ps.length = _
        rw [unhide HLN]
        rfl
       rw [e];exact hr
      clear hr hx hk hkl hlk
      go_wp2
      go_roundw
      case rel => exact unhide HD
      case measure => simp [RowKit.intOf];omega
 ·exact dTickNo n W L T h hn
end Go.Proofs.YtceappncglfciaaGreat
namespace Go.Proofs.YtceappncglfciaaGreat
open Go.RowKit
attribute [local go_sem ↓] Go.wp_at_zero Go.wp_at_succ
def dropTo (l:List MsgM) (d:Nat):Nat → List MsgM
 | 0 => []
 | k + 1 => if k = d then dropTo l d k else dropTo l d k ++ [l.getD k msgZ]
theorem dropTo_take (l:List MsgM) (d:Nat):∀ k,k ≤ l.length → dropTo l d k = (l.take k).eraseIdx d
 | 0,_ => by simp [dropTo]
 | k + 1,h => by
  have ih:=dropTo_take l d k (by omega)
  have e:l.take (k + 1) = l.take k ++ [l.getD k msgZ]:=by
   rw [List.take_add_one,List.getElem?_eq_getElem (by omega),List.getD_eq_getElem?_getD,List.getElem?_eq_getElem (by omega)]
   rfl
  rw [dropTo,ih,e]
  by_cases hd:k = d
  ·rw [if_pos hd,List.eraseIdx_append_of_length_le (by rw [List.length_take];omega)]
   have:d - (l.take k).length = 0:=by rw [List.length_take];omega
   rw [this,List.eraseIdx_of_length_le (by rw [List.length_take];omega)]
   simp
  ·rw [if_neg hd]
   by_cases hlt:d < k
   ·rw [List.eraseIdx_append_of_lt_length (by rw [List.length_take];omega)]
   ·rw [List.eraseIdx_of_length_le (by rw [List.length_take];omega),List.eraseIdx_of_length_le (by simp;omega)]
theorem dropTo_all (l:List MsgM) (d:Nat):dropTo l d l.length = l.eraseIdx d:=by
 rw [dropTo_take l d l.length (Nat.le_refl _),List.take_length]
theorem dropTo_len (l:List MsgM) (d:Nat):∀ k,(dropTo l d k).length ≤ k
 | 0 => Nat.le_refl _
 | k + 1 => by
  have ih:=dropTo_len l d k
  rw [dropTo]
  split
  ·omega
  ·simp;omega
section
variable {W w X w6:World} {L:Lies} {T:TownM} {v:Value}
theorem Rep.msgAt (h:Rep W L T) (hl:0 < T.way.length):∃ g cap,L.way = .slice (some ⟨g,0,none⟩) T.way.length cap ∧ T.way.length ≤ cap ∧ ∀ k j u,k < T.way.length → (T.way.getD k msgZ).cells[j]? = some u → W.cell? ⟨g,k * 10 + j,none⟩ = some u:=by
 rcases h.way.2 with ⟨_,h0⟩ | ⟨g,cap,cur,hv,_,hg,hc,hc2,hs,ht⟩
 ·omega
 refine ⟨g,cap,hv,hc,fun k j u hk hu => ?_⟩
 have hj:j < 10:=(List.getElem?_eq_some_iff.1 hu).1
 have hx:(T.way.flatMap MsgM.cells)[k * 10 + j]? = some u:=by
  rw [flat_get (f:=MsgM.cells) (c:=10) T.way k j (T.way.getD k msgZ) (fun _ _ => rfl) (by simp [hk]) hj]
  exact hu
 rw [← ht,List.getElem?_take,if_pos (by omega)] at hx
 rw [cell_of_row W g _ cur _ (0,0) hg,← Array.getElem?_toList]
 exact hx
theorem DLinks.grown (h:DLinks W L w L) (hX:Below w.heap.size w X) (hg:X.grownBy w6 v.ownBlock) (hv:∀ b,v.ownBlock = some b → W.heap.size ≤ b):DLinks W L w6 L:=by
 refine ⟨rfl,rfl,⟨?_,?_,?_,?_,fun k hk hn => ?_⟩,fun _ hx => .inl hx,L.way,L.ev,rfl⟩
 ·exact hg.os.trans (hX.os.trans h.keeps.os)
 ·exact hg.tape.trans (hX.tape.trans h.keeps.tape)
 ·exact hg.output.trans (hX.output.trans h.keeps.output)
 ·exact Nat.le_trans h.keeps.size (Nat.le_trans hX.size hg.size)
 ·have hk2:k < w.heap.size:=Nat.lt_of_lt_of_le hk h.keeps.size
  exact (hg.block k (Nat.lt_of_lt_of_le hk2 hX.size) (fun e => by have:=hv k e.symm;omega)).trans ((hX.block k hk2).trans (h.keeps.block k hk hn))
theorem Rep.grown (h:Rep w L T) (hL:∀ x ∈ L.blocks,x < W.heap.size) (hX:Below w.heap.size w X) (hg:X.grownBy w6 v.ownBlock) (hv:∀ b,v.ownBlock = some b → W.heap.size ≤ b):Rep w6 L T :=
 h.same (fun x hx => by
  have hk2:=h.lies x hx
  exact (hg.block x (Nat.lt_of_lt_of_le hk2 hX.size) (fun e => by have:=hv x e.symm;have:=hL x hx;omega)).trans (hX.block x hk2))
theorem Rep.setWay (h:Rep w L T) (l:List MsgM) (hown:w.ownsRow 0 133 10 v l.length (l.flatMap MsgM.cells)):Rep (w.setCell ⟨L.bt,6,none⟩ v) { L with way:=v } { T with way:=l }:=by
 obtain ⟨cur,hp,hp2,hp3,hp4⟩:=h.peers
 have e0:L.bp ≠ L.bt:=fun e => h.town_ne e.symm
 have hw:v.ownBlock ≠ some L.bt:=own_ne hown h.town (by decide)
 have he:L.ev.ownBlock ≠ some L.bt:=own_ne h.events h.town (by decide)
 refine ⟨Box.set h.town 6 v,⟨cur,(Below.heap_setCell w ⟨L.bt,6,none⟩ _ L.bp e0).trans hp,hp2,hp3,hp4⟩,own_same hown (fun b hv => ?_),own_same h.events (fun b hv => ?_),h.fit⟩
 ·exact Below.heap_setCell w ⟨L.bt,6,none⟩ _ b (fun e => hw (by rw [hv];exact congrArg some e))
 ·exact Below.heap_setCell w ⟨L.bt,6,none⟩ _ b (fun e => he (by rw [hv];exact congrArg some e))
theorem DLinks.setWay (h:DLinks W L w L) (hv:∀ b,v.ownBlock = some b → W.heap.size ≤ b):DLinks W L (w.setCell ⟨L.bt,6,none⟩ v) { L with way:=v }:=by
 have h1:=h.town 6 v
 refine ⟨rfl,rfl,h1.keeps,fun x hx => ?_,v,L.ev,rfl⟩
 rcases mem_blocks.1 hx with e | e | e | e
 ·exact .inl (mem_blocks.2 (.inl e))
 ·exact .inl (mem_blocks.2 (.inr (.inl e)))
 ·exact .inr (hv x e)
 ·exact .inl (mem_blocks.2 (.inr (.inr (.inr e))))
end
theorem dthere_cases (T:TownM) (x:Int):(T.there x = true ∧ ∃ k:Nat,x = (k:Int) ∧ k < T.way.length) ∨ (T.there x = false ∧ (x < 0 ∨ 0 ≤ x ∧ (T.way.length:Int) ≤ x)):=by
 unfold TownM.there
 by_cases h:0 ≤ x ∧ x < (T.way.length:Int)
 ·exact .inl ⟨by simp [h.1,h.2],x.toNat,by omega,by omega⟩
 ·exact .inr ⟨by simp;omega,by omega⟩
end Go.Proofs.YtceappncglfciaaGreat
namespace Go.Proofs.YtceappncglfciaaGreat
open Go.RowKit
attribute [local go_sem ↓] Go.wp_at_zero Go.wp_at_succ
theorem own_base0 {w:World} {base:Nat} {e:TypeId} {size:Nat} {v:Value} {n:Nat} {xs:List Value} (h:w.ownsRow base e size v n xs):w.ownsRow 0 e size v n xs:=by
 refine ⟨h.1,?_⟩
 rcases h.2 with h1 | ⟨g,cap,cur,a,_,b⟩
 ·exact .inl h1
 ·exact .inr ⟨g,cap,cur,a,Nat.zero_le _,b⟩
set_option maxRecDepth 100000 in
set_option maxHeartbeats 2000000 in
theorem dDrop_any (x:Int) (W:World) (L:Lies) (T:TownM) (h:Rep W L T) (hn:(T.way.length:Int) ≤ 1000) :
  Calls Tryz.prog 53 #[.pointer (some ⟨L.bt,0,none⟩),.int .i64 x] W fun o w' => o = .returned (.int .i64 (T.thereE x)) ∧ Did W L w' (T.drop x):=by
 have c6:=h.cell 6
 obtain ⟨a0,cap0,hway⟩:=row_shape h.way
 rw [show (#[L.cv,Value.int .i64 T.wait,.int .i64 T.lease,.int .i64 T.net,.slice (some ⟨L.bp,0,none⟩) T.ps.length L.capP,.int .i64 T.now,L.way,L.ev]:Array Value)[6]? = some L.way from rfl,hway] at c6
 rcases dthere_cases T x with ⟨h0,d,rfl,hd⟩ | ⟨h0,hx⟩
 ·have HE:Hid (T.thereE (d:Int) = 0 ∧ T.drop (d:Int) = { T with way:=dropTo T.way d T.way.length }):=by
   constructor
   ·unfold TownM.thereE;rw [if_pos h0]
   ·unfold TownM.drop;rw [if_pos h0,Int.toNat_natCast,dropTo_all]
  rw [(unhide HE).1,(unhide HE).2]
  obtain ⟨gw,capw,hway2,hcap,hcell⟩:=h.msgAt (by omega)
  have HCE:=hide hcell
  have HL:=hide h.lies
  have HH:=hide h
  have HWY:=hide hway2
  obtain ⟨i0,hi0,hz0,hz1,hz2⟩:=info_parts Tryz.dinfoMsg
  have q0:(0:Int) ≤ (d:Int):=by omega
  have q1:(d:Int) < (T.way.length:Int):=by omega
  have hd0:decide ((d:Int) < 0) = false:=by simp
  have hd1:decide (T.way.length ≤ d) = false:=by simp;omega
  clear h h0 HE hcell hway2 hway
  go_enter Tryz.func53,Tryz.ntmps53
  go_wp2_with fail
  go_loopw [5,6] (fun cv ck wr => ∃ (k:Nat) (v:Value),k ≤ T.way.length ∧ ck = .int .i64 (k:Int) ∧ v = cv ∧ wr.ownsRow W.heap.size 133 10 v (dropTo T.way d k).length ((dropTo T.way d k).flatMap MsgM.cells) ∧ Rep wr L T ∧ DLinks W L wr L) (fun _ ck _ => T.way.length - (RowKit.intOf ck).toNat)
  case atStart => exact ⟨0,_,Nat.zero_le _,rfl,rfl,World.ownsRow_nil _ _ _ _,unhide HH,DLinks.refl W L⟩
  case round =>
   obtain ⟨k,v,hk,rfl,rfl,hown,hr,hx⟩:=hrel
   obtain ⟨va,vcap,rfl⟩:=row_shape hown
   clear HH c6
   obtain ⟨g2,cap2,hw2,hc2,hcell2⟩:=hr.msgAt (by omega)
   have c6:wr.cell? ⟨L.bt,6,none⟩ = some (.slice (some ⟨g2,0,none⟩) T.way.length cap2):=by rw [← hw2];exact hr.cell 6
   have hvb:Hid (∀ b,(Value.slice va (dropTo T.way d k).length vcap).ownBlock = some b → W.heap.size ≤ b):=fun b hb => (hown.lt b hb).1
   by_cases hkl:k < T.way.length
   ·have q2:(0:Int) ≤ (k:Int):=by omega
    have q3:(k:Int) < (T.way.length:Int):=by omega
    have hdl:=dropTo_len T.way d k
    by_cases hkd:k = d
    ·have HD:Hid (∃ (k':Nat) (v':Value),k' ≤ T.way.length ∧ Value.int .i64 ((k:Int) + 1) = .int .i64 (k':Int) ∧ v' = Value.slice va (dropTo T.way d k).length vcap ∧ wr.ownsRow W.heap.size 133 10 v' (dropTo T.way d k').length ((dropTo T.way d k').flatMap MsgM.cells) ∧ Rep wr L T ∧ DLinks W L wr L):=by
      refine ⟨k + 1,_,by omega,by go_num,rfl,?_,hr,hx⟩
      rw [dropTo,if_pos hkd];exact hown
     clear hown hr hx hcell2 hw2 hdl
     subst hkd
     go_wp2
     go_roundw
     case rel => exact unhide HD
     case measure => simp [RowKit.intOf];omega
    ·have hkd3:¬ (k:Int) = (d:Int):=by omega
     obtain ⟨mm,hmm⟩:∃ mm,mm = T.way.getD k msgZ:=⟨_,rfl⟩
     have hce:=fun j u => hcell2 k j u hkl
     rw [← hmm] at hce
     have m0:wr.cell? ⟨g2,k * 10,none⟩ = some (.int .i64 mm.kind):=hce 0 _ rfl
     have m1:wr.cell? ⟨g2,k * 10 + 1,none⟩ = some (.int .i64 mm.src):=hce 1 _ rfl
     have m2:wr.cell? ⟨g2,k * 10 + 2,none⟩ = some (.int .i64 mm.dst):=hce 2 _ rfl
     have m3:wr.cell? ⟨g2,k * 10 + 3,none⟩ = some (.int .i64 mm.round):=hce 3 _ rfl
     have m4:wr.cell? ⟨g2,k * 10 + 4,none⟩ = some (.int .i64 mm.state):=hce 4 _ rfl
     have m5:wr.cell? ⟨g2,k * 10 + 5,none⟩ = some (.int .i64 mm.vote.e):=hce 5 _ rfl
     have m6:wr.cell? ⟨g2,k * 10 + 6,none⟩ = some (.int .i64 mm.vote.n):=hce 6 _ rfl
     have m7:wr.cell? ⟨g2,k * 10 + 7,none⟩ = some (.int .i64 mm.vote.p):=hce 7 _ rfl
     have m8:wr.cell? ⟨g2,k * 10 + 8,none⟩ = some (.int .i64 mm.epoch):=hce 8 _ rfl
     have m9:wr.cell? ⟨g2,k * 10 + 9,none⟩ = some (.int .i64 mm.news):=hce 9 _ rfl
     obtain ⟨lk,hlk⟩:∃ lk,lk = dropTo T.way d k:=⟨_,rfl⟩
     have HLK:Hid (dropTo T.way d (k + 1) = lk ++ [mm]):=by
      show _ = _
      rw [dropTo,if_neg hkd,hlk,hmm]
     rw [← hlk] at hown hdl hvb ⊢
     have hXb:=(Below.refl wr.heap.size wr).alloc (Nat.le_refl _) (.cells #[.int .i64 mm.kind,.int .i64 mm.src,.int .i64 mm.dst,.int .i64 mm.round,.int .i64 mm.state,.int .i64 mm.vote.e,.int .i64 mm.vote.n,.int .i64 mm.vote.p,.int .i64 mm.epoch,.int .i64 mm.news] 133)
     have HA:=hide (hown.alloc (.cells #[.int .i64 mm.kind,.int .i64 mm.src,.int .i64 mm.dst,.int .i64 mm.round,.int .i64 mm.state,.int .i64 mm.vote.e,.int .i64 mm.vote.n,.int .i64 mm.vote.p,.int .i64 mm.epoch,.int .i64 mm.news] 133))
     have HNW:Hid (∀ j u,mm.cells[j]? = some u → (wr.alloc (.cells #[.int .i64 mm.kind,.int .i64 mm.src,.int .i64 mm.dst,.int .i64 mm.round,.int .i64 mm.state,.int .i64 mm.vote.e,.int .i64 mm.vote.n,.int .i64 mm.vote.p,.int .i64 mm.epoch,.int .i64 mm.news] 133)).cell? ((⟨wr.heap.size,0,none⟩:Addr).add j) = some u):=fun j u hu => World.news_of_block (heap_alloc_new wr (.cells #[.int .i64 mm.kind,.int .i64 mm.src,.int .i64 mm.dst,.int .i64 mm.round,.int .i64 mm.state,.int .i64 mm.vote.e,.int .i64 mm.vote.n,.int .i64 mm.vote.p,.int .i64 mm.epoch,.int .i64 mm.news] 133)) j u (by simpa [MsgM.cells] using hu)
     have H1:Hid (∀ u ∈ mm.cells,u.oneCell' = true):=fun u hu => by
      simp only [MsgM.cells,List.mem_cons,List.not_mem_nil,or_false] at hu
      rcases hu with rfl | rfl | rfl | rfl | rfl | rfl | rfl | rfl | rfl | rfl <;> rfl
     have HSZ:Hid (W.heap.size ≤ (wr.alloc (.cells #[.int .i64 mm.kind,.int .i64 mm.src,.int .i64 mm.dst,.int .i64 mm.round,.int .i64 mm.state,.int .i64 mm.vote.e,.int .i64 mm.vote.n,.int .i64 mm.vote.p,.int .i64 mm.epoch,.int .i64 mm.news] 133)).heap.size):=Nat.le_trans hx.keeps.size hXb.size
     have HFIN:Hid (∀ g3 cap3 w6,w6.ownsRow W.heap.size 133 10 (.slice (some ⟨g3,0,none⟩) (lk.length + 1) cap3) (lk.length + 1) (lk.flatMap MsgM.cells ++ mm.cells) → (wr.alloc (.cells #[.int .i64 mm.kind,.int .i64 mm.src,.int .i64 mm.dst,.int .i64 mm.round,.int .i64 mm.state,.int .i64 mm.vote.e,.int .i64 mm.vote.n,.int .i64 mm.vote.p,.int .i64 mm.epoch,.int .i64 mm.news] 133)).grownBy w6 (Value.slice va lk.length vcap).ownBlock →
       ∃ (k':Nat) (v':Value),k' ≤ T.way.length ∧ Value.int .i64 ((k:Int) + 1) = .int .i64 (k':Int) ∧ v' = Value.slice (some ⟨g3,0,none⟩) (lk.length + 1) cap3 ∧ w6.ownsRow W.heap.size 133 10 v' (dropTo T.way d k').length ((dropTo T.way d k').flatMap MsgM.cells) ∧ Rep w6 L T ∧ DLinks W L w6 L):=fun g3 cap3 w6 ho hg => by
      refine ⟨k + 1,_,by omega,by go_num,rfl,?_,hr.grown (unhide HL) hXb hg (unhide hvb),hx.grown hXb hg (unhide hvb)⟩
      rw [unhide HLK]
      simp only [List.flatMap_append,List.flatMap_singleton,List.length_append,List.length_singleton]
      exact ho
     have hlk1000:lk.length ≤ 1000:=by omega
     clear hown hr hx hcell2 hw2 hdl hce hmm hlk hXb hkd HLK
     go_wp2_with (at_builtin;refine wpList_append_lies _ rfl _ _ _ rfl W.heap.size 133 i0 _ 10 80 Tryz.underlying75 hi0 hz0 hz1 hz2 rfl (by omega) (.slice va lk.length vcap) lk.length (lk.flatMap MsgM.cells) rfl (unhide HA) ⟨wr.heap.size,0,none⟩ 1 1 mm.cells rfl rfl (unhide HNW) (unhide H1) (by omega) (by unfold maxLen;omega) (by omega) (unhide HSZ) _ rfl ?_;intro g3 cap3 w6 hown1 hgrow hat hlt6;have HD:=hide (unhide HFIN g3 cap3 w6 hown1 hgrow);clear hown1 hgrow hat)
     go_roundw
     case rel => exact unhide HD
     case measure => simp [RowKit.intOf];omega
   ·have hke:k = T.way.length:=by omega
    subst hke
    have y6:=hr.frozen 6
    have HD:Hid (Did W L (wr.setCell ⟨L.bt,6,none⟩ (.slice va (dropTo T.way d T.way.length).length vcap)) { T with way:=dropTo T.way d T.way.length }):=by
     have s:=hr.setWay (dropTo T.way d T.way.length) (own_base0 hown)
     exact (hx.setWay (unhide hvb)).done s
    clear hown hr hx hcell2 hw2 hk hkl hvb
    go_wp2
    go_ret
    exact ⟨rfl,unhide HD⟩
 ·have HE:Hid (T.thereE x = 4 ∧ T.drop x = T):=by
   constructor
   ·unfold TownM.thereE;rw [if_neg (by rw [h0];simp)]
   ·unfold TownM.drop;rw [if_neg (by rw [h0];simp)]
  rw [(unhide HE).1,(unhide HE).2]
  have HF:=hide (Did.rfl' h)
  clear h h0 HE
  rcases hx with hx | ⟨hx,hx2⟩
  ·go_enter Tryz.func53,Tryz.ntmps53
   go_wp2
   go_ret
   exact ⟨rfl,unhide HF⟩
  ·go_enter Tryz.func53,Tryz.ntmps53
   go_wp2
   go_ret
   exact ⟨rfl,unhide HF⟩
end Go.Proofs.YtceappncglfciaaGreat
