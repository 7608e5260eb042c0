import Derived.Test.YtceappncglfciaaGreatM39
set_option linter.unusedVariables false
set_option linter.unusedSimpArgs false
namespace Go.Proofs.YtceappncglfciaaGreat
open Go.RowKit
attribute [local go_sem ↓] Go.wp_at_zero Go.wp_at_succ
theorem TownM.heardTo_range (T:TownM) (i:Nat):∀ k,1 ≤ T.heardTo i k ∧ T.heardTo i k ≤ 1 + k
 | 0 => ⟨by simp [TownM.heardTo],by simp [TownM.heardTo]⟩
 | k + 1 => by
  have ih:=TownM.heardTo_range T i k
  unfold TownM.heardTo
  split <;> omega
theorem TownM.pings_ps (T:TownM) (i:Nat):∀ k,(T.pingsTo i k).ps = T.ps
 | 0 => rfl
 | k + 1 => by
  unfold TownM.pingsTo
  split
  ·exact (TownM.send_ps _ _).trans (TownM.pings_ps T i k)
  ·exact TownM.pings_ps T i k
theorem TownM.pings_net (T:TownM) (i:Nat):∀ k,(T.pingsTo i k).net = T.net
 | 0 => rfl
 | k + 1 => by
  unfold TownM.pingsTo
  split
  ·exact (TownM.send_net _ _).trans (TownM.pings_net T i k)
  ·exact TownM.pings_net T i k
theorem TownM.pings_now (T:TownM) (i:Nat):∀ k,(T.pingsTo i k).now = T.now
 | 0 => rfl
 | k + 1 => by
  unfold TownM.pingsTo
  split
  ·exact (TownM.send_now _ _).trans (TownM.pings_now T i k)
  ·exact TownM.pings_now T i k
theorem TownM.pings_lease (T:TownM) (i:Nat):∀ k,(T.pingsTo i k).lease = T.lease
 | 0 => rfl
 | k + 1 => by
  unfold TownM.pingsTo
  split
  ·exact (TownM.send_lease _ _).trans (TownM.pings_lease T i k)
  ·exact TownM.pings_lease T i k
set_option maxRecDepth 100000 in
set_option maxHeartbeats 8000000 in
theorem dtick_any (i:Nat) (K:Int) (W:World) (L:Lies) (T:TownM) (h:Rep W L T) (hi:i < T.ps.length) (hf:Fits K T) (hK:K + 2 ≤ 4294967294) (hev:T.events.length ≤ 40000000000) :
  Calls Tryz.prog 80 #[.pointer (some ⟨L.bt,0,none⟩),.int .i64 i] W fun o w' => o = .returned (.tuple #[]) ∧ Did W L w' (T.tick i):=by
 have q0:(0:Int) ≤ (i:Int):=by omega
 have q1:(i:Int) < (T.ps.length:Int):=by omega
 obtain ⟨TF,hTF⟩:∃ TF,TF = T.tick i:=⟨_,rfl⟩
 rw [← hTF]
 unfold TownM.tick at hTF
 have hno:=hf.now
 have hle:=hf.lease
 rw [Int.tdiv_eq_ediv_of_nonneg (by omega),Int.tmod_eq_emod_of_nonneg hno.1] at hTF
 have HFO:=hide hTF
 have hpo:=hf.peer hi
 have hsi:=hpo.since
 have hwr:IntKind.i64.wrap (T.now - (T.peer i).since) = T.now - (T.peer i).since:=by rw [IntKind.wrap_i64];omega
 have HF:=hide hf
 have HPO:=hide hpo
 have HEV:=hide hev
 have HHP:=hide hf.n.2
 have HHN:=hide hf.net.2
 have c4:=h.cell 4
 have c5:=h.cell 5
 have v83:=h.pmid hi 1 (by omega)
 simp only [Nat.reduceAdd] at v83
 have HH:=hide h
 clear h hf hTF hev hpo
 obtain ⟨n0,nK⟩:=hno
 obtain ⟨l4,l100⟩:=hle
 obtain ⟨si0,siK⟩:=hsi
 go_enter Tryz.func80,Tryz.ntmps80
 go_upto_region 1 with fail
 go_quiet (fail)
 have hbd:=below_drewN (Below.refl W.heap.size W) nq
 have HR:=hide ((unhide HH).keep hbd)
 have HX:=hide (DLinks.of_below L hbd)
 clear hbd HH c4 c5 v83 hwr
 generalize W.drewN nq = w1 at *
 have c1:=(unhide HR).cell 1
 have c2:=(unhide HR).cell 2
 have c4:=(unhide HR).cell 4
 have v3:=(unhide HR).phead hi 3 (by omega)
 have v9:=(unhide HR).phead hi 9 (by omega)
 have v10:=(unhide HR).phead hi 10 (by omega)
 have v11:=(unhide HR).phead hi 11 (by omega)
 have v82:=(unhide HR).pmid hi 0 (by omega)
 simp only [PeerM.head,Nat.reduceAdd,Nat.add_zero] at v3 v9 v10 v11 v82
 by_cases s0:(T.peer i).state = 0
 ·rw [if_pos s0] at HFO
  have hs0:((T.peer i).state == 0) = true:=by simp [s0]
  clear s0
  cases hw:(T.peer i).waits with
  | false =>
   rw [hw] at v82
   rw [if_neg (fun e => by rw [hw] at e;exact absurd e.1 (by simp))] at HFO
   have HE:Hid (Did W L w1 TF):=by rw [unhide HFO];exact (unhide HX).done (unhide HR)
   clear HR HX hw
   go_wp2
   go_end0
   exact ⟨rfl,unhide HE⟩
  | true =>
   rw [hw] at v82
   by_cases hg:T.wait ≤ T.now - (T.peer i).since
   ·rw [if_pos ⟨hw,hg⟩] at HFO
    clear hw
    by_cases hv:(T.peer i).vote.p = (i:Int)
    ·rw [if_pos hv] at HFO
     have hvq:((T.peer i).vote.p == (i:Int)) = true:=by simp [hv]
     obtain ⟨dn,dc,hdd,hdk⟩:=(unhide HPO).disk
     have hrr:=(unhide HPO).round
     have HC0:=dlead_any i dn dc w1 L T (unhide HR) hi (unhide HHP) (unhide HHN) (unhide HEV) hdd (by omega) (unhide HPO).c hrr.1 (by omega) (unhide HPO).armed.1 (unhide HPO).armed.2
     have HC:=hide ((unhide HX).calls HC0 (unhide HFO))
     clear HC0 HR HX hdd hdk hrr hv v9 v10
     go_wp2_with fail
     refine (unhide HC).mono ?_
     rintro o w8 ⟨rfl,hd⟩
     have HE:=hide hd
     clear hd HC
     go_wp2
     go_end0
     exact ⟨rfl,unhide HE⟩
    ·rw [if_neg hv] at HFO
     have hvq:((T.peer i).vote.p == (i:Int)) = false:=by simp [hv]
     have HC0:=dfollow_any i (T.peer i).vote w1 L T (unhide HR) hi (unhide HHP) (unhide HHN)
     have HC:=hide ((unhide HX).calls HC0 (unhide HFO))
     clear HC0 HR HX hv
     go_wp2_with fail
     refine (unhide HC).mono ?_
     rintro o w8 ⟨rfl,hd⟩
     have HE:=hide hd
     clear hd HC
     go_wp2
     go_end0
     exact ⟨rfl,unhide HE⟩
   ·rw [if_neg (fun e => hg e.2)] at HFO
    have HE:Hid (Did W L w1 TF):=by rw [unhide HFO];exact (unhide HX).done (unhide HR)
    clear HR HX hw
    go_wp2
    go_end0
    exact ⟨rfl,unhide HE⟩
 ·rw [if_neg s0] at HFO
  have hs0:((T.peer i).state == 0) = false:=by simp [s0]
  by_cases s1:(T.peer i).state = 1
  ·rw [if_pos s1] at HFO
   have hs1:((T.peer i).state == 1) = true:=by simp [s1]
   clear s0 s1
   by_cases hg:T.lease ≤ T.now - (T.peer i).since
   ·rw [if_pos hg] at HFO
    have hrr:=(unhide HPO).round
    have HC0:=dlook_any i w1 L T (unhide HR) hi (unhide HHP) (unhide HHN) hrr.1 (by omega)
    have HC:=hide ((unhide HX).calls HC0 (unhide HFO))
    clear HC0 HR HX hrr
    go_wp2_with fail
    refine (unhide HC).mono ?_
    rintro o w8 ⟨rfl,hd⟩
    have HE:=hide hd
    clear hd HC
    go_wp2
    go_end0
    exact ⟨rfl,unhide HE⟩
   ·rw [if_neg hg] at HFO
    have HE:Hid (Did W L w1 TF):=by rw [unhide HFO];exact (unhide HX).done (unhide HR)
    clear HR HX
    go_wp2
    go_end0
    exact ⟨rfl,unhide HE⟩
  ·rw [if_neg s1] at HFO
   have hs1:((T.peer i).state == 1) = false:=by simp [s1]
   by_cases s2:(T.peer i).state = 2
   ·rw [if_pos s2] at HFO
    have hs2:((T.peer i).state == 2) = true:=by simp [s2]
    clear s0 s1 s2 v9 v10 v11 v82 c1
    have hp7:=unhide HHP
    go_wp2_with fail
    go_loopw [6,7] (fun cn ck wr => ∃ k:Nat,k ≤ T.ps.length ∧ ck = .int .i64 (k:Int) ∧ cn = .int .i64 (T.heardTo i k) ∧ Rep wr L T ∧ DLinks W L wr L) (fun _ ck _ => T.ps.length - (RowKit.intOf ck).toNat)
    case atStart => exact ⟨0,Nat.zero_le _,rfl,rfl,unhide HR,unhide HX⟩
    case round =>
     obtain ⟨k,hk,rfl,rfl,hr,hx⟩:=hrel
     obtain ⟨r0,r1⟩:=TownM.heardTo_range T i k
     have c2:=hr.cell 2
     have c4:=hr.cell 4
     have c5:=hr.cell 5
     clear HR HX v3
     by_cases hlt:k < T.ps.length
     ·have w2:=hr.pmem hi (k:=k) (j:=2) (by omega) (by omega)
      have w4:=hr.pmem hi (k:=k) (j:=4) (by omega) (by omega)
      simp only [MemM.cells] at w2 w4
      have hat:=u32_mem (unhide HF) hi k
      have HST:Hid (T.heardTo i (k + 1) = if (((T.peer i).mem.getD k memZ).heard && decide (T.now - ((T.peer i).mem.getD k memZ).at_ < T.lease)) = true then T.heardTo i k + 1 else T.heardTo i k):=rfl
      generalize (T.peer i).mem.getD k memZ = kn at *
      obtain ⟨_,at0,atK⟩:=hat
      have hwr:IntKind.i64.wrap (T.now - kn.at_) = T.now - kn.at_:=by rw [IntKind.wrap_i64];omega
      have k0:(0:Int) ≤ (k:Int):=by omega
      have k7:(k:Int) < 7:=by omega
      have HDR:Hid (∀ nq,Rep (wr.drewN nq) L T ∧ DLinks W L (wr.drewN nq) L):=fun nq => by
       have hbd:=below_drewN (Below.refl wr.heap.size wr) nq
       exact ⟨hr.keep hbd,hx.below hbd⟩
      clear hr hx
      cases hj:kn.heard with
      | false =>
       have fin:Hid (T.heardTo i (k + 1) = T.heardTo i k):=by
        show _ = _
        rw [unhide HST];simp [hj]
       rw [hj] at w2
       clear hj HST
       go_upto_region 16 with fail
       go_quiet (fail)
       have HD:=hide (unhide HDR nq)
       clear HDR
       generalize wr.drewN nq = w5 at *
       clear c2 c4 c5 w2 w4 hwr
       go_wp2
       go_roundw
       case rel => exact ⟨k + 1,by omega,by go_num,by rw [unhide fin],unhide HD⟩
       case measure => simp [RowKit.intOf];omega
      | true =>
       by_cases hg:T.now - kn.at_ < T.lease
       ·have fin:Hid (T.heardTo i (k + 1) = T.heardTo i k + 1):=by
         show _ = _
         rw [unhide HST];simp [hj,hg]
        rw [hj] at w2
        clear hj HST
        go_upto_region 16 with fail
        go_quiet (fail)
        have HD:=hide (unhide HDR nq)
        clear HDR
        generalize wr.drewN nq = w5 at *
        clear c2 c4 c5 w2 w4 hwr
        go_wp2
        go_roundw
        case rel => exact ⟨k + 1,by omega,by go_num,by rw [unhide fin],unhide HD⟩
        case measure => simp [RowKit.intOf];omega
       ·have fin:Hid (T.heardTo i (k + 1) = T.heardTo i k):=by
         show _ = _
         rw [unhide HST];simp [hj,hg]
        rw [hj] at w2
        clear hj HST
        go_upto_region 16 with fail
        go_quiet (fail)
        have HD:=hide (unhide HDR nq)
        clear HDR
        generalize wr.drewN nq = w5 at *
        clear c2 c4 c5 w2 w4 hwr
        go_wp2
        go_roundw
        case rel => exact ⟨k + 1,by omega,by go_num,by rw [unhide fin],unhide HD⟩
        case measure => simp [RowKit.intOf];omega
     ·have hke:k = T.ps.length:=by omega
      subst hke
      clear hk hlt c5
      have HMO:=hide (dmost_any (T.heardTo i T.ps.length) wr L T hr (by omega) (by omega))
      obtain ⟨mo,hmo⟩:∃ mo,mo = T.most (T.heardTo i T.ps.length):=⟨_,rfl⟩
      rw [← hmo] at HMO HFO
      generalize T.heardTo i T.ps.length = hn at *
      have HR:=hide hr
      have HX:=hide hx
      clear hr hx hmo
      go_upto_region 19 with (go_at_call 104;refine (unhide HMO).mono ?_;rintro o wr ⟨rfl,rfl⟩)
      clear HMO
      have key:Hid (¬ (T.lease ≤ T.now - (T.peer i).since ∧ mo = false) → TF = if T.now % (T.lease / 4) = 0 then T.pingsTo i T.ps.length else T):=fun hc => by
       rw [unhide HFO,if_neg hc]
      have HLKC:Hid (T.lease ≤ T.now - (T.peer i).since ∧ mo = false → TF = T.look i):=fun hc => by
       rw [unhide HFO,if_pos hc]
      clear HFO
      go_cut [126] (fun s we => ∃ b:Bool,s = .bool b ∧ we = wr ∧ (b = true ↔ (T.lease ≤ T.now - (T.peer i).since ∧ mo = false)))
      case first =>
       by_cases hg:T.lease ≤ T.now - (T.peer i).since
       ·cases mo with
        | false =>
         go_wp2
         go_meet
         case rel => exact ⟨true,rfl,rfl,by simp [hg]⟩
        | true =>
         go_wp2
         go_meet
         case rel => exact ⟨false,rfl,rfl,by simp⟩
       ·go_wp2
        go_meet
        case rel => exact ⟨false,rfl,rfl,fun e => (by cases e),fun e => absurd e.1 (by omega)⟩
      case rest =>
       obtain ⟨b,rfl,rfl,hb⟩:=hcut
       cases b with
       | true =>
        have hTF:=unhide HLKC (hb.1 rfl)
        have hrr:=(unhide HPO).round
        have HC0:=dlook_any i wc L T (unhide HR) hi (unhide HHP) (unhide HHN) hrr.1 (by omega)
        have HC:=hide ((unhide HX).calls HC0 hTF)
        clear HC0 HR HX hrr hTF hb key HLKC
        go_wp2_with fail
        refine (unhide HC).mono ?_
        rintro o w8 ⟨rfl,hd⟩
        have HE:=hide hd
        clear hd HC
        go_wp2
        exact bodyPost_ret (v:=.tuple #[]) (by simp [results,Tryz.results80,go_sem]) rfl ⟨rfl,unhide HE⟩
       | false =>
        have HTF:=hide (unhide key (fun e => absurd (hb.2 e) (by simp)))
        clear hb key HLKC c2 c4
        have hq1:1 ≤ T.lease / 4:=by omega
        have hq2:T.lease / 4 ≤ 25:=by omega
        go_wp2_with fail
        by_cases hz:T.now % (T.lease / 4) = 0
        ·rw [if_pos hz] at HTF
         have z1:(T.now % (T.lease / 4) == 0) = true:=by simp [hz]
         have HZ:=hide hz
         clear hz
         go_loopw [9] (fun ck wr => ∃ k:Nat,k ≤ T.ps.length ∧ ck = .int .i64 (k:Int) ∧ ∃ L2,Rep wr L2 (T.pingsTo i k) ∧ DLinks W L wr L2) (fun ck _ => T.ps.length - (RowKit.intOf ck).toNat)
         case atStart => exact ⟨0,Nat.zero_le _,rfl,L,unhide HR,unhide HX⟩
         case round =>
          obtain ⟨k,hk,rfl,L2,hr,hx⟩:=hrel
          clear HR HX
          have c2:=hr.cell 2
          have c4:=hr.cell 4
          have c5:=hr.cell 5
          rw [hx.bt] at c2 c4 c5
          rw [TownM.pings_lease] at c2
          rw [TownM.pings_now] at c5
          have hpp:(T.pingsTo i k).ps = T.ps:=TownM.pings_ps T i k
          have hip:i < (T.pingsTo i k).ps.length:=by rw [hpp];exact hi
          have hpe:(T.pingsTo i k).peer i = T.peer i:=TownM.peer_ps hpp i
          rw [hpp] at c4
          have hnp:(T.pingsTo i k).net ≤ 1000:=by rw [TownM.pings_net];exact unhide HHN
          rw [hx.bp] at c4
          have hcap:Hid (L2.capP = L.capP):=by
           obtain ⟨v,e,he⟩:=hx.is
           show _ = _
           rw [he]
          rw [unhide hcap] at c4
          have HDR:Hid (∀ nq,Rep (wr.drewN nq) L2 (T.pingsTo i k) ∧ DLinks W L (wr.drewN nq) L2):=fun nq => by
           have hbd:=below_drewN (Below.refl wr.heap.size wr) nq
           exact ⟨hr.keep hbd,hx.below hbd⟩
          have HBT:=hide hx.bt
          have HBP:=hide hx.bp
          clear hr hx hcap
          by_cases hlt:k < T.ps.length
          ·have HST:Hid (T.pingsTo i (k + 1) = if ((T.peer i).mem.getD k memZ).joined = true then (T.pingsTo i k).send ⟨6,i,k,0,0,voteZ,0,0⟩ else T.pingsTo i k):=rfl
           have k0:(0:Int) ≤ (k:Int):=by omega
           have k7:(k:Int) < 7:=by omega
           have hlt':(k:Int) < (T.ps.length:Int):=by omega
           go_upto_region 22 with fail
           go_quiet (fail)
           obtain ⟨r5,k5⟩:=unhide HDR nq
           clear HDR c2 c4 c5
           generalize wr.drewN nq = w5 at *
           have w0:=r5.pmem hip (k:=k) (j:=0) (by omega) (by omega)
           rw [hpe] at w0
           simp only [MemM.cells,Nat.add_zero] at w0
           rw [unhide HBP] at w0
           cases hj:((T.peer i).mem.getD k memZ).joined with
           | false =>
            rw [hj] at w0
            have HD:Hid (∃ L2,Rep w5 L2 (T.pingsTo i (k + 1)) ∧ DLinks W L w5 L2):=by
             rw [unhide HST,if_neg (by rw [hj];simp)]
             exact ⟨L2,r5,k5⟩
            clear r5 k5 HST hj hpe hpp hip
            go_wp2
            go_roundw
            case rel => exact ⟨k + 1,by omega,by go_num,unhide HD⟩
            case measure => simp [RowKit.intOf];omega
           | true =>
            rw [hj] at w0
            have HC0:=dsend_any ⟨6,i,k,0,0,voteZ,0,0⟩ w5 L2 (T.pingsTo i k) r5 hnp
            have HC1:=HC0.mono (fun o w' ⟨e1,e2⟩ => And.intro e1 (show ∃ L2,Rep w' L2 (T.pingsTo i (k + 1)) ∧ DLinks W L w' L2 from by
             obtain ⟨L3,r6,k6⟩:=e2.open
             refine ⟨L3,?_,k5.trans k6⟩
             rw [unhide HST,if_pos hj];exact r6))
            rw [unhide HBT] at HC1
            unfold MsgM.val at HC1
            simp only [voteZ] at HC1
            have HC:=hide HC1
            clear HC0 HC1 r5 k5 HST hj hpe hpp hip
            go_wp2_with fail
            refine (unhide HC).mono ?_
            rintro o w8 ⟨rfl,hd⟩
            have HD:=hide hd
            clear hd HC w0
            go_wp2
            go_roundw
            case rel => exact ⟨k + 1,by omega,by go_num,unhide HD⟩
            case measure => simp [RowKit.intOf];omega
          ·have hke:k = T.ps.length:=by omega
           subst hke
           clear hk hlt
           go_upto_region 22 with fail
           go_quiet (fail)
           have HE:Hid (Did W L (wr.drewN nq) TF):=by
            obtain ⟨r5,k5⟩:=unhide HDR nq
            rw [unhide HTF];exact k5.done r5
           clear HDR
           generalize wr.drewN nq = w5 at *
           clear c2 c4 c5
           go_wp2
           go_end0
           exact ⟨rfl,unhide HE⟩
        ·rw [if_neg hz] at HTF
         have z1:(T.now % (T.lease / 4) == 0) = false:=by simp [hz]
         have hz':¬ T.now % (T.lease / 4) = 0:=hz
         go_loopw [9] (fun ck wr => ck = .int .i64 (0:Int) ∧ Rep wr L T ∧ DLinks W L wr L) (fun _ _ => 0)
         case atStart => exact ⟨rfl,unhide HR,unhide HX⟩
         case round =>
          obtain ⟨rfl,hr,hx⟩:=hrel
          clear HR HX
          have c2:=hr.cell 2
          have c4:=hr.cell 4
          have c5:=hr.cell 5
          have h1n:0 < T.ps.length:=by have:=(unhide HF).n.1;omega
          have h1d:decide (0 < T.ps.length) = true:=by simp [h1n]
          have HDR:Hid (∀ nq,Did W L (wr.drewN nq) TF):=fun nq => by
           have hbd:=below_drewN (Below.refl wr.heap.size wr) nq
           rw [unhide HTF]
           exact (hx.below hbd).done (hr.keep hbd)
          clear hr hx
          go_upto_region 22 with fail
          go_quiet (fail)
          have HE:=hide (unhide HDR nq)
          clear HDR
          generalize wr.drewN nq = w5 at *
          clear c2 c4 c5
          go_wp2
          go_end0
          exact ⟨rfl,unhide HE⟩
   ·rw [if_neg s2] at HFO
    have hs2:((T.peer i).state == 2) = false:=by simp [s2]
    have HE:Hid (Did W L w1 TF):=by rw [unhide HFO];exact (unhide HX).done (unhide HR)
    clear HR HX s0 s1 s2
    go_wp2
    go_end0
    exact ⟨rfl,unhide HE⟩
end Go.Proofs.YtceappncglfciaaGreat
namespace Go.Proofs.YtceappncglfciaaGreat
open Go.RowKit
attribute [local go_sem ↓] Go.wp_at_zero Go.wp_at_succ
theorem is_cases (T:TownM) (x:Int):(T.is x = true ∧ ∃ k:Nat,x = (k:Int) ∧ k < T.ps.length) ∨ T.is x = false:=by
 unfold TownM.is
 by_cases h:0 ≤ x ∧ x < (T.ps.length:Int)
 ·exact .inl ⟨by simp [h.1,h.2],x.toNat,by omega,by omega⟩
 ·exact .inr (by simp;omega)
set_option maxRecDepth 100000 in
set_option maxHeartbeats 1000000 in
theorem dis_any (x:Int) (W:World) (L:Lies) (T:TownM) (h:Rep W L T) :
  Calls Tryz.prog 83 #[.pointer (some ⟨L.bt,0,none⟩),.int .i64 x] W fun o w' => o = .returned (.bool (T.is x)) ∧ w' = W:=by
 have c4:=h.cell 4
 clear h
 by_cases h0:0 ≤ x
 ·by_cases h1:x < (T.ps.length:Int)
  ·have e:Hid (T.is x = true):=by show _ = _;unfold TownM.is;simp [h0,h1]
   go_enter Tryz.func83,Tryz.ntmps83
   go_wp2
   go_ret
   exact ⟨by rw [unhide e];rfl,rfl⟩
  ·have e:Hid (T.is x = false):=by show _ = _;unfold TownM.is;simp [h1]
   go_enter Tryz.func83,Tryz.ntmps83
   go_wp2
   go_ret
   exact ⟨by rw [unhide e];rfl,rfl⟩
 ·have e:Hid (T.is x = false):=by show _ = _;unfold TownM.is;simp [h0]
  go_enter Tryz.func83,Tryz.ntmps83
  go_wp2
  go_ret
  exact ⟨by rw [unhide e];rfl,rfl⟩
set_option maxRecDepth 100000 in
set_option maxHeartbeats 1000000 in
theorem dup_any (x:Int) (b:Bool) (W:World) (L:Lies) (T:TownM) (h:Rep W L T) :
  Calls Tryz.prog 81 #[.pointer (some ⟨L.bt,0,none⟩),.int .i64 x,.bool b] W fun o w' => o = .returned (.int .i64 (T.upE x b)) ∧ w' = W:=by
 have HI:=dis_any x W L T h
 rcases is_cases T x with ⟨h0,k,rfl,hk⟩ | h0
 ·rw [h0] at HI
  have HIH:=hide HI
  have c4:=h.cell 4
  have v1:=h.phead hk 1 (by omega)
  simp only [PeerM.head] at v1
  have q0:(0:Int) ≤ (k:Int):=by omega
  have q1:(k:Int) < (T.ps.length:Int):=by omega
  have HE:Hid (T.upE (k:Int) b = if (T.peer k).up = b then 0 else 2):=by
   show _ = _
   unfold TownM.upE
   rw [if_pos h0,Int.toNat_natCast]
  clear h HI h0
  generalize (T.peer k).up = u at *
  cases u <;> cases b
  all_goals
   go_enter Tryz.func81,Tryz.ntmps81
   go_wp2_with (go_at_call 83;refine (unhide HIH).mono ?_;rintro o w1 ⟨rfl,rfl⟩)
   go_ret
   exact ⟨by rw [unhide HE];rfl,rfl⟩
 ·rw [h0] at HI
  have HIH:=hide HI
  have HE:Hid (T.upE x b = 1):=by
   show _ = _
   unfold TownM.upE
   rw [if_neg (by rw [h0];simp)]
  clear h HI h0
  go_enter Tryz.func81,Tryz.ntmps81
  go_wp2_with (go_at_call 83;refine (unhide HIH).mono ?_;rintro o w1 ⟨rfl,rfl⟩)
  go_ret
  exact ⟨by rw [unhide HE];rfl,rfl⟩
theorem upE_cases (T:TownM) (x:Int) (b:Bool):(T.upE x b = 0 ∧ ∃ k:Nat,x = (k:Int) ∧ k < T.ps.length ∧ (T.peer k).up = b) ∨ T.upE x b ≠ 0:=by
 by_cases h:T.upE x b = 0
 ·obtain ⟨h1,h2⟩:=upE_is h
  have h3:=is_lt h1
  refine .inl ⟨h,x.toNat,?_,h3,h2⟩
  unfold TownM.is at h1
  simp only [Bool.and_eq_true,decide_eq_true_eq] at h1
  omega
 ·exact .inr h
set_option maxRecDepth 100000 in
set_option maxHeartbeats 1000000 in
theorem dState_any (x:Int) (W:World) (L:Lies) (T:TownM) (h:Rep W L T) :
  Calls Tryz.prog 61 #[.pointer (some ⟨L.bt,0,none⟩),.int .i64 x] W fun o w' => o = .returned (.tuple #[.int .i64 (T.stateOf x),.int .i64 (T.upE x true)]) ∧ w' = W:=by
 have HU:=dup_any x true W L T h
 rcases upE_cases T x true with ⟨h0,k,rfl,hk,hu⟩ | h0
 ·have HE:Hid (T.stateOf (k:Int) = (T.peer k).state):=by
   show _ = _
   unfold TownM.stateOf
   rw [if_pos h0,Int.toNat_natCast]
  rw [h0] at HU ⊢
  have HUH:=hide HU
  have c4:=h.cell 4
  have v3:=h.phead hk 3 (by omega)
  simp only [PeerM.head] at v3
  have q0:(0:Int) ≤ (k:Int):=by omega
  have q1:(k:Int) < (T.ps.length:Int):=by omega
  rw [unhide HE]
  clear h HU h0 HE hu
  go_enter Tryz.func61,Tryz.ntmps61
  go_wp2_with (go_at_call 81;refine (unhide HUH).mono ?_;rintro o w1 ⟨rfl,rfl⟩)
  exact bodyPost_ret (v:=.tuple #[.int .i64 (T.peer k).state,.int .i64 0]) (by simp [results,Tryz.results61,go_sem]) rfl ⟨rfl,rfl⟩
 ·have HE:Hid (T.stateOf x = 0):=by
   show _ = _
   unfold TownM.stateOf
   rw [if_neg h0]
  obtain ⟨u,hu⟩:∃ u,u = T.upE x true:=⟨_,rfl⟩
  rw [← hu] at HU h0 ⊢
  have HUH:=hide HU
  have hd:(u == 0) = false:=by simp [h0]
  rw [unhide HE]
  clear h HU HE hu
  go_enter Tryz.func61,Tryz.ntmps61
  go_wp2_with (go_at_call 81;refine (unhide HUH).mono ?_;rintro o w1 ⟨rfl,rfl⟩)
  exact bodyPost_ret (v:=.tuple #[.int .i64 0,.int .i64 u]) (by simp [results,Tryz.results61,go_sem]) rfl ⟨rfl,rfl⟩
set_option maxRecDepth 100000 in
set_option maxHeartbeats 1000000 in
theorem dDisk_any (x:Int) (W:World) (L:Lies) (T:TownM) (h:Rep W L T) :
  Calls Tryz.prog 62 #[.pointer (some ⟨L.bt,0,none⟩),.int .i64 x] W fun o w' => o = .returned (.tuple #[.string (strOfNums (T.diskOf x)),.int .i64 (T.isE x)]) ∧ w' = W:=by
 have HU:=dis_any x W L T h
 rcases is_cases T x with ⟨h0,k,rfl,hk⟩ | h0
 ·have HE:Hid (T.diskOf (k:Int) = (T.peer k).disk ∧ T.isE (k:Int) = 0):=by
   show _ ∧ _
   unfold TownM.diskOf TownM.isE
   rw [if_pos h0,if_pos h0,Int.toNat_natCast]
   exact ⟨rfl,rfl⟩
  rw [h0] at HU
  have HUH:=hide HU
  have c4:=h.cell 4
  have v0:=h.phead hk 0 (by omega)
  simp only [PeerM.head,Nat.add_zero] at v0
  have q0:(0:Int) ≤ (k:Int):=by omega
  have q1:(k:Int) < (T.ps.length:Int):=by omega
  rw [(unhide HE).1,(unhide HE).2]
  clear h HU h0 HE
  go_enter Tryz.func62,Tryz.ntmps62
  go_wp2_with (go_at_call 83;refine (unhide HUH).mono ?_;rintro o w1 ⟨rfl,rfl⟩)
  exact bodyPost_ret (v:=.tuple #[.string (strOfNums (T.peer k).disk),.int .i64 0]) (by simp [results,Tryz.results62,go_sem]) rfl ⟨rfl,rfl⟩
 ·have HE:Hid (T.diskOf x = [] ∧ T.isE x = 1):=by
   show _ ∧ _
   unfold TownM.diskOf TownM.isE
   rw [if_neg (by rw [h0];simp),if_neg (by rw [h0];simp)]
   exact ⟨rfl,rfl⟩
  rw [h0] at HU
  have HUH:=hide HU
  rw [(unhide HE).1,(unhide HE).2]
  clear h HU h0 HE
  go_enter Tryz.func62,Tryz.ntmps62
  go_wp2_with (go_at_call 83;refine (unhide HUH).mono ?_;rintro o w1 ⟨rfl,rfl⟩)
  exact bodyPost_ret (v:=.tuple #[.string (strOfNums []),.int .i64 1]) (by simp [results,Tryz.results62,go_sem];rfl) rfl ⟨rfl,rfl⟩
set_option maxRecDepth 100000 in
set_option maxHeartbeats 1000000 in
theorem dCrash_any (x:Int) (W:World) (L:Lies) (T:TownM) (h:Rep W L T) :
  Calls Tryz.prog 56 #[.pointer (some ⟨L.bt,0,none⟩),.int .i64 x] W fun o w' => o = .returned (.int .i64 (T.upE x true)) ∧ Did W L w' (T.crash x):=by
 have HU:=dup_any x true W L T h
 rcases upE_cases T x true with ⟨h0,k,rfl,hk,hu⟩ | h0
 ·have HE:Hid (T.crash (k:Int) = T.setPeer k { T.peer k with up:=false,armed:=-1 }):=by
   show _ = _
   unfold TownM.crash
   rw [if_pos h0,Int.toNat_natCast]
  rw [h0] at HU ⊢
  have HUH:=hide HU
  have HC:=hide (fall_any k W L T h hk)
  rw [unhide HE]
  clear h HU h0 HE hu
  go_enter Tryz.func56,Tryz.ntmps56
  go_wp2_with (first | (go_at_call 81;refine (unhide HUH).mono ?_;rintro o w1 ⟨rfl,rfl⟩) | (go_at_call 82;refine (unhide HC).mono ?_;rintro o w2 ⟨rfl,hr2,hk2⟩;have HF:=hide (Did.stored hr2 hk2);clear hr2 hk2))
  go_ret
  exact ⟨rfl,unhide HF⟩
 ·have HE:Hid (T.crash x = T):=by
   show _ = _
   unfold TownM.crash
   rw [if_neg h0]
  obtain ⟨u,hu⟩:∃ u,u = T.upE x true:=⟨_,rfl⟩
  rw [← hu] at HU h0 ⊢
  have HUH:=hide HU
  have hd:(u == 0) = false:=by simp [h0]
  have HF:=hide (Did.rfl' h)
  rw [unhide HE]
  clear h HU HE hu
  go_enter Tryz.func56,Tryz.ntmps56
  go_wp2_with (go_at_call 81;refine (unhide HUH).mono ?_;rintro o w1 ⟨rfl,rfl⟩)
  go_ret
  exact ⟨rfl,unhide HF⟩
end Go.Proofs.YtceappncglfciaaGreat
