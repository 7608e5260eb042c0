import Derived.Test.YtceappncglfciaaGreatM37
import Derived.Test.YtceappncglfciaaGreatM03
set_option linter.unusedVariables false
set_option linter.unusedSimpArgs false
namespace Go.Proofs.YtceappncglfciaaGreat
open Go.RowKit
attribute [local go_sem ↓] Go.wp_at_zero Go.wp_at_succ
section
variable {W:World} {L:Lies} {T:TownM} {i:Nat}
theorem Rep.setV1 (h:Rep W L T) (hi:i < T.ps.length) (x:Int):Rep (W.setCell ⟨L.bp,i * 121 + 7,none⟩ (.int .i64 x)) L (T.setPeer i { T.peer i with c:={ (T.peer i).c with v:=x } }) :=
 h.setP hi (by omega) _ _ (PeerM.set_head 7 (by omega) _ _ rfl rfl rfl rfl rfl rfl rfl rfl) (h.fit (T.peer i) (TownM.peer_mem hi))
theorem Rep.touch (h:Rep W L T) (hi:i < T.ps.length):Rep (W.setCell ⟨L.bp,i * 121 + 83,none⟩ (.int .i64 T.now)) L (T.touch i):=h.setSince hi T.now
end
set_option maxRecDepth 100000 in
set_option maxHeartbeats 4000000 in
theorem following_any (i k:Nat) (K:Int) (m:MsgM) (W:World) (L:Lies) (T:TownM) (h:Rep W L T) (hi:i < T.ps.length) (hf:Fits K T) (hK:K + 2 ≤ 4294967294) (hm:MsgOK T.ps.length K m) (hsrc:m.src = (k:Int)) :
  Calls Tryz.prog 101 #[.pointer (some ⟨L.bt,0,none⟩),.int .i64 i,m.val] W fun o w' => o = .returned (.tuple #[]) ∧ Did W L w' (T.following i m):=by
 have hX:=(Below.refl W.heap.size W).alloc (Nat.le_refl _) (.cells m.cells.toArray 133)
 have HM:=hide (Own.new h m.cells.toArray 133)
 have HH:=hide (h.keep hX)
 have HX:=hide (DLinks.of_below L hX)
 have q0:(0:Int) ≤ (i:Int):=by omega
 have q1:(i:Int) < (T.ps.length:Int):=by omega
 obtain ⟨TF,hTF⟩:∃ TF,TF = T.following i m:=⟨_,rfl⟩
 rw [← hTF]
 unfold TownM.following at hTF
 have HFO:=hide hTF
 clear hTF
 have HF:=hide hf
 have HMK:=hide hm
 have HSRC:=hide hsrc
 clear h hX hf hm hsrc
 unfold MsgM.val
 simp only [MsgM.cells] at HM HH HX
 obtain ⟨g,hg⟩:∃ g,g = W.heap.size:=⟨_,rfl⟩
 rw [← hg] at HM
 have HG:=hide hg
 clear hg
 go_enter Tryz.func101,Tryz.ntmps101
 go_upto_region 1 with fail
 rw [← unhide HG]
 generalize W.alloc (.cells #[.int .i64 m.kind,.int .i64 m.src,.int .i64 m.dst,.int .i64 m.round,.int .i64 m.state,.int .i64 m.vote.e,.int .i64 m.vote.n,.int .i64 m.vote.p,.int .i64 m.epoch,.int .i64 m.news] 133) = W1 at *
 have c4:=(unhide HH).cell 4
 have m1:W1.cell? ⟨g,1,none⟩ = some (.int .i64 m.src):=(unhide HM).box.cell 1
 have m8:W1.cell? ⟨g,8,none⟩ = some (.int .i64 m.epoch):=(unhide HM).box.cell 8
 have v4:=(unhide HH).phead hi 4 (by omega)
 have v5:=(unhide HH).phead hi 5 (by omega)
 simp only [PeerM.head] at v4 v5
 obtain ⟨pb,hpb⟩:∃ pb,pb = ((T.peer i).c.p == m.epoch && (T.peer i).c.t == m.src):=⟨_,rfl⟩
 have HPB:=hide hpb
 clear hpb
 go_upto_region 2 with fail
 go_cut [7] (fun s we => s = .bool pb ∧ Rep we L T ∧ DLinks W L we L ∧ Own we L g #[.int .i64 m.kind,.int .i64 m.src,.int .i64 m.dst,.int .i64 m.round,.int .i64 m.state,.int .i64 m.vote.e,.int .i64 m.vote.n,.int .i64 m.vote.p,.int .i64 m.epoch,.int .i64 m.news] 133)
 case first =>
  have HR:Hid (∀ nq,Rep (W1.drewN nq) L T ∧ DLinks W L (W1.drewN nq) L ∧ Own (W1.drewN nq) L g #[.int .i64 m.kind,.int .i64 m.src,.int .i64 m.dst,.int .i64 m.round,.int .i64 m.state,.int .i64 m.vote.e,.int .i64 m.vote.n,.int .i64 m.vote.p,.int .i64 m.epoch,.int .i64 m.news] 133):=fun nq => by
   have hbd:=below_drewN (Below.refl W1.heap.size W1) nq
   exact ⟨(unhide HH).keep hbd,(unhide HX).below hbd,(unhide HM).below hbd⟩
  clear HH HX HM
  cases hpe:((T.peer i).c.p == m.epoch) with
  | false =>
   have fin:Hid (pb = false):=by
    show _ = _
    rw [unhide HPB,hpe];rfl
   go_quiet (fail)
   go_wp2
   go_meet
   case rel => exact ⟨by rw [unhide fin],unhide HR nq⟩
  | true =>
   cases hpt:((T.peer i).c.t == m.src) with
   | false =>
    have fin:Hid (pb = false):=by
     show _ = _
     rw [unhide HPB,hpe,hpt];rfl
    go_quiet (fail)
    go_wp2
    go_meet
    case rel => exact ⟨by rw [unhide fin],unhide HR nq⟩
   | true =>
    have fin:Hid (pb = true):=by
     show _ = _
     rw [unhide HPB,hpe,hpt];rfl
    go_quiet (fail)
    go_wp2
    go_meet
    case rel => exact ⟨by rw [unhide fin],unhide HR nq⟩
 case rest =>
  obtain ⟨rfl,r2,k2,o2⟩:=hcut
  clear HH HX HM c4 m1 m8 v4 v5
  generalize wc = w2 at *
  have hne:g ≠ L.bp:=fun e => o2.out (mem_blocks.2 (.inr (.inl e)))
  have hne2:L.bp ≠ g:=fun e => hne e.symm
  have htb:L.bt ≠ L.bp:=r2.town_ne
  have htb2:L.bp ≠ L.bt:=fun e => htb e.symm
  have c5:=r2.cell 5
  have m0:w2.cell? ⟨g,0,none⟩ = some (.int .i64 m.kind):=o2.box.cell 0
  have m1:w2.cell? ⟨g,1,none⟩ = some (.int .i64 m.src):=o2.box.cell 1
  have m8:w2.cell? ⟨g,8,none⟩ = some (.int .i64 m.epoch):=o2.box.cell 8
  have m9:w2.cell? ⟨g,9,none⟩ = some (.int .i64 m.news):=o2.box.cell 9
  have v4:=r2.phead hi 4 (by omega)
  have v5:=r2.phead hi 5 (by omega)
  have v6:=r2.phead hi 6 (by omega)
  have v7:=r2.phead hi 7 (by omega)
  have v83:=r2.pmid hi 1 (by omega)
  have y4:=r2.pfrozen (i * 121 + 4)
  have y5:=r2.pfrozen (i * 121 + 5)
  have y6:=r2.pfrozen (i * 121 + 6)
  have y7:=r2.pfrozen (i * 121 + 7)
  have y83:=r2.pfrozen (i * 121 + 83)
  simp only [PeerM.head,Nat.reduceAdd] at v4 v5 v6 v7 v83
  have hnet:T.net ≤ 1000:=(unhide HF).net.2
  have HPI:Hid (pb = true ↔ ((T.peer i).c.p = m.epoch ∧ (T.peer i).c.t = m.src)):=by
   show _ ↔ _
   rw [unhide HPB]
   simp
  have HR2:=hide r2
  have HK2:=hide k2
  have HO2:=hide o2
  have HHN:=hide hnet
  clear r2 k2 o2 hnet HPB
  by_cases k6:m.kind = 6
  ·rw [if_pos k6] at HFO
   have hq:(m.kind == 6) = true:=by simp [k6]
   have s3:=(unhide HR2).touch hi
   have HC0:=dsend_any ⟨7,i,m.src,0,0,voteZ,0,0⟩ _ L (T.touch i) s3 (unhide HHN)
   have HC1:=((unhide HK2).peer (i * 121 + 83) (.int .i64 T.now)).calls HC0 (unhide HFO)
   unfold MsgM.val at HC1
   simp only [voteZ] at HC1
   have HC:=hide HC1
   clear HC0 HC1 s3 HR2 HK2 HO2 HFO k6
   go_wp2_with fail
   refine (unhide HC).mono ?_
   rintro o w8 ⟨rfl,hd⟩
   have HE:=hide hd
   clear hd HC
   go_wp2
   go_end0
   exact ⟨rfl,unhide HE⟩
  ·rw [if_neg k6] at HFO
   have hq6:(m.kind == 6) = false:=by simp [k6]
   by_cases k5:m.kind = 5
   ·rw [if_pos k5] at HFO
    have hq:(m.kind == 5) = true:=by simp [k5]
    clear k5 k6
    cases pb with
    | false =>
     have HB:Hid (∀ nq,Did W L (w2.drewN nq) TF):=fun nq => by
      rw [unhide HFO,if_neg (fun e => absurd ((unhide HPI).2 ⟨e.1,e.2.1⟩) (by simp))]
      exact ((unhide HK2).below (below_drewN (Below.refl w2.heap.size w2) nq)).done ((unhide HR2).keep (below_drewN (Below.refl w2.heap.size w2) nq))
     clear HR2 HK2 HO2 HFO HPI
     go_upto_region 8 with fail
     go_quiet (fail)
     have fin:=hide (unhide HB nq)
     clear HB
     generalize w2.drewN nq = w3 at *
     go_wp2
     go_end0
     exact ⟨rfl,unhide fin⟩
    | true =>
     have hpp:=(unhide HPI).1 rfl
     by_cases hce:(T.peer i).c.e = m.epoch
     ·have hq7:((T.peer i).c.e == m.epoch) = true:=by simp [hce]
      have HB:Hid (∀ nq,Did W L (w2.drewN nq) TF):=fun nq => by
       rw [unhide HFO,if_neg (fun e => e.2.2 hce)]
       exact ((unhide HK2).below (below_drewN (Below.refl w2.heap.size w2) nq)).done ((unhide HR2).keep (below_drewN (Below.refl w2.heap.size w2) nq))
      clear HR2 HK2 HO2 HFO HPI hpp
      go_upto_region 8 with fail
      go_quiet (fail)
      have fin:=hide (unhide HB nq)
      clear HB
      generalize w2.drewN nq = w3 at *
      go_wp2
      go_end0
      exact ⟨rfl,unhide fin⟩
     ·rw [if_pos ⟨hpp.1,hpp.2,hce⟩] at HFO
      have hq7:((T.peer i).c.e == m.epoch) = false:=beq_eq_false_iff_ne.2 hce
      have hce3:¬ (T.peer i).c.e = m.epoch:=hce
      have HPP:=hide hpp
      clear hpp HPI hce
      go_upto_region 8 with fail
      go_quiet (fail)
      have hbd:=below_drewN (Below.refl w2.heap.size w2) nq
      have r3:=(unhide HR2).keep hbd
      have k3:=(unhide HK2).below hbd
      have o3:=(unhide HO2).below hbd
      clear hbd HR2 HK2 HO2 c5 m0 m1 m8 m9 v4 v5 v6 v7 v83 y4 y5 y6 y7 y83
      generalize w2.drewN nq = w3 at *
      have c5:=r3.cell 5
      have m8:w3.cell? ⟨g,8,none⟩ = some (.int .i64 m.epoch):=o3.box.cell 8
      have m9:w3.cell? ⟨g,9,none⟩ = some (.int .i64 m.news):=o3.box.cell 9
      have v6:=r3.phead hi 6 (by omega)
      have v7:=r3.phead hi 7 (by omega)
      have v83:=r3.pmid hi 1 (by omega)
      have y6:=r3.pfrozen (i * 121 + 6)
      have y7:=r3.pfrozen (i * 121 + 7)
      have y83:=r3.pfrozen (i * 121 + 83)
      simp only [PeerM.head,Nat.reduceAdd] at v6 v7 v83
      obtain ⟨T4,hT4⟩:∃ T4,T4 = T.setPeer i { T.peer i with since:=T.now,c:={ (T.peer i).c with e:=m.epoch,v:=m.news } }:=⟨_,rfl⟩
      have s4:Rep (((w3.setCell ⟨L.bp,i * 121 + 83,none⟩ (.int .i64 T.now)).setCell ⟨L.bp,i * 121 + 4 + 2,none⟩ (.int .i64 m.epoch)).setCell ⟨L.bp,i * 121 + 4 + 3,none⟩ (.int .i64 m.news)) L T4:=by
       have t1:=r3.setSince hi T.now
       have t2:=t1.setE (i:=i) (by rw [TownM.setPeer_len];exact hi) m.epoch
       rw [TownM.peer_set hi,TownM.set_set] at t2
       have t3:=t2.setV1 (i:=i) (by rw [TownM.setPeer_len];exact hi) m.news
       rw [TownM.peer_set hi,TownM.set_set] at t3
       rw [hT4];exact t3
      have k4:=((k3.peer (i * 121 + 83) (.int .i64 T.now)).peer (i * 121 + 4 + 2) (.int .i64 m.epoch)).peer (i * 121 + 4 + 3) (.int .i64 m.news)
      have hi4:i < T4.ps.length:=by rw [hT4,TownM.setPeer_len];exact hi
      have p4:T4.peer i = { T.peer i with since:=T.now,c:={ (T.peer i).c with e:=m.epoch,v:=m.news } }:=by rw [hT4,TownM.peer_set hi]
      have hpo:=(unhide HF).peer hi
      obtain ⟨dn,dc,hdd,hdk⟩:=hpo.disk
      have HC0:=twrite_any i dn dc _ L T4 s4 hi4 (by rw [p4];exact hdd) (by omega) (by rw [p4];exact ⟨hpo.c.1,hpo.c.2.1,(unhide HMK).epoch,(unhide HMK).news⟩) (by rw [p4];exact hpo.armed.1) (by rw [p4];exact hpo.armed.2)
      have HC:=hide (HC0.mono (fun o w' ⟨e1,e2⟩ => And.intro e1 (show Did W L w' TF from by rw [unhide HFO,← hT4];exact k4.did e2)))
      clear HC0 s4 k4 hi4 p4 hT4 hpo hdd hdk r3 k3 o3 HFO HPP HF HMK
      go_wp2_with fail
      refine (unhide HC).mono ?_
      rintro o w8 ⟨rfl,hd⟩
      have HE:=hide hd
      clear hd HC
      go_wp2
      go_end0
      exact ⟨rfl,unhide HE⟩
   ·rw [if_neg k5] at HFO
    have hq5:(m.kind == 5) = false:=by simp [k5]
    by_cases k3:m.kind = 3
    ·rw [if_pos k3] at HFO
     have hq:(m.kind == 3) = true:=by simp [k3]
     clear k3 k5 k6
     have hp3:(T.touch i).peer i = { T.peer i with since:=T.now }:=TownM.peer_set hi _
     have hl3:(T.touch i).ps.length = T.ps.length:=TownM.setPeer_len _ _ _
     have hi3:i < (T.touch i).ps.length:=by rw [hl3];exact hi
     have s3:=(unhide HR2).touch hi
     have HK3:=hide ((unhide HK2).peer (i * 121 + 83) (.int .i64 T.now))
     have HO3:=hide ((unhide HO2).peer (i * 121 + 83) (.int .i64 T.now))
     have HS3:=hide s3
     clear s3 HR2 HK2 HO2
     go_upto_region 16 with fail
     generalize w2.setCell ⟨L.bp,i * 121 + 83,none⟩ (.int .i64 T.now) = w3 at *
     clear c5 m0 m1 m8 m9 v4 v5 v6 v7 v83 y4 y5 y6 y7 y83
     have m8:w3.cell? ⟨g,8,none⟩ = some (.int .i64 m.epoch):=(unhide HO3).box.cell 8
     have v4:=(unhide HS3).phead hi3 4 (by omega)
     rw [hp3] at v4
     simp only [PeerM.head] at v4
     by_cases hlt:(T.peer i).c.p < m.epoch
     ·rw [if_pos hlt] at HFO
      go_quiet (fail)
      have hbd:=below_drewN (Below.refl w3.heap.size w3) nq
      have r4:=(unhide HS3).keep hbd
      have k4:=(unhide HK3).below hbd
      have o4:=(unhide HO3).below hbd
      clear hbd HS3 HK3 HO3 m8 v4
      generalize w3.drewN nq = w4 at *
      have m1:w4.cell? ⟨g,1,none⟩ = some (.int .i64 m.src):=o4.box.cell 1
      have m8:w4.cell? ⟨g,8,none⟩ = some (.int .i64 m.epoch):=o4.box.cell 8
      have v4:=r4.phead hi3 4 (by omega)
      have v5:=r4.phead hi3 5 (by omega)
      have y4:=r4.pfrozen (i * 121 + 4)
      have y5:=r4.pfrozen (i * 121 + 5)
      rw [hp3] at v4 v5
      simp only [PeerM.head] at v4 v5
      obtain ⟨T5,hT5⟩:∃ T5,T5 = T.setPeer i { T.peer i with since:=T.now,c:={ (T.peer i).c with p:=m.epoch,t:=m.src } }:=⟨_,rfl⟩
      have s5:Rep ((w4.setCell ⟨L.bp,i * 121 + 4,none⟩ (.int .i64 m.epoch)).setCell ⟨L.bp,i * 121 + 4 + 1,none⟩ (.int .i64 m.src)) L T5:=by
       have t1:=r4.setP1 hi3 m.epoch
       have t2:=t1.setT1 (i:=i) (by rw [TownM.setPeer_len];exact hi3) m.src
       rw [TownM.peer_set hi3,TownM.set_set,hp3] at t2
       unfold TownM.touch at t2
       rw [TownM.set_set] at t2
       rw [hT5];exact t2
      have k5:=(k4.peer (i * 121 + 4) (.int .i64 m.epoch)).peer (i * 121 + 4 + 1) (.int .i64 m.src)
      have o5:=(o4.peer (i * 121 + 4) (.int .i64 m.epoch)).peer (i * 121 + 4 + 1) (.int .i64 m.src)
      have hi5:i < T5.ps.length:=by rw [hT5,TownM.setPeer_len];exact hi
      have p5:T5.peer i = { T.peer i with since:=T.now,c:={ (T.peer i).c with p:=m.epoch,t:=m.src } }:=by rw [hT5,TownM.peer_set hi]
      have hpo:=(unhide HF).peer hi
      obtain ⟨dn,dc,hdd,hdk⟩:=hpo.disk
      have hsr:=(unhide HMK).src
      have hn7p:=(unhide HF).n.2
      have HC0:=twrite_any i dn dc _ L T5 s5 hi5 (by rw [p5];exact hdd) (by omega) (by rw [p5];exact ⟨(unhide HMK).epoch,⟨hsr.1,by show m.src ≤ 4294967295;omega⟩,hpo.c.2.2⟩) (by rw [p5];exact hpo.armed.1) (by rw [p5];exact hpo.armed.2)
      rw [show (T5.peer i).armed = (T.peer i).armed from by rw [p5]] at HC0
      rw [← hT5] at HFO
      have hn5:T5.net = T.net:=by rw [hT5];rfl
      have HC:=hide HC0
      have HK5:=hide k5
      have HO5:=hide o5
      have HN5:Hid ((T5.write i).net ≤ 1000 ∧ i < (T5.write i).ps.length):=⟨by show T5.net ≤ 1000;rw [hn5];exact unhide HHN,by show i < (T5.setPeer i _).ps.length;rw [TownM.setPeer_len];exact hi5⟩
      clear HC0 s5 k5 o5 r4 k4 o4 hT5 p5 hpo hdd hdk hsr hn7p hn5 hi5 HF HMK hlt
      by_cases ha:(T.peer i).armed < 0
      ·simp only [if_pos ha] at HFO
       have hda:decide ((T.peer i).armed < 0) = true:=by simp [ha]
       rw [hda] at HC
       clear ha hda
       go_upto_region 23 with (go_at_call 84;refine (unhide HC).mono ?_;rintro o w7 ⟨rfl,hd7⟩)
       obtain ⟨L7,r7,k70⟩:=hd7.open
       have k7:=(unhide HK5).trans k70
       have o7:=(unhide HO5).links k70
       clear hd7 k70 HC HK5 HO5 m1 m8 v4 v5 y4 y5 hp3 hl3 hi3
       obtain ⟨T7,hT7⟩:∃ T7,T7 = T5.write i:=⟨_,rfl⟩
       rw [← hT7] at r7
       have hi7:i < T7.ps.length:=by rw [hT7];exact (unhide HN5).2
       have hn7:T7.net ≤ 1000:=by rw [hT7];exact (unhide HN5).1
       have hTF7:TF = T7.ackTo i m:=by rw [unhide HFO,hT7]
       clear hT7 HN5 HFO
       have HOW:=own_any i w7.drew L7 T7 (r7.keep ((Below.refl _ _).drew)) hi7
       rw [k7.bt] at HOW
       obtain ⟨ow,how⟩:∃ ow,ow = T7.own i:=⟨_,rfl⟩
       rw [← how] at HOW
       have HOWN:=hide HOW
       have HQ:Hid (∀ wo,Below w7.drew.heap.size w7.drew wo → wo.cell? ⟨g,1,none⟩ = some (.int .i64 m.src) ∧ wo.cell? ⟨g,8,none⟩ = some (.int .i64 m.epoch)):=fun wo hb => by
        have o8:=(o7.below ((Below.refl _ _).drew)).below hb
        exact ⟨o8.box.cell 1,o8.box.cell 8⟩
       have m1:w7.cell? ⟨g,1,none⟩ = some (.int .i64 m.src):=o7.box.cell 1
       have m8:w7.cell? ⟨g,8,none⟩ = some (.int .i64 m.epoch):=o7.box.cell 8
       have HSN:Hid (∀ wo,Below w7.drew.heap.size w7.drew wo → Calls Tryz.prog 105 #[.pointer (some ⟨L.bt,0,none⟩),.agg #[.int .i64 4,.int .i64 i,.int .i64 m.src,.int .i64 0,.int .i64 0,.int .i64 ow.e,.int .i64 ow.n,.int .i64 ow.p,.int .i64 m.epoch,.int .i64 0]] wo fun o w' => o = .returned (.tuple #[]) ∧ Did W L w' TF):=fun wo hb => by
        have hb2:Below w7.heap.size w7 wo:=((Below.refl w7.heap.size w7).drew).trans hb
        have c0:=dsend_any ⟨4,i,m.src,0,0,ow,m.epoch,0⟩ wo L7 T7 (r7.keep hb2) hn7
        have c1:=(k7.below hb2).calls c0 (T':=TF) (by rw [hTF7,how];rfl)
        rw [k7.bt] at c1
        exact c1
       clear HOW how r7 k7 o7 hTF7 hn7 hi7
       go_region_law (first | (go_simp;go_at_call 119;refine (unhide HOWN).mono ?_;rintro o wo ⟨rfl,hbo⟩;obtain ⟨e1,e8⟩:=unhide HQ wo hbo;have HBO:=hide hbo;clear hbo) | (go_simp;go_at_call 105;refine (unhide HSN _ (unhide HBO)).mono ?_;rintro o w9 ⟨rfl,hd9⟩;have HE:=hide hd9;clear hd9))
       all_goals
        clear HOWN HQ HSN HBO m1 m8 e1 e8
        go_wp2
        go_end0
        exact ⟨rfl,unhide HE⟩
      ·simp only [if_neg ha] at HFO
       have hda:decide ((T.peer i).armed < 0) = false:=by simpa using ha
       rw [hda] at HC
       clear ha hda
       go_wp2_with (go_at_call 84;refine (unhide HC).mono ?_;rintro o w7 ⟨rfl,hd7⟩;have HE:=hide (show Did W L w7 TF from by rw [unhide HFO];exact (unhide HK5).did hd7);clear hd7 HC HK5 HO5 m1 m8 v4 v5 y4 y5)
       exact bodyPost_ret (v:=.tuple #[]) (by simp [results,Tryz.results101,go_sem]) rfl ⟨rfl,unhide HE⟩
     ·rw [if_neg hlt] at HFO
      go_quiet (fail)
      have hbd:=below_drewN (Below.refl w3.heap.size w3) nq
      have r7:=(unhide HS3).keep hbd
      have k7:=(unhide HK3).below hbd
      have o7:=(unhide HO3).below hbd
      clear hbd HS3 HK3 HO3 m8 v4 hlt
      generalize w3.drewN nq = w7 at *
      cases pb with
      | true =>
       rw [if_pos ((unhide HPI).1 rfl)] at HFO
       obtain ⟨T7,hT7⟩:∃ T7,T7 = T.touch i:=⟨_,rfl⟩
       obtain ⟨L7,hL7⟩:∃ L7,L7 = L:=⟨_,rfl⟩
       rw [← hT7] at r7 hi3
       rw [← hL7] at r7 o7
       have k7':DLinks W L w7 L7:=by rw [hL7];exact k7
       clear k7
       have k7:=k7'
       have hi7:=hi3
       have hn7:T7.net ≤ 1000:=by rw [hT7];exact unhide HHN
       have hTF7:TF = T7.ackTo i m:=by rw [unhide HFO,hT7]
       clear hT7 hL7 k7' HFO HPI HF HMK hp3 hl3 hi3
       go_upto_region 23 with fail
       have HOW:=own_any i w7.drew L7 T7 (r7.keep ((Below.refl _ _).drew)) hi7
       rw [k7.bt] at HOW
       obtain ⟨ow,how⟩:∃ ow,ow = T7.own i:=⟨_,rfl⟩
       rw [← how] at HOW
       have HOWN:=hide HOW
       have HQ:Hid (∀ wo,Below w7.drew.heap.size w7.drew wo → wo.cell? ⟨g,1,none⟩ = some (.int .i64 m.src) ∧ wo.cell? ⟨g,8,none⟩ = some (.int .i64 m.epoch)):=fun wo hb => by
        have o8:=(o7.below ((Below.refl _ _).drew)).below hb
        exact ⟨o8.box.cell 1,o8.box.cell 8⟩
       have m1:w7.cell? ⟨g,1,none⟩ = some (.int .i64 m.src):=o7.box.cell 1
       have m8:w7.cell? ⟨g,8,none⟩ = some (.int .i64 m.epoch):=o7.box.cell 8
       have HSN:Hid (∀ wo,Below w7.drew.heap.size w7.drew wo → Calls Tryz.prog 105 #[.pointer (some ⟨L.bt,0,none⟩),.agg #[.int .i64 4,.int .i64 i,.int .i64 m.src,.int .i64 0,.int .i64 0,.int .i64 ow.e,.int .i64 ow.n,.int .i64 ow.p,.int .i64 m.epoch,.int .i64 0]] wo fun o w' => o = .returned (.tuple #[]) ∧ Did W L w' TF):=fun wo hb => by
        have hb2:Below w7.heap.size w7 wo:=((Below.refl w7.heap.size w7).drew).trans hb
        have c0:=dsend_any ⟨4,i,m.src,0,0,ow,m.epoch,0⟩ wo L7 T7 (r7.keep hb2) hn7
        have c1:=(k7.below hb2).calls c0 (T':=TF) (by rw [hTF7,how];rfl)
        rw [k7.bt] at c1
        exact c1
       clear HOW how r7 k7 o7 hTF7 hn7 hi7
       go_region_law (first | (go_simp;go_at_call 119;refine (unhide HOWN).mono ?_;rintro o wo ⟨rfl,hbo⟩;obtain ⟨e1,e8⟩:=unhide HQ wo hbo;have HBO:=hide hbo;clear hbo) | (go_simp;go_at_call 105;refine (unhide HSN _ (unhide HBO)).mono ?_;rintro o w9 ⟨rfl,hd9⟩;have HE:=hide hd9;clear hd9))
       all_goals
        clear HOWN HQ HSN HBO m1 m8 e1 e8
        go_wp2
        go_end0
        exact ⟨rfl,unhide HE⟩
      | false =>
       rw [if_neg (fun e => absurd ((unhide HPI).2 e) (by simp))] at HFO
       have hpo:=(unhide HF).peer hi
       have hrr:=hpo.round
       have HC0:=dlook_any i w7 L (T.touch i) r7 hi3 (by rw [hl3];exact (unhide HF).n.2) (unhide HHN) (by rw [hp3];exact hrr.1) (by rw [hp3];show (T.peer i).round ≤ 1000000000000;omega)
       have HC:=hide (k7.calls HC0 (unhide HFO))
       clear HC0 r7 k7 o7 hpo hrr HFO HPI HF HMK hp3 hl3 hi3
       go_wp2_with fail
       refine (unhide HC).mono ?_
       rintro o w8 ⟨rfl,hd⟩
       have HE:=hide hd
       clear hd HC
       go_wp2
       exact bodyPost_ret (v:=.tuple #[]) (by simp [results,Tryz.results101,go_sem]) rfl ⟨rfl,unhide HE⟩
    ·rw [if_neg k3] at HFO
     have hq3:(m.kind == 3) = false:=by simp [k3]
     have fin:Hid (Did W L w2 TF):=by
      rw [unhide HFO];exact (unhide HK2).done (unhide HR2)
     clear HR2 HK2 HO2 HFO k3 k5 k6
     go_wp2
     go_end0
     exact ⟨rfl,unhide fin⟩
end Go.Proofs.YtceappncglfciaaGreat
namespace Go.Proofs.YtceappncglfciaaGreat
open Go.RowKit
attribute [local go_sem ↓] Go.wp_at_zero Go.wp_at_succ
theorem PeerM.lay_mem1 {p:PeerM} (h:p.fit) {k j:Nat} (hk:k < 7) (vs:List Value) (hj:j + vs.length ≤ 5) (x:MemM) (hx:x.cells = splice (p.mem.getD k memZ).cells j vs):({ p with mem:=p.mem.set k x }:PeerM).cells = splice p.cells (85 + (k * 5 + j)) vs:=by
 unfold PeerM.cells
 rw [splice_right _ _ _ _ (by show 12 ≤ 85 + (k * 5 + j);omega),show 85 + (k * 5 + j) - p.head.length = 73 + (k * 5 + j) from by show 85 + (k * 5 + j) - 12 = 73 + (k * 5 + j);omega,splice_right _ _ _ _ (by rw [known_len _ h.1];omega),known_len _ h.1,splice_right _ _ _ _ (by rw [known_len _ h.2.1];omega),known_len _ h.2.1,splice_right _ _ _ _ (by show 3 ≤ 73 + (k * 5 + j) - 35 - 35;omega),show 73 + (k * 5 + j) - 35 - 35 - [Value.bool p.waits,Value.int IntKind.i64 p.since,Value.int IntKind.i64 p.epoch].length = k * 5 + j from by show 73 + (k * 5 + j) - 35 - 35 - 3 = k * 5 + j;omega,splice_left _ _ _ _ (by rw [mem_len _ h.2.2];omega)]
 rw [flat_splice (f:=MemM.cells) (c:=5) p.mem k j (p.mem.getD k memZ) x vs (fun _ _ => rfl) (getD_some memZ (by rw [h.2.2];exact hk)) hj hx]
 rfl
section
variable {W:World} {L:Lies} {T:TownM} {i k:Nat}
theorem Rep.layMem1 (h:Rep W L T) (hi:i < T.ps.length) (hk:k < 7) {j:Nat} (u:Value) (hj:j < 5) (x:MemM) (hx:x.cells = ((T.peer i).mem.getD k memZ).cells.set j u):Rep (W.setCell ⟨L.bp,i * 121 + 85 + k * 5 + j,none⟩ u) L (T.setPeer i { T.peer i with mem:=(T.peer i).mem.set k x }):=by
 have hf:=h.fit _ (TownM.peer_mem hi)
 have e:x.cells = splice ((T.peer i).mem.getD k memZ).cells j [u]:=by
  rw [hx,← splice_cons _ _ _ _ (by show j < 5;exact hj),splice_nil]
 have:=h.setR (f:=85 + (k * 5 + j)) hi [u] (by show 85 + (k * 5 + j) + 1 ≤ 121;omega) _ (PeerM.lay_mem1 hf hk [u] (by show j + 1 ≤ 5;omega) x e) ⟨hf.1,hf.2.1,by simp [hf.2.2]⟩
 rw [show i * 121 + (85 + (k * 5 + j)) = i * 121 + 85 + k * 5 + j from by omega] at this
 exact this
theorem mem_len7 (h:Rep W L T) (hi:i < T.ps.length):(T.peer i).mem.length = 7:=(h.fit _ (TownM.peer_mem hi)).2.2
theorem Rep.hearOf (h:Rep W L T) (hi:i < T.ps.length) (hk:k < 7):Rep ((W.setCell ⟨L.bp,i * 121 + 85 + k * 5 + 2,none⟩ (.bool true)).setCell ⟨L.bp,i * 121 + 85 + k * 5 + 4,none⟩ (.int .i64 T.now)) L (T.hearOf i k):=by
 have hl:=mem_len7 h hi
 have t1:=h.layMem1 hi hk (j:=2) (.bool true) (by omega) { (T.peer i).mem.getD k memZ with heard:=true } rfl
 have t2:=t1.layMem1 (i:=i) (k:=k) (by rw [TownM.setPeer_len];exact hi) hk (j:=4) (.int .i64 T.now) (by omega) { (T.peer i).mem.getD k memZ with heard:=true,at_:=T.now } (by rw [TownM.peer_set hi];show _ = (List.getD (List.set (T.peer i).mem k _) k memZ).cells.set 4 _;rw [getD_set _ _ _ _ _ (by omega),if_pos rfl];rfl)
 rw [TownM.peer_set hi,TownM.set_set] at t2
 unfold TownM.hearOf
 simp only [List.set_set] at t2
 exact t2
theorem Rep.joins (h:Rep W L (T.hearOf i k)) (hl:(T.peer i).mem.length = 7) (hi:i < T.ps.length) (hk:k < 7) (e:Int):Rep ((W.setCell ⟨L.bp,i * 121 + 85 + k * 5,none⟩ (.bool true)).setCell ⟨L.bp,i * 121 + 85 + k * 5 + 3,none⟩ (.int .i64 e)) L (T.setPeer i { T.peer i with mem:=(T.peer i).mem.set k { (T.peer i).mem.getD k memZ with heard:=true,at_:=T.now,joined:=true,promised:=e } }):=by
 have hp1:(T.hearOf i k).peer i = { T.peer i with mem:=(T.peer i).mem.set k { (T.peer i).mem.getD k memZ with heard:=true,at_:=T.now } }:=TownM.peer_set hi _
 have hi1:i < (T.hearOf i k).ps.length:=by unfold TownM.hearOf;rw [TownM.setPeer_len];exact hi
 have t1:=h.layMem1 hi1 hk (j:=0) (.bool true) (by omega) { (T.peer i).mem.getD k memZ with heard:=true,at_:=T.now,joined:=true } (by rw [hp1];show _ = (List.getD (List.set (T.peer i).mem k _) k memZ).cells.set 0 _;rw [getD_set _ _ _ _ _ (by omega),if_pos rfl];rfl)
 have t2:=t1.layMem1 (i:=i) (k:=k) (by rw [TownM.setPeer_len];exact hi1) hk (j:=3) (.int .i64 e) (by omega) { (T.peer i).mem.getD k memZ with heard:=true,at_:=T.now,joined:=true,promised:=e } (by rw [TownM.peer_set hi1];show _ = (List.getD (List.set ((T.hearOf i k).peer i).mem k _) k memZ).cells.set 3 _;rw [getD_set _ _ _ _ _ (by rw [hp1];simp;omega),if_pos rfl];rfl)
 rw [TownM.peer_set hi1,TownM.set_set,hp1] at t2
 unfold TownM.hearOf at t2
 rw [TownM.set_set] at t2
 simp only [List.set_set,Nat.add_zero] at t2
 exact t2
theorem Rep.ackeds (h:Rep W L T) (hi:i < T.ps.length) (hk:k < 7):Rep (W.setCell ⟨L.bp,i * 121 + 85 + k * 5 + 1,none⟩ (.bool true)) L (T.setPeer i { T.peer i with mem:=(T.peer i).mem.set k { (T.peer i).mem.getD k memZ with acked:=true } }) :=
 h.layMem1 hi hk (j:=1) (.bool true) (by omega) _ rfl
end
end Go.Proofs.YtceappncglfciaaGreat
