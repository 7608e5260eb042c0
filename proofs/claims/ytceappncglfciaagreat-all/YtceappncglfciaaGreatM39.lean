import Derived.Test.YtceappncglfciaaGreatM38
set_option linter.unusedVariables false
set_option linter.unusedSimpArgs false
namespace Go.Proofs.YtceappncglfciaaGreat
open Go.RowKit
attribute [local go_sem ↓] Go.wp_at_zero Go.wp_at_succ
set_option maxRecDepth 100000 in
set_option maxHeartbeats 8000000 in
theorem leading_any (i k:Nat) (K:Int) (m:MsgM) (W:World) (L:Lies) (T:TownM) (h:Rep W L T) (hi:i < T.ps.length) (hf:Fits K T) (hK:K + 2 ≤ 4294967294) (hm:MsgOK T.ps.length K m) (hsrc:m.src = (k:Int)) (hev:T.events.length ≤ 40000000000) :
  Calls Tryz.prog 100 #[.pointer (some ⟨L.bt,0,none⟩),.int .i64 i,m.val] W fun o w' => o = .returned (.tuple #[]) ∧ Did W L w' (T.leading i m):=by
 have hX:=(Below.refl W.heap.size W).alloc (Nat.le_refl _) (.cells m.cells.toArray 133)
 have HM:=hide (Own.new h m.cells.toArray 133)
 have HH:=hide (h.keep hX)
 have HX:=hide (DLinks.of_below L hX)
 have q0:(0:Int) ≤ (i:Int):=by omega
 have q1:(i:Int) < (T.ps.length:Int):=by omega
 have hk:k < 7:=by
  have:=hm.src.2
  have:=hf.n.2
  omega
 have k0:(0:Int) ≤ (k:Int):=by omega
 have k7:(k:Int) < 7:=by omega
 obtain ⟨TF,hTF⟩:∃ TF,TF = T.leading i m:=⟨_,rfl⟩
 rw [← hTF]
 unfold TownM.leading at hTF
 rw [show m.src.toNat = k from by omega] at hTF
 have HFO:=hide hTF
 have HF:=hide hf
 have HMK:=hide hm
 have HSRC:=hide hsrc
 have HEV:=hide hev
 clear h hX hf hm hsrc hTF hev
 unfold MsgM.val
 simp only [MsgM.cells] at HM HH HX
 obtain ⟨g,hg⟩:∃ g,g = W.heap.size:=⟨_,rfl⟩
 rw [← hg] at HM
 have HG:=hide hg
 clear hg
 go_enter Tryz.func100,Tryz.ntmps100
 go_upto_region 1 with fail
 rw [← unhide HG]
 generalize W.alloc (.cells #[.int .i64 m.kind,.int .i64 m.src,.int .i64 m.dst,.int .i64 m.round,.int .i64 m.state,.int .i64 m.vote.e,.int .i64 m.vote.n,.int .i64 m.vote.p,.int .i64 m.epoch,.int .i64 m.news] 133) = W1 at *
 have c4:=(unhide HH).cell 4
 have m1:W1.cell? ⟨g,1,none⟩ = some (.int .i64 (k:Int)):=by rw [← unhide HSRC];exact (unhide HM).box.cell 1
 go_upto_region 2 with fail
 go_quiet (fail)
 have hbd:=below_drewN (Below.refl W1.heap.size W1) nq
 have r2:=(unhide HH).keep hbd
 have k2:=(unhide HX).below hbd
 have o2:=(unhide HM).below hbd
 clear HH HX HM c4 m1 hbd
 generalize W1.drewN nq = w2 at *
 have m0:w2.cell? ⟨g,0,none⟩ = some (.int .i64 m.kind):=o2.box.cell 0
 have m8:w2.cell? ⟨g,8,none⟩ = some (.int .i64 m.epoch):=o2.box.cell 8
 have v84:=r2.pmid hi 2 (by omega)
 simp only [Nat.reduceAdd] at v84
 have hne:g ≠ L.bp:=fun e => o2.out (mem_blocks.2 (.inr (.inl e)))
 have hne2:L.bp ≠ g:=fun e => hne e.symm
 have htb:L.bt ≠ L.bp:=r2.town_ne
 have htb2:L.bp ≠ L.bt:=fun e => htb e.symm
 have HR2:=hide r2
 have HK2:=hide k2
 have HO2:=hide o2
 clear r2 k2 o2
 -- the two stores
 have HST:Hid (∀ w3,Rep w3 L T → DLinks W L w3 L → Own w3 L g #[.int .i64 m.kind,.int .i64 m.src,.int .i64 m.dst,.int .i64 m.round,.int .i64 m.state,.int .i64 m.vote.e,.int .i64 m.vote.n,.int .i64 m.vote.p,.int .i64 m.epoch,.int .i64 m.news] 133 →
   Rep ((w3.setCell ⟨L.bp,i * 121 + 85 + k * 5 + 2,none⟩ (.bool true)).setCell ⟨L.bp,i * 121 + 85 + k * 5 + 4,none⟩ (.int .i64 T.now)) L (T.hearOf i k) ∧ DLinks W L ((w3.setCell ⟨L.bp,i * 121 + 85 + k * 5 + 2,none⟩ (.bool true)).setCell ⟨L.bp,i * 121 + 85 + k * 5 + 4,none⟩ (.int .i64 T.now)) L ∧
   Own ((w3.setCell ⟨L.bp,i * 121 + 85 + k * 5 + 2,none⟩ (.bool true)).setCell ⟨L.bp,i * 121 + 85 + k * 5 + 4,none⟩ (.int .i64 T.now)) L g #[.int .i64 m.kind,.int .i64 m.src,.int .i64 m.dst,.int .i64 m.round,.int .i64 m.state,.int .i64 m.vote.e,.int .i64 m.vote.n,.int .i64 m.vote.p,.int .i64 m.epoch,.int .i64 m.news] 133) :=
  fun w3 a b c => ⟨a.hearOf hi hk,(b.peer _ _).peer _ _,(c.peer _ _).peer _ _⟩
 have HRE:Hid (∀ w3,Rep w3 L T → w3.cell? ⟨L.bt,5,none⟩ = some (.int .i64 T.now) ∧ (∃ u,w3.cell? ⟨L.bp,i * 121 + 85 + k * 5 + 2,none⟩ = some u) ∧ (∃ u,w3.cell? ⟨L.bp,i * 121 + 85 + k * 5 + 4,none⟩ = some u) ∧ w3.frozen? ⟨L.bp,i * 121 + 85 + k * 5 + 2,none⟩ = false ∧ w3.frozen? ⟨L.bp,i * 121 + 85 + k * 5 + 4,none⟩ = false):=fun w3 r3 =>
  ⟨r3.cell 5,⟨_,r3.pmem hi (k:=k) (j:=2) hk (by omega)⟩,⟨_,r3.pmem hi (k:=k) (j:=4) hk (by omega)⟩,r3.pfrozen _,r3.pfrozen _⟩
 by_cases k2:m.kind = 2
 ·rw [if_pos k2] at HFO
  have hq2:(m.kind == 2) = true:=by simp [k2]
  have HKD:=hide k2
  clear k2
  go_upto_region 3 with fail
  go_quiet (fail)
  have hbd:=below_drewN (Below.refl w2.heap.size w2) nq
  have r3:=(unhide HR2).keep hbd
  obtain ⟨c5,⟨u2,x2⟩,⟨u4,x4⟩,y2,y4⟩:=unhide HRE _ r3
  obtain ⟨r4,k4,o4⟩:=unhide HST _ r3 ((unhide HK2).below hbd) ((unhide HO2).below hbd)
  clear r3 hbd HR2 HK2 HO2 HST HRE m8 v84 m0
  generalize w2.drewN nq = w3 at *
  go_upto_region 6 with fail
  generalize (w3.setCell ⟨L.bp,i * 121 + 85 + k * 5 + 2,none⟩ (.bool true)).setCell ⟨L.bp,i * 121 + 85 + k * 5 + 4,none⟩ (.int .i64 T.now) = w4 at *
  clear c5 x2 x4 y2 y4
  have m0:w4.cell? ⟨g,0,none⟩ = some (.int .i64 m.kind):=o4.box.cell 0
  have m8:w4.cell? ⟨g,8,none⟩ = some (.int .i64 m.epoch):=o4.box.cell 8
  have hl1:(T.hearOf i k).ps.length = T.ps.length:=TownM.setPeer_len _ _ _
  have hi1:i < (T.hearOf i k).ps.length:=by rw [hl1];exact hi
  have x0:=r4.pmem hi1 (k:=k) (j:=0) hk (by omega)
  have x3:=r4.pmem hi1 (k:=k) (j:=3) hk (by omega)
  have y0:=r4.pfrozen (i * 121 + 85 + k * 5)
  have y3:=r4.pfrozen (i * 121 + 85 + k * 5 + 3)
  simp only [MemM.cells,Nat.add_zero] at x0 x3
  have hml:(T.peer i).mem.length = 7:=((unhide HF).peer hi).mem.1
  have r5:=r4.joins hml hi hk m.epoch
  have k5:=(k4.peer (i * 121 + 85 + k * 5) (.bool true)).peer (i * 121 + 85 + k * 5 + 3) (.int .i64 m.epoch)
  have o5:=(o4.peer (i * 121 + 85 + k * 5) (.bool true)).peer (i * 121 + 85 + k * 5 + 3) (.int .i64 m.epoch)
  obtain ⟨TJ,hTJ⟩:∃ TJ,TJ = T.setPeer i { T.peer i with mem:=(T.peer i).mem.set k { (T.peer i).mem.getD k memZ with heard:=true,at_:=T.now,joined:=true,promised:=m.epoch } }:=⟨_,rfl⟩
  rw [← hTJ] at r5
  have HFJ:Hid (TF = if 0 < (T.peer i).epoch then (if (T.peer i).epoch < m.epoch then TJ.look i else TJ.send ⟨3,i,m.src,0,0,voteZ,(T.peer i).epoch,0⟩) else if TJ.most (TJ.joinedTo i T.ps.length) = true then TJ.propose i else TJ):=by
   show _ = _
   rw [unhide HFO,hTJ]
   unfold TownM.join
   rw [show m.src.toNat = k from by have:=unhide HSRC;omega]
  have hiJ:i < TJ.ps.length:=by rw [hTJ,TownM.setPeer_len];exact hi
  have hlJ:TJ.ps.length = T.ps.length:=by rw [hTJ,TownM.setPeer_len]
  have pJ:TJ.peer i = { T.peer i with mem:=(T.peer i).mem.set k { (T.peer i).mem.getD k memZ with heard:=true,at_:=T.now,joined:=true,promised:=m.epoch } }:=by rw [hTJ,TownM.peer_set hi]
  have hnJ:TJ.net ≤ 1000:=by rw [hTJ];exact (unhide HF).net.2
  have HFJT:Hid (Fits K TJ):=by rw [hTJ];exact (unhide HF).setMem hi k ⟨(unhide HMK).epoch,(unhide HF).now⟩
  have heJ:TJ.events.length ≤ 40000000000:=by rw [hTJ];exact unhide HEV
  have HR5:=hide r5
  have HK5:=hide k5
  have HO5:=hide o5
  have HLJ:=hide hlJ
  have HPJ:=hide pJ
  have HEJ:=hide heJ
  have HEP:Hid (0 ≤ (T.peer i).epoch ∧ (T.peer i).epoch ≤ 4294967295):=((unhide HF).peer hi).epoch
  clear r4 k4 o4 hl1 hi1 r5 k5 o5 hTJ hlJ pJ heJ hml HFO
  go_upto_region 9 with fail
  generalize (w4.setCell ⟨L.bp,i * 121 + 85 + k * 5,none⟩ (.bool true)).setCell ⟨L.bp,i * 121 + 85 + k * 5 + 3,none⟩ (.int .i64 m.epoch) = w5 at *
  clear m0 m8 x0 x3 y0 y3
  have m8:w5.cell? ⟨g,8,none⟩ = some (.int .i64 m.epoch):=(unhide HO5).box.cell 8
  have v84:=(unhide HR5).pmid hiJ 2 (by omega)
  simp only [Nat.reduceAdd] at v84
  rw [unhide HPJ] at v84
  simp only [] at v84
  have HSE:Hid (∀ w6,Rep w6 L TJ → Own w6 L g #[.int .i64 m.kind,.int .i64 m.src,.int .i64 m.dst,.int .i64 m.round,.int .i64 m.state,.int .i64 m.vote.e,.int .i64 m.vote.n,.int .i64 m.vote.p,.int .i64 m.epoch,.int .i64 m.news] 133 → w6.cell? ⟨g,0,none⟩ = some (.int .i64 m.kind) ∧ w6.cell? ⟨g,1,none⟩ = some (.int .i64 m.src) ∧ w6.cell? ⟨L.bp,i * 121 + 84,none⟩ = some (.int .i64 (T.peer i).epoch)):=fun w6 r6 o6 => by
   have v84:=r6.pmid hiJ 2 (by omega)
   simp only [Nat.reduceAdd] at v84
   rw [unhide HPJ] at v84
   exact ⟨o6.box.cell 0,o6.box.cell 1,v84⟩
  by_cases hpos:0 < (T.peer i).epoch
  ·rw [if_pos hpos] at HFJ
   by_cases hgt:(T.peer i).epoch < m.epoch
   ·rw [if_pos hgt] at HFJ
    go_quiet (fail)
    have hbd:=below_drewN (Below.refl w5.heap.size w5) nq
    have hrr:=((unhide HF).peer hi).round
    have HC0:=dlook_any i (w5.drewN nq) L TJ ((unhide HR5).keep hbd) hiJ (by rw [unhide HLJ];exact (unhide HF).n.2) hnJ (by rw [unhide HPJ];exact hrr.1) (by rw [unhide HPJ];show (T.peer i).round ≤ 1000000000000;omega)
    have HC:=hide (((unhide HK5).below hbd).calls HC0 (unhide HFJ))
    clear HC0 hrr hbd HR5 HK5 HO5 HSE m8 v84
    generalize w5.drewN nq = w6 at *
    go_wp2_with fail
    refine (unhide HC).mono ?_
    rintro o w8 ⟨rfl,hd⟩
    have HE:=hide hd
    clear hd HC
    go_wp2
    exact bodyPost_ret (v:=.tuple #[]) (by simp [results,Tryz.results100,go_sem]) rfl ⟨rfl,unhide HE⟩
   ·rw [if_neg hgt] at HFJ
    go_quiet (fail)
    have hbd:=below_drewN (Below.refl w5.heap.size w5) nq
    have r6:=(unhide HR5).keep hbd
    have k6:=(unhide HK5).below hbd
    have o6:=(unhide HO5).below hbd
    clear hbd HR5 HK5 HO5 m8 v84
    generalize w5.drewN nq = w6 at *
    obtain ⟨m0,m1,v84⟩:=unhide HSE w6 r6 o6
    have HSN:Hid (Calls Tryz.prog 105 #[.pointer (some ⟨L.bt,0,none⟩),.agg #[.int .i64 3,.int .i64 i,.int .i64 m.src,.int .i64 0,.int .i64 0,.int .i64 0,.int .i64 0,.int .i64 0,.int .i64 (T.peer i).epoch,.int .i64 0]] w6.drew fun o w' => o = .returned (.tuple #[]) ∧ Did W L w' TF):=by
     have hb2:=((Below.refl w6.heap.size w6).drew)
     have c0:=dsend_any ⟨3,i,m.src,0,0,voteZ,(T.peer i).epoch,0⟩ w6.drew L TJ (r6.keep hb2) hnJ
     exact (k6.below hb2).calls c0 (unhide HFJ)
    clear r6 k6 o6 HSE
    go_upto_region 12 with fail
    go_region_law (first | (go_simp;go_at_call 105;refine (unhide HSN).mono ?_;rintro o w9 ⟨rfl,hd9⟩;have HE:=hide hd9;clear hd9))
    all_goals
     clear HSN m0 m1 v84
     go_wp2
     exact bodyPost_ret (v:=.tuple #[]) (by simp [results,Tryz.results100,go_sem]) rfl ⟨rfl,unhide HE⟩
  ·rw [if_neg hpos] at HFJ
   have hz:(T.peer i).epoch ≤ 0:=by omega
   go_quiet (fail)
   have hbd:=below_drewN (Below.refl w5.heap.size w5) nq
   have r6:=(unhide HR5).keep hbd
   have k6:=(unhide HK5).below hbd
   have o6:=(unhide HO5).below hbd
   clear hbd HR5 HK5 HO5 m8 v84
   generalize w5.drewN nq = w6 at *
   obtain ⟨m0,m1,v84⟩:=unhide HSE w6 r6 o6
   have HJO:=joined_any i w6 L TJ r6 hiJ (by rw [unhide HLJ];exact (unhide HF).n.2)
   rw [unhide HLJ] at HJO
   have hjr:=TownM.joinedTo_range TJ i T.ps.length
   have hn7:=(unhide HF).n.2
   obtain ⟨jn,hjn⟩:∃ jn,jn = TJ.joinedTo i T.ps.length:=⟨_,rfl⟩
   rw [← hjn] at HJO hjr HFJ
   obtain ⟨mo,hmo⟩:∃ mo,mo = TJ.most jn:=⟨_,rfl⟩
   rw [← hmo] at HFJ
   have HMO:Hid (∀ w7,Below w6.heap.size w6 w7 → Calls Tryz.prog 104 #[.pointer (some ⟨L.bt,0,none⟩),.int .i64 jn] w7 fun o w' => o = .returned (.bool mo) ∧ w' = w7):=fun w7 hb7 => by
    have:=dmost_any jn w7 L TJ (r6.keep hb7) (by omega) (by omega)
    rw [hmo];exact this
   have HJH:=hide HJO
   have HR6:=hide r6
   have HK6:=hide k6
   have HO6:=hide o6
   clear HJO hjr hjn hmo r6 k6 o6 hn7
   go_upto_region 14 with (first | (go_at_call 123;refine (unhide HJH).mono ?_;rintro o w7 ⟨rfl,hb7⟩) | (go_at_call 104;refine (unhide HMO _ hb7).mono ?_;rintro o w7 ⟨rfl,rfl⟩))
   have r7:=(unhide HR6).keep hb7
   have k7':=(unhide HK6).below hb7
   have o7:=(unhide HO6).below hb7
   clear hb7 HR6 HK6 HO6 HJH HMO m0 m1 v84
   cases mo with
   | false =>
    rw [if_neg (by simp)] at HFJ
    have fin:Hid (Did W L w7 TF):=by rw [unhide HFJ];exact k7'.done r7
    obtain ⟨m0,m1,v84⟩:=unhide HSE w7 r7 o7
    have h24:(m.kind == 4) = false:=by rw [show m.kind = 2 from unhide HKD];rfl
    clear r7 k7' o7 HSE
    go_wp2
    go_end0
    exact ⟨rfl,unhide fin⟩
   | true =>
    rw [if_pos rfl] at HFJ
    have hpo:=(unhide HF).peer hi
    obtain ⟨dn,dc,hdd,hdk⟩:=hpo.disk
    have hrr:=hpo.round
    have HC0:=dpropose_any i dn dc w7 L TJ r7 hiJ (by rw [unhide HLJ];exact (unhide HF).n.2) hnJ (unhide HEJ) (by rw [unhide HPJ];exact hdd) (by omega) (by rw [unhide HPJ];exact hpo.c) (by rw [unhide HPJ];exact hrr.1) (by rw [unhide HPJ];show (T.peer i).round ≤ 1000000000000;omega) (fun q => (unhide HFJT).bestTo hiJ q) (by rw [unhide HPJ];exact hpo.armed.1) (by rw [unhide HPJ];exact hpo.armed.2)
    have HO7:=hide o7
    have HK7:=hide k7'
    have HC:=hide HC0
    clear HC0 hpo hdd hdk hrr r7 k7' o7 HSE
    go_wp2_with fail
    refine (unhide HC).mono ?_
    rintro o w8 ⟨rfl,hd8⟩
    obtain ⟨L8,r8,k8⟩:=hd8.open
    have fin:Hid (Did W L w8 TF):=by rw [unhide HFJ];exact (unhide HK7).did hd8
    have m0:w8.cell? ⟨g,0,none⟩ = some (.int .i64 m.kind):=((unhide HO7).links k8).box.cell 0
    have h24:(m.kind == 4) = false:=by rw [show m.kind = 2 from unhide HKD];rfl
    clear hd8 r8 k8 HC HO7 HK7
    go_wp2
    go_end0
    exact ⟨rfl,unhide fin⟩
 ·rw [if_neg k2] at HFO
  have hq2:(m.kind == 2) = false:=by simp [k2]
  by_cases kk7:m.kind = 7
  ·rw [if_pos kk7] at HFO
   have hq7:(m.kind == 7) = true:=by simp [kk7]
   have h74:(m.kind == 4) = false:=by simp [kk7]
   have HKD:=hide kk7
   clear kk7 k2
   go_upto_region 3 with fail
   go_quiet (fail)
   have hbd:=below_drewN (Below.refl w2.heap.size w2) nq
   have r3:=(unhide HR2).keep hbd
   obtain ⟨c5,⟨u2,x2⟩,⟨u4,x4⟩,y2,y4⟩:=unhide HRE _ r3
   obtain ⟨r4,k4,o4⟩:=unhide HST _ r3 ((unhide HK2).below hbd) ((unhide HO2).below hbd)
   have m0:(w2.drewN nq).cell? ⟨g,0,none⟩ = some (.int .i64 m.kind):=((unhide HO2).below hbd).box.cell 0
   have fin0:=k4.done r4
   rw [← unhide HFO] at fin0
   have fin:=hide fin0
   clear fin0 r3 r4 k4 o4 hbd HR2 HK2 HO2 HST HRE m8 v84
   generalize w2.drewN nq = w3 at *
   go_wp2
   go_end0
   exact ⟨rfl,unhide fin⟩
  ·rw [if_neg kk7] at HFO
   have hq7:(m.kind == 7) = false:=by simp [kk7]
   by_cases k4c:m.kind = 4 ∧ m.epoch = (T.peer i).epoch
   ·rw [if_pos k4c] at HFO
    have hq4:(m.kind == 4) = true:=by simp [k4c.1]
    have hqe:(m.epoch == (T.peer i).epoch) = true:=by simp [k4c.2]
    have HKD:=hide k4c
    clear kk7 k2 k4c
    go_upto_region 3 with fail
    go_quiet (fail)
    have hbd:=below_drewN (Below.refl w2.heap.size w2) nq
    have r3:=(unhide HR2).keep hbd
    obtain ⟨c5,⟨u2,x2⟩,⟨u4,x4⟩,y2,y4⟩:=unhide HRE _ r3
    obtain ⟨r4,k4,o4⟩:=unhide HST _ r3 ((unhide HK2).below hbd) ((unhide HO2).below hbd)
    clear r3 hbd HR2 HK2 HO2 HST HRE m8 v84 m0 hqe
    generalize w2.drewN nq = w3 at *
    go_upto_region 6 with fail
    generalize (w3.setCell ⟨L.bp,i * 121 + 85 + k * 5 + 2,none⟩ (.bool true)).setCell ⟨L.bp,i * 121 + 85 + k * 5 + 4,none⟩ (.int .i64 T.now) = w4 at *
    clear c5 x2 x4 y2 y4
    have m0:w4.cell? ⟨g,0,none⟩ = some (.int .i64 m.kind):=o4.box.cell 0
    have m5:w4.cell? ⟨g,5,none⟩ = some (.int .i64 m.vote.e):=o4.box.cell 5
    have m6:w4.cell? ⟨g,6,none⟩ = some (.int .i64 m.vote.n):=o4.box.cell 6
    obtain ⟨T1,hT1⟩:∃ T1,T1 = T.hearOf i k:=⟨_,rfl⟩
    have p1:T1.peer i = { T.peer i with mem:=(T.peer i).mem.set k { (T.peer i).mem.getD k memZ with heard:=true,at_:=T.now } }:=by rw [hT1];exact TownM.peer_set hi _
    have hl1:T1.ps.length = T.ps.length:=by rw [hT1];exact TownM.setPeer_len _ _ _
    have hi1:i < T1.ps.length:=by rw [hl1];exact hi
    have hn1:T1.net ≤ 1000:=by rw [hT1];exact (unhide HF).net.2
    have he1:T1.events.length ≤ 40000000000:=by rw [hT1];exact unhide HEV
    rw [← hT1] at r4
    have v6:=r4.phead hi1 6 (by omega)
    have v7:=r4.phead hi1 7 (by omega)
    have v120:=r4.pstands hi1
    rw [p1] at v6 v7 v120
    simp only [PeerM.head] at v6 v7 v120
    obtain ⟨bh,hbh⟩:∃ bh,bh = (!(T.peer i).stands && (decide ((T.peer i).c.e < m.vote.e) || (m.vote.e == (T.peer i).c.e && decide ((T.peer i).c.v < m.vote.n)))):=⟨_,rfl⟩
    have HFA:Hid (TF = if bh = true then T1.look i else if (T.peer i).stands = true then (T1.setPeer i { T1.peer i with mem:=(T1.peer i).mem.set k { (T1.peer i).mem.getD k memZ with acked:=true } }).welcome i m.src else (T1.setPeer i { T1.peer i with mem:=(T1.peer i).mem.set k { (T1.peer i).mem.getD k memZ with acked:=true } }).check i):=by
     show _ = _
     rw [unhide HFO,hT1,hbh]
     unfold TownM.ack
     rw [show m.src.toNat = k from by have:=unhide HSRC;omega]
    have HBH:=hide hbh
    have HR4:=hide r4
    have HK4:=hide k4
    have HO4:=hide o4
    have HP1:=hide p1
    have HL1:=hide hl1
    have HE1:=hide he1
    clear r4 k4 o4 hT1 p1 hl1 he1 hbh HFO
    go_upto_region 17 with fail
    go_cut [145] (fun s we => s = .bool bh ∧ Rep we L T1 ∧ DLinks W L we L ∧ Own we L g #[.int .i64 m.kind,.int .i64 m.src,.int .i64 m.dst,.int .i64 m.round,.int .i64 m.state,.int .i64 m.vote.e,.int .i64 m.vote.n,.int .i64 m.vote.p,.int .i64 m.epoch,.int .i64 m.news] 133)
    case first =>
     have HR:Hid (∀ nq,Rep (w4.drewN nq) L T1 ∧ DLinks W L (w4.drewN nq) L ∧ Own (w4.drewN nq) L g #[.int .i64 m.kind,.int .i64 m.src,.int .i64 m.dst,.int .i64 m.round,.int .i64 m.state,.int .i64 m.vote.e,.int .i64 m.vote.n,.int .i64 m.vote.p,.int .i64 m.epoch,.int .i64 m.news] 133):=fun nq => by
      have hbd:=below_drewN (Below.refl w4.heap.size w4) nq
      exact ⟨(unhide HR4).keep hbd,(unhide HK4).below hbd,(unhide HO4).below hbd⟩
     clear HR4 HK4 HO4
     cases hs:(T.peer i).stands with
     | true =>
      have fin:Hid (bh = false):=by
       show _ = _
       rw [unhide HBH,hs];rfl
      rw [hs] at v120
      go_quiet (fail)
      go_wp2
      go_meet
      case rel => exact ⟨by rw [unhide fin],unhide HR nq⟩
     | false =>
      rw [hs] at v120
      by_cases h1:(T.peer i).c.e < m.vote.e
      ·have fin:Hid (bh = true):=by
        show _ = _
        rw [unhide HBH,hs];simp [h1]
       go_quiet (fail)
       go_wp2
       go_meet
       case rel => exact ⟨by rw [unhide fin],unhide HR nq⟩
      ·by_cases h2:m.vote.e = (T.peer i).c.e
       ·by_cases h3:(T.peer i).c.v < m.vote.n
        ·have fin:Hid (bh = true):=by
          show _ = _
          rw [unhide HBH,hs];simp [h2,h3]
         have h2':(m.vote.e == (T.peer i).c.e) = true:=by simp [h2]
         clear h2
         go_quiet (fail)
         go_wp2
         go_meet
         case rel => exact ⟨by rw [unhide fin],unhide HR nq⟩
        ·have fin:Hid (bh = false):=by
          show _ = _
          rw [unhide HBH,hs];simp [h2];omega
         have h2':(m.vote.e == (T.peer i).c.e) = true:=by simp [h2]
         clear h2
         go_quiet (fail)
         go_wp2
         go_meet
         case rel => exact ⟨by rw [unhide fin],unhide HR nq⟩
       ·have fin:Hid (bh = false):=by
         show _ = _
         rw [unhide HBH,hs];simp [h2];omega
        have h2':(m.vote.e == (T.peer i).c.e) = false:=by simp [h2]
        clear h2
        go_quiet (fail)
        go_wp2
        go_meet
        case rel => exact ⟨by rw [unhide fin],unhide HR nq⟩
    case rest =>
     obtain ⟨rfl,r5,k5,o5⟩:=hcut
     clear HR4 HK4 HO4 m0 m5 m6 v6 v7 v120 HBH
     generalize wc = w5 at *
     cases bh with
     | true =>
      rw [if_pos rfl] at HFA
      have hrr:=((unhide HF).peer hi).round
      have HC0:=dlook_any i w5 L T1 r5 hi1 (by rw [unhide HL1];exact (unhide HF).n.2) hn1 (by rw [unhide HP1];exact hrr.1) (by rw [unhide HP1];show (T.peer i).round ≤ 1000000000000;omega)
      have HC:=hide (k5.calls HC0 (unhide HFA))
      clear HC0 hrr r5 k5 o5
      go_wp2_with fail
      refine (unhide HC).mono ?_
      rintro o w8 ⟨rfl,hd⟩
      have HE:=hide hd
      clear hd HC
      go_wp2
      exact bodyPost_ret (v:=.tuple #[]) (by simp [results,Tryz.results100,go_sem]) rfl ⟨rfl,unhide HE⟩
     | false =>
      rw [if_neg (by simp)] at HFA
      have x1:=r5.pmem hi1 (k:=k) (j:=1) hk (by omega)
      have y1:=r5.pfrozen (i * 121 + 85 + k * 5 + 1)
      simp only [MemM.cells] at x1
      obtain ⟨T2,hT2⟩:∃ T2,T2 = T1.setPeer i { T1.peer i with mem:=(T1.peer i).mem.set k { (T1.peer i).mem.getD k memZ with acked:=true } }:=⟨_,rfl⟩
      have r6:=r5.ackeds hi1 hk
      have k6:=k5.peer (i * 121 + 85 + k * 5 + 1) (.bool true)
      have o6:=o5.peer (i * 121 + 85 + k * 5 + 1) (.bool true)
      rw [← hT2] at r6 HFA
      have p2:T2.peer i = { T1.peer i with mem:=(T1.peer i).mem.set k { (T1.peer i).mem.getD k memZ with acked:=true } }:=by rw [hT2,TownM.peer_set hi1]
      have hl2:T2.ps.length = T.ps.length:=by rw [hT2,TownM.setPeer_len];exact unhide HL1
      have hi2:i < T2.ps.length:=by rw [hl2];exact hi
      have hn2:T2.net ≤ 1000:=by rw [hT2];exact hn1
      have he2:T2.events.length ≤ 40000000000:=by rw [hT2];exact unhide HE1
      rw [unhide HP1] at p2
      have HP2:=hide p2
      have HR6:=hide r6
      have HK6:=hide k6
      have HO6:=hide o6
      clear hT2 r5 k5 o5 r6 k6 o6 p2
      go_upto_region 20 with fail
      generalize w5.setCell ⟨L.bp,i * 121 + 85 + k * 5 + 1,none⟩ (.bool true) = w6 at *
      clear x1 y1
      have v120:=(unhide HR6).pstands hi2
      rw [unhide HP2] at v120
      simp only [] at v120
      cases hs:(T.peer i).stands with
      | true =>
       rw [hs] at v120
       rw [if_pos hs] at HFA
       have m1:w6.cell? ⟨g,1,none⟩ = some (.int .i64 m.src):=(unhide HO6).box.cell 1
       have HC0:=dwelcome_any i m.src w6 L T2 (unhide HR6) hi2 hn2
       have HC:=hide ((unhide HK6).calls HC0 (unhide HFA))
       clear HC0 HR6 HK6 HO6 hs
       go_wp2_with fail
       refine (unhide HC).mono ?_
       rintro o w8 ⟨rfl,hd⟩
       have HE:=hide hd
       clear hd HC
       go_wp2
       go_end0
       exact ⟨rfl,unhide HE⟩
      | false =>
       rw [hs] at v120
       rw [if_neg (by rw [hs];simp)] at HFA
       have hpo:=(unhide HF).peer hi
       obtain ⟨dn,dc,hdd,hdk⟩:=hpo.disk
       have HC0:=dcheck_any i dn dc w6 L T2 (unhide HR6) hi2 (by rw [hl2];exact (unhide HF).n.2) hn2 he2 (by rw [unhide HP2];exact hdd) (by omega) (by rw [unhide HP2];exact hpo.c) (by rw [unhide HP2];exact hpo.epoch) (by rw [unhide HP2];exact hpo.armed.1) (by rw [unhide HP2];exact hpo.armed.2)
       have HC:=hide ((unhide HK6).calls HC0 (unhide HFA))
       clear HC0 HR6 HK6 HO6 hs hpo hdd hdk
       go_wp2_with fail
       refine (unhide HC).mono ?_
       rintro o w8 ⟨rfl,hd⟩
       have HE:=hide hd
       clear hd HC
       go_wp2
       go_end0
       exact ⟨rfl,unhide HE⟩
   ·rw [if_neg k4c] at HFO
    by_cases k4:m.kind = 4
    ·have hq4:(m.kind == 4) = true:=by simp [k4]
     have hqe:(m.epoch == (T.peer i).epoch) = false:=beq_eq_false_iff_ne.2 (fun e => k4c ⟨k4,e⟩)
     clear kk7 k2 k4c k4
     have HB:Hid (∀ nq,Did W L (w2.drewN nq) TF):=fun nq => by
      rw [unhide HFO]
      exact ((unhide HK2).below (below_drewN (Below.refl w2.heap.size w2) nq)).done ((unhide HR2).keep (below_drewN (Below.refl w2.heap.size w2) nq))
     clear HR2 HK2 HO2 HFO HST HRE
     go_upto_region 3 with fail
     go_quiet (fail)
     have HE:=hide (unhide HB nq)
     clear HB
     generalize w2.drewN nq = w3 at *
     go_wp2
     exact bodyPost_ret (v:=.tuple #[]) (by simp [results,Tryz.results100,go_sem]) rfl ⟨rfl,unhide HE⟩
    ·have hq4:(m.kind == 4) = false:=by simp [k4]
     clear kk7 k2 k4c k4
     have HB:Hid (∀ nq,Did W L (w2.drewN nq) TF):=fun nq => by
      rw [unhide HFO]
      exact ((unhide HK2).below (below_drewN (Below.refl w2.heap.size w2) nq)).done ((unhide HR2).keep (below_drewN (Below.refl w2.heap.size w2) nq))
     clear HR2 HK2 HO2 HFO HST HRE
     go_upto_region 3 with fail
     go_quiet (fail)
     have HE:=hide (unhide HB nq)
     clear HB
     generalize w2.drewN nq = w3 at *
     go_wp2
     exact bodyPost_ret (v:=.tuple #[]) (by simp [results,Tryz.results100,go_sem]) rfl ⟨rfl,unhide HE⟩
end Go.Proofs.YtceappncglfciaaGreat
namespace Go.Proofs.YtceappncglfciaaGreat
open Go.RowKit
attribute [local go_sem ↓] Go.wp_at_zero Go.wp_at_succ
set_option maxRecDepth 100000 in
set_option maxHeartbeats 4000000 in
theorem hears_any (i k:Nat) (K:Int) (m:MsgM) (W:World) (L:Lies) (T:TownM) (h:Rep W L T) (hi:i < T.ps.length) (hf:Fits K T) (hK:K + 2 ≤ 4294967294) (hm:MsgOK T.ps.length K m) (hsrc:m.src = (k:Int)) (hev:T.events.length ≤ 40000000000) :
  Calls Tryz.prog 79 #[.pointer (some ⟨L.bt,0,none⟩),.int .i64 i,m.val] W fun o w' => o = .returned (.tuple #[]) ∧ Did W L w' (T.hears i m):=by
 have hX:=(Below.refl W.heap.size W).alloc (Nat.le_refl _) (.cells m.cells.toArray 133)
 have HM:=hide (Own.new h m.cells.toArray 133)
 have HH:=hide (h.keep hX)
 have HX:=hide (DLinks.of_below L hX)
 have q0:(0:Int) ≤ (i:Int):=by omega
 have q1:(i:Int) < (T.ps.length:Int):=by omega
 have hk:k < 7:=by
  have:=hm.src.2
  have:=hf.n.2
  omega
 obtain ⟨TF,hTF⟩:∃ TF,TF = T.hears i m:=⟨_,rfl⟩
 rw [← hTF]
 unfold TownM.hears at hTF
 have HFO:=hide hTF
 have HF:=hide hf
 have HMK:=hide hm
 have HSRC:=hide hsrc
 have HEV:=hide hev
 have HHP:=hide hf.n.2
 have HHN:=hide hf.net.2
 clear h hX hf hm hsrc hTF hev
 unfold MsgM.val
 simp only [MsgM.cells] at HM HH HX
 obtain ⟨g,hg⟩:∃ g,g = W.heap.size:=⟨_,rfl⟩
 rw [← hg] at HM
 have HG:=hide hg
 clear hg
 go_enter Tryz.func79,Tryz.ntmps79
 go_upto_region 1 with fail
 rw [← unhide HG]
 generalize W.alloc (.cells #[.int .i64 m.kind,.int .i64 m.src,.int .i64 m.dst,.int .i64 m.round,.int .i64 m.state,.int .i64 m.vote.e,.int .i64 m.vote.n,.int .i64 m.vote.p,.int .i64 m.epoch,.int .i64 m.news] 133) = W1 at *
 have c4:=(unhide HH).cell 4
 have m0:W1.cell? ⟨g,0,none⟩ = some (.int .i64 m.kind):=(unhide HM).box.cell 0
 have m1:W1.cell? ⟨g,1,none⟩ = some (.int .i64 m.src):=(unhide HM).box.cell 1
 have m2:W1.cell? ⟨g,2,none⟩ = some (.int .i64 m.dst):=(unhide HM).box.cell 2
 have m3:W1.cell? ⟨g,3,none⟩ = some (.int .i64 m.round):=(unhide HM).box.cell 3
 have m4:W1.cell? ⟨g,4,none⟩ = some (.int .i64 m.state):=(unhide HM).box.cell 4
 have m5:W1.cell? ⟨g,5,none⟩ = some (.int .i64 m.vote.e):=(unhide HM).box.cell 5
 have m6:W1.cell? ⟨g,6,none⟩ = some (.int .i64 m.vote.n):=(unhide HM).box.cell 6
 have m7:W1.cell? ⟨g,7,none⟩ = some (.int .i64 m.vote.p):=(unhide HM).box.cell 7
 have m8:W1.cell? ⟨g,8,none⟩ = some (.int .i64 m.epoch):=(unhide HM).box.cell 8
 have m9:W1.cell? ⟨g,9,none⟩ = some (.int .i64 m.news):=(unhide HM).box.cell 9
 have v3:=(unhide HH).phead hi 3 (by omega)
 have v11:=(unhide HH).phead hi 11 (by omega)
 simp only [PeerM.head] at v3 v11
 by_cases k1:m.kind = 1
 ·rw [if_pos k1] at HFO
  have hq1:(m.kind == 1) = true:=by simp [k1]
  clear k1
  by_cases s0:(T.peer i).state = 0
  ·rw [if_pos s0] at HFO
   have hs0:((T.peer i).state == 0) = true:=by simp [s0]
   clear s0
   by_cases t0:m.state = 0
   ·rw [if_pos t0] at HFO
    have ht0:(m.state == 0) = true:=by simp [t0]
    clear t0
    have HC0:=looking_any i k m W1 L T (unhide HH) hi (unhide HHP) (unhide HHN) (unhide HSRC) hk
    have HC1:=(unhide HX).calls HC0 (T':=TF) (unhide HFO)
    (try unfold MsgM.val at HC1)
    have HC:=hide HC1
    clear HC0 HC1 HX HH HM HFO
    go_wp2_with fail
    refine (unhide HC).mono ?_
    rintro o w8 ⟨rfl,hd⟩
    have HE:=hide hd
    clear hd HC
    go_wp2
    exact bodyPost_ret (v:=.tuple #[]) (by simp [results,Tryz.results79,go_sem]) rfl ⟨rfl,unhide HE⟩
   ·rw [if_neg t0] at HFO
    have ht0:(m.state == 0) = false:=by simp [t0]
    clear t0
    have HC0:=settled_any i k m W1 L T (unhide HH) hi (unhide HHP) (unhide HHN) (unhide HSRC) hk
    have HC1:=(unhide HX).calls HC0 (T':=TF) (unhide HFO)
    (try unfold MsgM.val at HC1)
    have HC:=hide HC1
    clear HC0 HC1 HX HH HM HFO
    go_wp2_with fail
    refine (unhide HC).mono ?_
    rintro o w8 ⟨rfl,hd⟩
    have HE:=hide hd
    clear hd HC
    go_wp2
    exact bodyPost_ret (v:=.tuple #[]) (by simp [results,Tryz.results79,go_sem]) rfl ⟨rfl,unhide HE⟩
  ·rw [if_neg s0] at HFO
   have hs0:((T.peer i).state == 0) = false:=by simp [s0]
   clear s0
   by_cases t0:m.state = 0
   ·rw [if_pos t0] at HFO
    have ht0:(m.state == 0) = true:=by simp [t0]
    clear t0
    have HC0:=notice_any i m.src W1 L T (unhide HH) hi (unhide HHN)
    have HC1:=(unhide HX).calls HC0 (T':=TF) (unhide HFO)
    (try unfold MsgM.val at HC1)
    have HC:=hide HC1
    clear HC0 HC1 HX HH HM HFO
    go_wp2_with fail
    refine (unhide HC).mono ?_
    rintro o w8 ⟨rfl,hd⟩
    have HE:=hide hd
    clear hd HC
    go_wp2
    exact bodyPost_ret (v:=.tuple #[]) (by simp [results,Tryz.results79,go_sem]) rfl ⟨rfl,unhide HE⟩
   ·rw [if_neg t0] at HFO
    have ht0:(m.state == 0) = false:=by simp [t0]
    clear t0
    have HE:Hid (Did W L W1 TF):=by rw [unhide HFO];exact (unhide HX).done (unhide HH)
    clear HX HH HM HFO
    go_wp2
    exact bodyPost_ret (v:=.tuple #[]) (by simp [results,Tryz.results79,go_sem]) rfl ⟨rfl,unhide HE⟩
 ·rw [if_neg k1] at HFO
  have hq1:(m.kind == 1) = false:=by simp [k1]
  clear k1
  by_cases s2:(T.peer i).state = 2
  ·rw [if_pos s2] at HFO
   have hs2:((T.peer i).state == 2) = true:=by simp [s2]
   have hs1:((T.peer i).state == 1) = false:=by simp [s2]
   clear s2
   have HC0:=leading_any i k K m W1 L T (unhide HH) hi (unhide HF) hK (unhide HMK) (unhide HSRC) (unhide HEV)
   have HC1:=(unhide HX).calls HC0 (T':=TF) (unhide HFO)
   unfold MsgM.val at HC1
   have HC:=hide HC1
   clear HC0 HC1 HX HH HM HFO v11
   go_upto_region 11 with (go_at_call 100;refine (unhide HC).mono ?_;rintro o w8 ⟨rfl,hd⟩;have HE:=hide hd;clear hd HC m0 m1 m2 m3 m4 m5 m6 m7 m8 m9 c4 v3)
   go_quiet (fail)
   have HB:=hide (show Did W L (w8.drewN nq) TF from by
    obtain ⟨L8,r8,k8⟩:=(unhide HE).open
    have hbd:=below_drewN (Below.refl w8.heap.size w8) nq
    exact (k8.below hbd).done (r8.keep hbd))
   clear HE
   generalize w8.drewN nq = w9 at *
   go_wp2
   go_end0
   exact ⟨rfl,unhide HB⟩
  ·rw [if_neg s2] at HFO
   have hs2:((T.peer i).state == 2) = false:=by simp [s2]
   clear s2
   have HDR:Hid (∀ nq,Rep (W1.drewN nq) L T ∧ DLinks W L (W1.drewN nq) L ∧ Own (W1.drewN nq) L g #[.int .i64 m.kind,.int .i64 m.src,.int .i64 m.dst,.int .i64 m.round,.int .i64 m.state,.int .i64 m.vote.e,.int .i64 m.vote.n,.int .i64 m.vote.p,.int .i64 m.epoch,.int .i64 m.news] 133):=fun nq => by
    have hbd:=below_drewN (Below.refl W1.heap.size W1) nq
    exact ⟨(unhide HH).keep hbd,(unhide HX).below hbd,(unhide HM).below hbd⟩
   clear HH HX HM
   by_cases s1:(T.peer i).state = 1
   ·have hs1:((T.peer i).state == 1) = true:=by simp [s1]
    by_cases hv:(T.peer i).vote.p = m.src
    ·rw [if_pos ⟨s1,hv⟩] at HFO
     have hvq:((T.peer i).vote.p == m.src) = true:=by simp [hv]
     clear s1 hv
     go_upto_region 11 with fail
     go_quiet (fail)
     obtain ⟨r3,k3,o3⟩:=unhide HDR nq
     clear HDR m0 m1 m2 m3 m4 m5 m6 m7 m8 m9 c4 v3 v11
     generalize W1.drewN nq = w3 at *
     have m0:w3.cell? ⟨g,0,none⟩ = some (.int .i64 m.kind):=o3.box.cell 0
     have m1:w3.cell? ⟨g,1,none⟩ = some (.int .i64 m.src):=o3.box.cell 1
     have m2:w3.cell? ⟨g,2,none⟩ = some (.int .i64 m.dst):=o3.box.cell 2
     have m3:w3.cell? ⟨g,3,none⟩ = some (.int .i64 m.round):=o3.box.cell 3
     have m4:w3.cell? ⟨g,4,none⟩ = some (.int .i64 m.state):=o3.box.cell 4
     have m5:w3.cell? ⟨g,5,none⟩ = some (.int .i64 m.vote.e):=o3.box.cell 5
     have m6:w3.cell? ⟨g,6,none⟩ = some (.int .i64 m.vote.n):=o3.box.cell 6
     have m7:w3.cell? ⟨g,7,none⟩ = some (.int .i64 m.vote.p):=o3.box.cell 7
     have m8:w3.cell? ⟨g,8,none⟩ = some (.int .i64 m.epoch):=o3.box.cell 8
     have m9:w3.cell? ⟨g,9,none⟩ = some (.int .i64 m.news):=o3.box.cell 9
     have HC0:=following_any i k K m w3 L T r3 hi (unhide HF) hK (unhide HMK) (unhide HSRC)
     have HC1:=k3.calls HC0 (T':=TF) (unhide HFO)
     unfold MsgM.val at HC1
     have HC:=hide HC1
     clear HC0 HC1 r3 k3 o3 HFO
     go_wp2_with fail
     refine (unhide HC).mono ?_
     rintro o w8 ⟨rfl,hd⟩
     have HE:=hide hd
     clear hd HC
     go_wp2
     go_end0
     exact ⟨rfl,unhide HE⟩
    ·rw [if_neg (fun e => hv e.2)] at HFO
     have hvq:((T.peer i).vote.p == m.src) = false:=by simp [hv]
     clear s1 hv
     go_upto_region 11 with fail
     go_quiet (fail)
     have HE:Hid (Did W L (W1.drewN nq) TF):=by
      obtain ⟨r3,k3,o3⟩:=unhide HDR nq
      rw [unhide HFO];exact k3.done r3
     clear HDR HFO
     generalize W1.drewN nq = w3 at *
     go_wp2
     go_end0
     exact ⟨rfl,unhide HE⟩
   ·rw [if_neg (fun e => s1 e.1)] at HFO
    have hs1:((T.peer i).state == 1) = false:=by simp [s1]
    clear s1
    go_upto_region 11 with fail
    go_quiet (fail)
    have HE:Hid (Did W L (W1.drewN nq) TF):=by
     obtain ⟨r3,k3,o3⟩:=unhide HDR nq
     rw [unhide HFO];exact k3.done r3
    clear HDR HFO
    generalize W1.drewN nq = w3 at *
    go_wp2
    go_end0
    exact ⟨rfl,unhide HE⟩
end Go.Proofs.YtceappncglfciaaGreat
