import Derived.Test.YtceappncglfciaaGreatM35
set_option linter.unusedVariables false
set_option linter.unusedSimpArgs false
namespace Go.Proofs.YtceappncglfciaaGreat
open Go.RowKit
attribute [local go_sem ↓] Go.wp_at_zero Go.wp_at_succ
def VoteM.row (v:VoteM):Array Value:=#[.int .i64 v.e,.int .i64 v.n,.int .i64 v.p]
theorem PeerM.lay_vote1 {p:PeerM} (h:p.fit) {k:Nat} (hk:k < 7) (x:KnownM):({ p with votes:=p.votes.set k x }:PeerM).cells = splice p.cells (12 + k * 5) x.cells:=by
 unfold PeerM.cells
 rw [splice_right _ _ _ _ (by show 12 ≤ 12 + k * 5;omega),show 12 + k * 5 - p.head.length = k * 5 from by show 12 + k * 5 - 12 = k * 5;omega,splice_left _ _ _ _ (by rw [known_len _ h.1];show k * 5 + 5 ≤ 35;omega)]
 have:=flat_splice (f:=KnownM.cells) (c:=5) p.votes k 0 (p.votes.getD k knownZ) x x.cells (fun _ _ => rfl) (getD_some knownZ (by rw [h.1];exact hk)) (by show 0 + 5 ≤ 5;omega) (splice_all (p.votes.getD k knownZ).cells x.cells rfl).symm
 rw [Nat.add_zero] at this
 rw [this]
 rfl
theorem PeerM.lay_settled1 {p:PeerM} (h:p.fit) {k:Nat} (hk:k < 7) (x:KnownM):({ p with settled:=p.settled.set k x }:PeerM).cells = splice p.cells (47 + k * 5) x.cells:=by
 unfold PeerM.cells
 rw [splice_right _ _ _ _ (by show 12 ≤ 47 + k * 5;omega),show 47 + k * 5 - p.head.length = 35 + k * 5 from by show 47 + k * 5 - 12 = 35 + k * 5;omega,splice_right _ _ _ _ (by rw [known_len _ h.1];omega),known_len _ h.1,show 35 + k * 5 - 35 = k * 5 from by omega,splice_left _ _ _ _ (by rw [known_len _ h.2.1];show k * 5 + 5 ≤ 35;omega)]
 have:=flat_splice (f:=KnownM.cells) (c:=5) p.settled k 0 (p.settled.getD k knownZ) x x.cells (fun _ _ => rfl) (getD_some knownZ (by rw [h.2.1];exact hk)) (by show 0 + 5 ≤ 5;omega) (splice_all (p.settled.getD k knownZ).cells x.cells rfl).symm
 rw [Nat.add_zero] at this
 rw [this]
 rfl
theorem Rep.layVote1 {W:World} {L:Lies} {T:TownM} (h:Rep W L T) {i k:Nat} (hi:i < T.ps.length) (hk:k < 7) (x:KnownM):Rep (W.setCells L.bp (i * 121 + (12 + k * 5)) x.cells) L (T.setPeer i { T.peer i with votes:=(T.peer i).votes.set k x }) :=
 have hf:=h.fit _ (TownM.peer_mem hi)
 h.setR hi x.cells (by show 12 + k * 5 + 5 ≤ 121;omega) _ (PeerM.lay_vote1 hf hk x) ⟨by simp [hf.1],hf.2.1,hf.2.2⟩
theorem Rep.laySettled1 {W:World} {L:Lies} {T:TownM} (h:Rep W L T) {i k:Nat} (hi:i < T.ps.length) (hk:k < 7) (x:KnownM):Rep (W.setCells L.bp (i * 121 + (47 + k * 5)) x.cells) L (T.setPeer i { T.peer i with settled:=(T.peer i).settled.set k x }) :=
 have hf:=h.fit _ (TownM.peer_mem hi)
 h.setR hi x.cells (by show 47 + k * 5 + 5 ≤ 121;omega) _ (PeerM.lay_settled1 hf hk x) ⟨hf.1,by simp [hf.2.1],hf.2.2⟩
set_option maxRecDepth 100000 in
set_option maxHeartbeats 2000000 in
theorem looking_any (i k:Nat) (m:MsgM) (W:World) (L:Lies) (T:TownM) (h:Rep W L T) (hi:i < T.ps.length) (hp:T.ps.length ≤ 7) (hn:T.net ≤ 1000) (hsrc:m.src = (k:Int)) (hk:k < 7) :
  Calls Tryz.prog 97 #[.pointer (some ⟨L.bt,0,none⟩),.int .i64 i,m.val] W fun o w' => o = .returned (.tuple #[]) ∧ Did W L w' (T.looking i m):=by
 have hX:=(Below.refl W.heap.size W).alloc (Nat.le_refl _) (.cells m.cells.toArray 133)
 have HM:=hide (Own.new h m.cells.toArray 133)
 have HH:=hide (h.keep hX)
 have HX:=hide (DLinks.of_below L hX)
 have q0:(0:Int) ≤ (i:Int):=by omega
 have q1:(i:Int) < (T.ps.length:Int):=by omega
 have HLK:Hid (T.looking i m = if m.round < (T.peer i).round then T.notice i m.src else ((T.take2 i m).know i m).count i):=rfl
 clear h hX
 unfold MsgM.val
 simp only [MsgM.cells] at HM HH HX
 obtain ⟨g,hg⟩:∃ g,g = W.heap.size:=⟨_,rfl⟩
 rw [← hg] at HM
 have HG:=hide hg
 have HSRC:=hide hsrc
 clear hg hsrc
 go_enter Tryz.func97,Tryz.ntmps97
 go_upto_region 1 with fail
 rw [← unhide HG]
 generalize W.alloc (.cells #[.int .i64 m.kind,.int .i64 m.src,.int .i64 m.dst,.int .i64 m.round,.int .i64 m.state,.int .i64 m.vote.e,.int .i64 m.vote.n,.int .i64 m.vote.p,.int .i64 m.epoch,.int .i64 m.news] 133) = W1 at *
 have c4:=(unhide HH).cell 4
 have m1:W1.cell? ⟨g,1,none⟩ = some (.int .i64 m.src):=(unhide HM).box.cell 1
 have m3:W1.cell? ⟨g,3,none⟩ = some (.int .i64 m.round):=(unhide HM).box.cell 3
 have v8:=(unhide HH).phead hi 8 (by omega)
 simp only [PeerM.head] at v8
 by_cases hr:m.round < (T.peer i).round
 ·rw [if_pos hr] at HLK
  go_upto_region 2 with fail
  go_quiet (fail)
  have hbd:=below_drewN (Below.refl W1.heap.size W1) nq
  have HC:=hide (((unhide HX).below hbd).calls (notice_any i m.src _ L T ((unhide HH).keep hbd) hi hn) (unhide HLK))
  have m1:(W1.drewN nq).cell? ⟨g,1,none⟩ = some (.int .i64 m.src):=((unhide HM).below hbd).box.cell 1
  clear hbd HM HX HH HLK c4 v8 m3
  generalize W1.drewN nq = W2 at *
  go_wp2_with fail
  refine (unhide HC).mono ?_
  rintro o w7 ⟨rfl,hd⟩
  have HE:=hide hd
  clear hd HC
  go_wp2
  exact bodyPost_ret (v:=.tuple #[]) (by simp [results,Tryz.results97,go_sem]) rfl ⟨rfl,unhide HE⟩
 ·rw [if_neg hr] at HLK
  go_upto_region 2 with fail
  go_quiet (fail)
  have hbd:=below_drewN (Below.refl W1.heap.size W1) nq
  have HX2:=hide ((unhide HX).below hbd)
  have HH2:=hide ((unhide HH).keep hbd)
  have HM2:=hide ((unhide HM).below hbd)
  clear hbd HM HX HH c4 v8 m1 m3
  generalize W1.drewN nq = W2 at *
  have m3:W2.cell? ⟨g,3,none⟩ = some (.int .i64 m.round):=(unhide HM2).box.cell 3
  have v8:=(unhide HH2).phead hi 8 (by omega)
  simp only [PeerM.head] at v8
  obtain ⟨ub,hub⟩:∃ ub,ub = decide ((T.peer i).round < m.round):=⟨_,rfl⟩
  have hd:=hub.symm
  have HUB:=hide hub
  have HR:=hide hr
  clear hub hr
  go_upto_region 4 with fail
  go_quiet (fail)
  have hbd:=below_drewN (Below.refl W2.heap.size W2) nq
  have HX3:=hide ((unhide HX2).below hbd)
  have HH3:=hide ((unhide HH2).keep hbd)
  have HM3:=hide ((unhide HM2).below hbd)
  clear hbd HM2 HX2 HH2 v8 m3 hd
  generalize W2.drewN nq = W3 at *
  have v9:=(unhide HH3).phead hi 9 (by omega)
  have v10:=(unhide HH3).phead hi 10 (by omega)
  have v11:=(unhide HH3).phead hi 11 (by omega)
  simp only [PeerM.head] at v9 v10 v11
  have hb4:=(Below.refl W3.heap.size W3).alloc (Nat.le_refl _) (.cells #[.int .i64 (T.peer i).vote.e,.int .i64 (T.peer i).vote.n,.int .i64 (T.peer i).vote.p] 100)
  have HX4:=hide ((unhide HX3).below hb4)
  have HH4:=hide ((unhide HH3).keep hb4)
  have HM4:=hide ((unhide HM3).below hb4)
  have HV4:=hide (Own.new (unhide HH3) #[.int .i64 (T.peer i).vote.e,.int .i64 (T.peer i).vote.n,.int .i64 (T.peer i).vote.p] 100)
  have HGV:Hid (W.heap.size ≤ W3.heap.size ∧ g < W3.heap.size):=⟨(unhide HX3).keeps.size,(unhide HM3).box.lt⟩
  clear hb4 HX3 HH3 HM3
  go_upto_if 39 with fail
  generalize W3.alloc (.cells #[.int .i64 (T.peer i).vote.e,.int .i64 (T.peer i).vote.n,.int .i64 (T.peer i).vote.p] 100) = W4 at *
  generalize W3.heap.size = gv at *
  clear v9 v10 v11
  obtain ⟨Ta,hTa⟩:∃ Ta,Ta = T.setPeer i { T.peer i with round:=m.round,votes:=T.votesOn i m }:=⟨_,rfl⟩
  have hia:i < Ta.ps.length:=by rw [hTa,TownM.setPeer_len];exact hi
  have HTA:=hide hTa
  clear hTa
  have hgg:gv ≠ g:=Nat.ne_of_gt (unhide HGV).2
  have HGG:=hide hgg
  clear hgg
  go_cut [] (fun wc => Rep wc L Ta ∧ DLinks W L wc L ∧ Own wc L g #[.int .i64 m.kind,.int .i64 m.src,.int .i64 m.dst,.int .i64 m.round,.int .i64 m.state,.int .i64 m.vote.e,.int .i64 m.vote.n,.int .i64 m.vote.p,.int .i64 m.epoch,.int .i64 m.news] 133 ∧ Own wc L gv (T.base i m).row 100)
  case first =>
   cases ub with
   | false =>
    have fin:Hid (Rep W4 L Ta ∧ DLinks W L W4 L ∧ Own W4 L g #[.int .i64 m.kind,.int .i64 m.src,.int .i64 m.dst,.int .i64 m.round,.int .i64 m.state,.int .i64 m.vote.e,.int .i64 m.vote.n,.int .i64 m.vote.p,.int .i64 m.epoch,.int .i64 m.news] 133 ∧ Own W4 L gv (T.base i m).row 100):=by
     have hu:¬ (T.peer i).round < m.round:=by simpa using (unhide HUB).symm
     have hre:m.round = (T.peer i).round:=by have:=unhide HR;omega
     have e1:Ta = T:=by
      rw [unhide HTA]
      unfold TownM.votesOn
      rw [if_neg hu,hre]
      exact TownM.set_self hi
     have e2:T.base i m = (T.peer i).vote:=by unfold TownM.base;rw [if_neg hu]
     rw [e1,e2]
     exact ⟨unhide HH4,unhide HX4,unhide HM4,unhide HV4⟩
    clear HH4 HX4 HM4 HV4
    go_wp2
    go_meet
    case rel => exact unhide fin
   | true =>
    have m3:W4.cell? ⟨g,3,none⟩ = some (.int .i64 m.round):=(unhide HM4).box.cell 3
    have y8:=(unhide HH4).pfrozen (i * 121 + 8)
    have v8:=(unhide HH4).phead hi 8 (by omega)
    simp only [PeerM.head] at v8
    have s5:=(unhide HH4).setRound hi m.round
    have HX5:=hide ((unhide HX4).peer (i * 121 + 8) (.int .i64 m.round))
    have HM5:=hide ((unhide HM4).peer (i * 121 + 8) (.int .i64 m.round))
    have HV5:=hide ((unhide HV4).peer (i * 121 + 8) (.int .i64 m.round))
    have HS5:=hide s5
    clear s5 HH4 HX4 HM4 HV4
    go_upto_region 8 with fail
    generalize W4.setCell ⟨L.bp,i * 121 + 8,none⟩ (.int .i64 m.round) = W5 at *
    clear m3 y8 v8
    obtain ⟨T5,hT5⟩:∃ T5,T5 = T.setPeer i { T.peer i with round:=m.round }:=⟨_,rfl⟩
    have hi5:i < T5.ps.length:=by rw [hT5,TownM.setPeer_len];exact hi
    rw [← hT5] at HS5
    have HT5:=hide hT5
    clear hT5
    have HTH:Hid (W5.there L.bp (i * 121 + 12) zKnown.size):=(unhide HS5).there hi5 12 _ (by rw [zKnown_size];omega)
    have s6:=(unhide HS5).layVotes hi5
    have HX6:=hide ((unhide HX5).peers zKnown.toList (i * 121 + 12))
    have HM6:=hide ((unhide HM5).peers zKnown.toList (i * 121 + 12))
    have HV6:=hide ((unhide HV5).peers zKnown.toList (i * 121 + 12))
    have hu:(T.peer i).round < m.round:=by simpa using (unhide HUB).symm
    have e6:T5.setPeer i { T5.peer i with votes:=known7 } = Ta:=by
     rw [unhide HT5,TownM.peer_set hi,TownM.set_set,unhide HTA]
     unfold TownM.votesOn
     rw [if_pos hu]
    have e7:T.base i m = T.own i:=by unfold TownM.base;rw [if_pos hu]
    rw [e6] at s6
    have e8:Ta.own i = T.own i:=by rw [unhide HTA];unfold TownM.own;rw [TownM.peer_set hi]
    have HE7:=hide e7
    have HE8:=hide e8
    have HS6:=hide s6
    clear s6 e6 e7 e8 hu HX5 HM5 HV5 HS5
    go_upto_region 9 with (first | (refine wpList_buildTo (by rfl) 154 #[] (by rfl) _ (by rfl) zKnown (by exact Tryz.builtKnown) ?_) | (refine wpList_store_mid (by rfl) 154 _ _ (by rfl) L.bp (i * 121 + 12) zKnown (by rfl) (by rfl) (unhide HTH) (by exact Tryz.sizeKnown) zKnown_one ?_))
    generalize W5.setCells L.bp (i * 121 + 12) zKnown.toList = W6 at *
    clear HTH
    have HO:=own_any i W6 L Ta (unhide HS6) hia
    rw [unhide HE8,← unhide HE7] at HO
    have HOH:=hide HO
    clear HO
    obtain ⟨bv,hbv⟩:∃ bv,bv = T.base i m:=⟨_,rfl⟩
    rw [← hbv] at HOH
    have HBV:=hide hbv
    clear hbv HE7 HE8
    go_wp2_with fail
    refine (unhide HOH).mono ?_
    rintro o w7 ⟨rfl,hb7⟩
    have hm7:=(unhide HM6).below hb7
    have hv7:=(unhide HV6).below hb7
    have x0:w7.cell? ⟨gv,0,none⟩ = some (.int .i64 (T.peer i).vote.e):=hv7.box.cell 0
    have x1:w7.cell? ⟨gv,1,none⟩ = some (.int .i64 (T.peer i).vote.n):=hv7.box.cell 1
    have x2:w7.cell? ⟨gv,2,none⟩ = some (.int .i64 (T.peer i).vote.p):=hv7.box.cell 2
    have z0:=hv7.box.frozen 0
    have z1:=hv7.box.frozen 1
    have z2:=hv7.box.frozen 2
    have hge:=(unhide HGV).1
    have hgg:=unhide HGG
    have fin:Hid (Rep (((w7.setCell ⟨gv,0,none⟩ (.int .i64 bv.e)).setCell ⟨gv,1,none⟩ (.int .i64 bv.n)).setCell ⟨gv,2,none⟩ (.int .i64 bv.p)) L Ta ∧ DLinks W L (((w7.setCell ⟨gv,0,none⟩ (.int .i64 bv.e)).setCell ⟨gv,1,none⟩ (.int .i64 bv.n)).setCell ⟨gv,2,none⟩ (.int .i64 bv.p)) L ∧ Own (((w7.setCell ⟨gv,0,none⟩ (.int .i64 bv.e)).setCell ⟨gv,1,none⟩ (.int .i64 bv.n)).setCell ⟨gv,2,none⟩ (.int .i64 bv.p)) L g #[.int .i64 m.kind,.int .i64 m.src,.int .i64 m.dst,.int .i64 m.round,.int .i64 m.state,.int .i64 m.vote.e,.int .i64 m.vote.n,.int .i64 m.vote.p,.int .i64 m.epoch,.int .i64 m.news] 133 ∧ Own (((w7.setCell ⟨gv,0,none⟩ (.int .i64 bv.e)).setCell ⟨gv,1,none⟩ (.int .i64 bv.n)).setCell ⟨gv,2,none⟩ (.int .i64 bv.p)) L gv bv.row 100) :=
     ⟨((((unhide HS6).keep hb7).far hv7.out).far hv7.out).far hv7.out,((((unhide HX6).below hb7).far hge).far hge).far hge,((hm7.setOther (fun e => hgg e.symm) _).setOther (fun e => hgg e.symm) _).setOther (fun e => hgg e.symm) _,((hv7.set 0 _).set 1 _).set 2 _⟩
    clear hm7 hv7 hb7 HOH HM6 HV6 HS6 HX6 hge hgg HGG
    go_wp2
    go_meet
    case rel => rw [← unhide HBV];exact unhide fin
  case rest =>
   obtain ⟨r5,k5,o5,b5⟩:=hcut
   obtain ⟨bv,hbv⟩:∃ bv,bv = T.base i m:=⟨_,rfl⟩
   rw [← hbv] at b5
   obtain ⟨gb,hgb⟩:∃ gb,gb = m.vote.better bv:=⟨_,rfl⟩
   have m5:wc.cell? ⟨g,5,none⟩ = some (.int .i64 m.vote.e):=o5.box.cell 5
   have m6:wc.cell? ⟨g,6,none⟩ = some (.int .i64 m.vote.n):=o5.box.cell 6
   have m7:wc.cell? ⟨g,7,none⟩ = some (.int .i64 m.vote.p):=o5.box.cell 7
   have x0:wc.cell? ⟨gv,0,none⟩ = some (.int .i64 bv.e):=b5.box.cell 0
   have x1:wc.cell? ⟨gv,1,none⟩ = some (.int .i64 bv.n):=b5.box.cell 1
   have x2:wc.cell? ⟨gv,2,none⟩ = some (.int .i64 bv.p):=b5.box.cell 2
   have HB:=dbetter_any m.vote bv wc
   rw [← hgb] at HB
   have HBT:=hide HB
   have HBV:=hide hbv
   have HGB:=hide hgb
   have HR5:=hide r5
   have HK5:=hide k5
   have HO5:=hide o5
   have HB5:=hide b5
   clear HB hbv hgb r5 k5 o5 b5 HH4 HX4 HM4 HV4
   go_wp2_with fail
   refine (unhide HBT).mono ?_
   rintro o w6 ⟨rfl,hb6⟩
   have HR6:=hide ((unhide HR5).keep hb6)
   have HK6:=hide ((unhide HK5).below hb6)
   have HO6:=hide ((unhide HO5).below hb6)
   have HB6:=hide ((unhide HB5).below hb6)
   clear HR5 HK5 HO5 HB5 hb6 HBT m5 m6 m7 x0 x1 x2
   go_upto_if 56 with fail
   have HVO:Hid (T.voteOn i m = if gb = true then m.vote else bv):=by
    show _ = _
    unfold TownM.voteOn TownM.good
    rw [← unhide HBV,← unhide HGB]
   go_cut [] (fun wd => Rep wd L Ta ∧ DLinks W L wd L ∧ Own wd L g #[.int .i64 m.kind,.int .i64 m.src,.int .i64 m.dst,.int .i64 m.round,.int .i64 m.state,.int .i64 m.vote.e,.int .i64 m.vote.n,.int .i64 m.vote.p,.int .i64 m.epoch,.int .i64 m.news] 133 ∧ Own wd L gv (T.voteOn i m).row 100)
   case first =>
    cases gb with
    | false =>
     have fin:Hid (Rep w6 L Ta ∧ DLinks W L w6 L ∧ Own w6 L g #[.int .i64 m.kind,.int .i64 m.src,.int .i64 m.dst,.int .i64 m.round,.int .i64 m.state,.int .i64 m.vote.e,.int .i64 m.vote.n,.int .i64 m.vote.p,.int .i64 m.epoch,.int .i64 m.news] 133 ∧ Own w6 L gv (T.voteOn i m).row 100):=by
      rw [unhide HVO]
      exact ⟨unhide HR6,unhide HK6,unhide HO6,unhide HB6⟩
     clear HR6 HK6 HO6 HB6
     go_wp2
     go_meet
     case rel => exact unhide fin
    | true =>
     have m5:w6.cell? ⟨g,5,none⟩ = some (.int .i64 m.vote.e):=(unhide HO6).box.cell 5
     have m6:w6.cell? ⟨g,6,none⟩ = some (.int .i64 m.vote.n):=(unhide HO6).box.cell 6
     have m7:w6.cell? ⟨g,7,none⟩ = some (.int .i64 m.vote.p):=(unhide HO6).box.cell 7
     have x0:w6.cell? ⟨gv,0,none⟩ = some (.int .i64 bv.e):=(unhide HB6).box.cell 0
     have x1:w6.cell? ⟨gv,1,none⟩ = some (.int .i64 bv.n):=(unhide HB6).box.cell 1
     have x2:w6.cell? ⟨gv,2,none⟩ = some (.int .i64 bv.p):=(unhide HB6).box.cell 2
     have z0:=(unhide HB6).box.frozen 0
     have z1:=(unhide HB6).box.frozen 1
     have z2:=(unhide HB6).box.frozen 2
     have hge:=(unhide HGV).1
     have hgg:=unhide HGG
     have hvo:=(unhide HB6).out
     have fin:Hid (Rep (((w6.setCell ⟨gv,0,none⟩ (.int .i64 m.vote.e)).setCell ⟨gv,1,none⟩ (.int .i64 m.vote.n)).setCell ⟨gv,2,none⟩ (.int .i64 m.vote.p)) L Ta ∧ DLinks W L (((w6.setCell ⟨gv,0,none⟩ (.int .i64 m.vote.e)).setCell ⟨gv,1,none⟩ (.int .i64 m.vote.n)).setCell ⟨gv,2,none⟩ (.int .i64 m.vote.p)) L ∧ Own (((w6.setCell ⟨gv,0,none⟩ (.int .i64 m.vote.e)).setCell ⟨gv,1,none⟩ (.int .i64 m.vote.n)).setCell ⟨gv,2,none⟩ (.int .i64 m.vote.p)) L g #[.int .i64 m.kind,.int .i64 m.src,.int .i64 m.dst,.int .i64 m.round,.int .i64 m.state,.int .i64 m.vote.e,.int .i64 m.vote.n,.int .i64 m.vote.p,.int .i64 m.epoch,.int .i64 m.news] 133 ∧ Own (((w6.setCell ⟨gv,0,none⟩ (.int .i64 m.vote.e)).setCell ⟨gv,1,none⟩ (.int .i64 m.vote.n)).setCell ⟨gv,2,none⟩ (.int .i64 m.vote.p)) L gv (T.voteOn i m).row 100):=by
      rw [unhide HVO]
      exact ⟨(((unhide HR6).far hvo).far hvo).far hvo,(((unhide HK6).far hge).far hge).far hge,(((unhide HO6).setOther (fun e => hgg e.symm) _).setOther (fun e => hgg e.symm) _).setOther (fun e => hgg e.symm) _,(((unhide HB6).set 0 _).set 1 _).set 2 _⟩
     clear HR6 HK6 HO6 HB6 hge hgg hvo
     go_wp2
     go_meet
     case rel => exact unhide fin
   case rest =>
    obtain ⟨r7,k7,o7,b7⟩:=hcut
    have HR7:=hide r7
    have HK7:=hide k7
    have HO7:=hide o7
    have HB7:=hide b7
    clear r7 k7 o7 b7 HR6 HK6 HO6 HB6 HVO
    have HFR:Hid (T.fresh i m = (ub || gb)):=by
     show _ = _
     unfold TownM.fresh TownM.good
     rw [← unhide HBV,← unhide HGB,← unhide HUB]
    go_upto_region 13 with fail
    go_cut [62] (fun s we => s = .bool (ub || gb) ∧ we = wc)
    case first =>
     cases ub with
     | false =>
      go_wp2
      go_meet
      case rel => exact ⟨rfl,rfl⟩
     | true =>
      go_wp2
      go_meet
      case rel => exact ⟨rfl,rfl⟩
    case rest =>
     obtain ⟨rfl,rfl⟩:=hcut
     generalize (ub || gb) = fb at *
     go_upto_if 62 with fail
     obtain ⟨vo,hvo⟩:∃ vo,vo = T.voteOn i m:=⟨_,rfl⟩
     rw [← hvo] at HB7
     have HVO:=hide hvo
     clear hvo
     go_cut [] (fun we => ∃ L2,Rep we L2 (T.take2 i m) ∧ DLinks W L we L2 ∧ Own we L2 g #[.int .i64 m.kind,.int .i64 m.src,.int .i64 m.dst,.int .i64 m.round,.int .i64 m.state,.int .i64 m.vote.e,.int .i64 m.vote.n,.int .i64 m.vote.p,.int .i64 m.epoch,.int .i64 m.news] 133)
     case first =>
      cases fb with
      | false =>
       have fin:Hid (∃ L2,Rep wc L2 (T.take2 i m) ∧ DLinks W L wc L2 ∧ Own wc L2 g #[.int .i64 m.kind,.int .i64 m.src,.int .i64 m.dst,.int .i64 m.round,.int .i64 m.state,.int .i64 m.vote.e,.int .i64 m.vote.n,.int .i64 m.vote.p,.int .i64 m.epoch,.int .i64 m.news] 133):=by
        have hf:=unhide HFR
        have e:T.take2 i m = Ta:=by
         unfold TownM.take2 TownM.take1
         rw [if_neg (by rw [hf];simp),hf,unhide HTA]
         unfold TownM.fresh at hf
         simp only [Bool.or_eq_false_iff,decide_eq_false_iff_not] at hf
         have e1:T.voteOn i m = (T.peer i).vote:=by
          unfold TownM.voteOn
          rw [if_neg (by rw [hf.2];simp)]
          unfold TownM.base
          rw [if_neg hf.1]
         rw [e1]
         simp only [Bool.not_false,Bool.and_true]
        rw [e]
        exact ⟨L,unhide HR7,unhide HK7,unhide HO7⟩
       clear HR7 HK7 HO7 HB7
       go_wp2
       go_meet
       case rel => exact unhide fin
      | true =>
       have x0:wc.cell? ⟨gv,0,none⟩ = some (.int .i64 vo.e):=(unhide HB7).box.cell 0
       have x1:wc.cell? ⟨gv,1,none⟩ = some (.int .i64 vo.n):=(unhide HB7).box.cell 1
       have x2:wc.cell? ⟨gv,2,none⟩ = some (.int .i64 vo.p):=(unhide HB7).box.cell 2
       have e9:=(unhide HR7).phead hia 9 (by omega)
       have e10:=(unhide HR7).phead hia 10 (by omega)
       have e11:=(unhide HR7).phead hia 11 (by omega)
       have e82:=(unhide HR7).pmid hia 0 (by omega)
       have y9:=(unhide HR7).pfrozen (i * 121 + 9)
       have y10:=(unhide HR7).pfrozen (i * 121 + 10)
       have y11:=(unhide HR7).pfrozen (i * 121 + 11)
       have y82:=(unhide HR7).pfrozen (i * 121 + 82)
       simp only [PeerM.head,Nat.reduceAdd] at e9 e10 e11 e82
       have s8:Rep ((((wc.setCell ⟨L.bp,i * 121 + 9,none⟩ (.int .i64 vo.e)).setCell ⟨L.bp,i * 121 + 9 + 1,none⟩ (.int .i64 vo.n)).setCell ⟨L.bp,i * 121 + 9 + 2,none⟩ (.int .i64 vo.p)).setCell ⟨L.bp,i * 121 + 82,none⟩ (.bool false)) L (T.take1 i m):=by
        have t1:=(unhide HR7).setVote hia vo
        have t2:=t1.setWaits (i:=i) (by rw [TownM.setPeer_len];exact hia) false
        rw [TownM.peer_set hia,TownM.set_set,unhide HTA,TownM.peer_set hi,TownM.set_set] at t2
        unfold TownM.take1
        rw [unhide HFR,← unhide HVO]
        simp only [Bool.not_true,Bool.and_false]
        exact t2
       have HK8:=hide (((((unhide HK7).peer (i * 121 + 9) (.int .i64 vo.e)).peer (i * 121 + 9 + 1) (.int .i64 vo.n)).peer (i * 121 + 9 + 2) (.int .i64 vo.p)).peer (i * 121 + 82) (.bool false))
       have HO8:=hide (((((unhide HO7).peer (i * 121 + 9) (.int .i64 vo.e)).peer (i * 121 + 9 + 1) (.int .i64 vo.n)).peer (i * 121 + 9 + 2) (.int .i64 vo.p)).peer (i * 121 + 82) (.bool false))
       have hl8:(T.take1 i m).ps.length = T.ps.length:=TownM.setPeer_len _ _ _
       have HC:=hide (notices_any i _ L (T.take1 i m) s8 (by rw [hl8];exact hi) (by rw [hl8];exact hp) hn)
       have HT2:Hid (T.take2 i m = (T.take1 i m).notices i):=by
        show _ = _
        unfold TownM.take2
        rw [if_pos (unhide HFR)]
       clear s8 hl8 HR7 HK7 HO7 HB7
       go_wp2_with fail
       refine (unhide HC).mono ?_
       rintro o w9 ⟨rfl,hd9⟩
       obtain ⟨L2,r9,k9⟩:=hd9.open
       have fin:Hid (∃ L2,Rep w9 L2 (T.take2 i m) ∧ DLinks W L w9 L2 ∧ Own w9 L2 g #[.int .i64 m.kind,.int .i64 m.src,.int .i64 m.dst,.int .i64 m.round,.int .i64 m.state,.int .i64 m.vote.e,.int .i64 m.vote.n,.int .i64 m.vote.p,.int .i64 m.epoch,.int .i64 m.news] 133):=by
        rw [unhide HT2]
        exact ⟨L2,r9,(unhide HK8).trans k9,(unhide HO8).links k9⟩
       clear hd9 r9 k9 HC HK8 HO8 x0 x1 x2 e9 e10 e11 e82 y9 y10 y11 y82
       go_wp2
       go_meet
       case rel => exact unhide fin
     case rest =>
      obtain ⟨L2,r9,k9,o9⟩:=hcut
      have hl9:(T.take2 i m).ps.length = T.ps.length:=by
       unfold TownM.take2
       split
       ·rw [notices_ps];exact TownM.setPeer_len _ _ _
       ·exact TownM.setPeer_len _ _ _
      have hi9:i < (T.take2 i m).ps.length:=by rw [hl9];exact hi
      have m1:wc.cell? ⟨g,1,none⟩ = some (.int .i64 (k:Int)):=by rw [← unhide HSRC];exact o9.box.cell 1
      have m5:wc.cell? ⟨g,5,none⟩ = some (.int .i64 m.vote.e):=o9.box.cell 5
      have m6:wc.cell? ⟨g,6,none⟩ = some (.int .i64 m.vote.n):=o9.box.cell 6
      have m7:wc.cell? ⟨g,7,none⟩ = some (.int .i64 m.vote.p):=o9.box.cell 7
      have k0:(0:Int) ≤ (k:Int):=by omega
      have k7:(k:Int) < 7:=by omega
      have w0:=r9.pvote hi9 (k:=k) (j:=0) hk (by omega)
      have w1:=r9.pvote hi9 (k:=k) (j:=1) hk (by omega)
      have w2:=r9.pvote hi9 (k:=k) (j:=2) hk (by omega)
      have w3:=r9.pvote hi9 (k:=k) (j:=3) hk (by omega)
      have w4:=r9.pvote hi9 (k:=k) (j:=4) hk (by omega)
      have y0:=r9.pfrozen (i * 121 + 12 + k * 5)
      have y1:=r9.pfrozen (i * 121 + 12 + k * 5 + 1)
      have y2:=r9.pfrozen (i * 121 + 12 + k * 5 + 2)
      have y3:=r9.pfrozen (i * 121 + 12 + k * 5 + 3)
      have y4:=r9.pfrozen (i * 121 + 12 + k * 5 + 4)
      simp only [KnownM.cells,Nat.add_zero] at w0 w1 w2 w3 w4
      rw [k9.bp] at w0 w1 w2 w3 w4 y0 y1 y2 y3 y4
      have hne:g ≠ L.bp:=fun e => o9.out (mem_blocks.2 (.inr (.inl (by rw [k9.bp];exact e))))
      have hne2:L.bp ≠ g:=fun e => hne e.symm
      have s10:Rep (((((wc.setCell ⟨L2.bp,i * 121 + 12 + k * 5,none⟩ (.bool true)).setCell ⟨L2.bp,i * 121 + 12 + k * 5 + 1,none⟩ (.int .i64 m.vote.e)).setCell ⟨L2.bp,i * 121 + 12 + k * 5 + 2,none⟩ (.int .i64 m.vote.n)).setCell ⟨L2.bp,i * 121 + 12 + k * 5 + 3,none⟩ (.int .i64 m.vote.p)).setCell ⟨L2.bp,i * 121 + 12 + k * 5 + 4,none⟩ (.int .i64 0)).drew L2 ((T.take2 i m).know i m):=by
       have t1:=r9.layVote1 hi9 hk ⟨true,m.vote,0⟩
       rw [show i * 121 + (12 + k * 5) = i * 121 + 12 + k * 5 from by omega] at t1
       have t2:=t1.keep ((Below.refl _ _).drew)
       unfold TownM.know
       rw [unhide HSRC,Int.toNat_natCast]
       exact t2
      have k10:DLinks W L (((((wc.setCell ⟨L2.bp,i * 121 + 12 + k * 5,none⟩ (.bool true)).setCell ⟨L2.bp,i * 121 + 12 + k * 5 + 1,none⟩ (.int .i64 m.vote.e)).setCell ⟨L2.bp,i * 121 + 12 + k * 5 + 2,none⟩ (.int .i64 m.vote.n)).setCell ⟨L2.bp,i * 121 + 12 + k * 5 + 3,none⟩ (.int .i64 m.vote.p)).setCell ⟨L2.bp,i * 121 + 12 + k * 5 + 4,none⟩ (.int .i64 0)).drew L2 :=
       (((((k9.peer _ _).peer _ _).peer _ _).peer _ _).peer _ _).below ((Below.refl _ _).drew)
      have hl10:((T.take2 i m).know i m).ps.length = T.ps.length:=(TownM.setPeer_len _ _ _).trans hl9
      have HC0:=count_loop i _ L2 ((T.take2 i m).know i m) s10 (by rw [hl10];exact hi) (by rw [hl10];exact hp)
      have HC1:=k10.calls HC0 (unhide HLK)
      rw [k9.bt,k9.bp] at HC1
      have HC:=hide HC1
      clear HC0 HC1 s10 k10 r9 k9 o9
      go_upto_region 17 with fail
      go_region
      all_goals
       clear m1 m5 m6 m7 w0 w1 w2 w3 w4 y0 y1 y2 y3 y4
       go_wp2_with fail
       refine (unhide HC).mono ?_
       rintro o w11 ⟨rfl,hd⟩
       have HE:=hide hd
       clear hd HC
       go_wp2
       go_end0
       exact ⟨rfl,unhide HE⟩
end Go.Proofs.YtceappncglfciaaGreat
