import Derived.Test.YtceappncglfciaaGreatM32
import Derived.Deep.DeepCutAuto
import Derived.Great.BuildSlice
import Derived.Deep.RegionWith
import Derived.Test.YtceappncglfciaaGreatM10
set_option linter.unusedVariables false
set_option linter.unusedSimpArgs false
namespace Go.Proofs.YtceappncglfciaaGreat
open Go.RowKit
attribute [local go_sem ↓] Go.wp_at_zero Go.wp_at_succ
def zKnown:Array Value:=(known7.flatMap KnownM.cells).toArray
theorem Tryz.sizeKnown:(Tryz.prog.info? 154).map (·.size) = some zKnown.size:=by kernel_rfl
theorem zKnown_size:zKnown.size = 35:=by kernel_rfl
theorem zKnown_one:zKnown.all (·.oneCell') = true:=by kernel_rfl
section
variable {W:World} {L:Lies} {T:TownM}
theorem Rep.setVote (h:Rep W L T) {i:Nat} (hi:i < T.ps.length) (v:VoteM):Rep (((W.setCell ⟨L.bp,i * 121 + 9,none⟩ (.int .i64 v.e)).setCell ⟨L.bp,i * 121 + 9 + 1,none⟩ (.int .i64 v.n)).setCell ⟨L.bp,i * 121 + 9 + 2,none⟩ (.int .i64 v.p)) L (T.setPeer i { T.peer i with vote:=v }):=by
 have s1:=h.setP (f:=9) hi (by omega) (.int .i64 v.e) { T.peer i with vote:={ (T.peer i).vote with e:=v.e } } (PeerM.set_head 9 (by omega) _ _ rfl rfl rfl rfl rfl rfl rfl rfl) (h.fit (T.peer i) (TownM.peer_mem hi))
 have hi1:i < (T.setPeer i { T.peer i with vote:={ (T.peer i).vote with e:=v.e } }).ps.length:=by rw [TownM.setPeer_len];exact hi
 have s2:=s1.setP (f:=10) hi1 (by omega) (.int .i64 v.n) { T.peer i with vote:=⟨v.e,v.n,(T.peer i).vote.p⟩ } (by rw [TownM.peer_set hi];exact PeerM.set_head 10 (by omega) _ _ rfl rfl rfl rfl rfl rfl rfl rfl) (h.fit (T.peer i) (TownM.peer_mem hi))
 rw [TownM.set_set] at s2
 have hi2:i < (T.setPeer i { T.peer i with vote:=⟨v.e,v.n,(T.peer i).vote.p⟩ }).ps.length:=by rw [TownM.setPeer_len];exact hi
 have s3:=s2.setP (f:=11) hi2 (by omega) (.int .i64 v.p) { T.peer i with vote:=v } (by rw [TownM.peer_set hi];exact PeerM.set_head 11 (by omega) _ _ rfl rfl rfl rfl rfl rfl rfl rfl) (h.fit (T.peer i) (TownM.peer_mem hi))
 rw [TownM.set_set] at s3
 exact s3
theorem Rep.layVotes (h:Rep W L T) {i:Nat} (hi:i < T.ps.length):Rep (W.setCells L.bp (i * 121 + 12) zKnown.toList) L (T.setPeer i { T.peer i with votes:=known7 }) :=
 h.setR hi _ (by rw [Array.length_toList,zKnown_size];omega) _ (PeerM.lay_votes (h.fit _ (TownM.peer_mem hi)) known7 rfl) ⟨rfl,(h.fit (T.peer i) (TownM.peer_mem hi)).2.1,(h.fit (T.peer i) (TownM.peer_mem hi)).2.2⟩
theorem Rep.laySettled (h:Rep W L T) {i:Nat} (hi:i < T.ps.length):Rep (W.setCells L.bp (i * 121 + 47) zKnown.toList) L (T.setPeer i { T.peer i with settled:=known7 }) :=
 h.setR hi _ (by rw [Array.length_toList,zKnown_size];omega) _ (PeerM.lay_settled (h.fit _ (TownM.peer_mem hi)) known7 rfl) ⟨(h.fit (T.peer i) (TownM.peer_mem hi)).1,rfl,(h.fit (T.peer i) (TownM.peer_mem hi)).2.2⟩
theorem Keeps.peers {W0 W:World} {L:Lies} (h:Keeps L.blocks W0 W):∀ (vs:List Value) (o:Nat),Keeps L.blocks W0 (W.setCells L.bp o vs)
 | [],_ => h
 | v :: r,o => by rw [World.setCells];exact Keeps.peers (h.peer o v) r (o + 1)
end
set_option maxRecDepth 100000 in
set_option maxHeartbeats 1000000 in
theorem dlook_any (i:Nat) (W:World) (L:Lies) (T:TownM) (h:Rep W L T) (hi:i < T.ps.length) (hp:T.ps.length ≤ 7) (hn:T.net ≤ 1000) (hr0:0 ≤ (T.peer i).round) (hr1:(T.peer i).round ≤ 1000000000000) :
  Calls Tryz.prog 96 #[.pointer (some ⟨L.bt,0,none⟩),.int .i64 i] W fun o w' => o = .returned (.tuple #[]) ∧ Did W L w' (T.look i):=by
 have c4:=h.cell 4
 have q0:(0:Int) ≤ (i:Int):=by omega
 have q1:(i:Int) < (T.ps.length:Int):=by omega
 have v3:=h.phead hi 3 (by omega)
 have v8:=h.phead hi 8 (by omega)
 have y3:=h.pfrozen (i * 121 + 3)
 have y8:=h.pfrozen (i * 121 + 8)
 simp only [PeerM.head] at v3 v8
 have HH:=hide h
 clear h
 go_enter Tryz.func96,Tryz.ntmps96
 go_wp2_with fail
 obtain ⟨T2,hT2⟩:∃ T2,T2 = T.setPeer i { T.peer i with state:=0,round:=(T.peer i).round + 1 }:=⟨_,rfl⟩
 have s2:Rep ((W.setCell ⟨L.bp,i * 121 + 3,none⟩ (.int .i64 0)).setCell ⟨L.bp,i * 121 + 8,none⟩ (.int .i64 ((T.peer i).round + 1))) L T2:=by
  have s1:=(unhide HH).setState hi 0
  have s2:=s1.setRound (i:=i) (by rw [TownM.setPeer_len];exact hi) ((T.peer i).round + 1)
  rw [TownM.peer_set hi,TownM.set_set] at s2
  rw [hT2];exact s2
 have K2:=((Keeps.refl L.blocks W).peer (i * 121 + 3) (.int .i64 0)).peer (i * 121 + 8) (.int .i64 ((T.peer i).round + 1))
 have hi2:i < T2.ps.length:=by rw [hT2,TownM.setPeer_len];exact hi
 have ho:T2.own i = T.own i:=by rw [hT2];unfold TownM.own;rw [TownM.peer_set hi]
 have hl:T2.ps.length = T.ps.length:=by rw [hT2,TownM.setPeer_len]
 have HO:=own_any i _ L _ s2 hi2
 rw [ho] at HO
 refine HO.mono ?_
 rintro o w3 ⟨rfl,hb⟩
 have s3:=s2.keep hb
 have K3:=K2.trans (Keeps.of_below (fp:=L.blocks) hb) (fun x hx => .inl hx)
 have e9:=s3.phead hi2 9 (by omega)
 have e10:=s3.phead hi2 10 (by omega)
 have e11:=s3.phead hi2 11 (by omega)
 have e82:=s3.pmid hi2 0 (by omega)
 have y9:=s3.pfrozen (i * 121 + 9)
 have y10:=s3.pfrozen (i * 121 + 10)
 have y11:=s3.pfrozen (i * 121 + 11)
 have y82:=s3.pfrozen (i * 121 + 82)
 simp only [PeerM.head,Nat.reduceAdd] at e9 e10 e11 e82
 have HS3:=hide s3
 have HK3:=hide K3
 have HT2:=hide hT2
 have HL:=hide hl
 clear s2 s3 K2 K3 HO ho hb v3 v8 y3 y8 c4 HH hT2 hl
 generalize T2.peer i = p2 at *
 have HOW:Hid (∃ ow,ow = T.own i):=⟨_,rfl⟩
 obtain ⟨ow,how⟩:=unhide HOW
 rw [← how]
 have HW:=hide how
 clear how HOW
 go_upto_region 5 with fail
 obtain ⟨T4,hT4⟩:∃ T4,T4 = T.setPeer i { T.peer i with state:=0,round:=(T.peer i).round + 1,vote:=ow,waits:=false }:=⟨_,rfl⟩
 have hi4:i < T4.ps.length:=by rw [hT4,TownM.setPeer_len];exact hi
 have s4:Rep ((((w3.setCell ⟨L.bp,i * 121 + 9,none⟩ (.int .i64 ow.e)).setCell ⟨L.bp,i * 121 + 9 + 1,none⟩ (.int .i64 ow.n)).setCell ⟨L.bp,i * 121 + 9 + 2,none⟩ (.int .i64 ow.p)).setCell ⟨L.bp,i * 121 + 82,none⟩ (.bool false)) L T4:=by
  have t1:=(unhide HS3).setVote hi2 ow
  have t2:=t1.setWaits (i:=i) (by rw [TownM.setPeer_len];exact hi2) false
  rw [TownM.peer_set hi2,TownM.set_set] at t2
  rw [hT4]
  rw [unhide HT2,TownM.peer_set hi,TownM.set_set] at t2
  exact t2
 have K4:=((((unhide HK3).peer (i * 121 + 9) (.int .i64 ow.e)).peer (i * 121 + 9 + 1) (.int .i64 ow.n)).peer (i * 121 + 9 + 2) (.int .i64 ow.p)).peer (i * 121 + 82) (.bool false)
 have HS4:=hide s4
 have HK4:=hide K4
 have HT4:=hide hT4
 clear s4 K4 hT4 HS3 HK3 HT2 HL e9 e10 e11 e82 y9 y10 y11 y82
 generalize (((w3.setCell ⟨L.bp,i * 121 + 9,none⟩ (.int .i64 ow.e)).setCell ⟨L.bp,i * 121 + 9 + 1,none⟩ (.int .i64 ow.n)).setCell ⟨L.bp,i * 121 + 9 + 2,none⟩ (.int .i64 ow.p)).setCell ⟨L.bp,i * 121 + 82,none⟩ (.bool false) = w4 at *
 have HTH1:Hid (w4.there L.bp (i * 121 + 12) zKnown.size):=(unhide HS4).there hi4 12 _ (by rw [zKnown_size];omega)
 have s5:=(unhide HS4).layVotes hi4
 have HTH2:Hid ((w4.setCells L.bp (i * 121 + 12) zKnown.toList).there L.bp (i * 121 + 47) zKnown.size):=s5.there (by rw [TownM.setPeer_len];exact hi4) 47 _ (by rw [zKnown_size];omega)
 have s6:=s5.laySettled (i:=i) (by rw [TownM.setPeer_len];exact hi4)
 rw [TownM.peer_set hi4,TownM.set_set] at s6
 obtain ⟨T6,hT6⟩:∃ T6,T6 = T.setPeer i { T.peer i with state:=0,round:=(T.peer i).round + 1,vote:=T.own i,waits:=false,votes:=known7,settled:=known7 }:=⟨_,rfl⟩
 have s6':Rep ((w4.setCells L.bp (i * 121 + 12) zKnown.toList).setCells L.bp (i * 121 + 47) zKnown.toList) L T6:=by
  rw [hT6,← unhide HW]
  rw [unhide HT4,TownM.peer_set hi,TownM.set_set] at s6
  exact s6
 have HS6:=hide s6'
 have HK6:=hide (((unhide HK4).peers zKnown.toList (i * 121 + 12)).peers zKnown.toList (i * 121 + 47))
 have HT6:=hide hT6
 clear s5 s6 s6' hT6 HS4 HT4 HK4
 go_upto_region 6 with (first | (refine wpList_buildTo (by rfl) 154 #[] (by rfl) (some 31) (by rfl) zKnown (by exact Tryz.builtKnown) ?_) | (refine wpList_store_mid (by rfl) 154 _ _ (by rfl) L.bp (i * 121 + 12) zKnown (by rfl) (by rfl) (unhide HTH1) (by exact Tryz.sizeKnown) zKnown_one ?_))
 go_upto_region 7 with (first | (refine wpList_buildTo (by rfl) 154 #[] (by rfl) (some 35) (by rfl) zKnown (by exact Tryz.builtKnown) ?_) | (refine wpList_store_mid (by rfl) 154 _ _ (by rfl) L.bp (i * 121 + 47) zKnown (by rfl) (by rfl) (unhide HTH2) (by exact Tryz.sizeKnown) zKnown_one ?_))
 clear HTH1 HTH2
 generalize (w4.setCells L.bp (i * 121 + 12) zKnown.toList).setCells L.bp (i * 121 + 47) zKnown.toList = w6 at *
 have hl6:T6.ps.length = T.ps.length:=by rw [unhide HT6,TownM.setPeer_len]
 have hn6:T6.net = T.net:=by rw [unhide HT6];rfl
 go_wp2_with fail
 refine (notices_any i w6 L T6 (unhide HS6) (by omega) (by omega) (by omega)).mono ?_
 rintro o w7 ⟨rfl,v,e,r7,k7,b7⟩
 have hl7:(T6.notices i).ps.length = T.ps.length:=by rw [show (T6.notices i).ps = T6.ps from TownM.noticesTo_ps T6 i _,hl6]
 have HC:=hide (count_loop i w7 { L with way:=v,ev:=e } (T6.notices i) r7 (by omega) (by omega))
 have HK7:=hide ((unhide HK6).trans k7 (fun x hx => .inl hx))
 have HB7:Hid (∀ x ∈ Lies.blocks { L with way:=v,ev:=e },x ∈ L.blocks ∨ W.heap.size ≤ x):=fun x hx => by
  rcases b7 x hx with h1 | h1
  ·exact .inl h1
  ·exact .inr (Nat.le_trans (unhide HK6).size h1)
 have HTL:Hid (T.look i = (T6.notices i).count i):=by
  show _ = _
  rw [unhide HT6];rfl
 clear r7 k7 b7 HK6 HS6 HT6
 go_wp2_with fail
 refine (unhide HC).mono ?_
 rintro o w8 ⟨rfl,hd⟩
 have fin:=hide (Did.next (unhide HK7) (unhide HB7) hd)
 rw [← unhide HTL] at fin
 clear hd HC HK7 HB7 HTL
 go_wp2
 go_end0
 exact ⟨rfl,unhide fin⟩
end Go.Proofs.YtceappncglfciaaGreat
namespace Go.Proofs.YtceappncglfciaaGreat
open Go.RowKit
attribute [local go_sem ↓] Go.wp_at_zero Go.wp_at_succ
set_option maxRecDepth 100000 in
set_option maxHeartbeats 1000000 in
theorem dfollow_any (i:Nat) (v:VoteM) (W:World) (L:Lies) (T:TownM) (h:Rep W L T) (hi:i < T.ps.length) (hp:T.ps.length ≤ 7) (hn:T.net ≤ 1000) :
  Calls Tryz.prog 103 #[.pointer (some ⟨L.bt,0,none⟩),.int .i64 i,.agg #[.int .i64 v.e,.int .i64 v.n,.int .i64 v.p]] W fun o w' => o = .returned (.tuple #[]) ∧ Did W L w' (T.follow i v):=by
 have hb:=(Below.refl W.heap.size W).alloc (Nat.le_refl _) (.cells #[.int .i64 v.e,.int .i64 v.n,.int .i64 v.p] 100)
 have h1:=h.keep hb
 have hz:=heap_alloc_new W (.cells #[.int .i64 v.e,.int .i64 v.n,.int .i64 v.p] 100)
 have hz':(W.alloc (.cells #[.int .i64 v.e,.int .i64 v.n,.int .i64 v.p] 100)).heap.size = W.heap.size + 1:=World.size_alloc _ _
 have nb:W.heap.size ≠ L.bp:=by
  obtain ⟨cur,hp,_⟩:=h.peers
  have:=(Array.getElem?_eq_some_iff.1 hp).1
  omega
 have nb':L.bp ≠ W.heap.size:=fun e => nb e.symm
 have HH:=hide h1
 have HB:=hide hb
 clear h h1 hb
 go_enter Tryz.func103,Tryz.ntmps103
 go_upto_region 1 with fail
 generalize W.alloc (.cells #[.int .i64 v.e,.int .i64 v.n,.int .i64 v.p] 100) = W1 at *
 have c4:=(unhide HH).cell 4
 have c5:=(unhide HH).cell 5
 have q0:(0:Int) ≤ (i:Int):=by omega
 have q1:(i:Int) < (T.ps.length:Int):=by omega
 have b0:W1.cell? ⟨W.heap.size,0,none⟩ = some (.int .i64 v.e):=(cell_of_row W1 _ 0 _ _ (0,0) hz).trans rfl
 have b1:W1.cell? ⟨W.heap.size,1,none⟩ = some (.int .i64 v.n):=(cell_of_row W1 _ 1 _ _ (0,0) hz).trans rfl
 have b2:W1.cell? ⟨W.heap.size,2,none⟩ = some (.int .i64 v.p):=(cell_of_row W1 _ 2 _ _ (0,0) hz).trans rfl
 have v3:=(unhide HH).phead hi 3 (by omega)
 have v4:=(unhide HH).phead hi 4 (by omega)
 have v9:=(unhide HH).phead hi 9 (by omega)
 have v10:=(unhide HH).phead hi 10 (by omega)
 have v11:=(unhide HH).phead hi 11 (by omega)
 have v83:=(unhide HH).pmid hi 1 (by omega)
 have y3:=(unhide HH).pfrozen (i * 121 + 3)
 have y9:=(unhide HH).pfrozen (i * 121 + 9)
 have y10:=(unhide HH).pfrozen (i * 121 + 10)
 have y11:=(unhide HH).pfrozen (i * 121 + 11)
 have y83:=(unhide HH).pfrozen (i * 121 + 83)
 have nt:=(unhide HH).town_ne
 simp only [PeerM.head,Nat.reduceAdd] at v3 v4 v9 v10 v11 v83
 clear hz hz'
 go_upto_region 5 with fail
 obtain ⟨T5,hT5⟩:∃ T5,T5 = T.setPeer i { T.peer i with state:=1,vote:=v,since:=T.now }:=⟨_,rfl⟩
 have s5:Rep (((((W1.setCell ⟨L.bp,i * 121 + 3,none⟩ (.int .i64 1)).setCell ⟨L.bp,i * 121 + 9,none⟩ (.int .i64 v.e)).setCell ⟨L.bp,i * 121 + 9 + 1,none⟩ (.int .i64 v.n)).setCell ⟨L.bp,i * 121 + 9 + 2,none⟩ (.int .i64 v.p)).setCell ⟨L.bp,i * 121 + 83,none⟩ (.int .i64 T.now)) L T5:=by
  have t1:=(unhide HH).setState hi 1
  have hi1:i < (T.setPeer i { T.peer i with state:=1 }).ps.length:=by rw [TownM.setPeer_len];exact hi
  have t2:=t1.setVote hi1 v
  rw [TownM.peer_set hi,TownM.set_set] at t2
  have t3:=t2.setSince (i:=i) (by rw [TownM.setPeer_len];exact hi) T.now
  rw [TownM.peer_set hi,TownM.set_set] at t3
  rw [hT5];exact t3
 have K5:=(((((Keeps.of_below (fp:=L.blocks) (unhide HB)).peer (i * 121 + 3) (.int .i64 1)).peer (i * 121 + 9) (.int .i64 v.e)).peer (i * 121 + 9 + 1) (.int .i64 v.n)).peer (i * 121 + 9 + 2) (.int .i64 v.p)).peer (i * 121 + 83) (.int .i64 T.now)
 have x2:(((((W1.setCell ⟨L.bp,i * 121 + 3,none⟩ (.int .i64 1)).setCell ⟨L.bp,i * 121 + 9,none⟩ (.int .i64 v.e)).setCell ⟨L.bp,i * 121 + 9 + 1,none⟩ (.int .i64 v.n)).setCell ⟨L.bp,i * 121 + 9 + 2,none⟩ (.int .i64 v.p)).setCell ⟨L.bp,i * 121 + 83,none⟩ (.int .i64 T.now)).cell? ⟨W.heap.size,2,none⟩ = some (.int .i64 v.p):=by
  rw [World.cell?_of_block (Below.heap_setCell _ _ _ _ nb),World.cell?_of_block (Below.heap_setCell _ _ _ _ nb),World.cell?_of_block (Below.heap_setCell _ _ _ _ nb),World.cell?_of_block (Below.heap_setCell _ _ _ _ nb),World.cell?_of_block (Below.heap_setCell _ _ _ _ nb)]
  exact b2
 have hi5:i < T5.ps.length:=by rw [hT5,TownM.setPeer_len];exact hi
 have x4:=s5.phead hi5 4 (by omega)
 have hp5:(T5.peer i).c.p = (T.peer i).c.p:=by rw [hT5,TownM.peer_set hi]
 simp only [PeerM.head] at x4
 rw [hp5] at x4
 have hn5:T5.net = T.net:=by rw [hT5];rfl
 have HTF:Hid (T.follow i v = T5.send ⟨2,i,v.p,0,0,voteZ,(T.peer i).c.p,0⟩):=by
  show _ = _
  rw [hT5];rfl
 clear hp5 hT5 c4 c5 b0 b1 b2 v3 v4 v9 v10 v11 v83 y3 y9 y10 y11 y83 HH HB
 generalize ((((W1.setCell ⟨L.bp,i * 121 + 3,none⟩ (.int .i64 1)).setCell ⟨L.bp,i * 121 + 9,none⟩ (.int .i64 v.e)).setCell ⟨L.bp,i * 121 + 9 + 1,none⟩ (.int .i64 v.n)).setCell ⟨L.bp,i * 121 + 9 + 2,none⟩ (.int .i64 v.p)).setCell ⟨L.bp,i * 121 + 83,none⟩ (.int .i64 T.now) = w5 at *
 have hb5:=(Below.refl w5.heap.size w5).drew
 have HC:Hid (Calls Tryz.prog 105 #[.pointer (some ⟨L.bt,0,none⟩),(⟨2,i,v.p,0,0,voteZ,(T.peer i).c.p,0⟩:MsgM).val] w5.drew fun o w' => o = .returned (.tuple #[]) ∧ Did W L w' (T.follow i v)):=(dsend_any ⟨2,i,v.p,0,0,voteZ,(T.peer i).c.p,0⟩ w5.drew L T5 (s5.keep hb5) (by omega)).mono (fun o w' hh => ⟨hh.1,by
  rw [unhide HTF]
  exact Did.next (v:=L.way) (e:=L.ev) K5 (fun x hx => .inl hx) (hh.2.pre hb5)⟩)
 simp only [MsgM.val,MsgM.cells,voteZ] at HC
 clear s5 K5 hb5 HTF hn5
 go_region_with ((go_at_call 105;refine (unhide HC).mono ?_;rintro o w1 ⟨rfl,hd⟩))
 all_goals
  have HD:=hide hd
  clear hd
  go_wp2
  go_end0
  exact ⟨rfl,unhide HD⟩
set_option maxRecDepth 100000 in
set_option maxHeartbeats 1000000 in
theorem dwelcome_any (i:Nat) (k:Int) (W:World) (L:Lies) (T:TownM) (h:Rep W L T) (hi:i < T.ps.length) (hn:T.net ≤ 1000) :
  Calls Tryz.prog 125 #[.pointer (some ⟨L.bt,0,none⟩),.int .i64 i,.int .i64 k] W fun o w' => o = .returned (.tuple #[]) ∧ Did W L w' (T.welcome i k):=by
 have c4:=h.cell 4
 have q0:(0:Int) ≤ (i:Int):=by omega
 have q1:(i:Int) < (T.ps.length:Int):=by omega
 have v7:=h.phead hi 7 (by omega)
 have v84:=h.pmid hi 2 (by omega)
 simp only [PeerM.head,Nat.reduceAdd] at v7 v84
 have hb:=(Below.refl W.heap.size W).drew
 have HC:Hid (Calls Tryz.prog 105 #[.pointer (some ⟨L.bt,0,none⟩),(⟨5,i,k,0,0,voteZ,(T.peer i).epoch,(T.peer i).c.v⟩:MsgM).val] W.drew fun o w' => o = .returned (.tuple #[]) ∧ Did W L w' (T.welcome i k)):=(dsend_any ⟨5,i,k,0,0,voteZ,(T.peer i).epoch,(T.peer i).c.v⟩ W.drew L T (h.keep hb) hn).mono (fun o w' hh => ⟨hh.1,hh.2.pre hb⟩)
 simp only [MsgM.val,MsgM.cells,voteZ] at HC
 clear h hb
 go_enter Tryz.func125,Tryz.ntmps125
 go_wp2_with fail
 go_region_with ((go_at_call 105;refine (unhide HC).mono ?_;rintro o w1 ⟨rfl,hd⟩))
 all_goals
  have HD:=hide hd
  clear hd
  go_wp2
  go_end0
  exact ⟨rfl,unhide HD⟩
end Go.Proofs.YtceappncglfciaaGreat
namespace Go.Proofs.YtceappncglfciaaGreat
open Go.RowKit
attribute [local go_sem ↓] Go.wp_at_zero Go.wp_at_succ
section
variable {W:World} {L:Lies} {T:TownM}
theorem Rep.setUp (h:Rep W L T) {i:Nat} (hi:i < T.ps.length) (b:Bool):Rep (W.setCell ⟨L.bp,i * 121 + 1,none⟩ (.bool b)) L (T.setPeer i { T.peer i with up:=b }) :=
 h.setP hi (by omega) _ _ (PeerM.set_head 1 (by omega) _ _ rfl rfl rfl rfl rfl rfl rfl rfl) (h.fit (T.peer i) (TownM.peer_mem hi))
theorem Rep.setArmed (h:Rep W L T) {i:Nat} (hi:i < T.ps.length) (x:Int):Rep (W.setCell ⟨L.bp,i * 121 + 2,none⟩ (.int .i64 x)) L (T.setPeer i { T.peer i with armed:=x }) :=
 h.setP hi (by omega) _ _ (PeerM.set_head 2 (by omega) _ _ rfl rfl rfl rfl rfl rfl rfl rfl) (h.fit (T.peer i) (TownM.peer_mem hi))
theorem Rep.setDisk (h:Rep W L T) {i:Nat} (hi:i < T.ps.length) (d:List Int):Rep (W.setCell ⟨L.bp,i * 121,none⟩ (.string (strOfNums d))) L (T.setPeer i { T.peer i with disk:=d }) :=
 h.setP (f:=0) hi (by omega) _ _ (PeerM.set_head 0 (by omega) _ _ rfl rfl rfl rfl rfl rfl rfl rfl) (h.fit (T.peer i) (TownM.peer_mem hi))
end
set_option maxRecDepth 100000 in
set_option maxHeartbeats 1000000 in
theorem fall_any (i:Nat) (W:World) (L:Lies) (T:TownM) (h:Rep W L T) (hi:i < T.ps.length) :
  Calls Tryz.prog 82 #[.pointer (some ⟨L.bt,0,none⟩),.int .i64 i] W fun o w' => o = .returned (.tuple #[]) ∧ Rep w' L (T.setPeer i { T.peer i with up:=false,armed:=-1 }) ∧ Keeps L.blocks W w':=by
 have c4:=h.cell 4
 have q0:(0:Int) ≤ (i:Int):=by omega
 have q1:(i:Int) < (T.ps.length:Int):=by omega
 have v1:=h.phead hi 1 (by omega)
 have v2:=h.phead hi 2 (by omega)
 have y1:=h.pfrozen (i * 121 + 1)
 have y2:=h.pfrozen (i * 121 + 2)
 have nt:=h.town_ne
 simp only [PeerM.head] at v1 v2
 have fin:Hid (Rep ((W.setCell ⟨L.bp,i * 121 + 1,none⟩ (.bool false)).setCell ⟨L.bp,i * 121 + 2,none⟩ (.int .i64 (-1))) L (T.setPeer i { T.peer i with up:=false,armed:=-1 }) ∧ Keeps L.blocks W ((W.setCell ⟨L.bp,i * 121 + 1,none⟩ (.bool false)).setCell ⟨L.bp,i * 121 + 2,none⟩ (.int .i64 (-1)))):=by
  have t1:=h.setUp hi false
  have t2:=t1.setArmed (i:=i) (by rw [TownM.setPeer_len];exact hi) (-1)
  rw [TownM.peer_set hi,TownM.set_set] at t2
  exact ⟨t2,((Keeps.refl _ _).peer _ _).peer _ _⟩
 clear h
 go_enter Tryz.func82,Tryz.ntmps82
 go_wp2
 go_end0
 exact ⟨rfl,unhide fin⟩
theorem extract_strOfNums (l:List Int) (hb:BytesL l) (a b:Nat):(strOfNums l).extract a b = strOfNums ((l.drop a).take (b - a)):=by
 rw [← strOfNums_numsOf ((strOfNums l).extract a b),numsOf_extract,numsOf_strOfNums hb]
section
variable {n:Int} {c c':CredM} {d:List Int}
theorem enc_bytes (hn:0 ≤ n) (hn1:n + 1 ≤ 4294967294) (hc:c'.ok):BytesL (encL (n + 1) c'.p c'.t c'.e c'.v):=by
 have hbad:badB (n + 1) c'.p c'.t c'.e c'.v = false:=by
  obtain ⟨k1,k2,k3,k4⟩:=hc
  unfold badB wideB
  simp
  omega
 exact (bodyL_bytes hbad).app (num4_bytes (sumV_range _).1 (sumV_range _).2)
theorem dw_even (hd:DiskOK n c d) (he:BytesL (encL (n + 1) c'.p c'.t c'.e c'.v)) (hp:n % 2 = 1) (k:Nat):strOfNums (diskWrite d c' k) = (strOfNums d).extract 0 28 ++ (strOfNums (encL (n + 1) c'.p c'.t c'.e c'.v)).extract 0 k ++ (strOfNums d).extract (28 + k) 56:=by
 rw [extract_strOfNums _ hd.bytes,extract_strOfNums _ hd.bytes,extract_strOfNums _ he,strOfNums_append,strOfNums_append]
 unfold diskWrite
 rw [hd.newest,if_pos (by show (n + 1) % 2 = 0;omega)]
 have:(d.drop (28 + k)).take (56 - (28 + k)) = d.drop (28 + k):=List.take_of_length_le (by rw [List.length_drop,hd.len];omega)
 rw [this]
 simp [List.append_assoc]
theorem dw_odd (hd:DiskOK n c d) (he:BytesL (encL (n + 1) c'.p c'.t c'.e c'.v)) (hp:¬ n % 2 = 1) (k:Nat):strOfNums (diskWrite d c' k) = (strOfNums (encL (n + 1) c'.p c'.t c'.e c'.v)).extract 0 k ++ (strOfNums d).extract k 56:=by
 rw [extract_strOfNums _ hd.bytes,extract_strOfNums _ he,strOfNums_append]
 unfold diskWrite
 rw [hd.newest,if_neg (by show ¬ (n + 1) % 2 = 0;omega)]
 have:(d.drop k).take (56 - k) = d.drop k:=List.take_of_length_le (by rw [List.length_drop,hd.len];omega)
 rw [this]
 simp
theorem extract_whole (s:ByteArray) (k:Nat) (h:s.size = k):s.extract 0 k = s:=by
 rw [← strOfNums_numsOf (s.extract 0 k),numsOf_extract,List.drop_zero,List.take_of_length_le (by rw [numsOf_len];omega),strOfNums_numsOf]
theorem extract_none (s:ByteArray) (k:Nat) (h:s.size ≤ k):s.extract k k = ⟨#[]⟩:=by
 rw [← strOfNums_numsOf (s.extract k k),numsOf_extract]
 simp [strOfNums]
end
theorem twrite_fin {W w3:World} {L:Lies} {T:TownM} {i:Nat} (h3:Rep w3 L T) (hb:Below W.heap.size W w3) (hi:i < T.ps.length) (d':List Int) (x:ByteArray) (hx:x = strOfNums d') :
  Rep (w3.setCell ⟨L.bp,i * 121,none⟩ (.string x)).drew L (T.setPeer i { T.peer i with disk:=d' }) ∧ Keeps L.blocks W (w3.setCell ⟨L.bp,i * 121,none⟩ (.string x)).drew:=by
 subst hx
 exact ⟨(h3.setDisk hi d').keep (Below.refl _ _).drew,((Keeps.of_below hb).peer _ _).drew⟩
set_option maxRecDepth 100000 in
set_option maxHeartbeats 2000000 in
theorem twrite_any (i:Nat) (n:Int) (c:CredM) (W:World) (L:Lies) (T:TownM) (h:Rep W L T) (hi:i < T.ps.length) (hd:DiskOK n c (T.peer i).disk) (hn:n + 1 ≤ 4294967294) (hc:(T.peer i).c.ok) (ha0:-1 ≤ (T.peer i).armed) (ha1:(T.peer i).armed ≤ 28) :
  Calls Tryz.prog 84 #[.pointer (some ⟨L.bt,0,none⟩),.int .i64 i] W fun o w' => o = .returned (.bool (decide ((T.peer i).armed < 0))) ∧ Did W L w' (T.write i):=by
 have c4:=h.cell 4
 have q0:(0:Int) ≤ (i:Int):=by omega
 have q1:(i:Int) < (T.ps.length:Int):=by omega
 have v0:=h.phead hi 0 (by omega)
 have y0:=h.pfrozen (i * 121)
 simp only [PeerM.head,Nat.add_zero] at v0
 have HN:=hide (rnewest_L _ hd.bytes hd.len)
 rw [hd.newest] at HN
 generalize (if n % 2 = 0 then (28:Int) else 0) = a0 at HN
 have n0:1 ≤ n:=hd.num.1
 have hbad:badB (n + 1) (T.peer i).c.p (T.peer i).c.t (T.peer i).c.e (T.peer i).c.v = false:=by
  obtain ⟨k1,k2,k3,k4⟩:=hc
  unfold badB wideB
  simp
  omega
 have HE:=hide (rencode_L (n + 1) (T.peer i).c hbad)
 have HH:=hide h
 have HD:=hide hd
 have HEB:=hide (enc_bytes (by omega) hn hc)
 clear h hd hbad hc
 go_enter Tryz.func84,Tryz.ntmps84
 go_wp2_with fail
 refine (unhide HN W).mono ?_
 rintro o w1 ⟨rfl,hb1⟩
 have h1:=(unhide HH).keep hb1
 simp only [CredM.cells]
 have v4:=h1.phead hi 4 (by omega)
 have v5:=h1.phead hi 5 (by omega)
 have v6:=h1.phead hi 6 (by omega)
 have v7:=h1.phead hi 7 (by omega)
 simp only [PeerM.head] at v4 v5 v6 v7
 have HB1:=hide hb1
 have H1:=hide h1
 clear hb1 h1 HN HH c4 v0 y0
 go_upto_region 3 with fail
 have hb2:=(unhide HB1).trans (((Below.refl w1.heap.size w1).alloc (Nat.le_refl _) (.cells #[.int .i64 c.p,.int .i64 c.t,.int .i64 c.e,.int .i64 c.v] 39)).mono (unhide HB1).size)
 have h2:=(unhide H1).keep ((Below.refl w1.heap.size w1).alloc (Nat.le_refl _) (.cells #[.int .i64 c.p,.int .i64 c.t,.int .i64 c.e,.int .i64 c.v] 39))
 clear v4 v5 v6 v7 H1 HB1
 generalize w1.alloc (.cells #[.int .i64 c.p,.int .i64 c.t,.int .i64 c.e,.int .i64 c.v] 39) = w2 at *
 have v4:=h2.phead hi 4 (by omega)
 have v5:=h2.phead hi 5 (by omega)
 have v6:=h2.phead hi 6 (by omega)
 have v7:=h2.phead hi 7 (by omega)
 simp only [PeerM.head] at v4 v5 v6 v7
 have HB2:=hide hb2
 have H2:=hide h2
 clear hb2 h2
 go_wp2_with fail
 refine (unhide HE w2).mono ?_
 rintro o w3 ⟨rfl,hb3⟩
 have hb3':=(unhide HB2).trans (hb3.mono (unhide HB2).size)
 have h3:=(unhide H2).keep hb3
 have v0:=h3.phead hi 0 (by omega)
 have v2:=h3.phead hi 2 (by omega)
 have y0:=h3.pfrozen (i * 121)
 simp only [PeerM.head,Nat.add_zero] at v0 v2
 have HB3:=hide hb3'
 have H3:=hide h3
 clear hb3 hb3' h3 v4 v5 v6 v7 H2 HB2 HE
 have hds:(strOfNums (T.peer i).disk).size = 56:=by rw [size_strOfNums _ (unhide HD).bytes];exact (unhide HD).len
 have hes:(strOfNums (encL (n + 1) (T.peer i).c.p (T.peer i).c.t (T.peer i).c.e (T.peer i).c.v)).size = 28:=by rw [size_strOfNums _ (unhide HEB)];exact encL_len _ _ _ _ _
 go_upto_region 5 with fail
 have HDS:Hid (∃ ds,ds = strOfNums (T.peer i).disk):=⟨_,rfl⟩
 have HES:Hid (∃ es,es = strOfNums (encL (n + 1) (T.peer i).c.p (T.peer i).c.t (T.peer i).c.e (T.peer i).c.v)):=⟨_,rfl⟩
 obtain ⟨ds,hds'⟩:=unhide HDS
 obtain ⟨es,hes'⟩:=unhide HES
 rw [← hds'] at v0 hds ⊢
 rw [← hes'] at hes ⊢
 have HDS':=hide hds'
 have HES':=hide hes'
 clear hds' hes' HDS HES
 have hmod:n.tmod 2 = n % 2:=by rw [Int.tmod_eq_emod_of_nonneg (by omega)]
 by_cases hA:(T.peer i).armed < 0
 ·have HWR:Hid (T.write i = T.setPeer i { T.peer i with disk:=diskWrite (T.peer i).disk (T.peer i).c 28 }):=by
   show _ = _
   unfold TownM.write
   rw [if_pos hA]
  by_cases hP:n % 2 = 1
  ·have hq:(n.tmod 2 == 1) = true:=by rw [hmod];simpa using hP
   have fin:Hid (Did W L (w3.setCell ⟨L.bp,i * 121,none⟩ (.string (ds.extract 0 28 ++ es))).drew (T.write i)):=by
    rw [unhide HWR]
    have:=twrite_fin (unhide H3) (unhide HB3) hi (diskWrite (T.peer i).disk (T.peer i).c 28) (ds.extract 0 28 ++ es) (by
     rw [dw_even (unhide HD) (unhide HEB) hP,← unhide HDS',← unhide HES',extract_whole es 28 hes,extract_none ds 56 (by omega)]
     exact (ByteArray.append_empty).symm)
    exact Did.stored this.1 this.2
   clear HWR H3 HB3 HD HEB HDS' HES'
   go_upto_region 10 with fail
   go_region
   go_wp2
   go_ret
   exact ⟨rfl,unhide fin⟩
  ·have hq:(n.tmod 2 == 1) = false:=by rw [hmod];simpa using hP
   have fin:Hid (Did W L (w3.setCell ⟨L.bp,i * 121,none⟩ (.string (es ++ ds.extract 28 56))).drew (T.write i)):=by
    rw [unhide HWR]
    have:=twrite_fin (unhide H3) (unhide HB3) hi (diskWrite (T.peer i).disk (T.peer i).c 28) (es ++ ds.extract 28 56) (by
     rw [dw_odd (unhide HD) (unhide HEB) hP,← unhide HDS',← unhide HES',extract_whole es 28 hes])
    exact Did.stored this.1 this.2
   clear HWR H3 HB3 HD HEB HDS' HES'
   go_upto_region 10 with fail
   go_region
   go_wp2
   go_ret
   exact ⟨rfl,unhide fin⟩
 ·have hA':0 ≤ (T.peer i).armed:=by omega
  have HWR:Hid (T.write i = T.setPeer i { T.peer i with disk:=diskWrite (T.peer i).disk (T.peer i).c (T.peer i).armed.toNat,up:=false,armed:=-1 }):=by
   show _ = _
   unfold TownM.write
   rw [if_neg hA]
  have HF:Hid (∀ w4,Rep w4 L (T.setPeer i { T.peer i with disk:=diskWrite (T.peer i).disk (T.peer i).c (T.peer i).armed.toNat }) ∧ Keeps L.blocks W w4 → Calls Tryz.prog 82 #[.pointer (some ⟨L.bt,0,none⟩),.int .i64 i] w4 fun o w' => o = .returned (.tuple #[]) ∧ Did W L w' (T.write i)):=fun w4 h4 => by
   refine (fall_any i w4 L _ h4.1 (by rw [TownM.setPeer_len];exact hi)).mono ?_
   rintro o w5 ⟨rfl,h5,k5⟩
   rw [TownM.peer_set hi,TownM.set_set] at h5
   rw [unhide HWR]
   exact ⟨rfl,Did.stored h5 (h4.2.trans k5 (fun x hx => .inl hx))⟩
  by_cases hP:n % 2 = 1
  ·have hq:(n.tmod 2 == 1) = true:=by rw [hmod];simpa using hP
   have HC:=hide (unhide HF _ (twrite_fin (unhide H3) (unhide HB3) hi (diskWrite (T.peer i).disk (T.peer i).c (T.peer i).armed.toNat) (ds.extract 0 28 ++ es.extract 0 (T.peer i).armed.toNat ++ ds.extract (28 + max (T.peer i).armed 0).toNat 56) (by
     rw [dw_even (unhide HD) (unhide HEB) hP,← unhide HDS',← unhide HES',show (28 + max (T.peer i).armed 0).toNat = 28 + (T.peer i).armed.toNat from by omega])))
   clear HWR H3 HB3 HD HEB HDS' HES' HF
   go_upto_region 10 with fail
   go_region
   go_wp2_with fail
   refine (unhide HC).mono ?_
   rintro o w5 ⟨rfl,hfin⟩
   have fin:=hide hfin
   clear hfin HC
   go_wp2
   go_ret
   exact ⟨rfl,unhide fin⟩
  ·have hq:(n.tmod 2 == 1) = false:=by rw [hmod];simpa using hP
   have HC:=hide (unhide HF _ (twrite_fin (unhide H3) (unhide HB3) hi (diskWrite (T.peer i).disk (T.peer i).c (T.peer i).armed.toNat) (es.extract 0 (T.peer i).armed.toNat ++ ds.extract (max (T.peer i).armed 0).toNat 56) (by
     rw [dw_odd (unhide HD) (unhide HEB) hP,← unhide HDS',← unhide HES',show (max (T.peer i).armed 0).toNat = (T.peer i).armed.toNat from by omega])))
   clear HWR H3 HB3 HD HEB HDS' HES' HF
   go_upto_region 10 with fail
   go_region
   go_wp2_with fail
   refine (unhide HC).mono ?_
   rintro o w5 ⟨rfl,hfin⟩
   have fin:=hide hfin
   clear hfin HC
   go_wp2
   go_ret
   exact ⟨rfl,unhide fin⟩
end Go.Proofs.YtceappncglfciaaGreat
namespace Go.Proofs.YtceappncglfciaaGreat
open Go.RowKit
attribute [local go_sem ↓] Go.wp_at_zero Go.wp_at_succ
theorem TownM.joinedTo_range (T:TownM) (i:Nat):∀ k,1 ≤ T.joinedTo i k ∧ T.joinedTo i k ≤ 1 + k
 | 0 => by simp [TownM.joinedTo]
 | k + 1 => by
  have:=T.joinedTo_range i k
  unfold TownM.joinedTo
  split <;> omega
theorem TownM.ackedTo_range (T:TownM) (i:Nat):∀ k,1 ≤ T.ackedTo i k ∧ T.ackedTo i k ≤ 1 + k
 | 0 => by simp [TownM.ackedTo]
 | k + 1 => by
  have:=T.ackedTo_range i k
  unfold TownM.ackedTo
  split <;> omega
set_option maxRecDepth 100000 in
set_option maxHeartbeats 1000000 in
theorem joined_any (i:Nat) (W:World) (L:Lies) (T:TownM) (h:Rep W L T) (hi:i < T.ps.length) (hp:T.ps.length ≤ 7) :
  Calls Tryz.prog 123 #[.pointer (some ⟨L.bt,0,none⟩),.int .i64 i] W fun o w' => o = .returned (.int .i64 (T.joinedTo i T.ps.length)) ∧ Below W.heap.size W w':=by
 have c4:=h.cell 4
 have q0:(0:Int) ≤ (i:Int):=by omega
 have q1:(i:Int) < (T.ps.length:Int):=by omega
 have HH:=hide h
 clear h
 go_enter Tryz.func123,Tryz.ntmps123
 go_wp2
 go_loopw [5,6] (fun n c wr => ∃ k:Nat,k ≤ T.ps.length ∧ c = .int .i64 k ∧ n = .int .i64 (T.joinedTo i k) ∧ wr = W) (fun _ c _ => T.ps.length - (RowKit.intOf c).toNat)
 case atStart => exact ⟨0,Nat.zero_le _,rfl,rfl,rfl⟩
 case round =>
  obtain ⟨k,hk,rfl,rfl,rfl⟩:=hrel
  obtain ⟨r0,r1⟩:=T.joinedTo_range i k
  by_cases hlt:k < T.ps.length
  ·have w0:=(unhide HH).pmem hi (k:=k) (j:=0) (by omega) (by omega)
   simp only [MemM.cells,Nat.add_zero] at w0
   have HST:Hid (T.joinedTo i (k + 1) = if ((T.peer i).mem.getD k memZ).joined = true then T.joinedTo i k + 1 else T.joinedTo i k):=rfl
   generalize (T.peer i).mem.getD k memZ = kn at *
   have k0:(0:Int) ≤ (k:Int):=by omega
   have k7:(k:Int) < 7:=by omega
   cases hj:kn.joined with
   | false =>
    have fin:Hid (T.joinedTo i (k + 1) = T.joinedTo i k):=by
     show _ = _
     rw [unhide HST];simp [hj]
    rw [hj] at w0
    clear hj HST
    go_wp2
    go_roundw
    case rel => exact ⟨k + 1,by omega,by go_num,by rw [unhide fin],trivial⟩
    case measure => simp [RowKit.intOf];omega
   | true =>
    have fin:Hid (T.joinedTo i (k + 1) = T.joinedTo i k + 1):=by
     show _ = _
     rw [unhide HST];simp [hj]
    rw [hj] at w0
    clear hj HST
    go_wp2
    go_roundw
    case rel => exact ⟨k + 1,by omega,by go_num,by rw [unhide fin],trivial⟩
    case measure => simp [RowKit.intOf];omega
  ·have hke:k = T.ps.length:=by omega
   have HB:=hide (Below.refl wr.heap.size wr)
   go_wp2
   go_ret
   rw [hke]
   exact ⟨rfl,unhide HB⟩
end Go.Proofs.YtceappncglfciaaGreat
namespace Go.Proofs.YtceappncglfciaaGreat
open Go.RowKit
attribute [local go_sem ↓] Go.wp_at_zero Go.wp_at_succ
theorem Tryz.dinfoEvent:(Tryz.prog.info? 49).map (fun i => (i.zero,i.size,i.bytes)) = some (some (.agg #[.int .i64 0,.int .i64 0]),2,16):=by kernel_rfl
theorem Rep.stood {W X w1:World} {L:Lies} {T:TownM} {x:Int × Int} {g cap:Nat} (h:Rep W L T) (hX:Below W.heap.size W X) (hgrow:X.grownBy w1 L.ev.ownBlock)
  (hown:w1.ownsRow 0 49 2 (.slice (some ⟨g,0,none⟩) (T.events.length + 1) cap) (T.events.length + 1) (evCells T.events ++ [.int .i64 x.1,.int .i64 x.2])) (hat:L.ev.ownBlock = some g ∨ W.heap.size ≤ g) :
  Rep (w1.setCell ⟨L.bt,7,none⟩ (.slice (some ⟨g,0,none⟩) (T.events.length + 1) cap)) { L with ev:=.slice (some ⟨g,0,none⟩) (T.events.length + 1) cap } { T with events:=T.events ++ [x] } ∧
  Keeps L.blocks W (w1.setCell ⟨L.bt,7,none⟩ (.slice (some ⟨g,0,none⟩) (T.events.length + 1) cap)):=by
 have hbt:L.bt < W.heap.size:=(Array.getElem?_eq_some_iff.1 h.town).1
 obtain ⟨cur,hp,hp2,hp3,hp4⟩:=h.peers
 have hbp:L.bp < W.heap.size:=(Array.getElem?_eq_some_iff.1 hp).1
 have n1:L.ev.ownBlock ≠ some L.bt:=own_ne h.events h.town (by decide)
 have n2:L.ev.ownBlock ≠ some L.bp:=own_ne h.events hp (by decide)
 have n3:L.bt ≠ L.bp:=by
  intro e
  have h1:=h.town
  rw [e,hp] at h1
  exact absurd h1 (by simp)
 have keep:∀ k,k < W.heap.size → some k ≠ L.ev.ownBlock → w1.heap[k]? = W.heap[k]?:=fun k hk hne => (hgrow.block k (Nat.lt_of_lt_of_le hk hX.size) hne).trans (hX.block k hk)
 have t1:w1.heap[L.bt]? = some (.cells #[L.cv,.int .i64 T.wait,.int .i64 T.lease,.int .i64 T.net,.slice (some ⟨L.bp,0,none⟩) T.ps.length L.capP,.int .i64 T.now,L.way,L.ev] 131 (0,0)):=(keep L.bt hbt (fun e => n1 e.symm)).trans h.town
 have t2:(w1.setCell ⟨L.bt,7,none⟩ (.slice (some ⟨g,0,none⟩) (T.events.length + 1) cap)).heap[L.bt]? = some (.cells #[L.cv,.int .i64 T.wait,.int .i64 T.lease,.int .i64 T.net,.slice (some ⟨L.bp,0,none⟩) T.ps.length L.capP,.int .i64 T.now,L.way,.slice (some ⟨g,0,none⟩) (T.events.length + 1) cap] 131 (0,0)):=by
  unfold World.setCell
  simp only [Array.getElem?_modify,if_true,t1,Option.map_some]
  rfl
 have other:∀ k,k ≠ L.bt → (w1.setCell ⟨L.bt,7,none⟩ (.slice (some ⟨g,0,none⟩) (T.events.length + 1) cap)).heap[k]? = w1.heap[k]?:=fun k hk => Below.heap_setCell w1 _ _ k hk
 have gne:g ≠ L.bt:=by
  rcases hat with h1 | h1
  ·intro e;exact n1 (by rw [h1,e])
  ·omega
 refine ⟨⟨?_,?_,?_,?_,h.fit⟩,?_⟩
 ·simpa using t2
 ·exact ⟨cur,(other L.bp (fun e => n3 e.symm)).trans ((keep L.bp hbp (fun e => n2 e.symm)).trans hp),hp2,hp3,hp4⟩
 ·refine own_same h.way (fun b hb => ?_)
  have hlt:=(h.way.lt b hb).2
  have e1:=own_ne2 h.events h.way (by decide) b hb
  have e2:b ≠ L.bt:=fun e => own_ne h.way h.town (by decide) (by rw [hb,e])
  exact (other b e2).trans (keep b hlt (fun e => e1 e.symm))
 ·have:=own_same hown (W':=w1.setCell ⟨L.bt,7,none⟩ (.slice (some ⟨g,0,none⟩) (T.events.length + 1) cap)) (fun b hb => by
   have:g = b:=by simpa [Value.ownBlock] using hb
   subst this
   exact other g gne)
  simpa [evCells] using this
 ·refine ⟨hgrow.os.trans hX.os,hgrow.tape.trans hX.tape,hgrow.output.trans hX.output,Nat.le_trans hX.size (Nat.le_trans hgrow.size (by simp)),fun k hk hn => ?_⟩
  simp only [Lies.blocks,List.mem_cons,List.mem_append,not_or,Option.mem_toList] at hn
  exact (other k hn.1).trans (keep k hk (fun e => hn.2.2.2 e.symm))
end Go.Proofs.YtceappncglfciaaGreat
