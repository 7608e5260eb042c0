import Derived.Test.YtceappncglfciaaGreatM15
import Derived.Test.YtceappncglfciaaGreatM07
import Derived.Great.BuildSlice
set_option linter.unusedVariables false
set_option linter.unusedSimpArgs false
namespace Go.Proofs.YtceappncglfciaaGreat
open Go.RowKit
attribute [local go_sem ↓] Go.wp_at_zero Go.wp_at_succ
set_option maxRecDepth 100000 in
set_option maxHeartbeats 2000000 in
theorem follow_any (i b k:Nat) (v:VoteM) (W:World) (bt:Nat) (pb bs:List Nat) (T:PTown) (h:PR W bt pb bs T) (hb:pb[i]? = some b) (hn:T.net ≤ 1000) (hk:k < 7) (hvp:v.p = (k:Int)) :
  Calls Tryz.prog 135 #[.pointer (some ⟨b,0,none⟩),.agg #[.int .i64 v.e,.int .i64 v.n,.int .i64 v.p]] W fun o w' => o = .returned (.tuple #[]) ∧ PDid W bt pb bs w' (T.follow i v):=by
 have hX:=(Below.refl W.heap.size W).alloc (Nat.le_refl _) (.cells #[.int .i64 v.e,.int .i64 v.n,.int .i64 v.p] 100)
 have HBX:Hid (Box (W.alloc (.cells #[.int .i64 v.e,.int .i64 v.n,.int .i64 v.p] 100)) W.heap.size #[.int .i64 v.e,.int .i64 v.n,.int .i64 v.p] 100):=Box.new _ _ _
 have hi:i < T.ps.length:=(h.at hb).1
 have hbl:b < W.heap.size:=(h.at hb).2.choose_spec.1.box.lt
 have nb:W.heap.size ≠ b:=by omega
 have HN:=hide h.new_notin
 have HC:=hide (become_any i b 1 _ bt pb bs T (h.below hX) hb)
 have HX:=hide (Links.of_below bs hX)
 have HVP:=hide hvp
 have hmm:=@run_makeMap Tryz.prog
 clear h hX hvp
 go_enter Tryz.func135,Tryz.ntmps135
 go_upto_region 1 with fail
 generalize W.alloc (.cells #[.int .i64 v.e,.int .i64 v.n,.int .i64 v.p] 100) = W1 at *
 have hW1:W.heap.size < W1.heap.size:=(unhide HBX).lt
 go_upto_region 2 with (go_at_call 136;refine (unhide HC).mono ?_;rintro o W2 ⟨rfl,hd⟩)
 obtain ⟨bs2,h2,k2⟩:=hd.open
 have HBX2:Hid (Box W2 W.heap.size #[.int .i64 v.e,.int .i64 v.n,.int .i64 v.p] 100):=(k2.1.block _ hW1 (unhide HN)).trans (unhide HBX)
 have HN2:=hide (k2.notin hW1 (unhide HN))
 have HX2:=hide ((unhide HX).trans k2)
 obtain ⟨_,q,hat,_,_,_,_,C⟩:=h2.at hb
 have c70:=hat.f70
 have c71:=hat.f71
 have c72:=hat.f72
 have z70:=hat.fz 70
 have z71:=hat.fz 71
 have z72:=hat.fz 72
 have b0:W2.cell? ⟨W.heap.size,0,none⟩ = some (.int .i64 v.e):=(unhide HBX2).cell 0
 have b1:W2.cell? ⟨W.heap.size,1,none⟩ = some (.int .i64 v.n):=(unhide HBX2).cell 1
 have b2:W2.cell? ⟨W.heap.size,2,none⟩ = some (.int .i64 v.p):=(unhide HBX2).cell 2
 have HF:=hide (stores_close hat C [(70,.int .i64 v.e),(71,.int .i64 v.n),(72,.int .i64 v.p)] q { (T.setP i ((T.peer i).become 1)).peer i with vote:=v } (by simp) rfl)
 have HBX3:=hide ((((unhide HBX2).setOther (a:=⟨b,70,none⟩) nb (.int .i64 v.e)).setOther (a:=⟨b,71,none⟩) nb (.int .i64 v.n)).setOther (a:=⟨b,72,none⟩) nb (.int .i64 v.p))
 simp only [sets] at HF
 have hW2:W.heap.size < W2.heap.size:=(unhide HBX2).lt
 clear hat C h2 k2 hd HC HBX HX HBX2
 go_upto_region 3 with fail
 generalize ((W2.setCell ⟨b,70,none⟩ (.int .i64 v.e)).setCell ⟨b,71,none⟩ (.int .i64 v.n)).setCell ⟨b,72,none⟩ (.int .i64 v.p) = W3 at *
 obtain ⟨bs3,h3,k3⟩:=(unhide HF).open
 obtain ⟨T3,hT3⟩:∃ T3,T3 = T.setP i { (T.peer i).become 1 with vote:=v }:=⟨_,rfl⟩
 have e3:(T.setP i ((T.peer i).become 1)).setP i { (T.setP i ((T.peer i).become 1)).peer i with vote:=v } = T3:=by
  rw [hT3,PTown.set_set,PTown.peer_set hi]
 rw [e3] at h3
 have hp3:T3.peer i = { (T.peer i).become 1 with vote:=v }:=by rw [hT3,PTown.peer_set hi]
 have hn3:T3.net = T.net:=by rw [hT3];rfl
 have hl3:T3.ps.length = T.ps.length:=by rw [hT3,PTown.setP_len]
 have HX3:=hide ((unhide HX2).trans k3)
 have HN3:=hide (k3.notin hW2 (unhide HN2))
 obtain ⟨T4,hT4⟩:∃ T4,T4 = T3.sendTo ⟨2,0,0,0,0,voteZ,(T.peer i).c.p,0⟩ i [v.p]:=⟨_,rfl⟩
 have HT:Hid (T.follow i v = (T4.setP i { T4.peer i with heard:=some none7 }).noteHeard i v.p):=by rw [hT4,hT3];exact rfl
 have hl4:T4.ps.length = T.ps.length:=by rw [hT4,PTown.send_ps,hl3]
 obtain ⟨_,q,hat,_,_,_,_,_⟩:=h3.at hb
 have c64:W3.cell? ⟨b,64,none⟩ = some (.int .i64 (T.peer i).c.p):=by rw [hat.f64,hp3];rfl
 have b2:W3.cell? ⟨W.heap.size,2,none⟩ = some (.int .i64 v.p):=(unhide HBX3).cell 2
 have hW3:W.heap.size < W3.heap.size:=(unhide HBX3).lt
 have hb3:b < W3.heap.size:=hat.box.lt
 have hbd:Below W3.heap.size W3 (W3.alloc (.cells #[.int .i64 v.p] 3)).drew:=((Below.refl W3.heap.size W3).alloc (Nat.le_refl _) _).drew
 have HS:Hid (Calls Tryz.prog 114 #[.pointer (some ⟨b,0,none⟩),(⟨2,0,0,0,0,voteZ,(T.peer i).c.p,0⟩:MsgM).val,.slice (some ⟨W3.heap.size,0,none⟩) 1 1] (W3.alloc (.cells #[.int .i64 v.p] 3)).drew fun o w' => o = .returned (.tuple #[]) ∧ PDid W3 bt pb bs3 w' T4):=by
  rw [hT4]
  exact (Links.of_below bs3 hbd).calls (send_any i b _ _ bt pb bs3 T3 (h3.below hbd) hb (by omega) [v.p] _ (to_one W3 v.p) (by simp)) rfl
 simp only [MsgM.val,voteZ] at HS
 have HQ:Hid (∀ w6,PDid W3 bt pb bs3 w6 T4 → w6.cell? ⟨b,64,none⟩ = some (.int .i64 (T4.peer i).c.p) ∧ w6.cell? ⟨W.heap.size,2,none⟩ = some (.int .i64 v.p)):=fun w6 hd => by
  obtain ⟨bs6,h6,k6⟩:=hd.open
  exact ⟨(h6.at hb).2.choose_spec.1.f64,(World.cell?_of_block (k6.1.block _ hW3 (unhide HN3))).trans b2⟩
 have hc4:(T4.peer i).c.p = (T.peer i).c.p:=by
  have:T4.peer i = T3.peer i:=by unfold PTown.peer;rw [hT4,PTown.send_ps]
  rw [this,hp3];rfl
 rw [hc4] at HQ
 generalize (T.peer i).c.p = cp at *
 clear hat h3 k3 e3 hT3 hT4 hp3 hbd hc4 HF HX2 HN2 c70 c71 c72 z70 z71 z72 hn3 hl3
 go_region_held3 (fun w' => w'.cell? ⟨b,64,none⟩ = some (.int .i64 cp) ∧ w'.cell? ⟨W.heap.size,2,none⟩ = some (.int .i64 v.p)) (go_keep) (first | (go_at_call 114;refine (unhide HS).mono ?_;rintro o w6 ⟨rfl,hd6⟩;obtain ⟨f1,f2⟩:=unhide HQ w6 hd6;have HD6:=hide hd6;clear hd6))
 obtain ⟨bs6,h6,k6⟩:=(unhide HD6).open
 have HX6:=hide ((unhide HX3).trans k6)
 have HN6:=hide (k6.notin hW3 (unhide HN3))
 have HBX6:Hid (Box w6 W.heap.size #[.int .i64 v.e,.int .i64 v.n,.int .i64 v.p] 100):=(k6.1.block _ hW3 (unhide HN3)).trans (unhide HBX3)
 obtain ⟨_,q,hat,_,_,_,_,C⟩:=h6.at hb
 have c77:=hat.f77
 have z77:=hat.fz 77
 have hbl6:b < w6.heap.size:=hat.box.lt
 have HF:=hide (fresh_mh hat C)
 rw [World.setCell_alloc_past _ _ _ _ hbl6] at HF
 have HBX7:=hide (((unhide HBX6).setOther (a:=⟨b,77,none⟩) nb (.map (some w6.heap.size))).alloc (.map #[] 0))
 clear hat C h6 k6 HD6 HX3 HN3 HS HQ HBX3 HBX6 f1 f2 c64 b2 b0 b1
 go_upto_region 5 with fail
 generalize (w6.setCell ⟨b,77,none⟩ (.map (some w6.heap.size))).alloc (.map #[] 0) = w7 at *
 obtain ⟨bs7,h7,k7⟩:=(unhide HF).open
 have b2:w7.cell? ⟨W.heap.size,2,none⟩ = some (.int .i64 v.p):=(unhide HBX7).cell 2
 have hvp:=unhide HVP
 have HC:=hide (((unhide HX6).trans k7).calls (T':=T.follow i v) (noteHeard_any i b k w7 bt pb bs7 _ h7 hb hk none7 (by rw [PTown.peer_set (by omega)])) (by rw [unhide HT,hvp]))
 rw [← hvp] at HC
 clear h7 k7 HF HX6 hvp HVP HBX7 c77 z77 HT
 go_wp2_with fail
 refine (unhide HC).mono ?_
 rintro o w8 ⟨rfl,hd⟩
 have HE:=hide hd
 clear hd HC
 go_wp2
 go_end0
 exact ⟨rfl,unhide HE⟩
end Go.Proofs.YtceappncglfciaaGreat
namespace Go.Proofs.YtceappncglfciaaGreat
open Go.RowKit Go.Maps
attribute [local go_sem ↓] Go.wp_at_zero Go.wp_at_succ
theorem zeroStand (w:World):(zeroValue 190).run Tryz.prog w = .ok (encStand (voteZ,0)) w:=by kernel_rfl
theorem zeroInt (w:World):(zeroValue 3).run Tryz.prog w = .ok (encInt 0) w:=by kernel_rfl
theorem MapIs.get {α:Type} {enc:α → Value} {W:World} {g:Nat} {l:List (Option α)} (h:MapIs Tryz.prog 3 enc W g l) {t e:TypeId} (ht:Tryz.prog.underlying t = some (.map 3 e)) (k:Nat) (hk:k < 7) (z:α) (hz:(zeroValue e).run Tryz.prog W = .ok (enc z) W) :
  (Instr.lookup t (.map (some g)) (.int .i64 (k:Int)) false).run Tryz.prog W = .ok (enc ((atL l k).getD z)) W:=by
 obtain ⟨v,ps,hrun,hv⟩:=h.1.lookup (int_keyed Tryz.underlying3) ht hz (show rawElem (enc z) = some (.held (enc z),[]) from rfl) (key_int k hk)
 have e1:=rawElem_inv hv
 simp only [Prod.mk.injEq] at e1
 rw [data_at] at e1
 have e2:v = enc ((atL l k).getD z):=by
  unfold atL
  cases ha:l[k]?.join with
  | none => rw [ha] at e1;simpa using e1.1.symm
  | some u => rw [ha] at e1;simpa using e1.1.symm
 rw [hrun,e2]
set_option maxRecDepth 100000 in
set_option maxHeartbeats 4000000 in
theorem keep_any (i b k kx:Nat) (m:MsgM) (W:World) (bt:Nat) (pb bs:List Nat) (T:PTown) (h:PR W bt pb bs T) (hb:pb[i]? = some b) (hp:T.ps.length ≤ 7) (hn:T.net ≤ 1000) (hk:k < 7) (hsrc:m.src = (k:Int)) (hkx:kx < 7) (hvp:m.vote.p = (kx:Int)) (l0:List (Option (VoteM × Int))) (hl0:(T.peer i).settled = some l0) :
  Calls Tryz.prog 128 #[.pointer (some ⟨b,0,none⟩),m.val] W fun o w' => o = .returned (.tuple #[]) ∧ PDid W bt pb bs w' (T.keep i m):=by
 have hX:=(Below.refl W.heap.size W).alloc (Nat.le_refl _) (.cells m.cells.toArray 133)
 have HM:=hide (MBox.new W m)
 have HH:=hide (h.below hX)
 have HX:=hide (Links.of_below bs hX)
 have HN:=hide h.new_notin
 have hi:i < T.ps.length:=(h.at hb).1
 have HSRC:=hide hsrc
 have HVP:=hide hvp
 obtain ⟨T1,hT1⟩:∃ T1,T1 = T.setP i (PTown.stands (T.peer i) (k:Int) m.vote m.state):=⟨_,rfl⟩
 obtain ⟨l,hl⟩:∃ l,l = l0.set k (some (m.vote,m.state)):=⟨_,rfl⟩
 have hp1:T1.peer i = { T.peer i with settled:=some l }:=by
  rw [hT1,PTown.peer_set hi,hl];simp [PTown.stands,mapL,hl0]
 obtain ⟨s0,hs0⟩:∃ s0:VoteM × Int,s0 = (atL l kx).getD (voteZ,0):=⟨_,rfl⟩
 have HT:Hid (T.keep i m = if (T1.most ((T1.peer i).voting (kx:Int)) && (s0.2 == 2 && s0.1.p == (kx:Int))) = true then T1.follow i s0.1 else T1):=by
  show _ = _
  have e1:PTown.stands (T.peer i) m.src m.vote m.state = T1.peer i:=by rw [hsrc,hT1,PTown.peer_set hi]
  have e2:T.setP i (T1.peer i) = T1:=by rw [hp1,hT1,hl];simp [PTown.stands,mapL,hl0]
  have e3:T.most = T1.most:=by funext n;unfold PTown.most;rw [hT1,PTown.setP_len]
  unfold PTown.keep
  simp only [e1,e2,hvp,e3]
  have e4:mapL (T1.peer i).settled = l:=by rw [hp1];rfl
  rw [e4]
  simp only [Int.toNat_natCast]
  cases ha:atL l kx with
  | none =>
   rw [ha] at hs0
   simp only [Option.getD_none] at hs0
   subst hs0
   simp
  | some s =>
   rw [ha] at hs0
   simp only [Option.getD_some] at hs0
   subst hs0
   rfl
 have hset:(T1.peer i).settled = some l:=by rw [hp1]
 have hl1:T1.ps.length = T.ps.length:=by rw [hT1,PTown.setP_len]
 have hn1:T1.net = T.net:=by rw [hT1];rfl
 have HT1:=hide hT1
 have HS0:=hide hs0
 have HSET:=hide hset
 clear h hX hsrc hvp hT1 hl hp1 hs0 hset
 unfold MsgM.val
 simp only [MsgM.cells] at HM HH HX
 go_enter Tryz.func128,Tryz.ntmps128
 go_upto_region 1 with fail
 generalize W.alloc (.cells #[.int .i64 m.kind,.int .i64 m.src,.int .i64 m.dst,.int .i64 m.round,.int .i64 m.state,.int .i64 m.vote.e,.int .i64 m.vote.n,.int .i64 m.vote.p,.int .i64 m.epoch,.int .i64 m.news] 133) = W1 at *
 obtain ⟨g,w1,c74,hrun,hd1,f74⟩:=stand_put (k:=k) (unhide HH) hb hk m.vote m.state hl0
 rw [← unhide HT1] at hd1
 have m1:=(unhide HM).m1
 rw [unhide HSRC] at m1
 have m4:=(unhide HM).m4
 have m5:=(unhide HM).m5
 have m6:=(unhide HM).m6
 have m7:=(unhide HM).m7
 have hW1:W.heap.size < W1.heap.size:=(unhide HM).lt
 obtain ⟨bs1,h1,k1⟩:=hd1.open
 have HM1:=hide ((unhide HM).links k1 (unhide HN))
 have HN1:=hide (k1.notin hW1 (unhide HN))
 have HX1:=hide ((unhide HX).trans k1)
 have HH1:=hide h1
 clear h1 k1 hd1 HH HM HX
 have f1:=(unhide HM1).m1
 rw [unhide HSRC] at f1
 have f4:=(unhide HM1).m4
 have f5:=(unhide HM1).m5
 have f6:=(unhide HM1).m6
 have f7:=(unhide HM1).m7
 go_region_held3 (fun w' => w'.cell? ⟨b,74,none⟩ = some (.map (some g)) ∧ w'.cell? ⟨W.heap.size,1,none⟩ = some (.int .i64 (k:Int)) ∧ w'.cell? ⟨W.heap.size,4,none⟩ = some (.int .i64 m.state) ∧ w'.cell? ⟨W.heap.size,5,none⟩ = some (.int .i64 m.vote.e) ∧ w'.cell? ⟨W.heap.size,6,none⟩ = some (.int .i64 m.vote.n) ∧ w'.cell? ⟨W.heap.size,7,none⟩ = some (.int .i64 m.vote.p)) (go_keep) (fail)
 rw [unhide HVP] at f7
 clear hrun c74 f1 f4 f5 f6 m1 m4 m5 m6 m7
 obtain ⟨_,q,hat,_,_,_,_,_⟩:=(unhide HH1).at hb
 have hms:=hat.ms
 rw [unhide HSET] at hms
 obtain ⟨g2,hg,hm⟩:=hms.some
 have c74:=hat.f74
 rw [hg] at c74
 have eg:g2 = g:=by
  have:=c74.symm.trans f74
  simpa using this
 rw [eg] at hm c74 hg
 clear eg f74
 have hlen:=hm.2
 obtain ⟨w2,hrun,rg1,gr1,sz1⟩:=hm.1.range (int_keyed Tryz.underlying3) Tryz.underlying102
 have hB1:Below w1.heap.size w1 w2:=⟨gr1.os,gr1.tape,gr1.output,gr1.size,fun k hk => gr1.block k hk (by simp)⟩
 have H0:Hid (behind (Maps.has (dataOf encStand l)) ((T1.peer i).votingF (kx:Int)) 7 = 0):=behind_none _ _ 7 (fun k hk hf => by
  rw [data_has]
  unfold PeerP.votingF at hf
  rw [unhide HSET] at hf
  simp only [mapL,Option.getD_some] at hf
  cases ha:l[k]?.join with
  | none => rw [show atL l k = none from ha] at hf;simp at hf
  | some v => rfl)
 have HR1:=hide rg1
 have HB1:=hide hB1
 clear hat hm hms rg1 gr1 hB1
 go_wp2
 go_loopw [5] (fun n wr => ∃ left cnt,wr.ranges Tryz.prog 3 rawElem g w1.heap.size 7 (dataOf encStand l) left cnt ∧ n = .int .i64 (behind left ((T1.peer i).votingF (kx:Int)) 7:Nat) ∧ Below w1.heap.size w1 wr) (fun _ wr => wr.rangeLeft g w1.heap.size)
 case atStart => exact ⟨_,_,unhide HR1,by rw [unhide H0];rfl,unhide HB1⟩
 case round =>
  obtain ⟨left,cnt,hrg,rfl,hB⟩:=hrel
  have hle:=behind_le left ((T1.peer i).votingF (kx:Int)) 7
  have hpr:=(unhide HH1).below hB
  rcases range_next hrg hlen 0 with ⟨h0,hnone,hrn⟩ | ⟨k2,u,w3,cnt',hk2,hu,hlk,hrn,hrg2,hlt2,hgr2,hsz2,hen⟩
  ·have hs:((behind left ((T1.peer i).votingF (kx:Int)) 7:Nat):Int) = (T1.peer i).voting (kx:Int):=by
    unfold PeerP.voting;rw [behind_all left _ hnone]
   have hs0:0 ≤ (T1.peer i).voting (kx:Int):=by omega
   have hs7:(T1.peer i).voting (kx:Int) ≤ 1000:=by omega
   rw [hs]
   obtain ⟨_,q1,hat1,_,_,_,_,_⟩:=hpr.at hb
   have c0:=hat1.town
   have hms:=hat1.ms
   rw [unhide HSET] at hms
   obtain ⟨g3,hg3,hm3⟩:=hms.some
   have d74:=hat1.f74
   rw [hg3] at d74
   have hget:=hm3.get Tryz.underlying102 kx hkx (voteZ,0) (zeroStand wr)
   rw [← unhide HS0] at hget
   simp only [encStand] at hget
   have hblr:b < wr.heap.size:=hat1.box.lt
   have HXR:=hide ((unhide HX1).below hB)
   have HPR:=hide hpr
   have hBA:=(Below.refl wr.heap.size wr).alloc (Nat.le_refl _) (.cells #[.int .i64 s0.1.e,.int .i64 s0.1.n,.int .i64 s0.1.p,.int .i64 s0.2] 190)
   have HBA:=hide hBA
   have HMO:=hide (most_any ((T1.peer i).voting (kx:Int)) _ bt pb bs1 T1 (hpr.below hBA) hs0 hs7 (by omega))
   have HFO:Hid (s0.1.p = (kx:Int) → Calls Tryz.prog 135 #[.pointer (some ⟨b,0,none⟩),.agg #[.int .i64 s0.1.e,.int .i64 s0.1.n,.int .i64 s0.1.p]] (wr.alloc (.cells #[.int .i64 s0.1.e,.int .i64 s0.1.n,.int .i64 s0.1.p,.int .i64 s0.2] 190)) fun o w' => o = .returned (.tuple #[]) ∧ PDid W bt pb bs w' (T1.follow i s0.1)):=fun e =>
    ((unhide HXR).below hBA).calls (follow_any i b kx s0.1 _ bt pb bs1 T1 (hpr.below hBA) hb (by omega) hkx e) rfl
   clear hat1 hms hm3 hpr hB hrg HR1 HB1 H0 hnone h0 hs hs0 hs7 hle hBA HS0 HSET HM1 HN1 HX1 HH1 HT1 HN f7
   generalize (T1.peer i).voting (kx:Int) = vt at *
   cases hmo:T1.most vt with
   | false =>
    rw [hmo] at HMO HT
    simp only [Bool.false_and,Bool.false_eq_true,if_false] at HT
    clear hmo
    go_wp2_with (go_at_call 112;refine (unhide HMO).mono ?_;rintro o w7 ⟨rfl,rfl⟩)
    go_end0
    exact ⟨rfl,by rw [unhide HT];exact (unhide HXR).did (PDid.of_below (unhide HPR) (unhide HBA))⟩
   | true =>
    rw [hmo] at HMO HT
    simp only [Bool.true_and] at HT
    clear hmo
    by_cases hst:s0.2 = 2
    ·have e2:(s0.2 == 2) = true:=by simp [hst]
     rw [e2] at HT
     simp only [Bool.true_and] at HT
     clear hst
     by_cases hpp:s0.1.p = (kx:Int)
     ·have e3:(s0.1.p == (kx:Int)) = true:=by simp [hpp]
      rw [e3] at HT
      simp only [if_true] at HT
      have HFQ:=hide (unhide HFO hpp)
      rw [← unhide HT] at HFQ
      clear hpp HFO HT
      go_wp2_with (go_at_call 112;refine (unhide HMO).mono ?_;rintro o w7 ⟨rfl,rfl⟩)
      refine (unhide HFQ).mono ?_
      rintro o w8 ⟨rfl,hd⟩
      have HE:=hide hd
      clear hd HFQ
      go_wp2
      go_end0
      exact ⟨rfl,unhide HE⟩
     ·have e3:(s0.1.p == (kx:Int)) = false:=by simp [hpp]
      rw [e3] at HT
      simp only [Bool.false_eq_true,if_false] at HT
      clear hpp
      go_wp2_with (go_at_call 112;refine (unhide HMO).mono ?_;rintro o w7 ⟨rfl,rfl⟩)
      go_end0
      exact ⟨rfl,by rw [unhide HT];exact (unhide HXR).did (PDid.of_below (unhide HPR) (unhide HBA))⟩
    ·have e2:(s0.2 == 2) = false:=by simp [hst]
     rw [e2] at HT
     simp only [Bool.false_and,Bool.false_eq_true,if_false] at HT
     clear hst
     go_wp2_with (go_at_call 112;refine (unhide HMO).mono ?_;rintro o w7 ⟨rfl,rfl⟩)
     go_end0
     exact ⟨rfl,by rw [unhide HT];exact (unhide HXR).did (PDid.of_below (unhide HPR) (unhide HBA))⟩
  ·have hB2:Below w1.heap.size w1 w3:=hB.grown hgr2 hB.size (fun j hj => by cases hj;exact Nat.le_refl _)
   have HST:Hid (behind (fun x => left x && !x.sameKey (.int .i64 (k2:Int))) ((T1.peer i).votingF (kx:Int)) 7 = behind left ((T1.peer i).votingF (kx:Int)) 7 + (if (u.1.p == (kx:Int)) = true then 1 else 0)):=by
    show _ = _
    rw [behind_step left _ k2 hlk 7]
    have e:(T1.peer i).votingF (kx:Int) k2 = (u.1.p == (kx:Int)):=by
     unfold PeerP.votingF
     rw [unhide HSET];simp only [mapL,Option.getD_some,hu]
    rw [e];simp [hk2]
   have HR2:Hid (∀ (o:Obj),(w3.alloc o).ranges Tryz.prog 3 rawElem g w1.heap.size 7 (dataOf encStand l) (fun x => left x && !x.sameKey (.int .i64 (k2:Int))) cnt'):=fun o => hrg2.alloc _
   have HB2:Hid (∀ (o:Obj),Below w1.heap.size w1 (w3.alloc o)):=fun o => hB2.alloc hB2.size _
   have HME:Hid (∀ (o:Obj),(w3.alloc o).rangeLeft g w1.heap.size < wr.rangeLeft g w1.heap.size):=fun o => by
    rw [hrg.left_eq,World.ranges.left_eq (unhide HR2 o)];exact hlt2
   simp only [encStand] at hrn hen
   clear hrg hrg2 hgr2 hB hB2 hpr HR1 HB1 H0 hlk hu hlt2
   by_cases h1:u.1.p = (kx:Int)
   ·have fin:Hid (behind (fun x => left x && !x.sameKey (.int .i64 (k2:Int))) ((T1.peer i).votingF (kx:Int)) 7 = behind left ((T1.peer i).votingF (kx:Int)) 7 + 1):=by
     show _ = _
     rw [unhide HST];simp [h1]
    have e1:(u.1.p == (kx:Int)) = true:=by simp [h1]
    clear HST h1
    go_wp2
    go_roundw
    case rel => exact ⟨_,cnt',unhide HR2 _,by rw [unhide fin];go_num,unhide HB2 _⟩
    case measure => exact unhide HME _
   ·have fin:Hid (behind (fun x => left x && !x.sameKey (.int .i64 (k2:Int))) ((T1.peer i).votingF (kx:Int)) 7 = behind left ((T1.peer i).votingF (kx:Int)) 7):=by
     show _ = _
     rw [unhide HST];simp [h1]
    have e1:(u.1.p == (kx:Int)) = false:=by simp [h1]
    clear HST h1
    go_wp2
    go_roundw
    case rel => exact ⟨_,cnt',unhide HR2 _,by rw [unhide fin],unhide HB2 _⟩
    case measure => exact unhide HME _
end Go.Proofs.YtceappncglfciaaGreat
namespace Go.Proofs.YtceappncglfciaaGreat
open Go.RowKit
attribute [local go_sem ↓] Go.wp_at_zero Go.wp_at_succ
set_option maxRecDepth 100000 in
set_option maxHeartbeats 1000000 in
theorem getLooking_any (i b k kx:Nat) (m:MsgM) (W:World) (bt:Nat) (pb bs:List Nat) (T:PTown) (h:PR W bt pb bs T) (hb:pb[i]? = some b) (hp:T.ps.length ≤ 7) (hn:T.net ≤ 1000) (hk:k < 7) (hsrc:m.src = (k:Int)) (hkx:kx < 7) (hvp:m.vote.p = (kx:Int)) (l0:List (Option (VoteM × Int))) (hl0:(T.peer i).settled = some l0) (l:List (Option VoteM)) (hl:(T.peer i).votes = some l) :
  Calls Tryz.prog 106 #[.pointer (some ⟨b,0,none⟩),m.val] W fun o w' => o = .returned (.tuple #[]) ∧ PDid W bt pb bs w' (T.getLooking i m):=by
 have hX:=(Below.refl W.heap.size W).alloc (Nat.le_refl _) (.cells m.cells.toArray 133)
 have HM:=hide (MBox.new W m)
 have HH:=hide (h.below hX)
 have HX:=hide (Links.of_below bs hX)
 have HC1:=hide ((Links.of_below bs hX).calls (compare_any i b k m _ bt pb bs T (h.below hX) hb hp hn hk hsrc l hl) rfl)
 have HC2:=hide ((Links.of_below bs hX).calls (keep_any i b k kx m _ bt pb bs T (h.below hX) hb hp hn hk hsrc hkx hvp l0 hl0) rfl)
 have HT:Hid (T.getLooking i m = if m.kind ≠ 1 then T else if m.state = 0 then T.compare i m else T.keep i m):=rfl
 clear h hX hsrc hvp
 unfold MsgM.val at *
 simp only [MsgM.cells] at HM HH HX HC1 HC2
 go_enter Tryz.func106,Tryz.ntmps106
 go_upto_region 2 with fail
 generalize W.alloc (.cells #[.int .i64 m.kind,.int .i64 m.src,.int .i64 m.dst,.int .i64 m.round,.int .i64 m.state,.int .i64 m.vote.e,.int .i64 m.vote.n,.int .i64 m.vote.p,.int .i64 m.epoch,.int .i64 m.news] 133) = W1 at *
 have m0:=(unhide HM).m0
 have m1:=(unhide HM).m1
 have m2:=(unhide HM).m2
 have m3:=(unhide HM).m3
 have m4:=(unhide HM).m4
 have m5:=(unhide HM).m5
 have m6:=(unhide HM).m6
 have m7:=(unhide HM).m7
 have m8:=(unhide HM).m8
 have m9:=(unhide HM).m9
 clear HM
 by_cases h1:m.kind = 1
 ·have q1:(m.kind != 1) = false:=by simp [h1]
  have hnn:¬ m.kind ≠ 1:=fun h => h h1
  rw [if_neg hnn] at HT
  clear h1 hnn
  by_cases h2:m.state = 0
  ·have q2:(m.state == 0) = true:=by simp [h2]
   rw [if_pos h2] at HT
   rw [← unhide HT] at HC1
   clear h2 HT
   go_wp2_with fail
   refine (unhide HC1).mono ?_
   rintro o w8 ⟨rfl,hd⟩
   have HE:=hide hd
   clear hd HC1 HC2
   go_wp2
   go_end0
   exact ⟨rfl,unhide HE⟩
  ·have q2:(m.state == 0) = false:=by simp [h2]
   rw [if_neg h2] at HT
   rw [← unhide HT] at HC2
   clear h2 HT
   go_wp2_with fail
   refine (unhide HC2).mono ?_
   rintro o w8 ⟨rfl,hd⟩
   have HE:=hide hd
   clear hd HC1 HC2
   go_wp2
   go_end0
   exact ⟨rfl,unhide HE⟩
 ·have q1:(m.kind != 1) = true:=by simp [h1]
  rw [if_pos h1] at HT
  clear h1 HC1 HC2
  go_wp2
  go_end0
  exact ⟨rfl,by rw [unhide HT];exact (unhide HX).did (PDid.rfl' (unhide HH))⟩
end Go.Proofs.YtceappncglfciaaGreat
namespace Go.Proofs.YtceappncglfciaaGreat
open Go.RowKit
theorem heap_setCells (b:Nat) (t:TypeId):∀ (vs:List Value) (o:Nat) (W:World) (cur:Array Value),W.heap[b]? = some (.cells cur t (0,0)) → o + vs.length ≤ cur.size → (W.setCells b o vs).heap[b]? = some (.cells (splice cur.toList o vs).toArray t (0,0))
 | [],o,W,cur,h,_ => by
  rw [splice_nil]
  simpa [World.setCells] using h
 | v :: r,o,W,cur,h,hl => by
  rw [World.setCells]
  have h1:(W.setCell ⟨b,o,none⟩ v).heap[b]? = some (.cells (cur.setIfInBounds o v) t (0,0)):=by
   unfold World.setCell
   simp only [Array.getElem?_modify,if_true,h,Option.map_some]
   rfl
  rw [heap_setCells b t r (o + 1) _ _ h1 (by simp at hl ⊢;omega),Array.toList_setIfInBounds,splice_cons _ _ _ _ (by simp at hl ⊢;omega)]
theorem heap_setCells_other (b k:Nat) (hk:k ≠ b):∀ (vs:List Value) (o:Nat) (W:World),(W.setCells b o vs).heap[k]? = W.heap[k]?
 | [],_,_ => rfl
 | v :: r,o,W => by
  rw [World.setCells,heap_setCells_other b k hk r (o + 1)]
  exact Below.heap_setCell W _ _ k hk
theorem setCells_frame (b:Nat):∀ (vs:List Value) (o:Nat) (W:World),(W.setCells b o vs).os = W.os ∧ (W.setCells b o vs).tape = W.tape ∧ (W.setCells b o vs).output = W.output ∧ (W.setCells b o vs).heap.size = W.heap.size
 | [],_,_ => ⟨rfl,rfl,rfl,rfl⟩
 | v :: r,o,W => by
  obtain ⟨h1,h2,h3,h4⟩:=setCells_frame b r (o + 1) (W.setCell ⟨b,o,none⟩ v)
  exact ⟨h1,h2,h3,by rw [World.setCells,h4];simp⟩
end Go.Proofs.YtceappncglfciaaGreat
namespace Go.Proofs.YtceappncglfciaaGreat
open Go.RowKit
attribute [local go_sem ↓] Go.wp_at_zero Go.wp_at_succ
theorem PBox.setMind {W:World} {b bt i:Nat} {d tl vs:List Value} (h:PBox W b bt i d tl) (ht:tl.length = 25) (hv:vs.length = 21):PBox (W.setCells b 62 vs) b bt i d (tl.take 4 ++ vs):=by
 have hd:=h.2
 refine ⟨?_,h.2⟩
 rw [heap_setCells b _ vs 62 W _ h.1 (by simp [pcells,h.2,ht];omega)]
 congr 2
 show (splice (pcells bt i d tl) 62 vs).toArray = _
 congr 1
 unfold pcells splice
 rw [show 62 + vs.length = 81 + 1 + 1 from by omega,List.drop_succ_cons,List.drop_succ_cons,List.take_succ_cons,List.take_succ_cons,List.drop_append,List.take_append,h.2]
 rw [List.drop_of_length_le (by omega),List.take_of_length_le (by omega),List.drop_of_length_le (by simp [ht])]
 simp
theorem keeps_setCells {b:Nat} {fp:List Nat} {a:World}:∀ (vs:List Value) (o:Nat) {w:World},Keeps (b :: fp) a w → Keeps (b :: fp) a (w.setCells b o vs)
 | [],_,_,h => h
 | v :: r,o,_,h => keeps_setCells r (o + 1) (h.own o v)
def zMind:Array Value:=#[.bool false,.int .i64 0,.int .i64 0,.int .i64 0,.int .i64 0,.int .i64 0,.int .i64 0,.int .i64 0,.int .i64 0,.int .i64 0,.int .i64 0,.map none,.map none,.bool false,.int .i64 0,.map none,.int .i64 0,.int .i64 0,.map none,.map none,.bool false]
theorem zMind_one:zMind.all (·.oneCell') = true:=by kernel_rfl
theorem Tryz.sizeMind:(Tryz.prog.info? 112).map (·.size) = some zMind.size:=by kernel_rfl
theorem PeerAt.there {W:World} {bt i b:Nat} {q:PL} {p:PeerP} (h:PeerAt W bt i b q p) (o n:Nat) (ho:o + n ≤ 83):W.there b o n:=by
 intro j hj
 refine ⟨?_,h.fz _⟩
 rw [cell_of_row W b _ _ _ (0,0) h.box.1,List.getElem?_toArray]
 have hl:(pcells bt i (byteCells p.disk) (p.tail q)).length = 83:=by
  have:=h.box.2
  simp only [pcells,List.length_cons,List.length_append,this]
  rfl
 simp [show o + j < (pcells bt i (byteCells p.disk) (p.tail q)).length from by omega]
set_option maxRecDepth 100000 in
set_option maxHeartbeats 1000000 in
theorem goDown_any (i b:Nat) (W:World) (bt:Nat) (pb bs:List Nat) (T:PTown) (h:PR W bt pb bs T) (hb:pb[i]? = some b) :
  Calls Tryz.prog 86 #[.pointer (some ⟨b,0,none⟩)] W fun o w' => o = .returned (.tuple #[]) ∧ PDid W bt pb bs w' (T.goDown i):=by
 obtain ⟨hi,q,hat,hbt,hbb,hqb,hbq,C⟩:=h.at hb
 have c58:=hat.f58
 have z58:=hat.fz 58
 have hbx:=(hat.box.set 58 (by omega) (.bool false)).setMind (vs:=zMind.toList) (by simp [PeerP.tail]) rfl
 have HTH:Hid ((W.setCell ⟨b,58,none⟩ (.bool false)).there b 62 zMind.size):=fun j hj => by
  have h0:=hat.there 62 21 (by omega) j hj
  refine ⟨?_,?_⟩
  ·rw [cell_of_row _ b _ _ _ (0,0) (hat.box.set 58 (by omega) (.bool false)).1,List.getElem?_toArray]
   have hl:(pcells bt i (byteCells (T.peer i).disk) (((T.peer i).tail q).set (58 - 58) (.bool false))).length = 83:=by
    have:=hat.box.2
    simp only [pcells,List.length_cons,List.length_append,this]
    rfl
   have hj':j < 21:=hj
   simp [show 62 + j < (pcells bt i (byteCells (T.peer i).disk) (((T.peer i).tail q).set (58 - 58) (.bool false))).length from by omega]
  ·exact (hat.box.set 58 (by omega) (.bool false)).frozen _
 have HF:Hid (PDid W bt pb bs ((W.setCell ⟨b,58,none⟩ (.bool false)).setCells b 62 zMind.toList) (T.goDown i)):=by
  have hbn:=hat.b_notin
  obtain ⟨h7,h8⟩:=hat.cells (W':=(W.setCell ⟨b,58,none⟩ (.bool false)).setCells b 62 zMind.toList) (q':={ q with mv:=none,ms:=none,mh:=none,mj:=none,ma:=none }) (p':=PeerP.zeroed (T.peer i).disk) (by exact hbx) (fun k hk => by
   have hkb:k ≠ b:=fun e => by subst e;exact hbn hk
   rw [heap_setCells_other b k hkb]
   exact Below.heap_setCell W _ _ k hkb) ⟨rfl,rfl,rfl⟩ (.inr ⟨rfl,rfl⟩) (.inr ⟨rfl,rfl⟩) (.inr ⟨rfl,rfl⟩) (.inr ⟨rfl,rfl⟩) (.inr ⟨rfl,rfl⟩)
  exact C _ _ _ h7 (fun x hx => .inl (h8 x hx)) (keeps_setCells _ _ ((Keeps.refl _ _).own 58 _))
 clear h hat C hbx
 go_enter Tryz.func86,Tryz.ntmps86
 go_wp2_with (first | (refine wpList_buildTo (by rfl) 112 #[] (by rfl) (some 4) (by rfl) zMind (by exact Tryz.builtMind) ?_) | (refine wpList_store_mid (by rfl) 112 _ _ (by rfl) b 62 zMind (by rfl) (by rfl) (unhide HTH) (by exact Tryz.sizeMind) zMind_one ?_))
 go_end0
 exact ⟨rfl,unhide HF⟩
end Go.Proofs.YtceappncglfciaaGreat
