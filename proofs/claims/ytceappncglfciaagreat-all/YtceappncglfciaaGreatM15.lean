import Derived.Test.YtceappncglfciaaGreatM14
set_option linter.unusedVariables false
set_option linter.unusedSimpArgs false
namespace Go.Proofs.YtceappncglfciaaGreat
open Go.RowKit
attribute [local go_sem ↓] Go.wp_at_zero Go.wp_at_succ
theorem below_then {W w w':World} (h:Below W.heap.size W w) (k:Below w.heap.size w w'):Below W.heap.size W w':=h.trans (k.mono h.size)
set_option maxRecDepth 100000 in
set_option maxHeartbeats 1000000 in
theorem betterThan_any (i b:Nat) (v:VoteM) (W:World) (bt:Nat) (pb bs:List Nat) (T:PTown) (h:PR W bt pb bs T) (hb:pb[i]? = some b) :
  Calls Tryz.prog 143 #[.pointer (some ⟨b,0,none⟩),.agg #[.int .i64 v.e,.int .i64 v.n,.int .i64 v.p]] W fun o w' => o = .returned (.agg #[.int .i64 (T.betterThan i v).e,.int .i64 (T.betterThan i v).n,.int .i64 (T.betterThan i v).p]) ∧ Below W.heap.size W w':=by
 have hx1:Box ((W.alloc (.cells #[.int .i64 v.e,.int .i64 v.n,.int .i64 v.p] 100)).alloc (.cells #[.int .i64 0,.int .i64 0,.int .i64 0] 100)) W.heap.size #[.int .i64 v.e,.int .i64 v.n,.int .i64 v.p] 100:=(Box.new _ _ _).alloc _
 have hx2:Box ((W.alloc (.cells #[.int .i64 v.e,.int .i64 v.n,.int .i64 v.p] 100)).alloc (.cells #[.int .i64 0,.int .i64 0,.int .i64 0] 100)) (W.heap.size + 1) #[.int .i64 0,.int .i64 0,.int .i64 0] 100:=by
  have:=Box.new (W.alloc (.cells #[.int .i64 v.e,.int .i64 v.n,.int .i64 v.p] 100)) #[.int .i64 0,.int .i64 0,.int .i64 0] 100
  rwa [World.size_alloc] at this
 have hB0:Below W.heap.size W ((W.alloc (.cells #[.int .i64 v.e,.int .i64 v.n,.int .i64 v.p] 100)).alloc (.cells #[.int .i64 0,.int .i64 0,.int .i64 0] 100)):=((Below.refl _ _).alloc (Nat.le_refl _) _).alloc (by simp) _
 have HX1:=hide hx1
 have HX2:=hide hx2
 have HB0:=hide hB0
 have HH:=hide (h.below hB0)
 clear hx1 hx2 hB0 h
 go_enter Tryz.func143,Tryz.ntmps143
 go_upto_region 1 with fail
 generalize (W.alloc (.cells #[.int .i64 v.e,.int .i64 v.n,.int .i64 v.p] 100)).alloc (.cells #[.int .i64 0,.int .i64 0,.int .i64 0] 100) = W2 at *
 have a0:W2.cell? ⟨W.heap.size,0,none⟩ = some (.int .i64 v.e):=(unhide HX1).cell 0
 have a1:W2.cell? ⟨W.heap.size,1,none⟩ = some (.int .i64 v.n):=(unhide HX1).cell 1
 have a2:W2.cell? ⟨W.heap.size,2,none⟩ = some (.int .i64 v.p):=(unhide HX1).cell 2
 have hl2:W.heap.size + 1 < W2.heap.size:=(unhide HX2).lt
 have hl1:W.heap.size < W2.heap.size:=(unhide HX1).lt
 have HQ:Hid (∀ w5:World,Below W2.heap.size W2 w5 → w5.cell? ⟨W.heap.size,0,none⟩ = some (.int .i64 v.e) ∧ w5.cell? ⟨W.heap.size,1,none⟩ = some (.int .i64 v.n) ∧ w5.cell? ⟨W.heap.size,2,none⟩ = some (.int .i64 v.p)):=fun w5 hB => ⟨(hB.cell (p:=⟨W.heap.size,0,none⟩) hl1).trans a0,(hB.cell (p:=⟨W.heap.size,1,none⟩) hl1).trans a1,(hB.cell (p:=⟨W.heap.size,2,none⟩) hl1).trans a2⟩
 have HZ:Hid (∀ w5:World,Below W2.heap.size W2 w5 → Box w5 (W.heap.size + 1) #[.int .i64 0,.int .i64 0,.int .i64 0] 100):=fun w5 hB => (unhide HX2).keep hB
 have HS:Hid (∀ w5:World,Below W2.heap.size W2 w5 → Calls Tryz.prog 138 #[.pointer (some ⟨b,0,none⟩)] w5 fun o w' => o = .returned (.agg #[.int .i64 (T.forItself i).e,.int .i64 (T.forItself i).n,.int .i64 (T.forItself i).p]) ∧ Below W2.heap.size W2 w'):=fun w5 hB =>
  (forItself_any i b w5 bt pb bs T ((unhide HH).below hB) hb).mono (fun o w' hh => ⟨hh.1,below_then hB hh.2⟩)
 have HBT:Hid (∀ w5:World,Below W2.heap.size W2 w5 → Calls Tryz.prog 144 #[.agg #[.int .i64 v.e,.int .i64 v.n,.int .i64 v.p],.agg #[.int .i64 (T.forItself i).e,.int .i64 (T.forItself i).n,.int .i64 (T.forItself i).p]] w5 fun o w' => o = .returned (.bool (v.better (T.forItself i))) ∧ Below W2.heap.size W2 w'):=fun w5 hB =>
  (better_any v (T.forItself i) w5).mono (fun o w' hh => ⟨hh.1,below_then hB hh.2⟩)
 have HT:Hid (T.betterThan i v = if v.better (T.forItself i) = true then v else T.forItself i):=rfl
 have HD0:Hid (Below W2.heap.size W2 W2.drew):=(Below.refl W2.heap.size W2).drew
 generalize T.forItself i = fv at *
 clear HX1 HX2 HH
 generalize hbo:v.better fv = bo at *
 clear hbo
 go_region_held3 (fun w' => w'.cell? ⟨W.heap.size,0,none⟩ = some (.int .i64 v.e) ∧ w'.cell? ⟨W.heap.size,1,none⟩ = some (.int .i64 v.n) ∧ w'.cell? ⟨W.heap.size,2,none⟩ = some (.int .i64 v.p)) (go_keep) (first | (go_at_call 138;refine (unhide HS _ (unhide HD0)).mono ?_;rintro o w5 ⟨rfl,hB5⟩;obtain ⟨e0,e1,e2⟩:=unhide HQ w5 hB5;have HB5:=hide hB5;clear hB5) | (go_at_call 144;refine (unhide HBT _ (unhide HB5)).mono ?_;rintro o w6 ⟨rfl,hB6⟩;obtain ⟨f0,f1,f2⟩:=unhide HQ w6 hB6;have HB6:=hide hB6;clear hB6))
 cases bo with
 | true =>
  have z:=unhide HZ w6 (unhide HB6)
  have z0:w6.cell? ⟨W.heap.size + 1,0,none⟩ = some (.int .i64 0):=z.cell 0
  have z1:w6.cell? ⟨W.heap.size + 1,1,none⟩ = some (.int .i64 0):=z.cell 1
  have z2:w6.cell? ⟨W.heap.size + 1,2,none⟩ = some (.int .i64 0):=z.cell 2
  have x0:=z.frozen 0
  have x1:=z.frozen 1
  have x2:=z.frozen 2
  clear z
  go_wp2
  have hv:Hid (T.betterThan i v = v):=by
   show _ = _
   rw [unhide HT];simp
  refine bodyPost_ret (v:=.agg #[.int .i64 v.e,.int .i64 v.n,.int .i64 v.p]) (by simp [results,Tryz.results143,go_sem,z0,z1,z2]) rfl ⟨by rw [unhide hv],?_⟩
  have hB:Below W.heap.size W w6:=(unhide HB0).trans ((unhide HB6).mono (by omega))
  exact ((hB.setCell (by show W.heap.size ≤ W.heap.size + 1;omega) _).setCell (by show W.heap.size ≤ W.heap.size + 1;omega) _).setCell (by show W.heap.size ≤ W.heap.size + 1;omega) _
 | false =>
  have HS6:=hide (unhide HS w6 (unhide HB6))
  go_wp2_with (go_at_call 138;refine (unhide HS6).mono ?_;rintro o w7 ⟨rfl,hB7⟩;have HB7:=hide hB7;clear hB7;have z:=unhide HZ w7 (unhide HB7);have z0:w7.cell? ⟨W.heap.size + 1,0,none⟩ = some (.int .i64 0):=z.cell 0;have z1:w7.cell? ⟨W.heap.size + 1,1,none⟩ = some (.int .i64 0):=z.cell 1;have z2:w7.cell? ⟨W.heap.size + 1,2,none⟩ = some (.int .i64 0):=z.cell 2;have x0:=z.frozen 0;have x1:=z.frozen 1;have x2:=z.frozen 2;clear z)
  have hv:Hid (T.betterThan i v = fv):=by
   show _ = _
   rw [unhide HT];simp
  refine bodyPost_ret (v:=.agg #[.int .i64 fv.e,.int .i64 fv.n,.int .i64 fv.p]) (by simp [results,Tryz.results143,go_sem,z0,z1,z2]) rfl ⟨by rw [unhide hv],?_⟩
  have hB:Below W.heap.size W w7:=(unhide HB0).trans ((unhide HB7).mono (by omega))
  exact ((hB.setCell (by show W.heap.size ≤ W.heap.size + 1;omega) _).setCell (by show W.heap.size ≤ W.heap.size + 1;omega) _).setCell (by show W.heap.size ≤ W.heap.size + 1;omega) _
end Go.Proofs.YtceappncglfciaaGreat
namespace Go.Proofs.YtceappncglfciaaGreat
open Go.RowKit
attribute [local go_sem ↓] Go.wp_at_zero Go.wp_at_succ
def MBox (W:World) (g:Nat) (m:MsgM):Prop:=Box W g m.cells.toArray 133
section
variable {W W':World} {g:Nat} {m:MsgM}
theorem MBox.m0 (h:MBox W g m):W.cell? ⟨g,0,none⟩ = some (.int .i64 m.kind):=Box.cell h 0
theorem MBox.m1 (h:MBox W g m):W.cell? ⟨g,1,none⟩ = some (.int .i64 m.src):=Box.cell h 1
theorem MBox.m2 (h:MBox W g m):W.cell? ⟨g,2,none⟩ = some (.int .i64 m.dst):=Box.cell h 2
theorem MBox.m3 (h:MBox W g m):W.cell? ⟨g,3,none⟩ = some (.int .i64 m.round):=Box.cell h 3
theorem MBox.m4 (h:MBox W g m):W.cell? ⟨g,4,none⟩ = some (.int .i64 m.state):=Box.cell h 4
theorem MBox.m5 (h:MBox W g m):W.cell? ⟨g,5,none⟩ = some (.int .i64 m.vote.e):=Box.cell h 5
theorem MBox.m6 (h:MBox W g m):W.cell? ⟨g,6,none⟩ = some (.int .i64 m.vote.n):=Box.cell h 6
theorem MBox.m7 (h:MBox W g m):W.cell? ⟨g,7,none⟩ = some (.int .i64 m.vote.p):=Box.cell h 7
theorem MBox.m8 (h:MBox W g m):W.cell? ⟨g,8,none⟩ = some (.int .i64 m.epoch):=Box.cell h 8
theorem MBox.m9 (h:MBox W g m):W.cell? ⟨g,9,none⟩ = some (.int .i64 m.news):=Box.cell h 9
theorem MBox.lt (h:MBox W g m):g < W.heap.size:=Box.lt h
theorem MBox.keep (h:MBox W g m) (hb:Below W.heap.size W W'):MBox W' g m:=Box.keep h hb
theorem MBox.new (W:World) (m:MsgM):MBox (W.alloc (.cells m.cells.toArray 133)) W.heap.size m:=Box.new _ _ _
theorem to_one (W:World) (x:Int):ToRow (W.alloc (.cells #[.int .i64 x] 3)) (.slice (some ⟨W.heap.size,0,none⟩) 1 1) [x] :=
 ⟨by simp,.inr ⟨W.heap.size,1,#[.int .i64 x],rfl,Nat.zero_le _,heap_alloc_new W _,Nat.le_refl _,by unfold maxLen;omega,by simp,by simp⟩⟩
theorem MBox.links {bs bs1:List Nat} (h:MBox W g m) (hk:Links W bs W' bs1) (hn:g ∉ bs):MBox W' g m:=(hk.1.block g h.lt hn).trans h
theorem Links.notin {bs bs1:List Nat} (hk:Links W bs W' bs1) (hl:g < W.heap.size) (hn:g ∉ bs):g ∉ bs1:=fun hm => by
 rcases hk.2 g hm with h1 | h1
 ·exact hn h1
 ·omega
end
theorem PR.new_notin {W:World} {bt:Nat} {pb bs:List Nat} {T:PTown} (h:PR W bt pb bs T):W.heap.size ∉ bs:=fun hm => Nat.lt_irrefl _ (h.lt _ hm)
set_option maxRecDepth 100000 in
set_option maxHeartbeats 1000000 in
theorem answerNotice_any (i b:Nat) (m:MsgM) (W:World) (bt:Nat) (pb bs:List Nat) (T:PTown) (h:PR W bt pb bs T) (hb:pb[i]? = some b) (hn:T.net ≤ 1000) :
  Calls Tryz.prog 129 #[.pointer (some ⟨b,0,none⟩),m.val] W fun o w' => o = .returned (.tuple #[]) ∧ PDid W bt pb bs w' (T.answerNotice i m):=by
 have hX:=(Below.refl W.heap.size W).alloc (Nat.le_refl _) (.cells m.cells.toArray 133)
 have HM:=hide (MBox.new W m)
 have HH:=hide (h.below hX)
 have HX:=hide (Links.of_below bs hX)
 have HT:Hid (T.answerNotice i m = if m.state = 0 then T.tell i [m.src] else T):=rfl
 clear h hX
 unfold MsgM.val
 simp only [MsgM.cells] at HM HH HX
 go_enter Tryz.func129,Tryz.ntmps129
 go_upto_region 1 with fail
 generalize W.alloc (.cells #[.int .i64 m.kind,.int .i64 m.src,.int .i64 m.dst,.int .i64 m.round,.int .i64 m.state,.int .i64 m.vote.e,.int .i64 m.vote.n,.int .i64 m.vote.p,.int .i64 m.epoch,.int .i64 m.news] 133) = W1 at *
 have m1:=(unhide HM).m1
 have m4:=(unhide HM).m4
 clear HM
 by_cases h0:m.state = 0
 ·have hq:(m.state == 0) = true:=by simp [h0]
  rw [if_pos h0] at HT
  have hb1:=(Below.refl W1.heap.size W1).alloc (Nat.le_refl _) (.cells #[.int .i64 m.src] 3)
  have HC:=hide (((unhide HX).below hb1).calls (tell_any i b _ bt pb bs T ((unhide HH).below hb1) hb hn [m.src] _ (to_one W1 m.src) (by simp)) (unhide HT))
  clear h0 hb1 HT HX HH
  go_wp2_with fail
  refine (unhide HC).mono ?_
  rintro o w7 ⟨rfl,hd⟩
  have HE:=hide hd
  clear hd HC
  go_wp2
  go_end0
  exact ⟨rfl,unhide HE⟩
 ·have hq:(m.state == 0) = false:=by simp [h0]
  rw [if_neg h0] at HT
  clear h0
  go_wp2
  go_end0
  exact ⟨rfl,by rw [unhide HT];exact (unhide HX).did (PDid.rfl' (unhide HH))⟩
end Go.Proofs.YtceappncglfciaaGreat
namespace Go.Proofs.YtceappncglfciaaGreat
open Go.RowKit Go.Maps
attribute [local go_sem ↓] Go.wp_at_zero Go.wp_at_succ
section
variable {W:World} {bt i b k:Nat} {pb bs:List Nat} {T:PTown}
theorem vote_put (h:PR W bt pb bs T) (hb:pb[i]? = some b) (hk:k < 7) (v:VoteM) {l:List (Option VoteM)} (hl:(T.peer i).votes = some l) :
  ∃ g w7,W.cell? ⟨b,73,none⟩ = some (.map (some g)) ∧ (Instr.mapUpdate 101 (.map (some g)) (.int .i64 (k:Int)) (.agg #[.int .i64 v.e,.int .i64 v.n,.int .i64 v.p])).run Tryz.prog W.drew = .ok () w7 ∧ PDid W bt pb bs w7 (T.setP i (PTown.voted (T.peer i) (k:Int) v)):=by
 obtain ⟨hi,q,hat,hbt,hbb,hqb,hbq,C⟩:=h.at hb
 have hm:=hat.mv
 rw [hl] at hm
 obtain ⟨g,hg,hm⟩:=hm.some
 have c73:=hat.f73
 rw [hg] at c73
 obtain ⟨w',hrun,hm',hgr⟩:=MapIs.put (W:=W.drew) (enc:=encVote) (hm.same rfl) Tryz.underlying101 k hk v
 refine ⟨g,w',c73,hrun,?_⟩
 have:=turn_mv hat C hg hm' (show W.grownBy w' (some g) from ⟨hgr.os,hgr.tape,hgr.output,hgr.size,hgr.block⟩)
 have e:PTown.voted (T.peer i) (k:Int) v = { T.peer i with votes:=some (l.set k (some v)) }:=by simp [PTown.voted,mapL,hl]
 rw [e];exact this
theorem stand_put (h:PR W bt pb bs T) (hb:pb[i]? = some b) (hk:k < 7) (v:VoteM) (s:Int) {l:List (Option (VoteM × Int))} (hl:(T.peer i).settled = some l) :
  ∃ g w7,W.cell? ⟨b,74,none⟩ = some (.map (some g)) ∧ (Instr.mapUpdate 102 (.map (some g)) (.int .i64 (k:Int)) (.agg #[.int .i64 v.e,.int .i64 v.n,.int .i64 v.p,.int .i64 s])).run Tryz.prog W.drew = .ok () w7 ∧ PDid W bt pb bs w7 (T.setP i (PTown.stands (T.peer i) (k:Int) v s)) ∧ w7.cell? ⟨b,74,none⟩ = some (.map (some g)):=by
 obtain ⟨hi,q,hat,hbt,hbb,hqb,hbq,C⟩:=h.at hb
 have hm:=hat.ms
 rw [hl] at hm
 obtain ⟨g,hg,hm⟩:=hm.some
 have c74:=hat.f74
 rw [hg] at c74
 obtain ⟨w',hrun,hm',hgr⟩:=MapIs.put (W:=W.drew) (enc:=encStand) (hm.same rfl) Tryz.underlying102 k hk (v,s)
 have hgb:g ≠ b:=fun e => hat.b_notin (by rw [← e];exact (PL.mem_blocks q g).2 (by simp [hg]))
 refine ⟨g,w',c74,hrun,?_,(World.cell?_of_block (hgr.block b hat.box.lt (fun e => hgb (by simpa using e.symm)))).trans c74⟩
 have:=turn_ms hat C hg hm' (show W.grownBy w' (some g) from ⟨hgr.os,hgr.tape,hgr.output,hgr.size,hgr.block⟩)
 have e:PTown.stands (T.peer i) (k:Int) v s = { T.peer i with settled:=some (l.set k (some (v,s))) }:=by simp [PTown.stands,mapL,hl]
 rw [e];exact this
theorem join_put (h:PR W bt pb bs T) (hb:pb[i]? = some b) (hk:k < 7) (x:Int) {l:List (Option Int)} (hl:(T.peer i).joined = some l) :
  ∃ g w7,W.cell? ⟨b,80,none⟩ = some (.map (some g)) ∧ (Instr.mapUpdate 105 (.map (some g)) (.int .i64 (k:Int)) (.int .i64 x)).run Tryz.prog W.drew = .ok () w7 ∧ PDid W bt pb bs w7 (T.setP i (PTown.join (T.peer i) (k:Int) x)):=by
 obtain ⟨hi,q,hat,hbt,hbb,hqb,hbq,C⟩:=h.at hb
 have hm:=hat.mj
 rw [hl] at hm
 obtain ⟨g,hg,hm⟩:=hm.some
 have c80:=hat.f80
 rw [hg] at c80
 obtain ⟨w',hrun,hm',hgr⟩:=MapIs.put (W:=W.drew) (enc:=encInt) (hm.same rfl) Tryz.underlying105 k hk x
 refine ⟨g,w',c80,hrun,?_⟩
 have:=turn_mj hat C hg hm' (show W.grownBy w' (some g) from ⟨hgr.os,hgr.tape,hgr.output,hgr.size,hgr.block⟩)
 have e:PTown.join (T.peer i) (k:Int) x = { T.peer i with joined:=some (l.set k (some x)) }:=by simp [PTown.join,mapL,hl]
 rw [e];exact this
theorem ack_put (h:PR W bt pb bs T) (hb:pb[i]? = some b) (hk:k < 7) {l:List (Option Unit)} (hl:(T.peer i).acked = some l) :
  ∃ g,W.cell? ⟨b,81,none⟩ = some (.map (some g)) ∧ (∃ w7,(Instr.mapUpdate 106 (.map (some g)) (.int .i64 (k:Int)) (.agg #[])).run Tryz.prog W.drew = .ok () w7 ∧ PDid W bt pb bs w7 (T.setP i (PTown.acks (T.peer i) (k:Int)))) ∧
   ∃ w7,(Instr.mapUpdate 106 (.map (some g)) (.int .i64 (k:Int)) (.agg #[])).run Tryz.prog W = .ok () w7 ∧ PDid W bt pb bs w7 (T.setP i (PTown.acks (T.peer i) (k:Int))):=by
 obtain ⟨hi,q,hat,hbt,hbb,hqb,hbq,C⟩:=h.at hb
 have hm:=hat.ma
 rw [hl] at hm
 obtain ⟨g,hg,hm⟩:=hm.some
 have c81:=hat.f81
 rw [hg] at c81
 have e:PTown.acks (T.peer i) (k:Int) = { T.peer i with acked:=some (l.set k (some ())) }:=by simp [PTown.acks,mapL,hl]
 refine ⟨g,c81,?_,?_⟩
 ·obtain ⟨w',hrun,hm',hgr⟩:=MapIs.put (W:=W.drew) (enc:=encUnit) (hm.same rfl) Tryz.underlying106 k hk ()
  refine ⟨w',hrun,?_⟩
  rw [e]
  exact turn_ma hat C hg hm' (show W.grownBy w' (some g) from ⟨hgr.os,hgr.tape,hgr.output,hgr.size,hgr.block⟩)
 ·obtain ⟨w',hrun,hm',hgr⟩:=MapIs.put (W:=W) (enc:=encUnit) hm Tryz.underlying106 k hk ()
  refine ⟨w',hrun,?_⟩
  rw [e]
  exact turn_ma hat C hg hm' hgr
end
end Go.Proofs.YtceappncglfciaaGreat
namespace Go.Proofs.YtceappncglfciaaGreat
open Go.RowKit
attribute [local go_sem ↓] Go.wp_at_zero Go.wp_at_succ
set_option maxRecDepth 100000 in
set_option maxHeartbeats 2000000 in
theorem compare_any (i b k:Nat) (m:MsgM) (W:World) (bt:Nat) (pb bs:List Nat) (T:PTown) (h:PR W bt pb bs T) (hb:pb[i]? = some b) (hp:T.ps.length ≤ 7) (hn:T.net ≤ 1000) (hk:k < 7) (hsrc:m.src = (k:Int)) (l:List (Option VoteM)) (hl:(T.peer i).votes = some l) :
  Calls Tryz.prog 127 #[.pointer (some ⟨b,0,none⟩),m.val] W fun o w' => o = .returned (.tuple #[]) ∧ PDid W bt pb bs w' (T.compare i m):=by
 have hX:=(Below.refl W.heap.size W).alloc (Nat.le_refl _) (.cells m.cells.toArray 133)
 have HM:=hide (MBox.new W m)
 have HH:=hide (h.below hX)
 have HX:=hide (Links.of_below bs hX)
 have HN:=hide h.new_notin
 have hi:i < T.ps.length:=(h.at hb).1
 have HSRC:=hide hsrc
 clear h hX hsrc
 unfold MsgM.val
 simp only [MsgM.cells] at HM HH HX
 go_enter Tryz.func127,Tryz.ntmps127
 go_upto_region 1 with fail
 generalize W.alloc (.cells #[.int .i64 m.kind,.int .i64 m.src,.int .i64 m.dst,.int .i64 m.round,.int .i64 m.state,.int .i64 m.vote.e,.int .i64 m.vote.n,.int .i64 m.vote.p,.int .i64 m.epoch,.int .i64 m.news] 133) = W1 at *
 obtain ⟨_,q,hat,_,_,_,_,_⟩:=(unhide HH).at hb
 have c69:=hat.f69
 have c70:=hat.f70
 have c71:=hat.f71
 have c72:=hat.f72
 have m1:=(unhide HM).m1
 have m3:=(unhide HM).m3
 have m5:=(unhide HM).m5
 have m6:=(unhide HM).m6
 have m7:=(unhide HM).m7
 have HL:=hide hl
 clear hat hl
 by_cases hlt:m.round < (T.peer i).round
 ·have d1:decide (m.round < (T.peer i).round) = true:=by simpa using hlt
  have HT:Hid (T.compare i m = T.tell i [m.src]):=by
   show _ = _
   unfold PTown.compare;rw [if_pos hlt]
  have HC:Hid (∀ n,Calls Tryz.prog 142 #[.pointer (some ⟨b,0,none⟩),.slice (some ⟨W1.heap.size,0,none⟩) 1 1] ((W1.drewN n).alloc (.cells #[.int .i64 m.src] 3)) fun o w' => o = .returned (.tuple #[]) ∧ PDid W bt pb bs w' (T.compare i m)):=fun n => by
   have hb1:Below W1.heap.size W1 ((W1.drewN n).alloc (.cells #[.int .i64 m.src] 3)):=(below_drewN (Below.refl W1.heap.size W1) n).alloc (Nat.le_refl _) _
   exact ((unhide HX).below hb1).calls (tell_any i b _ bt pb bs T ((unhide HH).below hb1) hb hn [m.src] _ (to_one (W1.drewN n) m.src) (by simp)) (unhide HT)
  clear hlt HT HX HH HM HL HN
  go_quiet (fail)
  go_wp2_with fail
  refine (unhide HC _).mono ?_
  rintro o w7 ⟨rfl,hd⟩
  have HE:=hide hd
  clear hd HC
  go_wp2
  exact bodyPost_ret (v:=.tuple #[]) (by simp [results,Tryz.results127,go_sem]) rfl ⟨rfl,unhide HE⟩
 ·have d1:decide (m.round < (T.peer i).round) = false:=by simpa using hlt
  go_quiet (fail)
  have hbr:=below_drewN (Below.refl W1.heap.size W1) nq
  have HH2:=hide ((unhide HH).below hbr)
  have HX2:=hide ((unhide HX).below hbr)
  have HM2:=hide ((unhide HM).keep hbr)
  clear HH HX HM c69 c70 c71 c72 m1 m3 m5 m6 m7 hbr
  generalize W1.drewN nq = W2 at *
  obtain ⟨_,q,hat,_,_,_,_,_⟩:=(unhide HH2).at hb
  have c69:=hat.f69
  have c70:=hat.f70
  have c71:=hat.f71
  have c72:=hat.f72
  have m1:=(unhide HM2).m1
  have m3:=(unhide HM2).m3
  have m5:=(unhide HM2).m5
  have m6:=(unhide HM2).m6
  have m7:=(unhide HM2).m7
  have HH:=hide (unhide HH2)
  have HX:=hide (unhide HX2)
  have HM:=hide (unhide HM2)
  clear hat HH2 HX2 HM2
  by_cases hgt:(T.peer i).round < m.round
  ·have d2:decide ((T.peer i).round < m.round) = true:=by simpa using hgt
   have HT:Hid (T.compare i m = ((T.enter i m.round (T.betterThan i m.vote)).setP i (PTown.voted ((T.enter i m.round (T.betterThan i m.vote)).peer i) (k:Int) m.vote)).count i):=by
    show _ = _
    unfold PTown.compare;rw [if_neg hlt];simp only [if_pos hgt,unhide HSRC]
   clear hlt hgt d1
   go_upto_region 3 with fail
   go_quiet (fail)
   have hbr:=below_drewN (Below.refl W2.heap.size W2) nq
   have HH2:=hide ((unhide HH).below hbr)
   have HX2:=hide ((unhide HX).below hbr)
   have HM2:=hide ((unhide HM).keep hbr)
   clear HH HX HM c69 c70 c71 c72 m1 m3 m5 m6 m7 hbr
   generalize W2.drewN nq = W3 at *
   obtain ⟨_,q,hat,_,_,_,_,_⟩:=(unhide HH2).at hb
   have c69:=hat.f69
   have c70:=hat.f70
   have c71:=hat.f71
   have c72:=hat.f72
   have m1:=(unhide HM2).m1
   have m3:=(unhide HM2).m3
   have m5:=(unhide HM2).m5
   have m6:=(unhide HM2).m6
   have m7:=(unhide HM2).m7
   have HH:=hide (unhide HH2)
   have HX:=hide (unhide HX2)
   have HM:=hide (unhide HM2)
   clear hat HH2 HX2 HM2
   go_upto_region 4 with fail
   have hb4:=(Below.refl W3.heap.size W3).drew
   have hl3:W.heap.size < W3.heap.size:=(unhide HM).lt
   have HQ:Hid (∀ w5:World,Below W3.heap.size W3 w5 → w5.cell? ⟨W.heap.size,3,none⟩ = some (.int .i64 m.round) ∧ w5.cell? ⟨W.heap.size,5,none⟩ = some (.int .i64 m.vote.e) ∧ w5.cell? ⟨W.heap.size,6,none⟩ = some (.int .i64 m.vote.n) ∧ w5.cell? ⟨W.heap.size,7,none⟩ = some (.int .i64 m.vote.p)):=fun w5 hB => ⟨(hB.cell (p:=⟨W.heap.size,3,none⟩) hl3).trans m3,(hB.cell (p:=⟨W.heap.size,5,none⟩) hl3).trans m5,(hB.cell (p:=⟨W.heap.size,6,none⟩) hl3).trans m6,(hB.cell (p:=⟨W.heap.size,7,none⟩) hl3).trans m7⟩
   have HS:Hid (Calls Tryz.prog 143 #[.pointer (some ⟨b,0,none⟩),.agg #[.int .i64 m.vote.e,.int .i64 m.vote.n,.int .i64 m.vote.p]] W3.drew fun o w' => o = .returned (.agg #[.int .i64 (T.betterThan i m.vote).e,.int .i64 (T.betterThan i m.vote).n,.int .i64 (T.betterThan i m.vote).p]) ∧ Below W3.heap.size W3 w'):=(betterThan_any i b m.vote W3.drew bt pb bs T ((unhide HH).below hb4) hb).mono (fun o w' hh => ⟨hh.1,below_then hb4 hh.2⟩)
   have HE4:Hid (∀ w5:World,Below W3.heap.size W3 w5 → Calls Tryz.prog 137 #[.pointer (some ⟨b,0,none⟩),.int .i64 m.round,.agg #[.int .i64 (T.betterThan i m.vote).e,.int .i64 (T.betterThan i m.vote).n,.int .i64 (T.betterThan i m.vote).p]] w5 fun o w' => o = .returned (.tuple #[]) ∧ PDid W3 bt pb bs w' (T.enter i m.round (T.betterThan i m.vote))):=fun w5 hB => (Links.of_below bs hB).calls (enter_any i b m.round (T.betterThan i m.vote) w5 bt pb bs T ((unhide HH).below hB) hb hp hn) rfl
   have HV:Hid (((T.enter i m.round (T.betterThan i m.vote)).peer i).votes = some none7):=by
    show _ = _
    rw [PTown.peer_of (PTown.enter_ps _ _ hi) hi]
   have HLN:Hid ((T.enter i m.round (T.betterThan i m.vote)).ps.length ≤ 7):=by
    show _ ≤ _
    rw [PTown.enter_ps _ _ hi,List.length_set];exact hp
   have HIN:Hid (i < (T.enter i m.round (T.betterThan i m.vote)).ps.length):=by
    show _ < _
    rw [PTown.enter_ps _ _ hi,List.length_set];exact hi
   generalize T.enter i m.round (T.betterThan i m.vote) = T4 at *
   generalize T.betterThan i m.vote = bv at *
   clear c69 c70 c71 c72 HL hb4
   go_region_held3 (fun w' => w'.cell? ⟨W.heap.size,3,none⟩ = some (.int .i64 m.round) ∧ w'.cell? ⟨W.heap.size,5,none⟩ = some (.int .i64 m.vote.e) ∧ w'.cell? ⟨W.heap.size,6,none⟩ = some (.int .i64 m.vote.n) ∧ w'.cell? ⟨W.heap.size,7,none⟩ = some (.int .i64 m.vote.p)) (go_keep) (first | (go_at_call 143;refine (unhide HS).mono ?_;rintro o w5 ⟨rfl,hB5⟩;obtain ⟨e3,e5,e6,e7⟩:=unhide HQ w5 hB5;have HB5:=hide hB5;clear hB5) | (go_at_call 137;refine (unhide HE4 _ (unhide HB5)).mono ?_;rintro o w6 ⟨rfl,hd6⟩;have mm:=(unhide HM).links hd6.open.choose_spec.2 (unhide HN);have f3:=mm.m3;have f5:=mm.m5;have f6:=mm.m6;have f7:=mm.m7;clear mm;have HD6:=hide hd6;clear hd6))
   go_upto_region 7 with fail
   obtain ⟨bs6,r6,k6⟩:=(unhide HD6).open
   have HR6:=hide r6
   have HL6:=hide ((unhide HX).trans k6)
   have HM6:=hide ((unhide HM).links k6 (unhide HN))
   clear r6 k6 HD6 HX HM HH m1 m3 m5 m6 m7 e3 e5 e6 e7 f3 f5 f6 f7
   obtain ⟨g7,w7,c73,hrun,hd7⟩:=vote_put (k:=k) (unhide HR6) hb hk m.vote (unhide HV)
   have n1:=(unhide HM6).m1
   rw [unhide HSRC] at n1
   have n5:=(unhide HM6).m5
   have n6:=(unhide HM6).m6
   have n7:=(unhide HM6).m7
   obtain ⟨bs7,r7,l7⟩:=hd7.open
   have HC:=hide (((unhide HL6).trans l7).calls (count_any i b w7 bt pb bs7 _ r7 hb (by rw [PTown.setP_len];exact unhide HLN) _ (by rw [PTown.peer_set (unhide HIN)];rfl)) (unhide HT))
   clear hd7 r7 l7 HR6 HL6 HM6 HV HT HLN HIN HSRC
   go_region_with (fail)
   all_goals
    clear hrun
    go_wp2_with fail
    refine (unhide HC).mono ?_
    rintro o w8 ⟨rfl,hd⟩
    have HE:=hide hd
    clear hd HC
    go_wp2
    go_end0
    exact ⟨rfl,unhide HE⟩
  ·have d2:decide ((T.peer i).round < m.round) = false:=by simpa using hgt
   have HT:Hid (T.compare i m = ((if m.vote.better (T.peer i).vote = true then T.choose i m.vote else T).setP i (PTown.voted ((if m.vote.better (T.peer i).vote = true then T.choose i m.vote else T).peer i) (k:Int) m.vote)).count i):=by
    show _ = _
    unfold PTown.compare;rw [if_neg hlt];simp only [if_neg hgt,unhide HSRC]
   clear hlt hgt d1
   go_upto_region 3 with fail
   go_quiet (fail)
   have hbr:=below_drewN (Below.refl W2.heap.size W2) nq
   have HH2:=hide ((unhide HH).below hbr)
   have HX2:=hide ((unhide HX).below hbr)
   have HM2:=hide ((unhide HM).keep hbr)
   clear HH HX HM c69 c70 c71 c72 m1 m3 m5 m6 m7 hbr
   generalize W2.drewN nq = W3 at *
   obtain ⟨_,q,hat,_,_,_,_,_⟩:=(unhide HH2).at hb
   have c69:=hat.f69
   have c70:=hat.f70
   have c71:=hat.f71
   have c72:=hat.f72
   have m1:=(unhide HM2).m1
   have m3:=(unhide HM2).m3
   have m5:=(unhide HM2).m5
   have m6:=(unhide HM2).m6
   have m7:=(unhide HM2).m7
   have HH:=hide (unhide HH2)
   have HX:=hide (unhide HX2)
   have HM:=hide (unhide HM2)
   clear hat HH2 HX2 HM2
   go_upto_region 5 with fail
   have hb4:=(Below.refl W3.heap.size W3).drew
   have hl3:W.heap.size < W3.heap.size:=(unhide HM).lt
   have hbl3:b < W3.heap.size:=((unhide HH).at hb).2.choose_spec.1.box.lt
   have HQ:Hid (∀ w5:World,Below W3.heap.size W3 w5 → w5.cell? ⟨W.heap.size,5,none⟩ = some (.int .i64 m.vote.e) ∧ w5.cell? ⟨W.heap.size,6,none⟩ = some (.int .i64 m.vote.n) ∧ w5.cell? ⟨W.heap.size,7,none⟩ = some (.int .i64 m.vote.p) ∧ w5.cell? ⟨b,70,none⟩ = some (.int .i64 (T.peer i).vote.e) ∧ w5.cell? ⟨b,71,none⟩ = some (.int .i64 (T.peer i).vote.n) ∧ w5.cell? ⟨b,72,none⟩ = some (.int .i64 (T.peer i).vote.p)):=fun w5 hB => ⟨(hB.cell (p:=⟨W.heap.size,5,none⟩) hl3).trans m5,(hB.cell (p:=⟨W.heap.size,6,none⟩) hl3).trans m6,(hB.cell (p:=⟨W.heap.size,7,none⟩) hl3).trans m7,(hB.cell (p:=⟨b,70,none⟩) hbl3).trans c70,(hB.cell (p:=⟨b,71,none⟩) hbl3).trans c71,(hB.cell (p:=⟨b,72,none⟩) hbl3).trans c72⟩
   have HS:Hid (Calls Tryz.prog 144 #[.agg #[.int .i64 m.vote.e,.int .i64 m.vote.n,.int .i64 m.vote.p],.agg #[.int .i64 (T.peer i).vote.e,.int .i64 (T.peer i).vote.n,.int .i64 (T.peer i).vote.p]] W3.drew fun o w' => o = .returned (.bool (m.vote.better (T.peer i).vote)) ∧ Below W3.heap.size W3 w'):=(better_any m.vote (T.peer i).vote W3.drew).mono (fun o w' hh => ⟨hh.1,below_then hb4 hh.2⟩)
   generalize hbo:m.vote.better (T.peer i).vote = bo at *
   clear hbo hb4 c69 m1 m3
   go_region_held3 (fun w' => w'.cell? ⟨W.heap.size,5,none⟩ = some (.int .i64 m.vote.e) ∧ w'.cell? ⟨W.heap.size,6,none⟩ = some (.int .i64 m.vote.n) ∧ w'.cell? ⟨W.heap.size,7,none⟩ = some (.int .i64 m.vote.p) ∧ w'.cell? ⟨b,70,none⟩ = some (.int .i64 (T.peer i).vote.e) ∧ w'.cell? ⟨b,71,none⟩ = some (.int .i64 (T.peer i).vote.n) ∧ w'.cell? ⟨b,72,none⟩ = some (.int .i64 (T.peer i).vote.p)) (go_keep) (first | (go_at_call 144;refine (unhide HS).mono ?_;rintro o w5 ⟨rfl,hB5⟩;obtain ⟨e0,e1,e2,e3,e4,e5⟩:=unhide HQ w5 hB5;have HB5:=hide hB5;clear hB5))
   have HH5:=hide ((unhide HH).below (unhide HB5))
   have HX5:=hide ((unhide HX).below (unhide HB5))
   have HM5:=hide ((unhide HM).keep (unhide HB5))
   clear HH HX HM c70 c71 c72 m5 m6 m7 HQ HS
   cases bo with
   | true =>
    simp only [if_true] at HT
    have HC5:=hide (choose_any i b m.vote w5 bt pb bs T (unhide HH5) hb hp hn)
    have HV:Hid (((T.choose i m.vote).peer i).votes = some l):=by
     show _ = _
     rw [PTown.peer_of (PTown.choose_ps _) hi];exact unhide HL
    have HLN:Hid ((T.choose i m.vote).ps.length ≤ 7):=by
     show _ ≤ _
     rw [PTown.choose_ps,List.length_set];exact hp
    have HIN:Hid (i < (T.choose i m.vote).ps.length):=by
     show _ < _
     rw [PTown.choose_ps,List.length_set];exact hi
    generalize T.choose i m.vote = T4 at *
    go_upto_region 7 with (go_at_call 145;refine (unhide HC5).mono ?_;rintro o w6 ⟨rfl,hd6⟩)
    obtain ⟨bs6,r6,k6⟩:=hd6.open
    have HR6:=hide r6
    have HL6:=hide ((unhide HX5).trans k6)
    have HM6:=hide ((unhide HM5).links k6 (unhide HN))
    clear r6 k6 hd6 HX5 HM5 HH5 e0 e1 e2 e3 e4 e5 HC5 HL
    obtain ⟨g7,w7,c73,hrun,hd7⟩:=vote_put (k:=k) (unhide HR6) hb hk m.vote (unhide HV)
    have n1:=(unhide HM6).m1
    rw [unhide HSRC] at n1
    have n5:=(unhide HM6).m5
    have n6:=(unhide HM6).m6
    have n7:=(unhide HM6).m7
    obtain ⟨bs7,r7,l7⟩:=hd7.open
    have HC:=hide (((unhide HL6).trans l7).calls (count_any i b w7 bt pb bs7 _ r7 hb (by rw [PTown.setP_len];exact unhide HLN) _ (by rw [PTown.peer_set (unhide HIN)];rfl)) (unhide HT))
    clear hd7 r7 l7 HR6 HL6 HM6 HV HT HLN HIN HSRC
    go_region_with (fail)
    all_goals
     clear hrun
     go_wp2_with fail
     refine (unhide HC).mono ?_
     rintro o w8 ⟨rfl,hd⟩
     have HE:=hide hd
     clear hd HC
     go_wp2
     go_end0
     exact ⟨rfl,unhide HE⟩
   | false =>
    simp only [if_false,Bool.false_eq_true] at HT
    have HLN:Hid (T.ps.length ≤ 7):=hp
    have HIN:Hid (i < T.ps.length):=hi
    clear e0 e1 e2 e3 e4 e5
    go_upto_region 7 with fail
    obtain ⟨g7,w7,c73,hrun,hd7⟩:=vote_put (k:=k) (unhide HH5) hb hk m.vote (unhide HL)
    have n1:=(unhide HM5).m1
    rw [unhide HSRC] at n1
    have n5:=(unhide HM5).m5
    have n6:=(unhide HM5).m6
    have n7:=(unhide HM5).m7
    obtain ⟨bs7,r7,l7⟩:=hd7.open
    have HC:=hide (((unhide HX5).trans l7).calls (count_any i b w7 bt pb bs7 _ r7 hb (by rw [PTown.setP_len];exact unhide HLN) _ (by rw [PTown.peer_set (unhide HIN)];rfl)) (unhide HT))
    clear hd7 r7 l7 HH5 HX5 HM5 HL HT HLN HIN HSRC
    go_region_with (fail)
    all_goals
     clear hrun
     go_wp2_with fail
     refine (unhide HC).mono ?_
     rintro o w8 ⟨rfl,hd⟩
     have HE:=hide hd
     clear hd HC
     go_wp2
     go_end0
     exact ⟨rfl,unhide HE⟩
end Go.Proofs.YtceappncglfciaaGreat
