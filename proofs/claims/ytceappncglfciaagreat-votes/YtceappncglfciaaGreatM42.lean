import Derived.Test.YtceappncglfciaaGreatM41
set_option linter.unusedVariables false
set_option linter.unusedSimpArgs false
namespace Go.Proofs.YtceappncglfciaaGreat
open Go.RowKit
attribute [local go_sem ↓] Go.wp_at_zero Go.wp_at_succ
set_option maxRecDepth 100000 in
set_option maxHeartbeats 4000000 in
theorem dCopy_any (x:Int) (W:World) (L:Lies) (T:TownM) (h:Rep W L T) (hn:(T.way.length:Int) ≤ 1000) (hnet:T.net ≤ 1000) :
  Calls Tryz.prog 54 #[.pointer (some ⟨L.bt,0,none⟩),.int .i64 x] W fun o w' => o = .returned (.int .i64 (T.copyE x)) ∧ Did W L w' (T.copy x):=by
 rcases dthere_cases T x with ⟨h0,d,rfl,hd⟩ | ⟨h0,hx⟩
 ·have q0:(0:Int) ≤ (d:Int):=by omega
  have q1:(d:Int) < (T.way.length:Int):=by omega
  have hd0:decide ((d:Int) < 0) = false:=by simp
  have hd1:decide (T.way.length ≤ d) = false:=by simp;omega
  obtain ⟨g2,cap2,hway,hc2,hcell⟩:=h.msgAt (by omega)
  have c6:W.cell? ⟨L.bt,6,none⟩ = some (.slice (some ⟨g2,0,none⟩) T.way.length cap2):=by rw [← hway];exact h.cell 6
  have c3:=h.cell 3
  by_cases hf:(T.way.length:Int) < T.net
  ·have HE:Hid (T.copyE (d:Int) = 0 ∧ T.copy (d:Int) = { T with way:=T.way ++ [T.way.getD d msgZ] }):=by
    constructor
    ·unfold TownM.copyE;rw [if_pos h0,if_pos hf]
    ·unfold TownM.copy;rw [if_pos ⟨h0,hf⟩,Int.toNat_natCast]
   rw [(unhide HE).1,(unhide HE).2]
   obtain ⟨mm,hmm⟩:∃ mm,mm = T.way.getD d msgZ:=⟨_,rfl⟩
   have hce:=fun j u => hcell d j u hd
   rw [← hmm] at hce ⊢
   obtain ⟨i0,hi0,hz0,hz1,hz2⟩:=info_parts Tryz.dinfoMsg
   have hne:(Value.slice (some ⟨g2,0,none⟩) T.way.length cap2).ownBlock ≠ some L.bt:=by rw [← hway];exact own_ne h.way h.town (by decide)
   have hlt:L.bt < W.heap.size:=(Array.getElem?_eq_some_iff.1 h.town).1
   have f6:=h.frozen 6
   have hown:=h.way
   rw [hway] at hown
   have HH:=hide h
   have HV:=hide hway
   have HDR:Hid (∀ nq,Rep (W.drewN nq) L T ∧ Below W.heap.size W (W.drewN nq)):=fun nq => by
    have hbd:=below_drewN (Below.refl W.heap.size W) nq
    exact ⟨(unhide HH).keep hbd,hbd⟩
   clear h hway hcell hmm h0 HE
   go_enter Tryz.func54,Tryz.ntmps54
   go_upto_region 3 with fail
   go_quiet (fail)
   obtain ⟨r1,b1⟩:=unhide HDR nq
   have hce1:∀ j u,mm.cells[j]? = some u → (W.drewN nq).cell? ⟨g2,d * 10 + j,none⟩ = some u:=fun j u hu => hce j u hu
   have hown1:(W.drewN nq).ownsRow 0 133 10 (.slice (some ⟨g2,0,none⟩) T.way.length cap2) T.way.length (T.way.flatMap MsgM.cells):=hown
   have hsz:(W.drewN nq).heap.size = W.heap.size:=rfl
   have f61:(W.drewN nq).frozen? ⟨L.bt,6,none⟩ = false:=r1.frozen 6
   have c61:(W.drewN nq).cell? ⟨L.bt,6,none⟩ = some (.slice (some ⟨g2,0,none⟩) T.way.length cap2):=by rw [← unhide HV];exact r1.cell 6
   clear HDR hce hown c6 c3 f6 HH
   generalize W.drewN nq = w1 at *
   rw [← hsz] at hlt
   have m0:w1.cell? ⟨g2,d * 10,none⟩ = some (.int .i64 mm.kind):=hce1 0 _ rfl
   have m1:w1.cell? ⟨g2,d * 10 + 1,none⟩ = some (.int .i64 mm.src):=hce1 1 _ rfl
   have m2:w1.cell? ⟨g2,d * 10 + 2,none⟩ = some (.int .i64 mm.dst):=hce1 2 _ rfl
   have m3:w1.cell? ⟨g2,d * 10 + 3,none⟩ = some (.int .i64 mm.round):=hce1 3 _ rfl
   have m4:w1.cell? ⟨g2,d * 10 + 4,none⟩ = some (.int .i64 mm.state):=hce1 4 _ rfl
   have m5:w1.cell? ⟨g2,d * 10 + 5,none⟩ = some (.int .i64 mm.vote.e):=hce1 5 _ rfl
   have m6:w1.cell? ⟨g2,d * 10 + 6,none⟩ = some (.int .i64 mm.vote.n):=hce1 6 _ rfl
   have m7:w1.cell? ⟨g2,d * 10 + 7,none⟩ = some (.int .i64 mm.vote.p):=hce1 7 _ rfl
   have m8:w1.cell? ⟨g2,d * 10 + 8,none⟩ = some (.int .i64 mm.epoch):=hce1 8 _ rfl
   have m9:w1.cell? ⟨g2,d * 10 + 9,none⟩ = some (.int .i64 mm.news):=hce1 9 _ rfl
   have HA:Hid ((w1.alloc (.cells #[.int .i64 mm.kind,.int .i64 mm.src,.int .i64 mm.dst,.int .i64 mm.round,.int .i64 mm.state,.int .i64 mm.vote.e,.int .i64 mm.vote.n,.int .i64 mm.vote.p,.int .i64 mm.epoch,.int .i64 mm.news] 133)).drew.ownsRow 0 133 10 (.slice (some ⟨g2,0,none⟩) T.way.length cap2) T.way.length (T.way.flatMap MsgM.cells)):=hown1.alloc _
   have HNW:Hid (∀ j u,mm.cells[j]? = some u → (w1.alloc (.cells #[.int .i64 mm.kind,.int .i64 mm.src,.int .i64 mm.dst,.int .i64 mm.round,.int .i64 mm.state,.int .i64 mm.vote.e,.int .i64 mm.vote.n,.int .i64 mm.vote.p,.int .i64 mm.epoch,.int .i64 mm.news] 133)).drew.cell? ((⟨w1.heap.size,0,none⟩:Addr).add j) = some u):=fun j u hu => World.news_of_block (heap_alloc_new w1 (.cells #[.int .i64 mm.kind,.int .i64 mm.src,.int .i64 mm.dst,.int .i64 mm.round,.int .i64 mm.state,.int .i64 mm.vote.e,.int .i64 mm.vote.n,.int .i64 mm.vote.p,.int .i64 mm.epoch,.int .i64 mm.news] 133)) j u (by simpa [MsgM.cells] using hu)
   have H1:Hid (∀ u ∈ mm.cells,u.oneCell' = true):=fun u hu => by
    simp only [MsgM.cells,List.mem_cons,List.not_mem_nil,or_false] at hu
    rcases hu with rfl | rfl | rfl | rfl | rfl | rfl | rfl | rfl | rfl | rfl <;> rfl
   have HSZ:Hid ((w1.alloc (.cells #[.int .i64 mm.kind,.int .i64 mm.src,.int .i64 mm.dst,.int .i64 mm.round,.int .i64 mm.state,.int .i64 mm.vote.e,.int .i64 mm.vote.n,.int .i64 mm.vote.p,.int .i64 mm.epoch,.int .i64 mm.news] 133)).drew.heap.size = w1.heap.size + 1):=World.size_alloc _ _
   have HFAR:Hid (∀ w6,(w1.alloc (.cells #[.int .i64 mm.kind,.int .i64 mm.src,.int .i64 mm.dst,.int .i64 mm.round,.int .i64 mm.state,.int .i64 mm.vote.e,.int .i64 mm.vote.n,.int .i64 mm.vote.p,.int .i64 mm.epoch,.int .i64 mm.news] 133)).drew.grownBy w6 (Value.slice (some ⟨g2,0,none⟩) T.way.length cap2).ownBlock → w6.cell? ⟨L.bt,6,none⟩ = some (.slice (some ⟨g2,0,none⟩) T.way.length cap2) ∧ w6.frozen? ⟨L.bt,6,none⟩ = false):=fun w6 hg => by
    have hb:w6.heap[L.bt]? = w1.heap[L.bt]?:=(hg.block L.bt (by show L.bt < (w1.alloc _).heap.size;rw [World.size_alloc];omega) (fun e => hne e.symm)).trans (Below.heap_alloc _ _ _ hlt)
    exact ⟨(World.cell?_of_block hb).trans c61,(World.frozen?_of_block hb).trans f61⟩
   have HFIN:Hid (∀ g3 cap3 w6,w6.ownsRow 0 133 10 (.slice (some ⟨g3,0,none⟩) (T.way.length + 1) cap3) (T.way.length + 1) (T.way.flatMap MsgM.cells ++ mm.cells) → (w1.alloc (.cells #[.int .i64 mm.kind,.int .i64 mm.src,.int .i64 mm.dst,.int .i64 mm.round,.int .i64 mm.state,.int .i64 mm.vote.e,.int .i64 mm.vote.n,.int .i64 mm.vote.p,.int .i64 mm.epoch,.int .i64 mm.news] 133)).drew.grownBy w6 (Value.slice (some ⟨g2,0,none⟩) T.way.length cap2).ownBlock → ((Value.slice (some ⟨g2,0,none⟩) T.way.length cap2).ownBlock = some g3 ∨ g3 = w1.heap.size + 1) →
     Did W L (w6.setCell ⟨L.bt,6,none⟩ (.slice (some ⟨g3,0,none⟩) (T.way.length + 1) cap3)) { T with way:=T.way ++ [mm] }):=fun g3 cap3 w6 ho hg hat => by
    have hX:Below w1.heap.size w1 (w1.alloc (.cells #[.int .i64 mm.kind,.int .i64 mm.src,.int .i64 mm.dst,.int .i64 mm.round,.int .i64 mm.state,.int .i64 mm.vote.e,.int .i64 mm.vote.n,.int .i64 mm.vote.p,.int .i64 mm.epoch,.int .i64 mm.news] 133)).drew:=((Below.refl w1.heap.size w1).alloc (Nat.le_refl _) _).drew
    obtain ⟨s1,s2⟩:=Rep.sent r1 hX (by rw [unhide HV];exact hg) ho (by
     rw [unhide HV]
     rcases hat with e | e
     ·exact .inl e
     ·exact .inr (by omega))
    have hk:DLinks w1 L (w6.setCell ⟨L.bt,6,none⟩ (.slice (some ⟨g3,0,none⟩) (T.way.length + 1) cap3)) { L with way:=.slice (some ⟨g3,0,none⟩) (T.way.length + 1) cap3 }:=by
     refine ⟨rfl,rfl,s2,fun y hy => ?_,_,L.ev,rfl⟩
     rcases mem_blocks.1 hy with e | e | e | e
     ·exact .inl (mem_blocks.2 (.inl e))
     ·exact .inl (mem_blocks.2 (.inr (.inl e)))
     ·have e':g3 = y:=by simpa [Value.ownBlock] using e
      rcases hat with f | f
      ·exact .inl (mem_blocks.2 (.inr (.inr (.inl (by rw [unhide HV,f,e'])))))
      ·exact .inr (by omega)
     ·exact .inl (mem_blocks.2 (.inr (.inr (.inr e))))
    exact ((DLinks.of_below L b1).trans hk).done s1
   have c6:=c61
   have f6:=f61
   have hwl:T.way.length ≤ 1000:=by omega
   clear r1 b1 hce1 hown1 hne c61 f61 HV hsz
   go_upto_region 5 with fail
   go_region_law (first | (refine step_append_lies _ (by rfl) _ _ _ (by rfl) 0 133 i0 _ 10 80 Tryz.underlying75 hi0 hz0 hz1 hz2 rfl (by omega) (.slice (some ⟨g2,0,none⟩) T.way.length cap2) T.way.length (T.way.flatMap MsgM.cells) (by rfl) (unhide HA) ⟨w1.heap.size,0,none⟩ 1 1 mm.cells (by rfl) (by rfl) (unhide HNW) (unhide H1) (by omega) (by unfold maxLen;omega) (by omega) (Nat.zero_le _) (w1.heap.size + 1) (unhide HSZ) ?_;intro g3 cap3 w6 ho hg hat hlt6;obtain ⟨z1,z2⟩:=unhide HFAR w6 hg;have HD:=hide (unhide HFIN g3 cap3 w6 ho hg hat);clear ho hg hat))
   all_goals
    clear HA HNW H1 HSZ HFAR HFIN z1 z2 c6 f6 m0 m1 m2 m3 m4 m5 m6 m7 m8 m9
    go_wp2
    go_ret
    exact ⟨rfl,unhide HD⟩
  ·have HE:Hid (T.copyE (d:Int) = 3 ∧ T.copy (d:Int) = T):=by
    constructor
    ·unfold TownM.copyE;rw [if_pos h0,if_neg hf]
    ·unfold TownM.copy;rw [if_neg (fun e => hf e.2)]
   rw [(unhide HE).1,(unhide HE).2]
   have HDR:Hid (∀ nq,Did W L (W.drewN nq) T):=fun nq => Did.of_below h (below_drewN (Below.refl W.heap.size W) nq)
   clear h h0 HE hcell hway
   go_enter Tryz.func54,Tryz.ntmps54
   go_upto_region 3 with fail
   go_quiet (fail)
   have HF:=hide (unhide HDR nq)
   clear HDR
   generalize W.drewN nq = w1 at *
   go_wp2
   go_ret
   exact ⟨rfl,unhide HF⟩
 ·have HE:Hid (T.copyE x = 4 ∧ T.copy x = T):=by
   constructor
   ·unfold TownM.copyE;rw [if_neg (by rw [h0];simp)]
   ·unfold TownM.copy;rw [if_neg (fun e => by rw [h0] at e;exact absurd e.1 (by simp))]
  rw [(unhide HE).1,(unhide HE).2]
  obtain ⟨a0,cap0,hway⟩:=row_shape h.way
  have c6:W.cell? ⟨L.bt,6,none⟩ = some (.slice a0 T.way.length cap0):=by rw [← hway];exact h.cell 6
  have HF:=hide (Did.rfl' h)
  clear h h0 HE hway
  rcases hx with hx | ⟨hx,hx2⟩
  ·go_enter Tryz.func54,Tryz.ntmps54
   go_wp2
   go_ret
   exact ⟨rfl,unhide HF⟩
  ·go_enter Tryz.func54,Tryz.ntmps54
   go_wp2
   go_ret
   exact ⟨rfl,unhide HF⟩
end Go.Proofs.YtceappncglfciaaGreat
namespace Go.Proofs.YtceappncglfciaaGreat
open Go.RowKit
attribute [local go_sem ↓] Go.wp_at_zero Go.wp_at_succ
set_option maxRecDepth 100000 in
set_option maxHeartbeats 4000000 in
theorem dDeliver_any (x K:Int) (W:World) (L:Lies) (T:TownM) (h:Rep W L T) (hf:Fits K T) (hK:K + 2 ≤ 4294967294) (hev:T.events.length ≤ 40000000000) :
  Calls Tryz.prog 52 #[.pointer (some ⟨L.bt,0,none⟩),.int .i64 x] W fun o w' => o = .returned (.int .i64 (T.thereE x)) ∧ Did W L w' (T.deliver x):=by
 have hn:(T.way.length:Int) ≤ 1000:=by have:=hf.len;have:=hf.net.2;omega
 rcases dthere_cases T x with ⟨h0,d,rfl,hd⟩ | ⟨h0,hx⟩
 ·have q0:(0:Int) ≤ (d:Int):=by omega
  have q1:(d:Int) < (T.way.length:Int):=by omega
  have hd0:decide ((d:Int) < 0) = false:=by simp
  have hd1:decide (T.way.length ≤ d) = false:=by simp;omega
  obtain ⟨g2,cap2,hway,hc2,hcell⟩:=h.msgAt (by omega)
  have c6:W.cell? ⟨L.bt,6,none⟩ = some (.slice (some ⟨g2,0,none⟩) T.way.length cap2):=by rw [← hway];exact h.cell 6
  obtain ⟨mm,hmm⟩:∃ mm,mm = T.way.getD d msgZ:=⟨_,rfl⟩
  have hce:=fun j u => hcell d j u hd
  rw [← hmm] at hce
  have hmok:=hf.msg h0
  rw [Int.toNat_natCast,← hmm] at hmok
  have hdst:=hmok.dst
  obtain ⟨r,hr⟩:∃ r:Nat,mm.dst = (r:Int):=⟨mm.dst.toNat,by omega⟩
  have hrl:r < T.ps.length:=by omega
  have hsr:=hmok.src
  obtain ⟨T1,hT1⟩:∃ T1,T1 = T.drop (d:Int):=⟨_,rfl⟩
  have hT1w:T1 = { T with way:=T.way.eraseIdx d }:=by
   rw [hT1];unfold TownM.drop;rw [if_pos h0,Int.toNat_natCast]
  have hp1:T1.ps = T.ps:=by rw [hT1w]
  have hpe1:T1.peer r = T.peer r:=TownM.peer_ps hp1 r
  have HE:Hid (T.thereE (d:Int) = 0 ∧ T.deliver (d:Int) = if (T.peer r).up = true ∧ (T.peer r).state ≠ 3 then T1.hears r mm else T1):=by
   constructor
   ·unfold TownM.thereE;rw [if_pos h0]
   ·unfold TownM.deliver
    rw [if_pos h0]
    simp only [Int.toNat_natCast]
    rw [← hmm,show mm.dst.toNat = r from by omega,hT1w]
  obtain ⟨TF,hTF⟩:∃ TF,TF = T.deliver (d:Int):=⟨_,rfl⟩
  rw [(unhide HE).1,← hTF]
  have HFO:Hid (TF = if (T.peer r).up = true ∧ (T.peer r).state ≠ 3 then T1.hears r mm else T1):=hTF.trans (unhide HE).2
  have hf1:Fits K T1:=by rw [hT1];exact hf.drop _
  have HF1:=hide hf1
  have he1:T1.events.length ≤ 40000000000:=by rw [hT1w];exact hev
  have hmok1:MsgOK T1.ps.length K mm:=by rw [hp1];exact hmok
  have HMO:=hide hmok1
  have hXb:=(Below.refl W.heap.size W).alloc (Nat.le_refl _) (.cells #[.int .i64 mm.kind,.int .i64 mm.src,.int .i64 mm.dst,.int .i64 mm.round,.int .i64 mm.state,.int .i64 mm.vote.e,.int .i64 mm.vote.n,.int .i64 mm.vote.p,.int .i64 mm.epoch,.int .i64 mm.news] 133)
  have HM:=hide (Own.new h #[.int .i64 mm.kind,.int .i64 mm.src,.int .i64 mm.dst,.int .i64 mm.round,.int .i64 mm.state,.int .i64 mm.vote.e,.int .i64 mm.vote.n,.int .i64 mm.vote.p,.int .i64 mm.epoch,.int .i64 mm.news] 133)
  have HX:=hide (DLinks.of_below L hXb)
  have HDP:=dDrop_any (d:Int) (W.alloc (.cells #[.int .i64 mm.kind,.int .i64 mm.src,.int .i64 mm.dst,.int .i64 mm.round,.int .i64 mm.state,.int .i64 mm.vote.e,.int .i64 mm.vote.n,.int .i64 mm.vote.p,.int .i64 mm.epoch,.int .i64 mm.news] 133)) L T (h.keep hXb) hn
  rw [← hT1] at HDP
  have HDR:=hide HDP
  have HR:=hide hr
  have HPE:=hide hpe1
  have HP1:=hide hp1
  have HE1:=hide he1
  have HSR:Hid (mm.src = ((mm.src.toNat:Nat):Int)):=by have:=hsr.1;show _ = _;omega
  have m0:W.cell? ⟨g2,d * 10,none⟩ = some (.int .i64 mm.kind):=hce 0 _ rfl
  have m1:W.cell? ⟨g2,d * 10 + 1,none⟩ = some (.int .i64 mm.src):=hce 1 _ rfl
  have m2:W.cell? ⟨g2,d * 10 + 2,none⟩ = some (.int .i64 mm.dst):=hce 2 _ rfl
  have m3:W.cell? ⟨g2,d * 10 + 3,none⟩ = some (.int .i64 mm.round):=hce 3 _ rfl
  have m4:W.cell? ⟨g2,d * 10 + 4,none⟩ = some (.int .i64 mm.state):=hce 4 _ rfl
  have m5:W.cell? ⟨g2,d * 10 + 5,none⟩ = some (.int .i64 mm.vote.e):=hce 5 _ rfl
  have m6:W.cell? ⟨g2,d * 10 + 6,none⟩ = some (.int .i64 mm.vote.n):=hce 6 _ rfl
  have m7:W.cell? ⟨g2,d * 10 + 7,none⟩ = some (.int .i64 mm.vote.p):=hce 7 _ rfl
  have m8:W.cell? ⟨g2,d * 10 + 8,none⟩ = some (.int .i64 mm.epoch):=hce 8 _ rfl
  have m9:W.cell? ⟨g2,d * 10 + 9,none⟩ = some (.int .i64 mm.news):=hce 9 _ rfl
  clear h hway hcell hce hmm h0 HE hTF hf hf1 he1 hmok hmok1 hdst hr hT1 hT1w hp1 hpe1 hXb HDP hev hsr
  go_enter Tryz.func52,Tryz.ntmps52
  go_upto_region 5 with (go_at_call 53;refine (unhide HDR).mono ?_;rintro o w2 ⟨rfl,hd2⟩)
  obtain ⟨L2,r2,k20⟩:=hd2.open
  have k2:=(unhide HX).trans k20
  have o2:=(unhide HM).links k20
  clear hd2 k20 HDR HX HM c6 m0 m1 m2 m3 m4 m5 m6 m7 m8 m9
  generalize W.heap.size = g at *
  have hr1:r < T1.ps.length:=by rw [unhide HP1];exact hrl
  have p0:(0:Int) ≤ (r:Int):=by omega
  have p1:(r:Int) < (T.ps.length:Int):=by omega
  have c4:=r2.cell 4
  have v1:=r2.phead hr1 1 (by omega)
  have v3:=r2.phead hr1 3 (by omega)
  simp only [PeerM.head] at v1 v3
  rw [k2.bt,k2.bp,unhide HP1] at c4
  rw [k2.bp,unhide HPE] at v1 v3
  have m2:w2.cell? ⟨g,2,none⟩ = some (.int .i64 (r:Int)):=by rw [← unhide HR];exact o2.box.cell 2
  have HDW:Hid (∀ nq,Rep (w2.drewN nq) L2 T1 ∧ DLinks W L (w2.drewN nq) L2 ∧ Own (w2.drewN nq) L2 g #[.int .i64 mm.kind,.int .i64 mm.src,.int .i64 mm.dst,.int .i64 mm.round,.int .i64 mm.state,.int .i64 mm.vote.e,.int .i64 mm.vote.n,.int .i64 mm.vote.p,.int .i64 mm.epoch,.int .i64 mm.news] 133):=fun nq => by
   have hbd:=below_drewN (Below.refl w2.heap.size w2) nq
   exact ⟨r2.keep hbd,k2.below hbd,o2.below hbd⟩
  have HBT:=hide k2.bt
  clear r2 k2 o2
  cases hu:(T.peer r).up with
  | false =>
   rw [hu] at v1
   rw [if_neg (fun e => by rw [hu] at e;exact absurd e.1 (by simp))] at HFO
   go_quiet (fail)
   have HD:Hid (Did W L (w2.drewN nq) TF):=by
    obtain ⟨r3,k3,o3⟩:=unhide HDW nq
    rw [unhide HFO];exact k3.done r3
   clear HDW hu
   generalize w2.drewN nq = w3 at *
   go_wp2
   go_ret
   exact ⟨rfl,unhide HD⟩
  | true =>
   rw [hu] at v1
   by_cases s3:(T.peer r).state = 3
   ·rw [if_neg (fun e => e.2 s3)] at HFO
    go_quiet (fail)
    have HD:Hid (Did W L (w2.drewN nq) TF):=by
     obtain ⟨r3,k3,o3⟩:=unhide HDW nq
     rw [unhide HFO];exact k3.done r3
    clear HDW hu
    generalize w2.drewN nq = w3 at *
    go_wp2
    go_ret
    exact ⟨rfl,unhide HD⟩
   ·rw [if_pos ⟨hu,s3⟩] at HFO
    go_quiet (fail)
    obtain ⟨r3,k3,o3⟩:=unhide HDW nq
    clear HDW hu m2 v1 v3 c4
    generalize w2.drewN nq = w3 at *
    have m0:w3.cell? ⟨g,0,none⟩ = some (.int .i64 mm.kind):=o3.box.cell 0
    have m1:w3.cell? ⟨g,1,none⟩ = some (.int .i64 mm.src):=o3.box.cell 1
    have m3:w3.cell? ⟨g,3,none⟩ = some (.int .i64 mm.round):=o3.box.cell 3
    have m4:w3.cell? ⟨g,4,none⟩ = some (.int .i64 mm.state):=o3.box.cell 4
    have m5:w3.cell? ⟨g,5,none⟩ = some (.int .i64 mm.vote.e):=o3.box.cell 5
    have m6:w3.cell? ⟨g,6,none⟩ = some (.int .i64 mm.vote.n):=o3.box.cell 6
    have m7:w3.cell? ⟨g,7,none⟩ = some (.int .i64 mm.vote.p):=o3.box.cell 7
    have m8:w3.cell? ⟨g,8,none⟩ = some (.int .i64 mm.epoch):=o3.box.cell 8
    have m9:w3.cell? ⟨g,9,none⟩ = some (.int .i64 mm.news):=o3.box.cell 9
    have m2:w3.cell? ⟨g,2,none⟩ = some (.int .i64 (r:Int)):=by rw [← unhide HR];exact o3.box.cell 2
    have HC0:=hears_any r mm.src.toNat K mm w3 L2 T1 r3 hr1 (unhide HF1) hK (unhide HMO) (unhide HSR) (unhide HE1)
    have HC1:=k3.calls HC0 (T':=TF) (unhide HFO)
    rw [unhide HBT] at HC1
    unfold MsgM.val at HC1
    rw [unhide HR] at HC1
    have HC:=hide HC1
    clear HC0 HC1 r3 k3 o3
    go_wp2_with fail
    refine (unhide HC).mono ?_
    rintro o w8 ⟨rfl,hd8⟩
    have HD:=hide hd8
    clear hd8 HC
    go_wp2
    go_ret
    exact ⟨rfl,unhide HD⟩
 ·have HE:Hid (T.thereE x = 4 ∧ T.deliver x = T):=by
   constructor
   ·unfold TownM.thereE;rw [if_neg (by rw [h0];simp)]
   ·unfold TownM.deliver;rw [if_neg (by rw [h0];simp)]
  rw [(unhide HE).1,(unhide HE).2]
  obtain ⟨a0,cap0,hway⟩:=row_shape h.way
  have c6:W.cell? ⟨L.bt,6,none⟩ = some (.slice a0 T.way.length cap0):=by rw [← hway];exact h.cell 6
  have HF:=hide (Did.rfl' h)
  clear h h0 HE hway
  rcases hx with hx | ⟨hx,hx2⟩
  ·go_enter Tryz.func52,Tryz.ntmps52
   go_wp2
   go_ret
   exact ⟨rfl,unhide HF⟩
  ·go_enter Tryz.func52,Tryz.ntmps52
   go_wp2
   go_ret
   exact ⟨rfl,unhide HF⟩
end Go.Proofs.YtceappncglfciaaGreat
namespace Go.Proofs.YtceappncglfciaaGreat
open Go.RowKit
attribute [local go_sem ↓] Go.wp_at_zero Go.wp_at_succ
set_option maxRecDepth 100000 in
set_option maxHeartbeats 4000000 in
theorem come_any (i:Nat) (n:Int) (c:CredM) (W:World) (L:Lies) (T:TownM) (h:Rep W L T) (hi:i < T.ps.length) (hp:T.ps.length ≤ 7) (hnet:T.net ≤ 1000) (hd:DiskOK n c (T.peer i).disk) :
  Calls Tryz.prog 78 #[.pointer (some ⟨L.bt,0,none⟩),.int .i64 i] W fun o w' => o = .returned (.tuple #[]) ∧ Did W L w' (T.come i):=by
 have q0:(0:Int) ≤ (i:Int):=by omega
 have q1:(i:Int) < (T.ps.length:Int):=by omega
 have c4:=h.cell 4
 have v0:=h.phead hi 0 (by omega)
 simp only [PeerM.head,Nat.add_zero] at v0
 have HN:=hide (rnewest_L _ hd.bytes hd.len W)
 rw [hd.newest] at HN
 obtain ⟨a0,ha0⟩:∃ a0,a0 = (if n % 2 = 0 then (28:Int) else 0):=⟨_,rfl⟩
 rw [← ha0] at HN
 have ha:0 ≤ a0:=by rw [ha0];split <;> decide
 have HCM:Hid (T.come i = (T.setPeer i ⟨(T.peer i).disk,true,-1,3,c,0,voteZ,known7,known7,false,0,0,mem7,false⟩).look i):=by
  show _ = _
  unfold TownM.come
  simp only []
  rw [hd.newest]
  simp only []
  rw [← ha0,if_pos ha]
 clear ha0
 simp only [CredM.cells] at HN
 have HH:=hide h
 have HD:=hide hd
 clear h hd
 go_enter Tryz.func78,Tryz.ntmps78
 go_upto_region 1 with (go_at_call 95;refine (unhide HN).mono ?_;rintro o w1 ⟨rfl,hb1⟩)
 have hb2:=(Below.refl w1.heap.size w1).alloc (Nat.le_refl _) (.cells #[.int .i64 c.p,.int .i64 c.t,.int .i64 c.e,.int .i64 c.v] 39)
 have r1:=(unhide HH).keep hb1
 have r2:=r1.keep hb2
 have k2:=(DLinks.of_below L hb1).below hb2
 have o2:=Own.new r1 #[.int .i64 c.p,.int .i64 c.t,.int .i64 c.e,.int .i64 c.v] 39
 clear HN HH hb1 hb2 c4 v0 r1
 generalize w1.alloc (.cells #[.int .i64 c.p,.int .i64 c.t,.int .i64 c.e,.int .i64 c.v] 39) = w2 at *
 generalize w1.heap.size = gc at *
 have c4:=r2.cell 4
 have v0:=r2.phead hi 0 (by omega)
 simp only [PeerM.head,Nat.add_zero] at v0
 have x0:w2.cell? ⟨gc,0,none⟩ = some (.int .i64 c.p):=o2.box.cell 0
 have x1:w2.cell? ⟨gc,1,none⟩ = some (.int .i64 c.t):=o2.box.cell 1
 have x2:w2.cell? ⟨gc,2,none⟩ = some (.int .i64 c.e):=o2.box.cell 2
 have x3:w2.cell? ⟨gc,3,none⟩ = some (.int .i64 c.v):=o2.box.cell 3
 have c4':w2.cell? ⟨L.bt,4,none⟩ = some (.slice (some ⟨L.bp,0,none⟩) T.ps.length L.capP):=c4
 have v0':w2.cell? ⟨L.bp,i * 121,none⟩ = some (.string (strOfNums (T.peer i).disk)):=v0
 clear c4 v0
 have HR2:=hide r2
 have HK2:=hide k2
 have HO2:=hide o2
 clear r2 k2 o2
 obtain ⟨pn,hpn⟩:∃ pn:PeerM,pn = ⟨(T.peer i).disk,true,-1,3,c,0,voteZ,known7,known7,false,0,0,mem7,false⟩:=⟨_,rfl⟩
 have hfit:pn.fit:=by rw [hpn];exact ⟨rfl,rfl,rfl⟩
 have hlen:pn.cells.length = 121:=PeerM.len hfit
 have hr0:pn.round = 0:=by rw [hpn]
 have hdk:pn.disk = (T.peer i).disk:=by rw [hpn]
 rw [← hpn] at HCM
 have HPN:=hide hpn
 have hbd:=(Below.refl w2.heap.size w2).drew
 have rd:=(unhide HR2).keep hbd
 have kd:=(unhide HK2).below hbd
 have od:=(unhide HO2).below hbd
 have HTH:Hid (w2.drew.there L.bp (i * 121) pn.cells.toArray.size):=by
  rw [List.size_toArray,hlen]
  exact rd.there hi 0 121 (by omega)
 have HSP:Hid ((Tryz.prog.info? 159).map (·.size) = some pn.cells.toArray.size):=by
  rw [List.size_toArray,hlen];exact Tryz.sizePeer
 have H1:Hid (pn.cells.toArray.all (·.oneCell') = true):=all_oneCell_toArray (PeerM.one pn)
 have s3:Rep (w2.drew.setCells L.bp (i * 121) pn.cells.toArray.toList) L (T.setPeer i pn):=by
  have hl0:(T.peer i).cells.length = 121:=PeerM.len (rd.fit _ (TownM.peer_mem hi))
  exact rd.setR (f:=0) hi pn.cells (by rw [hlen];omega) pn (splice_all _ _ (by rw [hlen,hl0])).symm hfit
 have k3:=kd.peers pn.cells.toArray.toList (i * 121)
 have o3:=od.peers pn.cells.toArray.toList (i * 121)
 have hi3:i < (T.setPeer i pn).ps.length:=by rw [TownM.setPeer_len];exact hi
 have HS3:Hid ((w2.drew.setCells L.bp (i * 121) pn.cells.toArray.toList).cell? ⟨L.bt,4,none⟩ = some (.slice (some ⟨L.bp,0,none⟩) T.ps.length L.capP) ∧ (w2.drew.setCells L.bp (i * 121) pn.cells.toArray.toList).cell? ⟨L.bp,i * 121,none⟩ = some (.string (strOfNums (T.peer i).disk)) ∧ (w2.drew.setCells L.bp (i * 121) pn.cells.toArray.toList).cell? ⟨gc,0,none⟩ = some (.int .i64 c.p) ∧ (w2.drew.setCells L.bp (i * 121) pn.cells.toArray.toList).cell? ⟨gc,1,none⟩ = some (.int .i64 c.t) ∧ (w2.drew.setCells L.bp (i * 121) pn.cells.toArray.toList).cell? ⟨gc,2,none⟩ = some (.int .i64 c.e) ∧ (w2.drew.setCells L.bp (i * 121) pn.cells.toArray.toList).cell? ⟨gc,3,none⟩ = some (.int .i64 c.v)):=by
  have e4:=s3.cell 4
  rw [TownM.setPeer_len] at e4
  have e0:=s3.phead hi3 0 (by omega)
  rw [TownM.peer_set hi] at e0
  simp only [PeerM.head,Nat.add_zero] at e0
  rw [hdk] at e0
  exact ⟨e4,e0,o3.box.cell 0,o3.box.cell 1,o3.box.cell 2,o3.box.cell 3⟩
 have HC0:=dlook_any i (w2.drew.setCells L.bp (i * 121) pn.cells.toArray.toList) L (T.setPeer i pn) s3 hi3 (by rw [TownM.setPeer_len];exact hp) hnet (by rw [TownM.peer_set hi,hr0];omega) (by rw [TownM.peer_set hi,hr0];omega)
 have HC:=hide (k3.calls HC0 (unhide HCM))
 clear hpn hfit hlen hr0 hdk hbd rd kd od s3 k3 o3 hi3 HC0 HCM HR2 HK2 HO2
 refine wp_region_held_drew (S:=fun w' => w'.cell? ⟨L.bt,4,none⟩ = some (.slice (some ⟨L.bp,0,none⟩) T.ps.length L.capP) ∧ w'.cell? ⟨L.bp,i * 121,none⟩ = some (.string (strOfNums (T.peer i).disk)) ∧ w'.cell? ⟨gc,0,none⟩ = some (.int .i64 c.p) ∧ w'.cell? ⟨gc,1,none⟩ = some (.int .i64 c.t) ∧ w'.cell? ⟨gc,2,none⟩ = some (.int .i64 c.e) ∧ w'.cell? ⟨gc,3,none⟩ = some (.int .i64 c.v)) (by kernel_rfl) ?_ (fun hHeld => ?_)
 ·exact ⟨c4',v0',x0,x1,x2,x3⟩
 refine wpAnyH_take (i:=0) (v:=?_) rfl (by kernel_rfl) (by kernel_rfl) (by kernel_rfl) (fun _ _ _ h => h) (Or.inl ⟨by rfl,?_⟩) (by assumption) ?_
 rotate_left
 ·intro w hSw
  (try dsimp only at hSw)
  go_simp
  (try with_reducible rfl)
 (try simp only [Act.put,List.getElem_toArray,List.getElem_cons_zero,List.getElem_cons_succ,List.setIfInBounds_toArray,List.set_cons_zero,List.set_cons_succ])
 refine wpAnyH_take (i:=1) (v:=?_) rfl (by kernel_rfl) (by kernel_rfl) (by kernel_rfl) (fun _ _ _ h => h) (Or.inl ⟨by rfl,?_⟩) (by assumption) ?_
 rotate_left
 ·intro w hSw
  (try dsimp only at hSw)
  go_simp
  (try with_reducible rfl)
 (try simp only [Act.put,List.getElem_toArray,List.getElem_cons_zero,List.getElem_cons_succ,List.setIfInBounds_toArray,List.set_cons_zero,List.set_cons_succ])
 refine wpAnyH_take (i:=2) (v:=?_) rfl (by kernel_rfl) (by kernel_rfl) (by kernel_rfl) (fun _ _ _ h => h) (Or.inl ⟨by rfl,?_⟩) (by assumption) ?_
 rotate_left
 ·intro w hSw
  (try dsimp only at hSw)
  go_simp
  (try with_reducible rfl)
 (try simp only [Act.put,List.getElem_toArray,List.getElem_cons_zero,List.getElem_cons_succ,List.setIfInBounds_toArray,List.set_cons_zero,List.set_cons_succ])
 refine wpAnyH_take (i:=3) (v:=?_) rfl (by kernel_rfl) (by kernel_rfl) (by kernel_rfl) (fun _ _ _ h => h) (Or.inl ⟨by rfl,?_⟩) (by assumption) ?_
 rotate_left
 ·intro w hSw
  (try dsimp only at hSw)
  go_simp
  (try with_reducible rfl)
 (try simp only [Act.put,List.getElem_toArray,List.getElem_cons_zero,List.getElem_cons_succ,List.setIfInBounds_toArray,List.set_cons_zero,List.set_cons_succ])
 refine wpAnyH_take (i:=4) (v:=?_) rfl (by kernel_rfl) (by kernel_rfl) (by kernel_rfl) (fun _ _ _ h => h) (Or.inl ⟨by rfl,?_⟩) (by assumption) ?_
 rotate_left
 ·intro w hSw
  (try dsimp only at hSw)
  go_simp
  (try with_reducible rfl)
 (try simp only [Act.put,List.getElem_toArray,List.getElem_cons_zero,List.getElem_cons_succ,List.setIfInBounds_toArray,List.set_cons_zero,List.set_cons_succ])
 refine wpAnyH_take (i:=5) (v:=?_) rfl (by kernel_rfl) (by kernel_rfl) (by kernel_rfl) (fun _ _ _ h => h) (Or.inl ⟨by rfl,?_⟩) (by assumption) ?_
 rotate_left
 ·intro w hSw
  (try dsimp only at hSw)
  go_simp
  (try with_reducible rfl)
 (try simp only [Act.put,List.getElem_toArray,List.getElem_cons_zero,List.getElem_cons_succ,List.setIfInBounds_toArray,List.set_cons_zero,List.set_cons_succ])
 refine wpAnyH_take (i:=6) (v:=?_) rfl (by kernel_rfl) (by kernel_rfl) (by kernel_rfl) (fun _ _ _ h => h) (Or.inl ⟨by rfl,?_⟩) (by assumption) ?_
 rotate_left
 ·intro w hSw
  (try dsimp only at hSw)
  go_simp
  (try with_reducible rfl)
 (try simp only [Act.put,List.getElem_toArray,List.getElem_cons_zero,List.getElem_cons_succ,List.setIfInBounds_toArray,List.set_cons_zero,List.set_cons_succ])
 refine wpAnyH_take (i:=7) (v:=?_) rfl (by kernel_rfl) (by kernel_rfl) (by kernel_rfl) (fun _ _ _ h => h) (Or.inl ⟨by rfl,?_⟩) (by assumption) ?_
 rotate_left
 ·intro w hSw
  (try dsimp only at hSw)
  go_simp
  (try with_reducible rfl)
 (try simp only [Act.put,List.getElem_toArray,List.getElem_cons_zero,List.getElem_cons_succ,List.setIfInBounds_toArray,List.set_cons_zero,List.set_cons_succ])
 refine wpAnyH_take (i:=8) (v:=?_) rfl (by kernel_rfl) (by kernel_rfl) (by kernel_rfl) (fun _ _ _ h => h) (Or.inl ⟨by rfl,?_⟩) (by assumption) ?_
 rotate_left
 ·intro w hSw
  (try dsimp only at hSw)
  go_simp
  (try with_reducible rfl)
 (try simp only [Act.put,List.getElem_toArray,List.getElem_cons_zero,List.getElem_cons_succ,List.setIfInBounds_toArray,List.set_cons_zero,List.set_cons_succ])
 refine wpAnyH_take (i:=9) (v:=?_) rfl (by kernel_rfl) (by kernel_rfl) (by kernel_rfl) (fun _ _ _ h => h) (Or.inl ⟨by rfl,?_⟩) (by assumption) ?_
 rotate_left
 ·intro w hSw
  (try dsimp only at hSw)
  go_simp
  (try with_reducible rfl)
 (try simp only [Act.put,List.getElem_toArray,List.getElem_cons_zero,List.getElem_cons_succ,List.setIfInBounds_toArray,List.set_cons_zero,List.set_cons_succ])
 refine wpAnyH_take (i:=10) (v:=?_) rfl (by kernel_rfl) (by kernel_rfl) (by kernel_rfl) (fun _ _ _ h => h) (Or.inl ⟨by rfl,?_⟩) (by assumption) ?_
 rotate_left
 ·intro w hSw
  (try dsimp only at hSw)
  go_simp
  (try with_reducible rfl)
 (try simp only [Act.put,List.getElem_toArray,List.getElem_cons_zero,List.getElem_cons_succ,List.setIfInBounds_toArray,List.set_cons_zero,List.set_cons_succ])
 refine wpAnyH_take (i:=11) (v:=?_) rfl (by kernel_rfl) (by kernel_rfl) (by kernel_rfl) (fun _ _ _ h => h) (Or.inl ⟨by rfl,?_⟩) (by assumption) ?_
 rotate_left
 ·intro w hSw
  (try dsimp only at hSw)
  go_simp
  (try with_reducible rfl)
 (try simp only [Act.put,List.getElem_toArray,List.getElem_cons_zero,List.getElem_cons_succ,List.setIfInBounds_toArray,List.set_cons_zero,List.set_cons_succ])
 refine wpAnyH_take (i:=12) (v:=?_) rfl (by kernel_rfl) (by kernel_rfl) (by kernel_rfl) (fun _ _ _ h => h) (Or.inl ⟨by rfl,?_⟩) (by assumption) ?_
 rotate_left
 ·intro w hSw
  (try dsimp only at hSw)
  go_simp
  (try with_reducible rfl)
 (try simp only [Act.put,List.getElem_toArray,List.getElem_cons_zero,List.getElem_cons_succ,List.setIfInBounds_toArray,List.set_cons_zero,List.set_cons_succ])
 refine wpAnyH_take (i:=13) (v:=?_) rfl (by kernel_rfl) (by kernel_rfl) (by kernel_rfl) (fun _ _ _ h => h) (Or.inl ⟨by rfl,?_⟩) (by assumption) ?_
 rotate_left
 ·intro w hSw
  (try dsimp only at hSw)
  go_simp
  (try with_reducible rfl)
 (try simp only [Act.put,List.getElem_toArray,List.getElem_cons_zero,List.getElem_cons_succ,List.setIfInBounds_toArray,List.set_cons_zero,List.set_cons_succ])
 refine wpAnyH_take (i:=14) (v:=.agg pn.cells.toArray) rfl (by kernel_rfl) (by kernel_rfl) (by kernel_rfl) (fun _ _ _ h => h) (Or.inl ⟨by rfl,?_⟩) (by assumption) ?_
 ·intro w hSw
  (try dsimp only at hSw)
  rw [unhide HPN]
  go_simp
  kernel_rfl
 (try simp only [Act.put,List.getElem_toArray,List.getElem_cons_zero,List.getElem_cons_succ,List.setIfInBounds_toArray,List.set_cons_zero,List.set_cons_succ])
 refine wpAnyH_take (i:=15) (v:=?_) rfl (by kernel_rfl) (by kernel_rfl) (by kernel_rfl) (fun _ _ _ h => h) (Or.inl ⟨by rfl,?_⟩) (by assumption) ?_
 rotate_left
 ·intro w hSw
  (try dsimp only at hSw)
  go_simp
  (try with_reducible rfl)
 (try simp only [Act.put,List.getElem_toArray,List.getElem_cons_zero,List.getElem_cons_succ,List.setIfInBounds_toArray,List.set_cons_zero,List.set_cons_succ])
 refine wpAnyH_ready (rs:=[16]) (by kernel_rfl) (by simp) ?_
 refine AllReadyH.cons rfl (fun K hK => ?_) AllReadyH.nil
 (try simp only [List.getElem_toArray,List.getElem_cons_zero,List.getElem_cons_succ])
 rw [if_pos (by rfl)]
 refine wp_store_mid 159 _ _ rfl L.bp (i * 121) pn.cells.toArray rfl rfl (unhide HTH) (unhide HSP) (unhide H1) ?_
 refine hK.out _ _ (unhide HS3) (fun hHeld2 => ?_)
 clear hK K hHeld
 (try simp only [Act.put,List.getElem_toArray,List.getElem_cons_zero,List.getElem_cons_succ,List.setIfInBounds_toArray,List.set_cons_zero,List.set_cons_succ])
 refine wpAnyH_done (by kernel_rfl) ?_ _
 clear hHeld2 HS3 HTH HSP H1 HPN x0 x1 x2 x3 c4' v0'
 generalize w2.drew.setCells L.bp (i * 121) pn.cells.toArray.toList = w3 at *
 go_wp2_with fail
 refine (unhide HC).mono ?_
 rintro o w8 ⟨rfl,hd8⟩
 have HE:=hide hd8
 clear hd8 HC
 go_wp2
 go_end0
 exact ⟨rfl,unhide HE⟩
end Go.Proofs.YtceappncglfciaaGreat
namespace Go.Proofs.YtceappncglfciaaGreat
open Go.RowKit
attribute [local go_sem ↓] Go.wp_at_zero Go.wp_at_succ
set_option maxRecDepth 100000 in
set_option maxHeartbeats 1000000 in
theorem dRestart_any (x K:Int) (W:World) (L:Lies) (T:TownM) (h:Rep W L T) (hf:Fits K T) :
  Calls Tryz.prog 57 #[.pointer (some ⟨L.bt,0,none⟩),.int .i64 x] W fun o w' => o = .returned (.int .i64 (T.upE x false)) ∧ Did W L w' (T.restart x):=by
 have HU:=dup_any x false W L T h
 rcases upE_cases T x false with ⟨h0,k,rfl,hk,hu⟩ | h0
 ·have HE:Hid (T.restart (k:Int) = T.come k):=by
   show _ = _
   unfold TownM.restart
   rw [if_pos h0,Int.toNat_natCast]
  rw [h0] at HU ⊢
  have HUH:=hide HU
  obtain ⟨dn,dc,hdd,hdk⟩:=(hf.peer hk).disk
  have HC:=hide (come_any k dn dc W L T h hk hf.n.2 hf.net.2 hdd)
  rw [unhide HE]
  clear h HU h0 HE hu hdd hdk hf
  go_enter Tryz.func57,Tryz.ntmps57
  go_wp2_with (first | (go_at_call 81;refine (unhide HUH).mono ?_;rintro o W ⟨rfl,rfl⟩) | (go_at_call 78;refine (unhide HC).mono ?_;rintro o w2 ⟨rfl,hd⟩;have HF:=hide hd;clear hd))
  go_ret
  exact ⟨rfl,unhide HF⟩
 ·have HE:Hid (T.restart x = T):=by
   show _ = _
   unfold TownM.restart
   rw [if_neg h0]
  obtain ⟨u,hu⟩:∃ u,u = T.upE x false:=⟨_,rfl⟩
  rw [← hu] at HU h0 ⊢
  have HUH:=hide HU
  have hd:(u == 0) = false:=by simp [h0]
  have HF:=hide (Did.rfl' h)
  rw [unhide HE]
  clear h HU HE hu hf
  go_enter Tryz.func57,Tryz.ntmps57
  go_wp2_with (go_at_call 81;refine (unhide HUH).mono ?_;rintro o w1 ⟨rfl,rfl⟩)
  go_ret
  exact ⟨rfl,unhide HF⟩
end Go.Proofs.YtceappncglfciaaGreat
