import Derived.Test.YtceappncglfciaaGreatM11
import Derived.Test.YtceappncglfciaaGreatM31
set_option linter.unusedVariables false
set_option linter.unusedSimpArgs false
namespace Go.Proofs.YtceappncglfciaaGreat
open Go.RowKit
attribute [local go_sem ↓] Go.wp_at_zero Go.wp_at_succ
theorem Tryz.dinfoMsg:(Tryz.prog.info? 133).map (fun i => (i.zero,i.size,i.bytes)) = some (some (.agg #[.int .i64 0,.int .i64 0,.int .i64 0,.int .i64 0,.int .i64 0,.int .i64 0,.int .i64 0,.int .i64 0,.int .i64 0,.int .i64 0]),10,80):=by kernel_rfl
set_option maxHeartbeats 400000 in
theorem dbetter_any (a b:VoteM) (w:World) :
  Calls Tryz.prog 122 #[.agg #[.int .i64 a.e,.int .i64 a.n,.int .i64 a.p],.agg #[.int .i64 b.e,.int .i64 b.n,.int .i64 b.p]] w fun o w' => o = .returned (.bool (a.better b)) ∧ Below w.heap.size w w':=by
 unfold VoteM.better
 cases h1:(a.e == b.e) with
 | false =>
  go_enter Tryz.func122,Tryz.ntmps122
  go_wp2
  go_ret
  exact ⟨rfl,((Below.refl _ _).alloc (Nat.le_refl _) _).alloc (by simp) _⟩
 | true =>
  cases h2:(a.n == b.n) with
  | false =>
   go_enter Tryz.func122,Tryz.ntmps122
   go_wp2
   go_ret
   exact ⟨rfl,((Below.refl _ _).alloc (Nat.le_refl _) _).alloc (by simp) _⟩
  | true =>
   go_enter Tryz.func122,Tryz.ntmps122
   go_wp2
   go_ret
   exact ⟨rfl,((Below.refl _ _).alloc (Nat.le_refl _) _).alloc (by simp) _⟩
theorem Rep.cell {W:World} {L:Lies} {T:TownM} (h:Rep W L T) (i:Nat):W.cell? ⟨L.bt,i,none⟩ = #[L.cv,.int .i64 T.wait,.int .i64 T.lease,.int .i64 T.net,.slice (some ⟨L.bp,0,none⟩) T.ps.length L.capP,.int .i64 T.now,L.way,L.ev][i]?:=cell_of_row W L.bt i _ _ (0,0) h.town
theorem Rep.frozen {W:World} {L:Lies} {T:TownM} (h:Rep W L T) (i:Nat):W.frozen? ⟨L.bt,i,none⟩ = false:=frozen_of_row W L.bt i _ _ h.town
set_option maxHeartbeats 400000 in
theorem dmost_any (n:Int) (W:World) (L:Lies) (T:TownM) (h:Rep W L T) (h0:0 ≤ n) (h1:n ≤ 1000) :
  Calls Tryz.prog 104 #[.pointer (some ⟨L.bt,0,none⟩),.int .i64 n] W fun o w' => o = .returned (.bool (T.most n)) ∧ w' = W:=by
 have c4:=h.cell 4
 unfold TownM.most
 clear h
 go_enter Tryz.func104,Tryz.ntmps104
 go_wp2
 go_ret
 exact ⟨rfl,rfl⟩
set_option maxHeartbeats 1000000 in
theorem send_full (m:MsgM) (W:World) (L:Lies) (T:TownM) (h:Rep W L T) (hf:¬ (T.way.length:Int) < T.net) :
  Calls Tryz.prog 105 #[.pointer (some ⟨L.bt,0,none⟩),m.val] W fun o w' => o = .returned (.tuple #[]) ∧ Below W.heap.size W w':=by
 obtain ⟨a,cap,hv⟩:=row_shape h.way
 have c6:=h.cell 6
 have c3:=h.cell 3
 have hlt:L.bt < W.heap.size:=(Array.getElem?_eq_some_iff.1 h.town).1
 rw [hv] at c6 c3
 have hd:decide ((T.way.length:Int) < T.net) = false:=by simpa using hf
 unfold MsgM.val
 clear h hv
 go_enter Tryz.func105,Tryz.ntmps105
 go_wp2
 go_quiet (fail)
 go_wp2
 go_end0
 exact ⟨rfl,below_drewN ((Below.refl _ _).alloc (Nat.le_refl _) _) _⟩
theorem Rep.sent {W X w1:World} {L:Lies} {T:TownM} {m:MsgM} {g cap:Nat} (h:Rep W L T) (hX:Below W.heap.size W X) (hgrow:X.grownBy w1 L.way.ownBlock)
  (hown:w1.ownsRow 0 133 10 (.slice (some ⟨g,0,none⟩) (T.way.length + 1) cap) (T.way.length + 1) (T.way.flatMap MsgM.cells ++ m.cells)) (hat:L.way.ownBlock = some g ∨ W.heap.size ≤ g) :
  Rep (w1.setCell ⟨L.bt,6,none⟩ (.slice (some ⟨g,0,none⟩) (T.way.length + 1) cap)) { L with way:=.slice (some ⟨g,0,none⟩) (T.way.length + 1) cap } { T with way:=T.way ++ [m] } ∧
  Keeps L.blocks W (w1.setCell ⟨L.bt,6,none⟩ (.slice (some ⟨g,0,none⟩) (T.way.length + 1) cap)):=by
 have hbt:L.bt < W.heap.size:=(Array.getElem?_eq_some_iff.1 h.town).1
 obtain ⟨cur,hp,hp2,hp3,hp4⟩:=h.peers
 have hbp:L.bp < W.heap.size:=(Array.getElem?_eq_some_iff.1 hp).1
 have n1:L.way.ownBlock ≠ some L.bt:=own_ne h.way h.town (by decide)
 have n2:L.way.ownBlock ≠ some L.bp:=own_ne h.way hp (by decide)
 have n3:L.bt ≠ L.bp:=by
  intro e
  have h1:=h.town
  rw [e,hp] at h1
  exact absurd h1 (by simp)
 have keep:∀ k,k < W.heap.size → some k ≠ L.way.ownBlock → w1.heap[k]? = W.heap[k]?:=fun k hk hne => (hgrow.block k (Nat.lt_of_lt_of_le hk hX.size) hne).trans (hX.block k hk)
 have t1:w1.heap[L.bt]? = some (.cells #[L.cv,.int .i64 T.wait,.int .i64 T.lease,.int .i64 T.net,.slice (some ⟨L.bp,0,none⟩) T.ps.length L.capP,.int .i64 T.now,L.way,L.ev] 131 (0,0)):=(keep L.bt hbt (fun e => n1 e.symm)).trans h.town
 have t2:(w1.setCell ⟨L.bt,6,none⟩ (.slice (some ⟨g,0,none⟩) (T.way.length + 1) cap)).heap[L.bt]? = some (.cells #[L.cv,.int .i64 T.wait,.int .i64 T.lease,.int .i64 T.net,.slice (some ⟨L.bp,0,none⟩) T.ps.length L.capP,.int .i64 T.now,.slice (some ⟨g,0,none⟩) (T.way.length + 1) cap,L.ev] 131 (0,0)):=by
  unfold World.setCell
  simp only [Array.getElem?_modify,if_true,t1,Option.map_some]
  rfl
 have other:∀ k,k ≠ L.bt → (w1.setCell ⟨L.bt,6,none⟩ (.slice (some ⟨g,0,none⟩) (T.way.length + 1) cap)).heap[k]? = w1.heap[k]?:=fun k hk => Below.heap_setCell w1 _ _ k hk
 have gne:g ≠ L.bt:=by
  rcases hat with h1 | h1
  ·intro e;exact n1 (by rw [h1,e])
  ·omega
 refine ⟨⟨?_,?_,?_,?_,h.fit⟩,?_⟩
 ·simpa using t2
 ·exact ⟨cur,(other L.bp (fun e => n3 e.symm)).trans ((keep L.bp hbp (fun e => n2 e.symm)).trans hp),hp2,hp3,hp4⟩
 ·have:=own_same hown (W':=w1.setCell ⟨L.bt,6,none⟩ (.slice (some ⟨g,0,none⟩) (T.way.length + 1) cap)) (fun b hb => by
   have:g = b:=by simpa [Value.ownBlock] using hb
   subst this
   exact other g gne)
  simpa using this
 ·refine own_same h.events (fun b hb => ?_)
  have hlt:=(h.events.lt b hb).2
  have e1:=own_ne2 h.way h.events (by decide) b hb
  have e2:b ≠ L.bt:=fun e => own_ne h.events h.town (by decide) (by rw [hb,e])
  exact (other b e2).trans (keep b hlt (fun e => e1 e.symm))
 ·refine ⟨hgrow.os.trans hX.os,hgrow.tape.trans hX.tape,hgrow.output.trans hX.output,Nat.le_trans hX.size (Nat.le_trans hgrow.size (by simp)),fun k hk hn => ?_⟩
  simp only [Lies.blocks,List.mem_cons,List.mem_append,not_or,Option.mem_toList] at hn
  exact (other k hn.1).trans (keep k hk (fun e => hn.2.2.1 e.symm))
set_option maxHeartbeats 2000000 in
theorem dsend_room (m:MsgM) (W:World) (L:Lies) (T:TownM) (h:Rep W L T) (hf:(T.way.length:Int) < T.net) (hn:T.net ≤ 1000) :
  Calls Tryz.prog 105 #[.pointer (some ⟨L.bt,0,none⟩),m.val] W fun o w' => o = .returned (.tuple #[]) ∧ ∃ v,Rep w' { L with way:=v } { T with way:=T.way ++ [m] } ∧ Keeps L.blocks W w' ∧ (v.ownBlock = L.way.ownBlock ∨ ∃ g,v.ownBlock = some g ∧ W.heap.size ≤ g):=by
 obtain ⟨i0,hi,hz0,hz1,hz2⟩:=info_parts Tryz.dinfoMsg
 obtain ⟨a,cap,hv⟩:=row_shape h.way
 have c6:=h.cell 6
 have c3:=h.cell 3
 have f6:=h.frozen 6
 have hlt:L.bt < W.heap.size:=(Array.getElem?_eq_some_iff.1 h.town).1
 rw [hv] at c6 c3
 have hd:decide ((T.way.length:Int) < T.net) = true:=by simpa using hf
 have hown:=h.way
 have hne:(Value.slice a T.way.length cap).ownBlock ≠ some L.bt:=by rw [← hv];exact own_ne h.way h.town (by decide)
 rw [hv] at hown
 have HH:=hide h
 have HA:Hid (∀ k o1 o2,(((W.alloc o1).drewN k).alloc o2).ownsRow 0 133 10 (.slice a T.way.length cap) T.way.length (T.way.flatMap MsgM.cells)):=fun k o1 o2 => (show ((W.alloc o1).drewN k).ownsRow 0 133 10 (.slice a T.way.length cap) T.way.length (T.way.flatMap MsgM.cells) from hown.alloc o1).alloc o2
 have HNW:Hid (∀ k o1 j u,m.cells[j]? = some u → (((W.alloc o1).drewN k).alloc (.cells m.cells.toArray 133)).cell? ((⟨W.heap.size + 1,0,none⟩:Addr).add j) = some u):=fun k o1 j u hu => by
  have hb:(((W.alloc o1).drewN k).alloc (.cells m.cells.toArray 133)).heap[W.heap.size + 1]? = some (.cells m.cells.toArray 133 (0,0)):=by
   have:=heap_alloc_new ((W.alloc o1).drewN k) (.cells m.cells.toArray 133)
   rw [show ((W.alloc o1).drewN k).heap.size = W.heap.size + 1 from World.size_alloc W o1] at this
   exact this
  exact World.news_of_block hb j u (by simpa using hu)
 have HFAR:Hid (∀ k o1 o2 w1,(((W.alloc o1).drewN k).alloc o2).grownBy w1 (Value.slice a T.way.length cap).ownBlock → w1.cell? ⟨L.bt,6,none⟩ = some (.slice a T.way.length cap) ∧ w1.frozen? ⟨L.bt,6,none⟩ = false):=fun k o1 o2 w1 hg => by
  have hb:w1.heap[L.bt]? = W.heap[L.bt]?:=by
   have e1:=hg.block L.bt (by rw [World.size_alloc,show ((W.alloc o1).drewN k).heap.size = W.heap.size + 1 from World.size_alloc W o1];omega) (fun e => hne e.symm)
   rw [e1,Below.heap_alloc _ _ _ (by rw [show ((W.alloc o1).drewN k).heap.size = W.heap.size + 1 from World.size_alloc W o1];omega)]
   exact Below.heap_alloc _ _ _ hlt
  exact ⟨(World.cell?_of_block hb).trans c6,(World.frozen?_of_block hb).trans f6⟩
 have H1:Hid (∀ u ∈ m.cells,u.oneCell' = true):=fun u hu => by
  simp only [MsgM.cells,List.mem_cons,List.not_mem_nil,or_false] at hu
  rcases hu with rfl | rfl | rfl | rfl | rfl | rfl | rfl | rfl | rfl | rfl <;> rfl
 have HSZ:Hid (∀ k o1 o2,(((W.alloc o1).drewN k).alloc o2).heap.size = W.heap.size + 1 + 1):=fun k o1 o2 => by
  show (((W.alloc o1).drewN k).alloc o2).heap.size = _
  rw [World.size_alloc,show ((W.alloc o1).drewN k).heap.size = W.heap.size + 1 from World.size_alloc W o1]
 unfold MsgM.val
 have HV:=hide hv
 clear h hown hv hne
 go_enter Tryz.func105,Tryz.ntmps105
 go_wp2
 go_quiet (fail)
 go_wp2
 go_region_law ((refine step_append_lies _ (by rfl) _ _ _ (by rfl) 0 133 i0 _ 10 80 Tryz.underlying75 hi hz0 hz1 hz2 rfl (by omega) (.slice a T.way.length cap) T.way.length (T.way.flatMap MsgM.cells) (by rfl) (unhide HA _ _ _) ⟨W.heap.size + 1,0,none⟩ 1 1 m.cells (by rfl) (by rfl) (unhide HNW _ _) (unhide H1) (by omega) (by unfold maxLen;omega) (by omega) (Nat.zero_le _) (W.heap.size + 1 + 1) (unhide HSZ _ _ _) ?_;intro g cap2 w1 hown1 hgrow hat hlt1;obtain ⟨z1,z2⟩:=unhide HFAR _ _ _ _ hgrow))
 all_goals
  have hX:=(below_drewN ((Below.refl W.heap.size W).alloc (Nat.le_refl _) (.cells m.cells.toArray 133)) (nq + 1)).alloc (by simp) (.cells m.cells.toArray 133)
  have hfin:=hide (Rep.sent (unhide HH) hX (by rw [unhide HV];exact hgrow) hown1 (by
   rw [unhide HV]
   rcases hat with e | e
   ·exact .inl e
   ·exact .inr (by omega)))
  have hown2:Hid ((Value.slice (some ⟨g,0,none⟩) (T.way.length + 1) cap2).ownBlock = L.way.ownBlock ∨ ∃ g',(Value.slice (some ⟨g,0,none⟩) (T.way.length + 1) cap2).ownBlock = some g' ∧ W.heap.size ≤ g'):=by
   rw [unhide HV]
   rcases hat with e | e
   ·exact .inl e.symm
   ·exact .inr ⟨g,rfl,by omega⟩
  go_wp2
  go_end0
  exact ⟨rfl,_,(unhide hfin).1,(unhide hfin).2,unhide hown2⟩
end Go.Proofs.YtceappncglfciaaGreat
namespace Go.Proofs.YtceappncglfciaaGreat
open Go.RowKit
attribute [local go_sem ↓] Go.wp_at_zero Go.wp_at_succ
def Did (W:World) (L:Lies) (w':World) (T':TownM):Prop :=
 ∃ v e,Rep w' { L with way:=v,ev:=e } T' ∧ Keeps L.blocks W w' ∧ ∀ x ∈ Lies.blocks { L with way:=v,ev:=e },x ∈ L.blocks ∨ W.heap.size ≤ x
section
variable {W W' w1 w2:World} {L:Lies} {T T1 T2:TownM}
theorem Rep.keep (h:Rep W L T) (hb:Below W.heap.size W W'):Rep W' L T:=by
 obtain ⟨cur,hp,hp2,hp3,hp4⟩:=h.peers
 have hbt:L.bt < W.heap.size:=(Array.getElem?_eq_some_iff.1 h.town).1
 have hbp:L.bp < W.heap.size:=(Array.getElem?_eq_some_iff.1 hp).1
 exact ⟨(hb.block _ hbt).trans h.town,⟨cur,(hb.block _ hbp).trans hp,hp2,hp3,hp4⟩,own_same h.way (fun b hv => hb.block b (h.way.lt b hv).2),own_same h.events (fun b hv => hb.block b (h.events.lt b hv).2),h.fit⟩
theorem Did.rfl' (h:Rep W L T):Did W L W T:=⟨L.way,L.ev,h,Keeps.refl _ _,fun _ hx => .inl hx⟩
theorem Did.of_below (h:Rep W L T) (hb:Below W.heap.size W w1):Did W L w1 T:=⟨L.way,L.ev,h.keep hb,Keeps.of_below hb,fun _ hx => .inl hx⟩
theorem Did.pre (h:Did W' L w2 T2) (hb:Below W.heap.size W W'):Did W L w2 T2:=by
 obtain ⟨v,e,hr,hk,hbl⟩:=h
 refine ⟨v,e,hr,(Keeps.of_below (fp:=L.blocks) hb).trans hk (fun x hx => .inl hx),fun x hx => ?_⟩
 rcases hbl x hx with h1 | h1
 ·exact .inl h1
 ·exact .inr (Nat.le_trans hb.size h1)
theorem Did.next {v e:Value} (hk:Keeps L.blocks W w1) (hbl:∀ x ∈ Lies.blocks { L with way:=v,ev:=e },x ∈ L.blocks ∨ W.heap.size ≤ x) (h:Did w1 { L with way:=v,ev:=e } w2 T2):Did W L w2 T2:=by
 obtain ⟨v2,e2,hr2,hk2,hb2⟩:=h
 refine ⟨v2,e2,hr2,hk.trans hk2 hbl,fun x hx => ?_⟩
 rcases hb2 x hx with h1 | h1
 ·exact hbl x h1
 ·exact .inr (Nat.le_trans hk.size h1)
theorem mem_blocks {x:Nat}:x ∈ L.blocks ↔ x = L.bt ∨ x = L.bp ∨ L.way.ownBlock = some x ∨ L.ev.ownBlock = some x:=by
 simp [Lies.blocks,List.mem_append,Option.mem_toList]
end
theorem dsend_any (m:MsgM) (W:World) (L:Lies) (T:TownM) (h:Rep W L T) (hn:T.net ≤ 1000) :
  Calls Tryz.prog 105 #[.pointer (some ⟨L.bt,0,none⟩),m.val] W fun o w' => o = .returned (.tuple #[]) ∧ Did W L w' (T.send m):=by
 unfold TownM.send
 by_cases hf:(T.way.length:Int) < T.net
 ·rw [if_pos hf]
  refine (dsend_room m W L T h hf hn).mono ?_
  rintro o w' ⟨rfl,v,hr,hk,ho⟩
  refine ⟨rfl,v,L.ev,hr,hk,fun x hx => ?_⟩
  rw [mem_blocks] at hx
  rcases hx with h1 | h1 | h1 | h1
  ·exact .inl (mem_blocks.2 (.inl h1))
  ·exact .inl (mem_blocks.2 (.inr (.inl h1)))
  ·rcases ho with h2 | ⟨g,h2,h3⟩
   ·exact .inl (mem_blocks.2 (.inr (.inr (.inl (by rw [← h2];exact h1)))))
   ·have h1':v.ownBlock = some x:=h1
    rw [h2] at h1'
    exact .inr (by cases h1';exact h3)
  ·exact .inl (mem_blocks.2 (.inr (.inr (.inr h1))))
 ·rw [if_neg hf]
  refine (send_full m W L T h hf).mono ?_
  rintro o w' ⟨rfl,hb⟩
  exact ⟨rfl,Did.of_below h hb⟩
set_option maxHeartbeats 1000000 in
theorem own_any (i:Nat) (W:World) (L:Lies) (T:TownM) (h:Rep W L T) (hi:i < T.ps.length) :
  Calls Tryz.prog 119 #[.pointer (some ⟨L.bt,0,none⟩),.int .i64 i] W fun o w' => o = .returned (.agg #[.int .i64 (T.own i).e,.int .i64 (T.own i).n,.int .i64 (T.own i).p]) ∧ Below W.heap.size W w':=by
 have c4:=h.cell 4
 have p6:=(h.pcell hi (f:=6) (by omega)).trans (PeerM.at_head 6 (by omega))
 have p7:=(h.pcell hi (f:=7) (by omega)).trans (PeerM.at_head 7 (by omega))
 have q0:(0:Int) ≤ (i:Int):=by omega
 have q1:(i:Int) < (T.ps.length:Int):=by omega
 have hlt:L.bt < W.heap.size:=(Array.getElem?_eq_some_iff.1 h.town).1
 have hlt2:L.bp < W.heap.size:=by
  obtain ⟨cur,hp,_⟩:=h.peers
  exact (Array.getElem?_eq_some_iff.1 hp).1
 simp only [PeerM.head] at p6 p7
 unfold TownM.own
 clear h
 go_enter Tryz.func119,Tryz.ntmps119
 go_wp2
 go_region_held3 (fun w' => w'.cell? ⟨L.bt,4,none⟩ = some (.slice (some ⟨L.bp,0,none⟩) T.ps.length L.capP) ∧ w'.cell? ⟨L.bp,i * 121 + 6,none⟩ = some (.int .i64 (T.peer i).c.e) ∧ w'.cell? ⟨L.bp,i * 121 + 7,none⟩ = some (.int .i64 (T.peer i).c.v)) (go_keep) (fail)
 go_wp2
 exact bodyPost_ret (v:=.agg #[.int .i64 (T.peer i).c.e,.int .i64 (T.peer i).c.v,.int .i64 i]) (by simp [results,Tryz.results119,go_sem]) rfl ⟨rfl,((Below.refl _ _).alloc (Nat.le_refl _) _).drew⟩
theorem Rep.prange {W:World} {L:Lies} {T:TownM} (h:Rep W L T) {i:Nat} (hi:i < T.ps.length):W.rangeAt L.bp (i * 121) (T.peer i).cells:=by
 intro j v hv
 have hj:j < 121:=by
  have:=(List.getElem?_eq_some_iff.1 hv).1
  rw [PeerM.len (h.fit _ (TownM.peer_mem hi))] at this
  exact this
 rw [h.pcell hi hj];exact hv
theorem Tryz.sizePeer:(Tryz.prog.info? 159).map (·.size) = some 121:=by kernel_rfl
def zPeer:Array Value:=peerZ.cells.toArray
theorem zeroPeer (w:World):(zeroValue 159).run Tryz.prog w = .ok (.agg zPeer) w:=by kernel_rfl
theorem zPeer_size:zPeer.size = 121:=by kernel_rfl
theorem setCells_new (w:World) (t:TypeId):∀ (vs:List Value) (o:Nat) (c:Array Value),c.size = o + vs.length → (w.alloc (.cells c t)).setCells w.heap.size o vs = w.alloc (.cells (c.toList.take o ++ vs).toArray t)
 | [],o,c,h => by
  have:c.toList.take o = c.toList:=List.take_of_length_le (by simp at h ⊢;omega)
  simp [World.setCells,this]
 | v :: r,o,c,h => by
  rw [World.setCells,World.setCell_alloc_at _ _ _ _ _ rfl,setCells_new w t r (o + 1) (c.setIfInBounds o v) (by simp at h ⊢;omega)]
  congr 3
  have ho:o < c.toList.length:=by simp at h ⊢;omega
  rw [Array.toList_setIfInBounds,List.take_set,List.take_succ_eq_append_getElem ho]
  have hm:min o c.size = o:=by
   simp at ho
   omega
  rw [List.set_append_right _ _ (by simp [hm]),List.append_assoc]
  simp [hm]
theorem PeerM.one (p:PeerM):∀ v ∈ p.cells,v.oneCell' = true:=by
 intro v hv
 simp only [PeerM.cells,PeerM.head,List.mem_append,List.mem_cons,List.not_mem_nil,or_false,List.mem_flatMap] at hv
 rcases hv with (rfl | rfl | rfl | rfl | rfl | rfl | rfl | rfl | rfl | rfl | rfl | rfl) | ⟨k,_,hk⟩ | ⟨k,_,hk⟩ | (rfl | rfl | rfl) | ⟨k,_,hk⟩ | rfl
 all_goals first
  | rfl
  | (simp only [KnownM.cells,List.mem_cons,List.not_mem_nil,or_false] at hk;rcases hk with rfl | rfl | rfl | rfl | rfl <;> rfl)
  | (simp only [MemM.cells,List.mem_cons,List.not_mem_nil,or_false] at hk;rcases hk with rfl | rfl | rfl | rfl | rfl <;> rfl)
theorem at_of {l:List Value} {k:Nat} {v:Value} (h:l[k]? = some v) (hk:k < l.length):l[k] = v:=by
 rw [List.getElem?_eq_getElem hk] at h
 simpa using h
set_option maxRecDepth 100000 in
set_option maxHeartbeats 1000000 in
theorem notice_any (i:Nat) (k:Int) (W:World) (L:Lies) (T:TownM) (h:Rep W L T) (hi:i < T.ps.length) (hn:T.net ≤ 1000) :
  Calls Tryz.prog 99 #[.pointer (some ⟨L.bt,0,none⟩),.int .i64 i,.int .i64 k] W fun o w' => o = .returned (.tuple #[]) ∧ Did W L w' (T.notice i k):=by
 have c4:=h.cell 4
 have q0:(0:Int) ≤ (i:Int):=by omega
 have q1:(i:Int) < (T.ps.length:Int):=by omega
 have hlen:=PeerM.len (h.fit _ (TownM.peer_mem hi))
 have hr:=hide (h.prange hi)
 have hsz:(Tryz.prog.info? 159).map (·.size) = some (T.peer i).cells.length:=by rw [hlen];exact Tryz.sizePeer
 have HSZ:=hide hsz
 have hz:=zeroPeer
 have h1:=hide (all_oneCell_toArray (PeerM.one (T.peer i)))
 have HTH:Hid ((W.alloc (.cells zPeer 159)).there W.heap.size 0 (T.peer i).cells.toArray.size):=by
  intro j hj
  have hj':j < zPeer.size:=by
   rw [zPeer_size]
   simpa [hlen] using hj
  rw [Nat.zero_add,World.cell?_alloc_at _ _ _ _ rfl,World.frozen?_alloc_at _ _ _ _ rfl]
  exact ⟨by simp [hj'],rfl⟩
 have HSET:Hid ((W.alloc (.cells zPeer 159)).setCells W.heap.size 0 (T.peer i).cells.toArray.toList = W.alloc (.cells (T.peer i).cells.toArray 159)):=by
  show _ = _
  rw [setCells_new W _ _ 0 zPeer (by rw [zPeer_size];simpa using hlen.symm)]
  simp
 have e8:(T.peer i).cells[8]? = some (.int .i64 (T.peer i).round):=PeerM.at_head 8 (by omega)
 have e3:(T.peer i).cells[3]? = some (.int .i64 (T.peer i).state):=PeerM.at_head 3 (by omega)
 have e9:(T.peer i).cells[9]? = some (.int .i64 (T.peer i).vote.e):=PeerM.at_head 9 (by omega)
 have e10:(T.peer i).cells[10]? = some (.int .i64 (T.peer i).vote.n):=PeerM.at_head 10 (by omega)
 have e11:(T.peer i).cells[11]? = some (.int .i64 (T.peer i).vote.p):=PeerM.at_head 11 (by omega)
 clear hsz
 have hsz2:(Tryz.prog.info? 159).map (·.size) = some (T.peer i).cells.toArray.size:=by rw [List.size_toArray];exact unhide HSZ
 have HSZ2:=hide hsz2
 clear hsz2
 generalize (T.peer i).cells = cs at *
 have g8:=at_of e8 (by omega)
 have g3:=at_of e3 (by omega)
 have g9:=at_of e9 (by omega)
 have g10:=at_of e10 (by omega)
 have g11:=at_of e11 (by omega)
 have HH:=hide h
 clear h e8 e3 e9 e10 e11
 go_enter Tryz.func99,Tryz.ntmps99
 go_wp2_with (first | (refine wpList_load_mid rfl 159 _ rfl L.bp (i * 121) rfl cs _ (unhide hr) Tryz.underlying159 rfl (unhide HSZ) ?_) | (refine wpList_store_mid rfl 159 _ _ rfl W.heap.size 0 cs.toArray rfl rfl (unhide HTH) (unhide HSZ2) (unhide h1) ?_;rw [unhide HSET]))
 have hb0:=(Below.refl W.heap.size W).alloc (Nat.le_refl _) (.cells cs.toArray 159)
 refine (dsend_any (T.noticeOf i k) (W.alloc (.cells cs.toArray 159)) L T ((unhide HH).keep hb0) hn).mono ?_
 rintro o w1 ⟨rfl,hd⟩
 have HD:=hide (hd.pre hb0)
 clear hd hb0
 go_wp2
 go_end0
 exact ⟨rfl,unhide HD⟩
end Go.Proofs.YtceappncglfciaaGreat
namespace Go.Proofs.YtceappncglfciaaGreat
open Go.RowKit
attribute [local go_sem ↓] Go.wp_at_zero Go.wp_at_succ
theorem TownM.send_net (T:TownM) (m:MsgM):(T.send m).net = T.net:=by unfold TownM.send;split <;> rfl
theorem TownM.send_lease (T:TownM) (m:MsgM):(T.send m).lease = T.lease:=by unfold TownM.send;split <;> rfl
theorem TownM.notice_ps (T:TownM) (i:Nat) (k:Int):(T.notice i k).ps = T.ps:=T.send_ps _
theorem TownM.notice_net (T:TownM) (i:Nat) (k:Int):(T.notice i k).net = T.net:=T.send_net _
theorem TownM.noticesTo_ps (T:TownM) (i:Nat):∀ k,(T.noticesTo i k).ps = T.ps
 | 0 => rfl
 | k + 1 => by
  unfold TownM.noticesTo
  split
  ·exact T.noticesTo_ps i k
  ·rw [TownM.notice_ps];exact T.noticesTo_ps i k
theorem TownM.noticesTo_net (T:TownM) (i:Nat):∀ k,(T.noticesTo i k).net = T.net
 | 0 => rfl
 | k + 1 => by
  unfold TownM.noticesTo
  split
  ·exact T.noticesTo_net i k
  ·rw [TownM.notice_net];exact T.noticesTo_net i k
set_option maxHeartbeats 1000000 in
theorem notices_any (i:Nat) (W:World) (L:Lies) (T:TownM) (h:Rep W L T) (hi:i < T.ps.length) (hp:T.ps.length ≤ 7) (hn:T.net ≤ 1000) :
  Calls Tryz.prog 120 #[.pointer (some ⟨L.bt,0,none⟩),.int .i64 i] W fun o w' => o = .returned (.tuple #[]) ∧ Did W L w' (T.notices i):=by
 have H0:=hide (Did.rfl' h)
 clear h
 go_enter Tryz.func120,Tryz.ntmps120
 go_wp2
 go_loopw [4] (fun c wr => ∃ k:Nat,k ≤ T.ps.length ∧ c = .int .i64 k ∧ Did W L wr (T.noticesTo i k)) (fun c _ => T.ps.length - (RowKit.intOf c).toNat)
 case atStart => exact ⟨0,Nat.zero_le _,rfl,unhide H0⟩
 case round =>
  obtain ⟨k,hk,rfl,v,e,hr,hkp,hbl⟩:=hrel
  have c4:=hr.cell 4
  rw [TownM.noticesTo_ps] at c4
  have HR:=hide hr
  have HK:=hide hkp
  have HB:=hide hbl
  clear hr hkp hbl H0
  by_cases hlt:k < T.ps.length
  ·by_cases hki:k = i
   ·have hq:((k:Int) == (i:Int)) = true:=by simp [hki]
    have fin:Hid (Did W L wr (T.noticesTo i (k + 1))):=by
     have:T.noticesTo i (k + 1) = T.noticesTo i k:=by simp [TownM.noticesTo,hki]
     rw [this]
     exact ⟨v,e,unhide HR,unhide HK,unhide HB⟩
    clear hki
    go_wp2
    go_roundw
    case rel => exact ⟨k + 1,by omega,by go_num,unhide fin⟩
    case measure => simp [RowKit.intOf];omega
   ·have hq:((k:Int) == (i:Int)) = false:=beq_eq_false_iff_ne.2 (by omega)
    have hst:Hid (T.noticesTo i (k + 1) = (T.noticesTo i k).notice i k):=by simp [TownM.noticesTo,hki,Hid]
    clear hki
    go_wp2_with fail
    refine (notice_any i k wr { L with way:=v,ev:=e } (T.noticesTo i k) (unhide HR) (by rw [TownM.noticesTo_ps];exact hi) (by rw [TownM.noticesTo_net];exact hn)).mono ?_
    rintro o w1 ⟨rfl,hd⟩
    have fin:=hide (Did.next (unhide HK) (unhide HB) hd)
    clear hd HR HK HB c4
    go_wp2
    go_roundw
    case rel => exact ⟨k + 1,by omega,by go_num,by rw [unhide hst];exact unhide fin⟩
    case measure => simp [RowKit.intOf];omega
  ·have hke:k = T.ps.length:=by omega
   have fin:Hid (Did W L wr (T.notices i)):=by
    unfold TownM.notices
    rw [← hke]
    exact ⟨v,e,unhide HR,unhide HK,unhide HB⟩
   clear hke
   go_wp2
   go_end0
   exact ⟨rfl,unhide fin⟩
end Go.Proofs.YtceappncglfciaaGreat
namespace Go.Proofs.YtceappncglfciaaGreat
open Go.RowKit
attribute [local go_sem ↓] Go.wp_at_zero Go.wp_at_succ
section
variable {W:World} {L:Lies} {T:TownM}
theorem Rep.phead (h:Rep W L T) {i:Nat} (hi:i < T.ps.length) (f:Nat) (hf:f < 12):W.cell? ⟨L.bp,i * 121 + f,none⟩ = (T.peer i).head[f]?:=(h.pcell hi (by omega)).trans (PeerM.at_head f hf)
theorem Rep.pvote (h:Rep W L T) {i:Nat} (hi:i < T.ps.length) {k j:Nat} (hk:k < 7) (hj:j < 5):W.cell? ⟨L.bp,i * 121 + 12 + k * 5 + j,none⟩ = ((T.peer i).votes.getD k knownZ).cells[j]?:=by
 rw [show i * 121 + 12 + k * 5 + j = i * 121 + (12 + (k * 5 + j)) from by omega,h.pcell hi (by omega)]
 exact PeerM.at_vote (h.fit _ (TownM.peer_mem hi)) hk hj
theorem Rep.psettled (h:Rep W L T) {i:Nat} (hi:i < T.ps.length) {k j:Nat} (hk:k < 7) (hj:j < 5):W.cell? ⟨L.bp,i * 121 + 47 + k * 5 + j,none⟩ = ((T.peer i).settled.getD k knownZ).cells[j]?:=by
 rw [show i * 121 + 47 + k * 5 + j = i * 121 + (47 + (k * 5 + j)) from by omega,h.pcell hi (by omega)]
 exact PeerM.at_settled (h.fit _ (TownM.peer_mem hi)) hk hj
theorem Rep.pmem (h:Rep W L T) {i:Nat} (hi:i < T.ps.length) {k j:Nat} (hk:k < 7) (hj:j < 5):W.cell? ⟨L.bp,i * 121 + 85 + k * 5 + j,none⟩ = ((T.peer i).mem.getD k memZ).cells[j]?:=by
 rw [show i * 121 + 85 + k * 5 + j = i * 121 + (85 + (k * 5 + j)) from by omega,h.pcell hi (by omega)]
 exact PeerM.at_mem (h.fit _ (TownM.peer_mem hi)) hk hj
theorem Rep.pmid (h:Rep W L T) {i:Nat} (hi:i < T.ps.length) (j:Nat) (hj:j < 3):W.cell? ⟨L.bp,i * 121 + (82 + j),none⟩ = [Value.bool (T.peer i).waits,.int .i64 (T.peer i).since,.int .i64 (T.peer i).epoch][j]?:=(h.pcell hi (by omega)).trans (PeerM.at_mid (h.fit _ (TownM.peer_mem hi)) hj)
theorem Rep.pstands (h:Rep W L T) {i:Nat} (hi:i < T.ps.length):W.cell? ⟨L.bp,i * 121 + 120,none⟩ = some (.bool (T.peer i).stands):=(h.pcell hi (by omega)).trans (PeerM.at_stands (h.fit _ (TownM.peer_mem hi)))
end
theorem TownM.set_self {T:TownM} {i:Nat} (hi:i < T.ps.length):T.setPeer i (T.peer i) = T:=by
 have:T.ps.set i (T.peer i) = T.ps:=by
  apply List.ext_getElem?
  intro j
  rw [List.getElem?_set]
  split
  ·rename_i e;subst e
   simp [TownM.peer,hi]
  ·rfl
 simp [TownM.setPeer,this]
section
variable {W:World} {L:Lies} {T:TownM}
theorem Keeps.peer {W0 W:World} {L:Lies} (h:Keeps L.blocks W0 W) (o:Nat) (u:Value):Keeps L.blocks W0 (W.setCell ⟨L.bp,o,none⟩ u):=h.setCell (.inl (mem_blocks.2 (.inr (.inl rfl)))) u
theorem Did.stored {W0:World} (h:Rep W L T) (hk:Keeps L.blocks W0 W):Did W0 L W T:=⟨L.way,L.ev,h,hk,fun _ hx => .inl hx⟩
theorem Rep.setSince (h:Rep W L T) {i:Nat} (hi:i < T.ps.length) (x:Int):Rep (W.setCell ⟨L.bp,i * 121 + 83,none⟩ (.int .i64 x)) L (T.setPeer i { T.peer i with since:=x }) :=
 h.setP hi (by omega) _ _ (PeerM.set_mid (h.fit _ (TownM.peer_mem hi)) 1 (by omega) _ _ rfl rfl rfl rfl rfl rfl) (h.fit (T.peer i) (TownM.peer_mem hi))
theorem Rep.setWaits (h:Rep W L T) {i:Nat} (hi:i < T.ps.length) (b:Bool):Rep (W.setCell ⟨L.bp,i * 121 + 82,none⟩ (.bool b)) L (T.setPeer i { T.peer i with waits:=b }) :=
 h.setP hi (by omega) _ _ (PeerM.set_mid (h.fit _ (TownM.peer_mem hi)) 0 (by omega) _ _ rfl rfl rfl rfl rfl rfl) (h.fit (T.peer i) (TownM.peer_mem hi))
theorem Rep.setEpoch (h:Rep W L T) {i:Nat} (hi:i < T.ps.length) (x:Int):Rep (W.setCell ⟨L.bp,i * 121 + 84,none⟩ (.int .i64 x)) L (T.setPeer i { T.peer i with epoch:=x }) :=
 h.setP hi (by omega) _ _ (PeerM.set_mid (h.fit _ (TownM.peer_mem hi)) 2 (by omega) _ _ rfl rfl rfl rfl rfl rfl) (h.fit (T.peer i) (TownM.peer_mem hi))
theorem Rep.setState (h:Rep W L T) {i:Nat} (hi:i < T.ps.length) (x:Int):Rep (W.setCell ⟨L.bp,i * 121 + 3,none⟩ (.int .i64 x)) L (T.setPeer i { T.peer i with state:=x }) :=
 h.setP hi (by omega) _ _ (PeerM.set_head 3 (by omega) _ _ rfl rfl rfl rfl rfl rfl rfl rfl) (h.fit (T.peer i) (TownM.peer_mem hi))
theorem Rep.setRound (h:Rep W L T) {i:Nat} (hi:i < T.ps.length) (x:Int):Rep (W.setCell ⟨L.bp,i * 121 + 8,none⟩ (.int .i64 x)) L (T.setPeer i { T.peer i with round:=x }) :=
 h.setP hi (by omega) _ _ (PeerM.set_head 8 (by omega) _ _ rfl rfl rfl rfl rfl rfl rfl rfl) (h.fit (T.peer i) (TownM.peer_mem hi))
end
theorem TownM.countTo_range (T:TownM) (i:Nat):∀ k,1 ≤ T.countTo i k ∧ T.countTo i k ≤ 1 + k
 | 0 => by simp [TownM.countTo]
 | k + 1 => by
  have:=T.countTo_range i k
  unfold TownM.countTo
  split <;> omega
set_option maxRecDepth 100000 in
set_option maxHeartbeats 1000000 in
theorem count_loop (i:Nat) (W:World) (L:Lies) (T:TownM) (h:Rep W L T) (hi:i < T.ps.length) (hp:T.ps.length ≤ 7) :
  Calls Tryz.prog 121 #[.pointer (some ⟨L.bt,0,none⟩),.int .i64 i] W fun o w' => o = .returned (.tuple #[]) ∧ Did W L w' (T.count i):=by
 have c4:=h.cell 4
 have q0:(0:Int) ≤ (i:Int):=by omega
 have q1:(i:Int) < (T.ps.length:Int):=by omega
 have v9:=h.phead hi 9 (by omega)
 have v10:=h.phead hi 10 (by omega)
 have v11:=h.phead hi 11 (by omega)
 simp only [PeerM.head] at v9 v10 v11
 have HH:=hide h
 clear h
 go_enter Tryz.func121,Tryz.ntmps121
 go_wp2
 go_loopw [5,6] (fun n c wr => ∃ k m:Nat,k ≤ T.ps.length ∧ c = .int .i64 k ∧ n = .int .i64 (T.countTo i k) ∧ wr = W.drewN m) (fun _ c _ => T.ps.length - (RowKit.intOf c).toNat)
 case atStart => exact ⟨0,0,Nat.zero_le _,rfl,rfl,rfl⟩
 case round =>
  obtain ⟨k,m,hk,rfl,rfl,rfl⟩:=hrel
  have hcr:=T.countTo_range i k
  obtain ⟨r0,r1⟩:=hcr
  by_cases hlt:k < T.ps.length
  ·have w0:=(unhide HH).pvote hi (k:=k) (j:=0) (by omega) (by omega)
   have w1:=(unhide HH).pvote hi (k:=k) (j:=1) (by omega) (by omega)
   have w2:=(unhide HH).pvote hi (k:=k) (j:=2) (by omega) (by omega)
   have w3:=(unhide HH).pvote hi (k:=k) (j:=3) (by omega) (by omega)
   simp only [KnownM.cells,Nat.add_zero] at w0 w1 w2 w3
   have HST:Hid (T.countTo i (k + 1) = if (!(decide (k = i)) && (((T.peer i).votes.getD k knownZ).is && ((T.peer i).votes.getD k knownZ).vote.eqb (T.peer i).vote)) = true then T.countTo i k + 1 else T.countTo i k):=rfl
   generalize (T.peer i).votes.getD k knownZ = kn at *
   have k0:(0:Int) ≤ (k:Int):=by omega
   have k7:(k:Int) < 7:=by omega
   by_cases hki:k = i
   ·have hq:((k:Int) != (i:Int)) = false:=by simp [hki]
    have fin:Hid (T.countTo i (k + 1) = T.countTo i k):=by
     show _ = _
     rw [unhide HST];simp [hki]
    clear hki
    go_wp2_with fail
    go_quiet (fail)
    go_wp2
    go_roundw
    case rel => exact ⟨k + 1,_,by omega,by go_num,by rw [unhide fin],rfl⟩
    case measure => simp [RowKit.intOf];omega
   ·have hq:((k:Int) != (i:Int)) = true:=by simp;omega
    cases his:kn.is with
    | false =>
     have fin:Hid (T.countTo i (k + 1) = T.countTo i k):=by
      show _ = _
      rw [unhide HST];simp [his]
     rw [his] at w0
     clear hki his
     go_wp2_with fail
     go_quiet (fail)
     go_wp2
     go_roundw
     case rel => exact ⟨k + 1,_,by omega,by go_num,by rw [unhide fin],rfl⟩
     case measure => simp [RowKit.intOf];omega
    | true =>
     have fin:Hid (T.countTo i (k + 1) = if (kn.vote.eqb (T.peer i).vote) = true then T.countTo i k + 1 else T.countTo i k):=by
      show _ = _
      rw [unhide HST];simp [his,hki]
     rw [his] at w0
     clear hki his
     by_cases h1:kn.vote.e = (T.peer i).vote.e
     ·by_cases h2:kn.vote.n = (T.peer i).vote.n
      ·by_cases h3:kn.vote.p = (T.peer i).vote.p
       ·have fin2:Hid (T.countTo i (k + 1) = T.countTo i k + 1):=by
         show _ = _
         rw [unhide fin];simp [VoteM.eqb,h1,h2,h3]
        go_wp2_with fail
        go_quiet (fail)
        go_wp2
        go_roundw
        case rel => exact ⟨k + 1,_,by omega,by go_num,by rw [unhide fin2],rfl⟩
        case measure => simp [RowKit.intOf];omega
       ·have fin2:Hid (T.countTo i (k + 1) = T.countTo i k):=by
         show _ = _
         rw [unhide fin];simp [VoteM.eqb,h3]
        go_wp2_with fail
        go_quiet (fail)
        go_wp2
        go_roundw
        case rel => exact ⟨k + 1,_,by omega,by go_num,by rw [unhide fin2],rfl⟩
        case measure => simp [RowKit.intOf];omega
      ·have fin2:Hid (T.countTo i (k + 1) = T.countTo i k):=by
        show _ = _
        rw [unhide fin];simp [VoteM.eqb,h2]
       go_wp2_with fail
       go_quiet (fail)
       go_wp2
       go_roundw
       case rel => exact ⟨k + 1,_,by omega,by go_num,by rw [unhide fin2],rfl⟩
       case measure => simp [RowKit.intOf];omega
     ·have fin2:Hid (T.countTo i (k + 1) = T.countTo i k):=by
       show _ = _
       rw [unhide fin];simp [VoteM.eqb,h1]
      go_wp2_with fail
      go_quiet (fail)
      go_wp2
      go_roundw
      case rel => exact ⟨k + 1,_,by omega,by go_num,by rw [unhide fin2],rfl⟩
      case measure => simp [RowKit.intOf];omega
  ·have hke:k = T.ps.length:=by omega
   rw [hke]
   rw [hke] at r0 r1
   have hh:=(unhide HH).keep (below_drewN (Below.refl _ _) m)
   have KP:=hide (Keeps.of_below (fp:=L.blocks) (below_drewN (Below.refl W.heap.size W) m))
   have c5:=hh.cell 5
   have c4':=hh.cell 4
   have x0:=hh.pmid hi 0 (by omega)
   have x1:=hh.pmid hi 1 (by omega)
   have y0:=hh.pfrozen (i * 121 + 82)
   have y1:=hh.pfrozen (i * 121 + 83)
   simp only [Nat.reduceAdd] at x0 x1
   have HC:Hid (T.count i = T.setPeer i { T.peer i with since:=if (T.most (T.countTo i T.ps.length) && !(T.peer i).waits) = true then T.now else (T.peer i).since,waits:=T.most (T.countTo i T.ps.length) }):=rfl
   have HMO:=hide (dmost_any (T.countTo i T.ps.length) (W.drewN m) L T hh (by omega) (by omega))
   have HR:=hide hh
   clear hh hke hk hlt
   generalize T.countTo i T.ps.length = cn at *
   generalize W.drewN m = W1 at *
   clear r0 r1 c4 v9 v10 v11
   cases hb:T.most cn with
   | false =>
    rw [hb] at HC HMO
    have fin:Hid (Did W L (W1.setCell ⟨L.bp,i * 121 + 82,none⟩ (.bool false)) (T.count i)):=by
     rw [unhide HC]
     exact Did.stored ((unhide HR).setWaits hi false) ((unhide KP).peer _ _)
    clear hb HC HR KP HH
    go_wp2_with fail
    refine (unhide HMO).mono ?_
    rintro o w1 ⟨rfl,rfl⟩
    go_wp2
    go_end0
    exact ⟨rfl,unhide fin⟩
   | true =>
    rw [hb] at HC HMO
    cases hw:(T.peer i).waits with
    | true =>
     have fin:Hid (Did W L (W1.setCell ⟨L.bp,i * 121 + 82,none⟩ (.bool true)) (T.count i)):=by
      rw [unhide HC]
      simp only [hw,Bool.not_true,Bool.and_false,Bool.false_eq_true,if_false]
      exact Did.stored ((unhide HR).setWaits hi true) ((unhide KP).peer _ _)
     rw [hw] at x0
     clear hb HC HR KP HH hw
     go_wp2_with fail
     refine (unhide HMO).mono ?_
     rintro o w1 ⟨rfl,rfl⟩
     go_wp2
     go_end0
     exact ⟨rfl,unhide fin⟩
    | false =>
     have fin:Hid (Did W L ((W1.setCell ⟨L.bp,i * 121 + 83,none⟩ (.int .i64 T.now)).setCell ⟨L.bp,i * 121 + 82,none⟩ (.bool true)) (T.count i)):=by
      rw [unhide HC]
      simp only [hw,Bool.not_false,Bool.and_true,if_true]
      have s1:=(unhide HR).setSince hi T.now
      have s2:=s1.setWaits (by rw [TownM.setPeer_len];exact hi) true
      rw [TownM.peer_set hi,TownM.set_set] at s2
      exact Did.stored s2 (((unhide KP).peer _ _).peer _ _)
     rw [hw] at x0
     clear hb HC HR KP HH hw
     go_wp2_with fail
     refine (unhide HMO).mono ?_
     rintro o w1 ⟨rfl,rfl⟩
     go_wp2
     go_end0
     exact ⟨rfl,unhide fin⟩
end Go.Proofs.YtceappncglfciaaGreat
