import Derived.Test.YtceappncglfciaaGreatM24
set_option linter.unusedVariables false
set_option linter.unusedSimpArgs false
namespace Go.Proofs.YtceappncglfciaaGreat
open Go.RowKit Go.Conc
attribute [local go_sem ↓] Go.wp_at_zero Go.wp_at_succ
set_option maxRecDepth 100000 in
set_option maxHeartbeats 2000000 in
theorem takeMsg_any (i b:Nat) (W:World) (bt:Nat) (pb bs:List Nat) (T T':PTown) (m:MsgM) (q:PL) (s r:Nat) (h:PR W bt pb bs T) (hb:pb[i]? = some b) (hat:PeerAt W bt i b q (T.peer i)) (C:Close W bt i b q pb bs T) (hc:W.heap[q.cm]? = some (.chan 1 #[] false s r false))
  (HA:∀ w bs1,PR w bt pb bs1 T → Calls Tryz.prog 87 #[.pointer (some ⟨b,0,none⟩),m.val] w fun o w' => o = .returned (.tuple #[]) ∧ PDid w bt pb bs1 w' T') :
  Calls Tryz.prog 71 #[.pointer (some ⟨b,0,none⟩)] (W.setChan q.cm 1 #[m.val] false (s + 1) r false) fun o w' => o = .returned (.tuple #[]) ∧ PDid W bt pb bs w' T':=by
 obtain ⟨s1,r1,c1⟩:=hat.ct
 obtain ⟨s3,r3,c3⟩:=hat.co
 have hbn:=hat.b_notin
 have hnd:=hat.nd
 have hct:q.cm ∈ q.blocks:=(PL.mem_blocks q q.cm).2 (by simp)
 have hbt:b ≠ q.cm:=fun e => hbn (e ▸ hct)
 have hcl:=hat.lt _ hct
 have n1:q.ct ≠ q.cm:=by
  intro e
  rw [PL.blocks] at hnd
  simp [e] at hnd
 have n3:q.co ≠ q.cm:=by
  intro e
  rw [PL.blocks] at hnd
  simp [e] at hnd
 have hfb:(W.setChan q.cm 1 #[m.val] false (s + 1) r false).heap[b]? = W.heap[b]?:=setChan_far _ _ _ _ _ _ _ _ _ hbt
 have c59:=(World.cell?_of_block (w:=W) (a:=⟨b,59,none⟩) hfb).trans hat.f59
 have c60:=(World.cell?_of_block (w:=W) (a:=⟨b,60,none⟩) hfb).trans hat.f60
 have c61:=(World.cell?_of_block (w:=W) (a:=⟨b,61,none⟩) hfb).trans hat.f61
 have hx1:(W.setChan q.cm 1 #[m.val] false (s + 1) r false).heap[q.ct]? = some (.chan 1 #[] false s1 r1 false):=(setChan_far _ _ _ _ _ _ _ _ _ n1).trans c1
 have hx2:(W.setChan q.cm 1 #[m.val] false (s + 1) r false).heap[q.cm]? = some (.chan 1 #[m.val] false (s + 1) r false):=heap_setChan _ _ _ _ _ _ _ _ hcl
 have hx3:(W.setChan q.cm 1 #[m.val] false (s + 1) r false).heap[q.co]? = some (.chan 1 #[] false s3 r3 false):=(setChan_far _ _ _ _ _ _ _ _ _ n3).trans c3
 have hd2:=chan_close h hb hat C q.cm (.inl rfl) (s + 1) (r + 1)
 obtain ⟨bs2,h2,k2⟩:=hd2.open
 have hb3:=(Below.refl (W.setChan q.cm 1 #[] false (s + 1) (r + 1) false).heap.size (W.setChan q.cm 1 #[] false (s + 1) (r + 1) false)).alloc (Nat.le_refl _) (.cells m.cells.toArray 133)
 have HB:=hide (((show Links W bs _ bs2 from k2).below hb3).calls (HA _ bs2 (h2.below hb3)) rfl)
 simp only [MsgM.val,MsgM.cells] at HB
 have hw2:(W.setChan q.cm 1 #[m.val] false (s + 1) r false).setChan q.cm 1 #[] false (s + 1) (r + 1) false = W.setChan q.cm 1 #[] false (s + 1) (r + 1) false:=setChan_twice _ _ _ _ _ _ _ _ _ _ _ _ _ _
 clear hd2 h2 k2 h hat C HA hb3
 have hmv:m.val = .agg #[.int .i64 m.kind,.int .i64 m.src,.int .i64 m.dst,.int .i64 m.round,.int .i64 m.state,.int .i64 m.vote.e,.int .i64 m.vote.n,.int .i64 m.vote.p,.int .i64 m.epoch,.int .i64 m.news]:=rfl
 have HMV:=hide hmv
 clear hmv
 generalize W.setChan q.cm 1 #[m.val] false (s + 1) r false = W1 at *
 refine calls_of_wpB Tryz.func71 rfl ?_
 simp only [Tryz.ntmps71,List.size_toArray,List.length_cons,List.length_nil,Nat.reduceAdd,Nat.reduceSub,Array.replicate_succ,Array.replicate_zero,List.push_toArray,List.append_toArray,List.nil_append,List.cons_append]
 refine wpB_seq (wpB_of_wp ?_)
 have hz1:=zeroMsg W1
 have hz2:=zeroUnit W1
 have hz3:=zeroOrder W1
 go_wp2
 refine wpB_seq ?_
 refine wpB_five rfl (opTo_sel3_0 (s:=s + 1) (r:=r) (v:=m.val) (za:=msgZ.val) (zb:=.agg #[]) (zc:=.agg #[.int .i64 0,.int .i64 0]) (by rfl) (by rfl) (by decide) (by simp [execOp,rcase,Act.eval,hz1,hz2,hz3,go_sem]) hx2 hx1 hx3) (opTo_value (v:=.int .i64 0) (w':=W1.setChan q.cm 1 #[] false (s + 1) (r + 1) false) (by rfl) (by rfl) (by simp [execOp,Act.eval,Act.put,goInt,go_sem])) (opTo_value (v:=.bool true) (w':=W1.setChan q.cm 1 #[] false (s + 1) (r + 1) false) (by rfl) (by rfl) (by simp [execOp,Act.eval,Act.put,goInt,go_sem])) (opTo_value (v:=.bool false) (w':=W1.setChan q.cm 1 #[] false (s + 1) (r + 1) false) (by rfl) (by rfl) (by simp [execOp,Act.eval,Act.put,goInt,go_sem])) (opTo_value (v:=.bool false) (w':=W1.setChan q.cm 1 #[] false (s + 1) (r + 1) false) (by rfl) (by rfl) (by simp [execOp,Act.eval,Act.put,goInt,go_sem])) ?_
 rw [hw2]
 show WpB _ _ _ _ _ _
 refine wpB_of_wp ?_
 walk_nrm
 generalize W.setChan q.cm 1 #[] false (s + 1) (r + 1) false = W2 at *
 rw [unhide HMV]
 go_wp2_with fail
 refine (unhide HB).mono ?_
 rintro o w8 ⟨rfl,hd⟩
 have HE:=hide hd
 clear hd HB
 go_wp2
 go_end0
 exact ⟨rfl,unhide HE⟩
set_option maxRecDepth 100000 in
set_option maxHeartbeats 2000000 in
theorem takeOrder_any (i b:Nat) (W:World) (bt:Nat) (pb bs:List Nat) (T T':PTown) (kd nb:Int) (q:PL) (s r:Nat) (h:PR W bt pb bs T) (hb:pb[i]? = some b) (hat:PeerAt W bt i b q (T.peer i)) (C:Close W bt i b q pb bs T) (hc:W.heap[q.co]? = some (.chan 1 #[] false s r false))
  (HA:∀ w bs1,PR w bt pb bs1 T → Calls Tryz.prog 89 #[.pointer (some ⟨b,0,none⟩),.agg #[.int .i64 kd,.int .i64 nb]] w fun o w' => o = .returned (.tuple #[]) ∧ PDid w bt pb bs1 w' T') :
  Calls Tryz.prog 71 #[.pointer (some ⟨b,0,none⟩)] (W.setChan q.co 1 #[.agg #[.int .i64 kd,.int .i64 nb]] false (s + 1) r false) fun o w' => o = .returned (.tuple #[]) ∧ PDid W bt pb bs w' T':=by
 obtain ⟨s1,r1,c1⟩:=hat.cm
 obtain ⟨s3,r3,c3⟩:=hat.ct
 have hbn:=hat.b_notin
 have hnd:=hat.nd
 have hct:q.co ∈ q.blocks:=(PL.mem_blocks q q.co).2 (by simp)
 have hbt:b ≠ q.co:=fun e => hbn (e ▸ hct)
 have hcl:=hat.lt _ hct
 have n1:q.cm ≠ q.co:=by
  intro e
  rw [PL.blocks] at hnd
  simp [e] at hnd
 have n3:q.ct ≠ q.co:=by
  intro e
  rw [PL.blocks] at hnd
  simp [e] at hnd
 have hfb:(W.setChan q.co 1 #[.agg #[.int .i64 kd,.int .i64 nb]] false (s + 1) r false).heap[b]? = W.heap[b]?:=setChan_far _ _ _ _ _ _ _ _ _ hbt
 have c59:=(World.cell?_of_block (w:=W) (a:=⟨b,59,none⟩) hfb).trans hat.f59
 have c60:=(World.cell?_of_block (w:=W) (a:=⟨b,60,none⟩) hfb).trans hat.f60
 have c61:=(World.cell?_of_block (w:=W) (a:=⟨b,61,none⟩) hfb).trans hat.f61
 have hx1:(W.setChan q.co 1 #[.agg #[.int .i64 kd,.int .i64 nb]] false (s + 1) r false).heap[q.cm]? = some (.chan 1 #[] false s1 r1 false):=(setChan_far _ _ _ _ _ _ _ _ _ n1).trans c1
 have hx2:(W.setChan q.co 1 #[.agg #[.int .i64 kd,.int .i64 nb]] false (s + 1) r false).heap[q.co]? = some (.chan 1 #[.agg #[.int .i64 kd,.int .i64 nb]] false (s + 1) r false):=heap_setChan _ _ _ _ _ _ _ _ hcl
 have hx3:(W.setChan q.co 1 #[.agg #[.int .i64 kd,.int .i64 nb]] false (s + 1) r false).heap[q.ct]? = some (.chan 1 #[] false s3 r3 false):=(setChan_far _ _ _ _ _ _ _ _ _ n3).trans c3
 have hd2:=chan_close h hb hat C q.co (.inr (.inr rfl)) (s + 1) (r + 1)
 obtain ⟨bs2,h2,k2⟩:=hd2.open
 have hb3:=(Below.refl (W.setChan q.co 1 #[] false (s + 1) (r + 1) false).heap.size (W.setChan q.co 1 #[] false (s + 1) (r + 1) false)).alloc (Nat.le_refl _) (.cells #[.int .i64 kd,.int .i64 nb] 87)
 have HB:=hide (((show Links W bs _ bs2 from k2).below hb3).calls (HA _ bs2 (h2.below hb3)) rfl)
 have hw2:(W.setChan q.co 1 #[.agg #[.int .i64 kd,.int .i64 nb]] false (s + 1) r false).setChan q.co 1 #[] false (s + 1) (r + 1) false = W.setChan q.co 1 #[] false (s + 1) (r + 1) false:=setChan_twice _ _ _ _ _ _ _ _ _ _ _ _ _ _
 clear hd2 h2 k2 h hat C HA hb3
 generalize W.setChan q.co 1 #[.agg #[.int .i64 kd,.int .i64 nb]] false (s + 1) r false = W1 at *
 refine calls_of_wpB Tryz.func71 rfl ?_
 simp only [Tryz.ntmps71,List.size_toArray,List.length_cons,List.length_nil,Nat.reduceAdd,Nat.reduceSub,Array.replicate_succ,Array.replicate_zero,List.push_toArray,List.append_toArray,List.nil_append,List.cons_append]
 refine wpB_seq (wpB_of_wp ?_)
 have hz1:=zeroMsg W1
 have hz2:=zeroUnit W1
 have hz3:=zeroOrder W1
 go_wp2
 refine wpB_seq ?_
 refine wpB_five rfl (opTo_sel3_2 (s:=s + 1) (r:=r) (v:=.agg #[.int .i64 kd,.int .i64 nb]) (za:=msgZ.val) (zb:=.agg #[]) (zc:=.agg #[.int .i64 0,.int .i64 0]) (by rfl) (by rfl) (by decide) (by simp [execOp,rcase,Act.eval,hz1,hz2,hz3,go_sem]) hx1 hx3 hx2) (opTo_value (v:=.int .i64 2) (w':=W1.setChan q.co 1 #[] false (s + 1) (r + 1) false) (by rfl) (by rfl) (by simp [execOp,Act.eval,Act.put,goInt,go_sem])) (opTo_value (v:=.bool false) (w':=W1.setChan q.co 1 #[] false (s + 1) (r + 1) false) (by rfl) (by rfl) (by simp [execOp,Act.eval,Act.put,goInt,go_sem])) (opTo_value (v:=.bool false) (w':=W1.setChan q.co 1 #[] false (s + 1) (r + 1) false) (by rfl) (by rfl) (by simp [execOp,Act.eval,Act.put,goInt,go_sem])) (opTo_value (v:=.bool true) (w':=W1.setChan q.co 1 #[] false (s + 1) (r + 1) false) (by rfl) (by rfl) (by simp [execOp,Act.eval,Act.put,goInt,go_sem])) ?_
 rw [hw2]
 show WpB _ _ _ _ _ _
 refine wpB_of_wp ?_
 walk_nrm
 generalize W.setChan q.co 1 #[] false (s + 1) (r + 1) false = W2 at *
 go_wp2_with fail
 refine (unhide HB).mono ?_
 rintro o w8 ⟨rfl,hd⟩
 have HE:=hide hd
 clear hd HB
 go_wp2
 go_end0
 exact ⟨rfl,unhide HE⟩
end Go.Proofs.YtceappncglfciaaGreat
namespace Go.Proofs.YtceappncglfciaaGreat
open Go.RowKit Go.Conc
attribute [local go_sem ↓] Go.wp_at_zero Go.wp_at_succ
section
variable {P:Program} {Q:Exit → Act → World → Prop} {b:Frame} {id:Nat}
theorem wpB_six {ops:Array Oper} {a0 a1 a2 a3 a4 a5 a6:Act} {w0 w1 w2 w3 w4 w5 w6:World} (hl:List.range ops.size = [0,1,2,3,4,5]) (h0:OpTo P b ops 0 a0 w0 a1 w1) (h1:OpTo P b ops 1 a1 w1 a2 w2) (h2:OpTo P b ops 2 a2 w2 a3 w3) (h3:OpTo P b ops 3 a3 w3 a4 w4) (h4:OpTo P b ops 4 a4 w4 a5 w5) (h5:OpTo P b ops 5 a5 w5 a6 w6) (hq:Q .normal a6 w6):WpB P b (.region id ops false) Q a0 w0 :=
 steps_rest (rest:=[]) (fun k cs => by rw [hl];exact .head (h0 _ k cs) (.head (h1 _ k cs) (.head (h2 _ k cs) (.head (h3 _ k cs) (.head (h4 _ k cs) (.one (h5 _ k cs))))))) hq
end
set_option maxRecDepth 100000 in
set_option maxHeartbeats 2000000 in
theorem ptick_any (i b:Nat) (W:World) (bt:Nat) (pb bs:List Nat) (T T':PTown) (h:PR W bt pb bs T) (hb:pb[i]? = some b)
  (HA:∀ w bs1,PR w bt pb bs1 T → Calls Tryz.prog 88 #[.pointer (some ⟨b,0,none⟩)] w fun o w' => o = .returned (.tuple #[]) ∧ PDid w bt pb bs1 w' T') :
  Calls Tryz.prog 43 #[.pointer (some ⟨b,0,none⟩)] W fun o w' => o = .returned (.tuple #[]) ∧ PDid W bt pb bs w' T':=by
 obtain ⟨_,q,hat,_,_,_,_,C⟩:=h.at hb
 obtain ⟨s,r,hc⟩:=hat.ct
 have c60:=hat.f60
 have HB:=hide (takeTick_any i b W bt pb bs T T' q s r h hb hat C hc HA)
 clear h hat C HA
 refine calls_of_wpB Tryz.func43 rfl ?_
 simp only [Tryz.ntmps43,List.size_toArray,List.length_cons,List.length_nil,Nat.reduceAdd,Nat.reduceSub,Array.replicate_succ,Array.replicate_zero,List.push_toArray,List.append_toArray,List.nil_append,List.cons_append]
 refine wpB_seq ?_
 refine wpB_six rfl (opTo_value (v:=.pointer (some ⟨b,0,none⟩)) (w':=W) (by rfl) (by rfl) (by simp [execOp,Act.eval,Act.put,go_sem])) (opTo_value (v:=.pointer (some ⟨b,0,none⟩)) (w':=W) (by rfl) (by rfl) (by simp [execOp,Act.eval,Act.put,go_sem])) (opTo_value (v:=.pointer (some ⟨b,60,none⟩)) (w':=W) (by rfl) (by rfl) (by simp [execOp,Act.eval,Act.put,go_sem])) (opTo_value (v:=.chan (some q.ct)) (w':=W) (by rfl) (by rfl) (by simp [execOp,Act.eval,Act.put,go_sem,c60])) (opTo_value (v:=.agg #[]) (w':=W) (by rfl) (by rfl) (by simp [execOp,Act.eval,Act.put,go_sem])) (opTo_send (v:=.agg #[]) (z:=.tuple #[]) (by rfl) (by rfl) (by decide) (by simp [execOp,scase,Act.eval,Act.put,go_sem]) hc) ?_
 show WpB _ _ _ _ _ _
 refine wpB_of_wp ?_
 walk_nrm
 generalize W.setChan q.ct 1 #[.agg #[]] false (s + 1) r false = W2 at *
 go_wp2_with fail
 refine (unhide HB).mono ?_
 rintro o w8 ⟨rfl,hd⟩
 have HE:=hide hd
 clear hd HB
 go_wp2
 go_end0
 exact ⟨rfl,unhide HE⟩
end Go.Proofs.YtceappncglfciaaGreat
namespace Go.Proofs.YtceappncglfciaaGreat
open Go.RowKit Go.Conc
attribute [local go_sem ↓] Go.wp_at_zero Go.wp_at_succ
theorem Tryz.mixed:Tryz.prog.follows .mixedOrders = true:=by kernel_rfl
theorem anyTo_next {P:Program} {b:Frame} {ops:Array Oper} {a a1:Act} {w w1:World} {fuel:Nat} {listed:Array Bool} {rs:List Nat} (hr:Region.ready .any ops listed = rs) (hne:rs ≠ [])
  (h:∀ i ∈ rs,∃ a' w',OpTo P b ops i a w a' w' ∧ AnyTo P b ops a1 w1 fuel (listed.setIfInBounds i true) a' w'):AnyTo P b ops a1 w1 (fuel + 1) listed a w:=by
 subst hr
 exact ⟨hne,h⟩
theorem Links.calls0 {f:FuncId} {args:Array Value} {W w0 w:World} {bs bs1 pb:List Nat} {bt:Nat} {T:PTown} {v:Value} (h:Links W bs w0 bs1) (c:Calls Tryz.prog f args w fun o w' => o = .returned v ∧ PDid w0 bt pb bs1 w' T) :
  Calls Tryz.prog f args w fun o w' => o = .returned v ∧ PDid W bt pb bs w' T:=c.mono fun _ _ hh => ⟨hh.1,h.did hh.2⟩
set_option maxRecDepth 100000 in
set_option maxHeartbeats 4000000 in
theorem porder_any (i b:Nat) (kd nb:Int) (W:World) (bt:Nat) (pb bs:List Nat) (T T':PTown) (h:PR W bt pb bs T) (hb:pb[i]? = some b)
  (HA:∀ w bs1,PR w bt pb bs1 T → Calls Tryz.prog 89 #[.pointer (some ⟨b,0,none⟩),.agg #[.int .i64 kd,.int .i64 nb]] w fun o w' => o = .returned (.tuple #[]) ∧ PDid w bt pb bs1 w' T') :
  Calls Tryz.prog 40 #[.pointer (some ⟨b,0,none⟩),.agg #[.int .i64 kd,.int .i64 nb]] W fun o w' => o = .returned (.tuple #[]) ∧ PDid W bt pb bs w' T':=by
 have hX:=(Below.refl W.heap.size W).alloc (Nat.le_refl _) (.cells #[.int .i64 kd,.int .i64 nb] 87)
 have HBX:Hid (Box (W.alloc (.cells #[.int .i64 kd,.int .i64 nb] 87)) W.heap.size #[.int .i64 kd,.int .i64 nb] 87):=Box.new _ _ _
 have HX:=hide (Links.of_below bs hX)
 have HH:=hide (h.below hX)
 clear h hX
 refine calls_of_wpB Tryz.func40 rfl ?_
 simp only [Tryz.ntmps40,List.size_toArray,List.length_cons,List.length_nil,Nat.reduceAdd,Nat.reduceSub,Array.replicate_succ,Array.replicate_zero,List.push_toArray,List.append_toArray,List.nil_append,List.cons_append]
 refine wpB_seq (wpB_of_wp ?_)
 go_wp2
 generalize W.alloc (.cells #[.int .i64 kd,.int .i64 nb] 87) = W1 at *
 have hbd:=(Below.refl W1.heap.size W1).drew
 have h1:=(unhide HH).below hbd
 obtain ⟨_,q,hat,_,_,_,_,C⟩:=h1.at hb
 obtain ⟨s,r,hc⟩:=hat.co
 have c61:W1.cell? ⟨b,61,none⟩ = some (.chan (some q.co)):=hat.f61
 have x0:W1.cell? ⟨W.heap.size,0,none⟩ = some (.int .i64 kd):=(unhide HBX).cell 0
 have x1:W1.cell? ⟨W.heap.size,1,none⟩ = some (.int .i64 nb):=(unhide HBX).cell 1
 have HB:=hide (((unhide HX).below hbd).calls0 (takeOrder_any i b W1.drew bt pb bs T T' kd nb q s r h1 hb hat C hc HA))
 clear h1 hat C HA hbd HX HH HBX
 refine wpB_seq ?_
 refine wpB_any (a1:=⟨#[.pointer (some ⟨b,0,none⟩),.agg #[.int .i64 kd,.int .i64 nb],undef,.pointer (some ⟨W.heap.size,0,none⟩),.pointer (some ⟨b,0,none⟩),.pointer (some ⟨b,0,none⟩),.pointer (some ⟨b,61,none⟩),.chan (some q.co),.agg #[.int .i64 kd,.int .i64 nb],undef,undef],[]⟩) (w1:=W1.drew.setChan q.co 1 #[.agg #[.int .i64 kd,.int .i64 nb]] false (s + 1) r false) Tryz.mixed ?_ ?_
 ·show AnyTo _ _ _ _ _ 6 #[false,false,false,false,false,false] _ W1.drew
  refine anyTo_next (rs:=[0,4]) (by kernel_rfl) (by simp) fun i hi => ?_
  simp only [List.mem_cons,List.not_mem_nil,or_false] at hi
  rcases hi with rfl | rfl
  ·refine ⟨_,_,opTo_value (v:=.pointer (some ⟨b,0,none⟩)) (w':=W1.drew) (by rfl) (by rfl) (by simp [execOp,Act.eval,Act.put,go_sem,c61,x0,x1]),?_⟩
   refine anyTo_next (rs:=[1,4]) (by kernel_rfl) (by simp) fun i hi => ?_
   simp only [List.mem_cons,List.not_mem_nil,or_false] at hi
   rcases hi with rfl | rfl
   ·refine ⟨_,_,opTo_value (v:=.pointer (some ⟨b,0,none⟩)) (w':=W1.drew) (by rfl) (by rfl) (by simp [execOp,Act.eval,Act.put,go_sem,c61,x0,x1]),?_⟩
    refine anyTo_next (rs:=[2,4]) (by kernel_rfl) (by simp) fun i hi => ?_
    simp only [List.mem_cons,List.not_mem_nil,or_false] at hi
    rcases hi with rfl | rfl
    ·refine ⟨_,_,opTo_value (v:=.pointer (some ⟨b,61,none⟩)) (w':=W1.drew) (by rfl) (by rfl) (by simp [execOp,Act.eval,Act.put,go_sem,c61,x0,x1]),?_⟩
     refine anyTo_next (rs:=[3,4]) (by kernel_rfl) (by simp) fun i hi => ?_
     simp only [List.mem_cons,List.not_mem_nil,or_false] at hi
     rcases hi with rfl | rfl
     ·refine ⟨_,_,opTo_value (v:=.chan (some q.co)) (w':=W1.drew) (by rfl) (by rfl) (by simp [execOp,Act.eval,Act.put,go_sem,c61,x0,x1]),?_⟩
      refine anyTo_next (rs:=[4]) (by kernel_rfl) (by simp) fun i hi => ?_
      simp only [List.mem_cons,List.not_mem_nil,or_false] at hi
      subst hi
      refine ⟨_,_,opTo_value (v:=.agg #[.int .i64 kd,.int .i64 nb]) (w':=W1.drew) (by rfl) (by rfl) (by simp [execOp,Act.eval,Act.put,go_sem,c61,x0,x1]),?_⟩
      refine anyTo_next (rs:=[5]) (by kernel_rfl) (by simp) fun i hi => ?_
      simp only [List.mem_cons,List.not_mem_nil,or_false] at hi
      subst hi
      refine ⟨_,_,opTo_send (v:=.agg #[.int .i64 kd,.int .i64 nb]) (z:=.tuple #[]) (by rfl) (by rfl) (by decide) (by simp [execOp,scase,Act.eval,Act.put,go_sem]) hc,?_⟩
      exact ⟨by kernel_rfl,rfl,rfl⟩
     ·refine ⟨_,_,opTo_value (v:=.agg #[.int .i64 kd,.int .i64 nb]) (w':=W1.drew) (by rfl) (by rfl) (by simp [execOp,Act.eval,Act.put,go_sem,c61,x0,x1]),?_⟩
      refine anyTo_next (rs:=[3]) (by kernel_rfl) (by simp) fun i hi => ?_
      simp only [List.mem_cons,List.not_mem_nil,or_false] at hi
      subst hi
      refine ⟨_,_,opTo_value (v:=.chan (some q.co)) (w':=W1.drew) (by rfl) (by rfl) (by simp [execOp,Act.eval,Act.put,go_sem,c61,x0,x1]),?_⟩
      refine anyTo_next (rs:=[5]) (by kernel_rfl) (by simp) fun i hi => ?_
      simp only [List.mem_cons,List.not_mem_nil,or_false] at hi
      subst hi
      refine ⟨_,_,opTo_send (v:=.agg #[.int .i64 kd,.int .i64 nb]) (z:=.tuple #[]) (by rfl) (by rfl) (by decide) (by simp [execOp,scase,Act.eval,Act.put,go_sem]) hc,?_⟩
      exact ⟨by kernel_rfl,rfl,rfl⟩
    ·refine ⟨_,_,opTo_value (v:=.agg #[.int .i64 kd,.int .i64 nb]) (w':=W1.drew) (by rfl) (by rfl) (by simp [execOp,Act.eval,Act.put,go_sem,c61,x0,x1]),?_⟩
     refine anyTo_next (rs:=[2]) (by kernel_rfl) (by simp) fun i hi => ?_
     simp only [List.mem_cons,List.not_mem_nil,or_false] at hi
     subst hi
     refine ⟨_,_,opTo_value (v:=.pointer (some ⟨b,61,none⟩)) (w':=W1.drew) (by rfl) (by rfl) (by simp [execOp,Act.eval,Act.put,go_sem,c61,x0,x1]),?_⟩
     refine anyTo_next (rs:=[3]) (by kernel_rfl) (by simp) fun i hi => ?_
     simp only [List.mem_cons,List.not_mem_nil,or_false] at hi
     subst hi
     refine ⟨_,_,opTo_value (v:=.chan (some q.co)) (w':=W1.drew) (by rfl) (by rfl) (by simp [execOp,Act.eval,Act.put,go_sem,c61,x0,x1]),?_⟩
     refine anyTo_next (rs:=[5]) (by kernel_rfl) (by simp) fun i hi => ?_
     simp only [List.mem_cons,List.not_mem_nil,or_false] at hi
     subst hi
     refine ⟨_,_,opTo_send (v:=.agg #[.int .i64 kd,.int .i64 nb]) (z:=.tuple #[]) (by rfl) (by rfl) (by decide) (by simp [execOp,scase,Act.eval,Act.put,go_sem]) hc,?_⟩
     exact ⟨by kernel_rfl,rfl,rfl⟩
   ·refine ⟨_,_,opTo_value (v:=.agg #[.int .i64 kd,.int .i64 nb]) (w':=W1.drew) (by rfl) (by rfl) (by simp [execOp,Act.eval,Act.put,go_sem,c61,x0,x1]),?_⟩
    refine anyTo_next (rs:=[1]) (by kernel_rfl) (by simp) fun i hi => ?_
    simp only [List.mem_cons,List.not_mem_nil,or_false] at hi
    subst hi
    refine ⟨_,_,opTo_value (v:=.pointer (some ⟨b,0,none⟩)) (w':=W1.drew) (by rfl) (by rfl) (by simp [execOp,Act.eval,Act.put,go_sem,c61,x0,x1]),?_⟩
    refine anyTo_next (rs:=[2]) (by kernel_rfl) (by simp) fun i hi => ?_
    simp only [List.mem_cons,List.not_mem_nil,or_false] at hi
    subst hi
    refine ⟨_,_,opTo_value (v:=.pointer (some ⟨b,61,none⟩)) (w':=W1.drew) (by rfl) (by rfl) (by simp [execOp,Act.eval,Act.put,go_sem,c61,x0,x1]),?_⟩
    refine anyTo_next (rs:=[3]) (by kernel_rfl) (by simp) fun i hi => ?_
    simp only [List.mem_cons,List.not_mem_nil,or_false] at hi
    subst hi
    refine ⟨_,_,opTo_value (v:=.chan (some q.co)) (w':=W1.drew) (by rfl) (by rfl) (by simp [execOp,Act.eval,Act.put,go_sem,c61,x0,x1]),?_⟩
    refine anyTo_next (rs:=[5]) (by kernel_rfl) (by simp) fun i hi => ?_
    simp only [List.mem_cons,List.not_mem_nil,or_false] at hi
    subst hi
    refine ⟨_,_,opTo_send (v:=.agg #[.int .i64 kd,.int .i64 nb]) (z:=.tuple #[]) (by rfl) (by rfl) (by decide) (by simp [execOp,scase,Act.eval,Act.put,go_sem]) hc,?_⟩
    exact ⟨by kernel_rfl,rfl,rfl⟩
  ·refine ⟨_,_,opTo_value (v:=.agg #[.int .i64 kd,.int .i64 nb]) (w':=W1.drew) (by rfl) (by rfl) (by simp [execOp,Act.eval,Act.put,go_sem,c61,x0,x1]),?_⟩
   refine anyTo_next (rs:=[0]) (by kernel_rfl) (by simp) fun i hi => ?_
   simp only [List.mem_cons,List.not_mem_nil,or_false] at hi
   subst hi
   refine ⟨_,_,opTo_value (v:=.pointer (some ⟨b,0,none⟩)) (w':=W1.drew) (by rfl) (by rfl) (by simp [execOp,Act.eval,Act.put,go_sem,c61,x0,x1]),?_⟩
   refine anyTo_next (rs:=[1]) (by kernel_rfl) (by simp) fun i hi => ?_
   simp only [List.mem_cons,List.not_mem_nil,or_false] at hi
   subst hi
   refine ⟨_,_,opTo_value (v:=.pointer (some ⟨b,0,none⟩)) (w':=W1.drew) (by rfl) (by rfl) (by simp [execOp,Act.eval,Act.put,go_sem,c61,x0,x1]),?_⟩
   refine anyTo_next (rs:=[2]) (by kernel_rfl) (by simp) fun i hi => ?_
   simp only [List.mem_cons,List.not_mem_nil,or_false] at hi
   subst hi
   refine ⟨_,_,opTo_value (v:=.pointer (some ⟨b,61,none⟩)) (w':=W1.drew) (by rfl) (by rfl) (by simp [execOp,Act.eval,Act.put,go_sem,c61,x0,x1]),?_⟩
   refine anyTo_next (rs:=[3]) (by kernel_rfl) (by simp) fun i hi => ?_
   simp only [List.mem_cons,List.not_mem_nil,or_false] at hi
   subst hi
   refine ⟨_,_,opTo_value (v:=.chan (some q.co)) (w':=W1.drew) (by rfl) (by rfl) (by simp [execOp,Act.eval,Act.put,go_sem,c61,x0,x1]),?_⟩
   refine anyTo_next (rs:=[5]) (by kernel_rfl) (by simp) fun i hi => ?_
   simp only [List.mem_cons,List.not_mem_nil,or_false] at hi
   subst hi
   refine ⟨_,_,opTo_send (v:=.agg #[.int .i64 kd,.int .i64 nb]) (z:=.tuple #[]) (by rfl) (by rfl) (by decide) (by simp [execOp,scase,Act.eval,Act.put,go_sem]) hc,?_⟩
   exact ⟨by kernel_rfl,rfl,rfl⟩
 ·show WpB _ _ _ _ _ _
  refine wpB_of_wp ?_
  generalize W1.drew.setChan q.co 1 #[.agg #[.int .i64 kd,.int .i64 nb]] false (s + 1) r false = W2 at *
  go_wp2_with fail
  refine (unhide HB).mono ?_
  rintro o w8 ⟨rfl,hd⟩
  have HE:=hide hd
  clear hd HB
  go_wp2
  go_end0
  exact ⟨rfl,unhide HE⟩
end Go.Proofs.YtceappncglfciaaGreat
