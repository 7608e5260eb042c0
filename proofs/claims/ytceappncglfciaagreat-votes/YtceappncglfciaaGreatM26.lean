import Derived.Test.YtceappncglfciaaGreatM25
set_option linter.unusedVariables false
set_option linter.unusedSimpArgs false
namespace Go.Proofs.YtceappncglfciaaGreat
open Go.RowKit Go.Conc
attribute [local go_sem ↓] Go.wp_at_zero Go.wp_at_succ
set_option maxRecDepth 100000 in
set_option maxHeartbeats 4000000 in
theorem pdeliver_any (i b:Nat) (m:MsgM) (W:World) (bt:Nat) (pb bs:List Nat) (T T':PTown) (h:PR W bt pb bs T) (hb:pb[i]? = some b)
  (HA:∀ w bs1,PR w bt pb bs1 T → Calls Tryz.prog 87 #[.pointer (some ⟨b,0,none⟩),m.val] w fun o w' => o = .returned (.tuple #[]) ∧ PDid w bt pb bs1 w' T') :
  Calls Tryz.prog 68 #[.pointer (some ⟨b,0,none⟩),.agg #[.int .i64 m.kind,.int .i64 m.src,.int .i64 m.dst,.int .i64 m.round,.int .i64 m.state,.int .i64 m.vote.e,.int .i64 m.vote.n,.int .i64 m.vote.p,.int .i64 m.epoch,.int .i64 m.news]] W fun o w' => o = .returned (.tuple #[]) ∧ PDid W bt pb bs w' T':=by
 have hX:=(Below.refl W.heap.size W).alloc (Nat.le_refl _) (.cells #[.int .i64 m.kind,.int .i64 m.src,.int .i64 m.dst,.int .i64 m.round,.int .i64 m.state,.int .i64 m.vote.e,.int .i64 m.vote.n,.int .i64 m.vote.p,.int .i64 m.epoch,.int .i64 m.news] 133)
 have HBX:Hid (Box (W.alloc (.cells #[.int .i64 m.kind,.int .i64 m.src,.int .i64 m.dst,.int .i64 m.round,.int .i64 m.state,.int .i64 m.vote.e,.int .i64 m.vote.n,.int .i64 m.vote.p,.int .i64 m.epoch,.int .i64 m.news] 133)) W.heap.size #[.int .i64 m.kind,.int .i64 m.src,.int .i64 m.dst,.int .i64 m.round,.int .i64 m.state,.int .i64 m.vote.e,.int .i64 m.vote.n,.int .i64 m.vote.p,.int .i64 m.epoch,.int .i64 m.news] 133):=Box.new _ _ _
 have HX:=hide (Links.of_below bs hX)
 have HH:=hide (h.below hX)
 clear h hX
 refine calls_of_wpB Tryz.func68 rfl ?_
 simp only [Tryz.ntmps68,List.size_toArray,List.length_cons,List.length_nil,Nat.reduceAdd,Nat.reduceSub,Array.replicate_succ,Array.replicate_zero,List.push_toArray,List.append_toArray,List.nil_append,List.cons_append]
 refine wpB_seq (wpB_of_wp ?_)
 go_wp2
 generalize W.alloc (.cells #[.int .i64 m.kind,.int .i64 m.src,.int .i64 m.dst,.int .i64 m.round,.int .i64 m.state,.int .i64 m.vote.e,.int .i64 m.vote.n,.int .i64 m.vote.p,.int .i64 m.epoch,.int .i64 m.news] 133) = W1 at *
 have hbd:=(Below.refl W1.heap.size W1).drew
 have h1:=(unhide HH).below hbd
 obtain ⟨_,q,hat,_,_,_,_,C⟩:=h1.at hb
 obtain ⟨s,r,hc⟩:=hat.cm
 have c59:W1.cell? ⟨b,59,none⟩ = some (.chan (some q.cm)):=hat.f59
 have x0:W1.cell? ⟨W.heap.size,0,none⟩ = some (.int .i64 m.kind):=(unhide HBX).cell 0
 have x1:W1.cell? ⟨W.heap.size,1,none⟩ = some (.int .i64 m.src):=(unhide HBX).cell 1
 have x2:W1.cell? ⟨W.heap.size,2,none⟩ = some (.int .i64 m.dst):=(unhide HBX).cell 2
 have x3:W1.cell? ⟨W.heap.size,3,none⟩ = some (.int .i64 m.round):=(unhide HBX).cell 3
 have x4:W1.cell? ⟨W.heap.size,4,none⟩ = some (.int .i64 m.state):=(unhide HBX).cell 4
 have x5:W1.cell? ⟨W.heap.size,5,none⟩ = some (.int .i64 m.vote.e):=(unhide HBX).cell 5
 have x6:W1.cell? ⟨W.heap.size,6,none⟩ = some (.int .i64 m.vote.n):=(unhide HBX).cell 6
 have x7:W1.cell? ⟨W.heap.size,7,none⟩ = some (.int .i64 m.vote.p):=(unhide HBX).cell 7
 have x8:W1.cell? ⟨W.heap.size,8,none⟩ = some (.int .i64 m.epoch):=(unhide HBX).cell 8
 have x9:W1.cell? ⟨W.heap.size,9,none⟩ = some (.int .i64 m.news):=(unhide HBX).cell 9
 have HB:=hide (((unhide HX).below hbd).calls0 (takeMsg_any i b W1.drew bt pb bs T T' m q s r h1 hb hat C hc HA))
 change Hid (Calls _ _ _ (W1.drew.setChan q.cm 1 #[.agg #[.int .i64 m.kind,.int .i64 m.src,.int .i64 m.dst,.int .i64 m.round,.int .i64 m.state,.int .i64 m.vote.e,.int .i64 m.vote.n,.int .i64 m.vote.p,.int .i64 m.epoch,.int .i64 m.news]] false (s + 1) r false) _) at HB
 clear h1 hat C HA hbd HX HH HBX
 refine wpB_seq ?_
 refine wpB_any (a1:=⟨#[.pointer (some ⟨b,0,none⟩),.agg #[.int .i64 m.kind,.int .i64 m.src,.int .i64 m.dst,.int .i64 m.round,.int .i64 m.state,.int .i64 m.vote.e,.int .i64 m.vote.n,.int .i64 m.vote.p,.int .i64 m.epoch,.int .i64 m.news],undef,.pointer (some ⟨W.heap.size,0,none⟩),.pointer (some ⟨b,0,none⟩),.pointer (some ⟨b,0,none⟩),.pointer (some ⟨b,59,none⟩),.chan (some q.cm),.agg #[.int .i64 m.kind,.int .i64 m.src,.int .i64 m.dst,.int .i64 m.round,.int .i64 m.state,.int .i64 m.vote.e,.int .i64 m.vote.n,.int .i64 m.vote.p,.int .i64 m.epoch,.int .i64 m.news],undef,undef],[]⟩) (w1:=W1.drew.setChan q.cm 1 #[.agg #[.int .i64 m.kind,.int .i64 m.src,.int .i64 m.dst,.int .i64 m.round,.int .i64 m.state,.int .i64 m.vote.e,.int .i64 m.vote.n,.int .i64 m.vote.p,.int .i64 m.epoch,.int .i64 m.news]] false (s + 1) r false) Tryz.mixed ?_ ?_
 ·show AnyTo _ _ _ _ _ 6 #[false,false,false,false,false,false] _ W1.drew
  refine anyTo_next (rs:=[0,4]) (by kernel_rfl) (by simp) fun i hi => ?_
  simp only [List.mem_cons,List.not_mem_nil,or_false] at hi
  rcases hi with rfl | rfl
  ·refine ⟨_,_,opTo_value (v:=.pointer (some ⟨b,0,none⟩)) (w':=W1.drew) (by rfl) (by rfl) (by simp [execOp,Act.eval,Act.put,go_sem,c59,x0,x1,x2,x3,x4,x5,x6,x7,x8,x9]),?_⟩
   refine anyTo_next (rs:=[1,4]) (by kernel_rfl) (by simp) fun i hi => ?_
   simp only [List.mem_cons,List.not_mem_nil,or_false] at hi
   rcases hi with rfl | rfl
   ·refine ⟨_,_,opTo_value (v:=.pointer (some ⟨b,0,none⟩)) (w':=W1.drew) (by rfl) (by rfl) (by simp [execOp,Act.eval,Act.put,go_sem,c59,x0,x1,x2,x3,x4,x5,x6,x7,x8,x9]),?_⟩
    refine anyTo_next (rs:=[2,4]) (by kernel_rfl) (by simp) fun i hi => ?_
    simp only [List.mem_cons,List.not_mem_nil,or_false] at hi
    rcases hi with rfl | rfl
    ·refine ⟨_,_,opTo_value (v:=.pointer (some ⟨b,59,none⟩)) (w':=W1.drew) (by rfl) (by rfl) (by simp [execOp,Act.eval,Act.put,go_sem,c59,x0,x1,x2,x3,x4,x5,x6,x7,x8,x9]),?_⟩
     refine anyTo_next (rs:=[3,4]) (by kernel_rfl) (by simp) fun i hi => ?_
     simp only [List.mem_cons,List.not_mem_nil,or_false] at hi
     rcases hi with rfl | rfl
     ·refine ⟨_,_,opTo_value (v:=.chan (some q.cm)) (w':=W1.drew) (by rfl) (by rfl) (by simp [execOp,Act.eval,Act.put,go_sem,c59,x0,x1,x2,x3,x4,x5,x6,x7,x8,x9]),?_⟩
      refine anyTo_next (rs:=[4]) (by kernel_rfl) (by simp) fun i hi => ?_
      simp only [List.mem_cons,List.not_mem_nil,or_false] at hi
      subst hi
      refine ⟨_,_,opTo_value (v:=.agg #[.int .i64 m.kind,.int .i64 m.src,.int .i64 m.dst,.int .i64 m.round,.int .i64 m.state,.int .i64 m.vote.e,.int .i64 m.vote.n,.int .i64 m.vote.p,.int .i64 m.epoch,.int .i64 m.news]) (w':=W1.drew) (by rfl) (by rfl) (by simp [execOp,Act.eval,Act.put,go_sem,c59,x0,x1,x2,x3,x4,x5,x6,x7,x8,x9]),?_⟩
      refine anyTo_next (rs:=[5]) (by kernel_rfl) (by simp) fun i hi => ?_
      simp only [List.mem_cons,List.not_mem_nil,or_false] at hi
      subst hi
      refine ⟨_,_,opTo_send (v:=.agg #[.int .i64 m.kind,.int .i64 m.src,.int .i64 m.dst,.int .i64 m.round,.int .i64 m.state,.int .i64 m.vote.e,.int .i64 m.vote.n,.int .i64 m.vote.p,.int .i64 m.epoch,.int .i64 m.news]) (z:=.tuple #[]) (by rfl) (by rfl) (by decide) (by simp [execOp,scase,Act.eval,Act.put,go_sem]) hc,?_⟩
      exact ⟨by kernel_rfl,rfl,rfl⟩
     ·refine ⟨_,_,opTo_value (v:=.agg #[.int .i64 m.kind,.int .i64 m.src,.int .i64 m.dst,.int .i64 m.round,.int .i64 m.state,.int .i64 m.vote.e,.int .i64 m.vote.n,.int .i64 m.vote.p,.int .i64 m.epoch,.int .i64 m.news]) (w':=W1.drew) (by rfl) (by rfl) (by simp [execOp,Act.eval,Act.put,go_sem,c59,x0,x1,x2,x3,x4,x5,x6,x7,x8,x9]),?_⟩
      refine anyTo_next (rs:=[3]) (by kernel_rfl) (by simp) fun i hi => ?_
      simp only [List.mem_cons,List.not_mem_nil,or_false] at hi
      subst hi
      refine ⟨_,_,opTo_value (v:=.chan (some q.cm)) (w':=W1.drew) (by rfl) (by rfl) (by simp [execOp,Act.eval,Act.put,go_sem,c59,x0,x1,x2,x3,x4,x5,x6,x7,x8,x9]),?_⟩
      refine anyTo_next (rs:=[5]) (by kernel_rfl) (by simp) fun i hi => ?_
      simp only [List.mem_cons,List.not_mem_nil,or_false] at hi
      subst hi
      refine ⟨_,_,opTo_send (v:=.agg #[.int .i64 m.kind,.int .i64 m.src,.int .i64 m.dst,.int .i64 m.round,.int .i64 m.state,.int .i64 m.vote.e,.int .i64 m.vote.n,.int .i64 m.vote.p,.int .i64 m.epoch,.int .i64 m.news]) (z:=.tuple #[]) (by rfl) (by rfl) (by decide) (by simp [execOp,scase,Act.eval,Act.put,go_sem]) hc,?_⟩
      exact ⟨by kernel_rfl,rfl,rfl⟩
    ·refine ⟨_,_,opTo_value (v:=.agg #[.int .i64 m.kind,.int .i64 m.src,.int .i64 m.dst,.int .i64 m.round,.int .i64 m.state,.int .i64 m.vote.e,.int .i64 m.vote.n,.int .i64 m.vote.p,.int .i64 m.epoch,.int .i64 m.news]) (w':=W1.drew) (by rfl) (by rfl) (by simp [execOp,Act.eval,Act.put,go_sem,c59,x0,x1,x2,x3,x4,x5,x6,x7,x8,x9]),?_⟩
     refine anyTo_next (rs:=[2]) (by kernel_rfl) (by simp) fun i hi => ?_
     simp only [List.mem_cons,List.not_mem_nil,or_false] at hi
     subst hi
     refine ⟨_,_,opTo_value (v:=.pointer (some ⟨b,59,none⟩)) (w':=W1.drew) (by rfl) (by rfl) (by simp [execOp,Act.eval,Act.put,go_sem,c59,x0,x1,x2,x3,x4,x5,x6,x7,x8,x9]),?_⟩
     refine anyTo_next (rs:=[3]) (by kernel_rfl) (by simp) fun i hi => ?_
     simp only [List.mem_cons,List.not_mem_nil,or_false] at hi
     subst hi
     refine ⟨_,_,opTo_value (v:=.chan (some q.cm)) (w':=W1.drew) (by rfl) (by rfl) (by simp [execOp,Act.eval,Act.put,go_sem,c59,x0,x1,x2,x3,x4,x5,x6,x7,x8,x9]),?_⟩
     refine anyTo_next (rs:=[5]) (by kernel_rfl) (by simp) fun i hi => ?_
     simp only [List.mem_cons,List.not_mem_nil,or_false] at hi
     subst hi
     refine ⟨_,_,opTo_send (v:=.agg #[.int .i64 m.kind,.int .i64 m.src,.int .i64 m.dst,.int .i64 m.round,.int .i64 m.state,.int .i64 m.vote.e,.int .i64 m.vote.n,.int .i64 m.vote.p,.int .i64 m.epoch,.int .i64 m.news]) (z:=.tuple #[]) (by rfl) (by rfl) (by decide) (by simp [execOp,scase,Act.eval,Act.put,go_sem]) hc,?_⟩
     exact ⟨by kernel_rfl,rfl,rfl⟩
   ·refine ⟨_,_,opTo_value (v:=.agg #[.int .i64 m.kind,.int .i64 m.src,.int .i64 m.dst,.int .i64 m.round,.int .i64 m.state,.int .i64 m.vote.e,.int .i64 m.vote.n,.int .i64 m.vote.p,.int .i64 m.epoch,.int .i64 m.news]) (w':=W1.drew) (by rfl) (by rfl) (by simp [execOp,Act.eval,Act.put,go_sem,c59,x0,x1,x2,x3,x4,x5,x6,x7,x8,x9]),?_⟩
    refine anyTo_next (rs:=[1]) (by kernel_rfl) (by simp) fun i hi => ?_
    simp only [List.mem_cons,List.not_mem_nil,or_false] at hi
    subst hi
    refine ⟨_,_,opTo_value (v:=.pointer (some ⟨b,0,none⟩)) (w':=W1.drew) (by rfl) (by rfl) (by simp [execOp,Act.eval,Act.put,go_sem,c59,x0,x1,x2,x3,x4,x5,x6,x7,x8,x9]),?_⟩
    refine anyTo_next (rs:=[2]) (by kernel_rfl) (by simp) fun i hi => ?_
    simp only [List.mem_cons,List.not_mem_nil,or_false] at hi
    subst hi
    refine ⟨_,_,opTo_value (v:=.pointer (some ⟨b,59,none⟩)) (w':=W1.drew) (by rfl) (by rfl) (by simp [execOp,Act.eval,Act.put,go_sem,c59,x0,x1,x2,x3,x4,x5,x6,x7,x8,x9]),?_⟩
    refine anyTo_next (rs:=[3]) (by kernel_rfl) (by simp) fun i hi => ?_
    simp only [List.mem_cons,List.not_mem_nil,or_false] at hi
    subst hi
    refine ⟨_,_,opTo_value (v:=.chan (some q.cm)) (w':=W1.drew) (by rfl) (by rfl) (by simp [execOp,Act.eval,Act.put,go_sem,c59,x0,x1,x2,x3,x4,x5,x6,x7,x8,x9]),?_⟩
    refine anyTo_next (rs:=[5]) (by kernel_rfl) (by simp) fun i hi => ?_
    simp only [List.mem_cons,List.not_mem_nil,or_false] at hi
    subst hi
    refine ⟨_,_,opTo_send (v:=.agg #[.int .i64 m.kind,.int .i64 m.src,.int .i64 m.dst,.int .i64 m.round,.int .i64 m.state,.int .i64 m.vote.e,.int .i64 m.vote.n,.int .i64 m.vote.p,.int .i64 m.epoch,.int .i64 m.news]) (z:=.tuple #[]) (by rfl) (by rfl) (by decide) (by simp [execOp,scase,Act.eval,Act.put,go_sem]) hc,?_⟩
    exact ⟨by kernel_rfl,rfl,rfl⟩
  ·refine ⟨_,_,opTo_value (v:=.agg #[.int .i64 m.kind,.int .i64 m.src,.int .i64 m.dst,.int .i64 m.round,.int .i64 m.state,.int .i64 m.vote.e,.int .i64 m.vote.n,.int .i64 m.vote.p,.int .i64 m.epoch,.int .i64 m.news]) (w':=W1.drew) (by rfl) (by rfl) (by simp [execOp,Act.eval,Act.put,go_sem,c59,x0,x1,x2,x3,x4,x5,x6,x7,x8,x9]),?_⟩
   refine anyTo_next (rs:=[0]) (by kernel_rfl) (by simp) fun i hi => ?_
   simp only [List.mem_cons,List.not_mem_nil,or_false] at hi
   subst hi
   refine ⟨_,_,opTo_value (v:=.pointer (some ⟨b,0,none⟩)) (w':=W1.drew) (by rfl) (by rfl) (by simp [execOp,Act.eval,Act.put,go_sem,c59,x0,x1,x2,x3,x4,x5,x6,x7,x8,x9]),?_⟩
   refine anyTo_next (rs:=[1]) (by kernel_rfl) (by simp) fun i hi => ?_
   simp only [List.mem_cons,List.not_mem_nil,or_false] at hi
   subst hi
   refine ⟨_,_,opTo_value (v:=.pointer (some ⟨b,0,none⟩)) (w':=W1.drew) (by rfl) (by rfl) (by simp [execOp,Act.eval,Act.put,go_sem,c59,x0,x1,x2,x3,x4,x5,x6,x7,x8,x9]),?_⟩
   refine anyTo_next (rs:=[2]) (by kernel_rfl) (by simp) fun i hi => ?_
   simp only [List.mem_cons,List.not_mem_nil,or_false] at hi
   subst hi
   refine ⟨_,_,opTo_value (v:=.pointer (some ⟨b,59,none⟩)) (w':=W1.drew) (by rfl) (by rfl) (by simp [execOp,Act.eval,Act.put,go_sem,c59,x0,x1,x2,x3,x4,x5,x6,x7,x8,x9]),?_⟩
   refine anyTo_next (rs:=[3]) (by kernel_rfl) (by simp) fun i hi => ?_
   simp only [List.mem_cons,List.not_mem_nil,or_false] at hi
   subst hi
   refine ⟨_,_,opTo_value (v:=.chan (some q.cm)) (w':=W1.drew) (by rfl) (by rfl) (by simp [execOp,Act.eval,Act.put,go_sem,c59,x0,x1,x2,x3,x4,x5,x6,x7,x8,x9]),?_⟩
   refine anyTo_next (rs:=[5]) (by kernel_rfl) (by simp) fun i hi => ?_
   simp only [List.mem_cons,List.not_mem_nil,or_false] at hi
   subst hi
   refine ⟨_,_,opTo_send (v:=.agg #[.int .i64 m.kind,.int .i64 m.src,.int .i64 m.dst,.int .i64 m.round,.int .i64 m.state,.int .i64 m.vote.e,.int .i64 m.vote.n,.int .i64 m.vote.p,.int .i64 m.epoch,.int .i64 m.news]) (z:=.tuple #[]) (by rfl) (by rfl) (by decide) (by simp [execOp,scase,Act.eval,Act.put,go_sem]) hc,?_⟩
   exact ⟨by kernel_rfl,rfl,rfl⟩
 ·show WpB _ _ _ _ _ _
  refine wpB_of_wp ?_
  generalize W1.drew.setChan q.cm 1 #[.agg #[.int .i64 m.kind,.int .i64 m.src,.int .i64 m.dst,.int .i64 m.round,.int .i64 m.state,.int .i64 m.vote.e,.int .i64 m.vote.n,.int .i64 m.vote.p,.int .i64 m.epoch,.int .i64 m.news]] false (s + 1) r false = W2 at *
  go_wp2_with fail
  refine (unhide HB).mono ?_
  rintro o w8 ⟨rfl,hd⟩
  have HE:=hide hd
  clear hd HB
  go_wp2
  go_end0
  exact ⟨rfl,unhide HE⟩
end Go.Proofs.YtceappncglfciaaGreat
namespace Go.Proofs.YtceappncglfciaaGreat
open Go.RowKit
attribute [local go_sem ↓] Go.wp_at_zero Go.wp_at_succ
def PTown.is (T:PTown) (i:Int):Bool:=decide (0 ≤ i) && decide (i < T.ps.length)
def PTown.there (T:PTown) (i:Int):Bool:=decide (0 ≤ i) && decide (i < T.way.length)
set_option maxHeartbeats 400000 in
theorem within_any (n x y:Int) (W:World):Calls Tryz.prog 41 #[.int .i64 n,.int .i64 x,.int .i64 y] W fun o w' => o = .returned (.bool (decide (x ≤ n) && decide (n ≤ y))) ∧ w' = W:=by
 by_cases h:x ≤ n
 ·have d:decide (x ≤ n) = true:=by simpa using h
  rw [d]
  clear h
  go_enter Tryz.func41,Tryz.ntmps41
  go_wp2
  go_ret
  exact ⟨by simp,rfl⟩
 ·have d:decide (x ≤ n) = false:=by simpa using h
  rw [d]
  clear h
  go_enter Tryz.func41,Tryz.ntmps41
  go_wp2
  go_ret
  exact ⟨by simp,rfl⟩
set_option maxHeartbeats 400000 in
theorem has_any (i:Int) (W:World) (bt:Nat) (pb bs:List Nat) (T:PTown) (h:PR W bt pb bs T) (hp:T.ps.length ≤ 7) :
  Calls Tryz.prog 46 #[.pointer (some ⟨bt,0,none⟩),.int .i64 i] W fun o w' => o = .returned (.bool (T.is i)) ∧ w' = W:=by
 obtain ⟨bp,capP,way,ev,cur,hb,_⟩:=h.town
 have c0:W.cell? ⟨bt,0,none⟩ = some (.slice (some ⟨bp,0,none⟩) T.ps.length capP):=hb.cell 0
 have HC:=hide (within_any i 0 ((T.ps.length:Int) - 1) W)
 have HE:Hid (T.is i = (decide (0 ≤ i) && decide (i ≤ (T.ps.length:Int) - 1))):=by
  show _ = _
  unfold PTown.is
  congr 1
  exact decide_eq_decide.2 (by omega)
 clear h hb
 go_enter Tryz.func46,Tryz.ntmps46
 go_wp2_with (go_at_call 41;refine (unhide HC).mono ?_;rintro o w2 ⟨rfl,rfl⟩)
 go_ret
 exact ⟨by rw [unhide HE];rfl,rfl⟩
set_option maxHeartbeats 400000 in
theorem onItsWay_any (i:Int) (W:World) (bt:Nat) (pb bs:List Nat) (T:PTown) (h:PR W bt pb bs T) (hn:(T.way.length:Int) ≤ 1000) :
  Calls Tryz.prog 65 #[.pointer (some ⟨bt,0,none⟩),.int .i64 i] W fun o w' => o = .returned (.bool (T.there i)) ∧ w' = W:=by
 obtain ⟨bp,capP,way,ev,hb,hw,he,_⟩:=h.turn
 obtain ⟨a,cap,hv⟩:=row_shape hw
 have c5:W.cell? ⟨bt,5,none⟩ = some way:=hb.cell 5
 rw [hv] at c5
 have HC:=hide (within_any i 0 ((T.way.length:Int) - 1) W)
 have HE:Hid (T.there i = (decide (0 ≤ i) && decide (i ≤ (T.way.length:Int) - 1))):=by
  show _ = _
  unfold PTown.there
  congr 1
  exact decide_eq_decide.2 (by omega)
 clear h hb hw he hv
 go_enter Tryz.func65,Tryz.ntmps65
 go_wp2_with (go_at_call 41;refine (unhide HC).mono ?_;rintro o w2 ⟨rfl,rfl⟩)
 go_ret
 exact ⟨by rw [unhide HE];rfl,rfl⟩
theorem PR.row {W:World} {bt:Nat} {pb bs:List Nat} {T:PTown} (h:PR W bt pb bs T):∃ bp capP,W.cell? ⟨bt,0,none⟩ = some (.slice (some ⟨bp,0,none⟩) T.ps.length capP) ∧ T.ps.length ≤ capP ∧ ∀ i b,pb[i]? = some b → W.cell? ⟨bp,i,none⟩ = some (.pointer (some ⟨b,0,none⟩)):=by
 have hl:=h.len
 obtain ⟨bp,capP,way,ev,cur,hb,hbp,h1,h2,h3,_⟩:=h.town
 refine ⟨bp,capP,hb.cell 0,h1,fun i b hi => ?_⟩
 have hlt:i < T.ps.length:=by rw [← hl];exact (List.getElem?_eq_some_iff.1 hi).1
 have e:(cur.toList.take T.ps.length)[i]? = some (.pointer (some ⟨b,0,none⟩)):=by rw [h3];simp [hi]
 rw [List.getElem?_take,if_pos hlt] at e
 rw [cell_of_row W bp i _ _ (0,0) hbp]
 simpa using e
theorem PR.block {W:World} {bt:Nat} {pb bs:List Nat} {T:PTown} (h:PR W bt pb bs T) {i:Nat} (hi:i < T.ps.length):∃ b,pb[i]? = some b:=⟨pb[i]'(by rw [h.len];exact hi),List.getElem?_eq_getElem _⟩
theorem PTown.is_cases (T:PTown) (i:Int):(T.is i = true ∧ ∃ k:Nat,i = (k:Int) ∧ k < T.ps.length) ∨ T.is i = false:=by
 unfold PTown.is
 by_cases h:0 ≤ i ∧ i < (T.ps.length:Int)
 ·exact .inl ⟨by simp [h.1,h.2],i.toNat,by omega,by omega⟩
 ·exact .inr (by simp;omega)
theorem PTown.there_cases (T:PTown) (i:Int):(T.there i = true ∧ ∃ k:Nat,i = (k:Int) ∧ k < T.way.length) ∨ T.there i = false:=by
 unfold PTown.there
 by_cases h:0 ≤ i ∧ i < (T.way.length:Int)
 ·exact .inl ⟨by simp [h.1,h.2],i.toNat,by omega,by omega⟩
 ·exact .inr (by simp;omega)
def PTown.upE (T:PTown) (i:Int):Int:=if T.is i = true then (if (T.peer i.toNat).up = true then 0 else 2) else 1
set_option maxRecDepth 100000 in
set_option maxHeartbeats 1000000 in
theorem upPeer_none (i:Int) (W:World) (bt:Nat) (pb bs:List Nat) (T:PTown) (h:PR W bt pb bs T) (hp:T.ps.length ≤ 7) (hne:T.upE i ≠ 0) :
  Calls Tryz.prog 45 #[.pointer (some ⟨bt,0,none⟩),.int .i64 i] W fun o w' => o = .returned (.tuple #[.pointer none,.int .i64 (T.upE i)]) ∧ w' = W:=by
 have HC:=hide (has_any i W bt pb bs T h hp)
 rcases T.is_cases i with ⟨h1,k,rfl,hk⟩ | h1
 ·rw [h1] at HC
  have hup:(T.peer k).up = false:=by
   cases hu:(T.peer k).up with
   | false => rfl
   | true => exact absurd (by unfold PTown.upE;rw [if_pos h1,if_pos (by simpa using hu)]) hne
  have HE:Hid (T.upE (k:Int) = 2):=by
   show _ = _
   unfold PTown.upE;rw [if_pos h1,if_neg (by simp [hup])]
  obtain ⟨bp,capP,c0,hcap,hrow⟩:=h.row
  obtain ⟨b,hb⟩:=h.block hk
  have r0:=hrow k b hb
  obtain ⟨q,hat⟩:=h.peerAt hb
  have c58:=hat.f58
  rw [hup] at c58
  clear h hat hrow hne h1 hup
  go_enter Tryz.func45,Tryz.ntmps45
  go_wp2_with (go_at_call 46;refine (unhide HC).mono ?_;rintro o w2 ⟨rfl,rfl⟩)
  refine bodyPost_ret (v:=.tuple #[.pointer none,.int .i64 2]) (by simp [results,Tryz.results45,go_sem]) rfl ?_
  exact ⟨by rw [unhide HE],rfl⟩
 ·rw [h1] at HC
  have HE:Hid (T.upE i = 1):=by
   show _ = _
   unfold PTown.upE;rw [if_neg (by simp [h1])]
  clear h hne h1
  go_enter Tryz.func45,Tryz.ntmps45
  go_wp2_with (go_at_call 46;refine (unhide HC).mono ?_;rintro o w2 ⟨rfl,rfl⟩)
  refine bodyPost_ret (v:=.tuple #[.pointer none,.int .i64 1]) (by simp [results,Tryz.results45,go_sem]) rfl ?_
  exact ⟨by rw [unhide HE],rfl⟩
set_option maxRecDepth 100000 in
set_option maxHeartbeats 1000000 in
theorem upPeer_some (k b:Nat) (W:World) (bt:Nat) (pb bs:List Nat) (T:PTown) (h:PR W bt pb bs T) (hp:T.ps.length ≤ 7) (hb:pb[k]? = some b) (hup:(T.peer k).up = true) :
  Calls Tryz.prog 45 #[.pointer (some ⟨bt,0,none⟩),.int .i64 (k:Int)] W fun o w' => o = .returned (.tuple #[.pointer (some ⟨b,0,none⟩),.int .i64 0]) ∧ w' = W:=by
 have HC:=hide (has_any (k:Int) W bt pb bs T h hp)
 have hk:k < T.ps.length:=(h.at hb).1
 have h1:T.is (k:Int) = true:=by unfold PTown.is;simp [hk]
 rw [h1] at HC
 obtain ⟨bp,capP,c0,hcap,hrow⟩:=h.row
 have r0:=hrow k b hb
 obtain ⟨q,hat⟩:=h.peerAt hb
 have c58:=hat.f58
 rw [hup] at c58
 clear h hat hrow h1 hup
 go_enter Tryz.func45,Tryz.ntmps45
 go_wp2_with (go_at_call 46;refine (unhide HC).mono ?_;rintro o w2 ⟨rfl,rfl⟩)
 refine bodyPost_ret (v:=.tuple #[.pointer (some ⟨b,0,none⟩),.int .i64 0]) (by simp [results,Tryz.results45,go_sem]) rfl ?_
 exact ⟨rfl,rfl⟩
theorem PTown.up_cases (T:PTown) (i:Int):(T.upE i = 0 ∧ ∃ k:Nat,i = (k:Int) ∧ k < T.ps.length ∧ (T.peer k).up = true) ∨ T.upE i ≠ 0:=by
 unfold PTown.upE
 rcases T.is_cases i with ⟨h1,k,rfl,hk⟩ | h1
 ·rw [if_pos h1]
  cases hu:(T.peer k).up with
  | false => exact .inr (by simp [hu])
  | true => exact .inl ⟨by simp [hu],k,rfl,hk,hu⟩
 ·rw [if_neg (by simp [h1])];exact .inr (by simp)
end Go.Proofs.YtceappncglfciaaGreat
namespace Go.Proofs.YtceappncglfciaaGreat
open Go.RowKit
attribute [local go_sem ↓] Go.wp_at_zero Go.wp_at_succ
section
variable (i b:Nat) (nb:Int) (W:World) (bt:Nat) (pb bs:List Nat) (T T':PTown)
set_option maxRecDepth 100000 in
set_option maxHeartbeats 1000000 in
theorem obey0 (h:PR W bt pb bs T) (HA:∀ w bs1,PR w bt pb bs1 T → Calls Tryz.prog 116 #[.pointer (some ⟨b,0,none⟩)] w fun o w' => o = .returned (.tuple #[]) ∧ PDid w bt pb bs1 w' T') :
  Calls Tryz.prog 89 #[.pointer (some ⟨b,0,none⟩),.agg #[.int .i64 0,.int .i64 nb]] W fun o w' => o = .returned (.tuple #[]) ∧ PDid W bt pb bs w' T':=by
 have hX:=(Below.refl W.heap.size W).alloc (Nat.le_refl _) (.cells #[.int .i64 0,.int .i64 nb] 87)
 have HC:=hide ((Links.of_below bs hX).calls0 (HA _ bs (h.below hX)))
 clear h hX HA
 go_enter Tryz.func89,Tryz.ntmps89
 go_wp2_with fail
 refine (unhide HC).mono ?_
 rintro o w8 ⟨rfl,hd⟩
 have HE:=hide hd
 clear hd HC
 go_wp2
 go_end0
 exact ⟨rfl,unhide HE⟩
set_option maxRecDepth 100000 in
set_option maxHeartbeats 1000000 in
theorem obey1 (h:PR W bt pb bs T) (HA:∀ w bs1,PR w bt pb bs1 T → Calls Tryz.prog 86 #[.pointer (some ⟨b,0,none⟩)] w fun o w' => o = .returned (.tuple #[]) ∧ PDid w bt pb bs1 w' T') :
  Calls Tryz.prog 89 #[.pointer (some ⟨b,0,none⟩),.agg #[.int .i64 1,.int .i64 nb]] W fun o w' => o = .returned (.tuple #[]) ∧ PDid W bt pb bs w' T':=by
 have hX:=(Below.refl W.heap.size W).alloc (Nat.le_refl _) (.cells #[.int .i64 1,.int .i64 nb] 87)
 have HC:=hide ((Links.of_below bs hX).calls0 (HA _ bs (h.below hX)))
 clear h hX HA
 go_enter Tryz.func89,Tryz.ntmps89
 go_wp2_with fail
 refine (unhide HC).mono ?_
 rintro o w8 ⟨rfl,hd⟩
 have HE:=hide hd
 clear hd HC
 go_wp2
 go_end0
 exact ⟨rfl,unhide HE⟩
set_option maxRecDepth 100000 in
set_option maxHeartbeats 1000000 in
theorem obey3 (h:PR W bt pb bs T) (HA:∀ w bs1,PR w bt pb bs1 T → Calls Tryz.prog 117 #[.pointer (some ⟨b,0,none⟩)] w fun o w' => o = .returned (.tuple #[]) ∧ PDid w bt pb bs1 w' T') :
  Calls Tryz.prog 89 #[.pointer (some ⟨b,0,none⟩),.agg #[.int .i64 3,.int .i64 nb]] W fun o w' => o = .returned (.tuple #[]) ∧ PDid W bt pb bs w' T':=by
 have hX:=(Below.refl W.heap.size W).alloc (Nat.le_refl _) (.cells #[.int .i64 3,.int .i64 nb] 87)
 have HC:=hide ((Links.of_below bs hX).calls0 (HA _ bs (h.below hX)))
 clear h hX HA
 go_enter Tryz.func89,Tryz.ntmps89
 go_wp2_with fail
 refine (unhide HC).mono ?_
 rintro o w8 ⟨rfl,hd⟩
 have HE:=hide hd
 clear hd HC
 go_wp2
 go_end0
 exact ⟨rfl,unhide HE⟩
set_option maxRecDepth 100000 in
set_option maxHeartbeats 2000000 in
theorem obey2 (h:PR W bt pb bs T) (hb:pb[i]? = some b) :
  Calls Tryz.prog 89 #[.pointer (some ⟨b,0,none⟩),.agg #[.int .i64 2,.int .i64 nb]] W fun o w' => o = .returned (.tuple #[]) ∧ PDid W bt pb bs w' (T.armP i nb):=by
 have hX:=(Below.refl W.heap.size W).alloc (Nat.le_refl _) (.cells #[.int .i64 2,.int .i64 nb] 87)
 have HBX:Hid (Box (W.alloc (.cells #[.int .i64 2,.int .i64 nb] 87)) W.heap.size #[.int .i64 2,.int .i64 nb] 87):=Box.new _ _ _
 have HX:=hide (Links.of_below bs hX)
 have HH:=hide (h.below hX)
 have hbl:b < W.heap.size:=(h.at hb).2.choose_spec.1.box.lt
 have nb1:W.heap.size ≠ b:=by omega
 clear h hX
 go_enter Tryz.func89,Tryz.ntmps89
 go_upto_region 7 with fail
 generalize W.alloc (.cells #[.int .i64 2,.int .i64 nb] 87) = W1 at *
 obtain ⟨_,q,hat,_,_,_,_,C⟩:=(unhide HH).at hb
 have c62:=hat.f62
 have c63:=hat.f63
 have z62:=hat.fz 62
 have z63:=hat.fz 63
 have x0:W1.cell? ⟨W.heap.size,0,none⟩ = some (.int .i64 2):=(unhide HBX).cell 0
 have x1:W1.cell? ⟨W.heap.size,1,none⟩ = some (.int .i64 nb):=(unhide HBX).cell 1
 have HF:=hide ((unhide HX).did (stores_close hat C [(62,.bool true),(63,.int .i64 nb)] q { T.peer i with armed:=true,bytes:=nb } (by simp) rfl))
 simp only [sets] at HF
 clear hat C HBX HH HX
 go_region_with (fail)
 all_goals
  have HE:=hide ((unhide HF).post (Below.refl _ _).drew)
  generalize ((W1.setCell ⟨b,62,none⟩ (.bool true)).setCell ⟨b,63,none⟩ (.int .i64 nb)).drew = w5 at *
  clear HF c62 c63 z62 z63 x0 x1
  go_wp2
  go_end0
  exact ⟨rfl,unhide HE⟩
end
theorem orderUp (i b:Nat) (nb:Int) (W:World) (bt:Nat) (pb bs:List Nat) (T:PTown) (h:PR W bt pb bs T) (hb:pb[i]? = some b) (hp:T.ps.length ≤ 7) (hn:T.net ≤ 1000) (hby:BytesL (T.peer i).disk) (hr:0 ≤ (T.peer i).round ∧ (T.peer i).round ≤ 4611686018427387904) :
  Calls Tryz.prog 40 #[.pointer (some ⟨b,0,none⟩),.agg #[.int .i64 0,.int .i64 nb]] W fun o w' => o = .returned (.tuple #[]) ∧ PDid W bt pb bs w' (T.comeUp i) :=
 porder_any i b 0 nb W bt pb bs T _ h hb fun w bs1 h1 => obey0 b nb w bt pb bs1 T _ h1 fun w2 bs2 h2 => comeUp_any i b w2 bt pb bs2 T h2 hb hp hn hby hr
theorem orderDown (i b:Nat) (nb:Int) (W:World) (bt:Nat) (pb bs:List Nat) (T:PTown) (h:PR W bt pb bs T) (hb:pb[i]? = some b) :
  Calls Tryz.prog 40 #[.pointer (some ⟨b,0,none⟩),.agg #[.int .i64 1,.int .i64 nb]] W fun o w' => o = .returned (.tuple #[]) ∧ PDid W bt pb bs w' (T.goDown i) :=
 porder_any i b 1 nb W bt pb bs T _ h hb fun w bs1 h1 => obey1 b nb w bt pb bs1 T _ h1 fun w2 bs2 h2 => goDown_any i b w2 bt pb bs2 T h2 hb
theorem orderArm (i b:Nat) (nb:Int) (W:World) (bt:Nat) (pb bs:List Nat) (T:PTown) (h:PR W bt pb bs T) (hb:pb[i]? = some b) :
  Calls Tryz.prog 40 #[.pointer (some ⟨b,0,none⟩),.agg #[.int .i64 2,.int .i64 nb]] W fun o w' => o = .returned (.tuple #[]) ∧ PDid W bt pb bs w' (T.armP i nb) :=
 porder_any i b 2 nb W bt pb bs T _ h hb fun w bs1 h1 => obey2 i b nb w bt pb bs1 T h1 hb
theorem orderHear (i b:Nat) (nb:Int) (W:World) (bt:Nat) (pb bs:List Nat) (T:PTown) (h:PR W bt pb bs T) (hb:pb[i]? = some b) (hw:Wr 1 (T.peer i)) (hc:(T.peer i).c.ok) (hv:(T.peer i).c.v < 4294967295) :
  Calls Tryz.prog 40 #[.pointer (some ⟨b,0,none⟩),.agg #[.int .i64 3,.int .i64 nb]] W fun o w' => o = .returned (.tuple #[]) ∧ PDid W bt pb bs w' (T.hearNews i) :=
 porder_any i b 3 nb W bt pb bs T _ h hb fun w bs1 h1 => obey3 b nb w bt pb bs1 T _ h1 fun w2 bs2 h2 => hearNews_any i b w2 bt pb bs2 T h2 hb hw hc hv
end Go.Proofs.YtceappncglfciaaGreat
