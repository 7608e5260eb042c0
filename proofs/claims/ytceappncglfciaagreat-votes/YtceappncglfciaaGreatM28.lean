import Derived.Test.YtceappncglfciaaGreatM27
import Derived.Lib.LazyBuf
import Derived.Test.YtceappncglfciaaGreatM03
set_option linter.unusedVariables false
set_option linter.unusedSimpArgs false
namespace Go.Proofs.YtceappncglfciaaGreat
open Go.RowKit
attribute [local go_sem ↓] Go.wp_at_zero Go.wp_at_succ
theorem msgs_get:∀ (l:List MsgM) (k j:Nat),j < 10 → (l.flatMap MsgM.cells)[k * 10 + j]? = (l[k]?).bind (fun m => m.cells[j]?)
 | [],k,j,_ => by simp
 | m :: r,0,j,hj => by
  rw [List.flatMap_cons,List.getElem?_append_left (by simp [MsgM.cells];omega)]
  simp
 | m :: r,k + 1,j,hj => by
  rw [List.flatMap_cons,List.getElem?_append_right (by simp [MsgM.cells];omega)]
  rw [show (k + 1) * 10 + j - m.cells.length = k * 10 + j from by simp [MsgM.cells];omega,msgs_get r k j hj]
  simp
theorem PR.msgAt {W:World} {bt:Nat} {pb bs:List Nat} {T:PTown} (h:PR W bt pb bs T) {k:Nat} (hk:k < T.way.length):∃ g cap,W.cell? ⟨bt,5,none⟩ = some (.slice (some ⟨g,0,none⟩) T.way.length cap) ∧ ∀ j u,(T.way.getD k msgZ).cells[j]? = some u → W.cell? ⟨g,k * 10 + j,none⟩ = some u:=by
 obtain ⟨bp,capP,way,ev,hb,hw,he,C⟩:=h.turn
 rcases hw.2 with ⟨_,h0⟩ | ⟨g,cap,cur,hv,_,hg,hc,hc2,hs,ht⟩
 ·omega
 have c5:W.cell? ⟨bt,5,none⟩ = some way:=hb.cell 5
 rw [hv] at c5
 refine ⟨g,cap,c5,fun j u hu => ?_⟩
 have hj:j < 10:=(List.getElem?_eq_some_iff.1 hu).1
 have hx:(T.way.flatMap MsgM.cells)[k * 10 + j]? = some u:=by
  rw [msgs_get T.way k j hj]
  have e:T.way[k]? = some (T.way.getD k msgZ):=by simp [hk]
  rw [e];exact hu
 rw [← ht,List.getElem?_take,if_pos (by omega)] at hx
 rw [cell_of_row W g _ cur _ (0,0) hg,← Array.getElem?_toList]
 exact hx
set_option maxRecDepth 100000 in
set_option maxHeartbeats 1000000 in
theorem DropArg (i:Int) (W:World) (bt:Nat) (pb bs:List Nat) (T:PTown) (h:PR W bt pb bs T) (hn:(T.way.length:Int) ≤ 1000) (hi:T.there i = false) :
  Calls Tryz.prog 35 #[.pointer (some ⟨bt,0,none⟩),.int .i64 i] W fun o w' => o = .returned (.int .i64 4) ∧ w' = W:=by
 have HC:=hide (onItsWay_any i W bt pb bs T h hn)
 rw [hi] at HC
 clear h hi
 go_enter Tryz.func35,Tryz.ntmps35
 go_wp2_with (go_at_call 65;refine (unhide HC).mono ?_;rintro o w2 ⟨rfl,rfl⟩)
 go_ret
 exact ⟨rfl,rfl⟩
set_option maxRecDepth 100000 in
set_option maxHeartbeats 1000000 in
theorem DropOk (k:Nat) (W:World) (bt:Nat) (pb bs:List Nat) (T:PTown) (h:PR W bt pb bs T) (hn:(T.way.length:Int) ≤ 1000) (hk:k < T.way.length) :
  Calls Tryz.prog 35 #[.pointer (some ⟨bt,0,none⟩),.int .i64 (k:Int)] W fun o w' => o = .returned (.int .i64 0) ∧ PDid W bt pb bs w' (T.removed k):=by
 have HC:=hide (onItsWay_any (k:Int) W bt pb bs T h hn)
 rw [show T.there (k:Int) = true from by unfold PTown.there;simp [hk]] at HC
 have HO:=hide (remove_any k W bt pb bs T h hk (by omega))
 clear h
 go_enter Tryz.func35,Tryz.ntmps35
 go_wp2_with (go_at_call 65;refine (unhide HC).mono ?_;rintro o w2 ⟨rfl,rfl⟩)
 refine (unhide HO).mono ?_
 rintro o w8 ⟨rfl,hd⟩
 have HE:=hide hd
 clear hd HO
 go_wp2
 go_ret
 exact ⟨rfl,unhide HE⟩
set_option maxRecDepth 100000 in
set_option maxHeartbeats 1000000 in
theorem CopyArg (i:Int) (W:World) (bt:Nat) (pb bs:List Nat) (T:PTown) (h:PR W bt pb bs T) (hn:(T.way.length:Int) ≤ 1000) (hi:T.there i = false) :
  Calls Tryz.prog 36 #[.pointer (some ⟨bt,0,none⟩),.int .i64 i] W fun o w' => o = .returned (.int .i64 4) ∧ w' = W:=by
 have HC:=hide (onItsWay_any i W bt pb bs T h hn)
 rw [hi] at HC
 clear h hi
 go_enter Tryz.func36,Tryz.ntmps36
 go_wp2_with (go_at_call 65;refine (unhide HC).mono ?_;rintro o w2 ⟨rfl,rfl⟩)
 go_ret
 exact ⟨rfl,rfl⟩
set_option maxRecDepth 100000 in
set_option maxHeartbeats 1000000 in
theorem CopyOk (k:Nat) (W:World) (bt:Nat) (pb bs:List Nat) (T:PTown) (h:PR W bt pb bs T) (hn:(T.way.length:Int) ≤ 1000) (hnet:T.net ≤ 1000) (hk:k < T.way.length) :
  Calls Tryz.prog 36 #[.pointer (some ⟨bt,0,none⟩),.int .i64 (k:Int)] W fun o w' => o = .returned (.int .i64 T.layE) ∧ PDid W bt pb bs w' (T.lay (T.way.getD k msgZ)):=by
 have HC:=hide (onItsWay_any (k:Int) W bt pb bs T h hn)
 rw [show T.there (k:Int) = true from by unfold PTown.there;simp [hk]] at HC
 obtain ⟨m,hm⟩:∃ m,m = T.way.getD k msgZ:=⟨_,rfl⟩
 have HO:=hide (lay_any m W bt pb bs T h hnet)
 obtain ⟨g,cap,c5,hcell⟩:=h.msgAt hk
 rw [← hm] at hcell
 have m0:W.cell? ⟨g,k * 10,none⟩ = some (.int .i64 m.kind):=hcell 0 _ rfl
 have m1:W.cell? ⟨g,k * 10 + 1,none⟩ = some (.int .i64 m.src):=hcell 1 _ rfl
 have m2:W.cell? ⟨g,k * 10 + 2,none⟩ = some (.int .i64 m.dst):=hcell 2 _ rfl
 have m3:W.cell? ⟨g,k * 10 + 3,none⟩ = some (.int .i64 m.round):=hcell 3 _ rfl
 have m4:W.cell? ⟨g,k * 10 + 4,none⟩ = some (.int .i64 m.state):=hcell 4 _ rfl
 have m5:W.cell? ⟨g,k * 10 + 5,none⟩ = some (.int .i64 m.vote.e):=hcell 5 _ rfl
 have m6:W.cell? ⟨g,k * 10 + 6,none⟩ = some (.int .i64 m.vote.n):=hcell 6 _ rfl
 have m7:W.cell? ⟨g,k * 10 + 7,none⟩ = some (.int .i64 m.vote.p):=hcell 7 _ rfl
 have m8:W.cell? ⟨g,k * 10 + 8,none⟩ = some (.int .i64 m.epoch):=hcell 8 _ rfl
 have m9:W.cell? ⟨g,k * 10 + 9,none⟩ = some (.int .i64 m.news):=hcell 9 _ rfl
 rw [← hm]
 simp only [MsgM.val] at HO
 clear h hcell hm
 go_enter Tryz.func36,Tryz.ntmps36
 go_wp2_with (go_at_call 65;refine (unhide HC).mono ?_;rintro o w2 ⟨rfl,rfl⟩)
 refine (unhide HO).mono ?_
 rintro o w8 ⟨rfl,hd⟩
 have HE:=hide hd
 clear hd HO
 go_wp2
 go_ret
 exact ⟨rfl,unhide HE⟩
end Go.Proofs.YtceappncglfciaaGreat
namespace Go.Proofs.YtceappncglfciaaGreat
open Go.RowKit
attribute [local go_sem ↓] Go.wp_at_zero Go.wp_at_succ
set_option maxRecDepth 100000 in
set_option maxHeartbeats 1000000 in
theorem DeliverArg (i:Int) (W:World) (bt:Nat) (pb bs:List Nat) (T:PTown) (h:PR W bt pb bs T) (hn:(T.way.length:Int) ≤ 1000) (hi:T.there i = false) :
  Calls Tryz.prog 37 #[.pointer (some ⟨bt,0,none⟩),.int .i64 i] W fun o w' => o = .returned (.int .i64 4) ∧ w' = W:=by
 have HC:=hide (onItsWay_any i W bt pb bs T h hn)
 rw [hi] at HC
 clear h hi
 go_enter Tryz.func37,Tryz.ntmps37
 go_wp2_with (go_at_call 65;refine (unhide HC).mono ?_;rintro o w2 ⟨rfl,rfl⟩)
 go_ret
 exact ⟨rfl,rfl⟩
theorem removed_peer (T:PTown) (k j:Nat):(T.removed k).peer j = T.peer j:=rfl
set_option maxRecDepth 100000 in
set_option maxHeartbeats 2000000 in
theorem DeliverOk (k d:Nat) (W:World) (bt:Nat) (pb bs:List Nat) (T:PTown) (h:PR W bt pb bs T) (hn:(T.way.length:Int) ≤ 1000) (hnet:T.net ≤ 1000) (hp:T.ps.length ≤ 7) (hev:T.events.length ≤ 40000000000) (hk:k < T.way.length) (m:MsgM) (hm:m = T.way.getD k msgZ) (hd:m.dst = (d:Int)) (hdl:d < T.ps.length)
  (hok:(T.peer d).up = true → MindOK T.ps.length (T.peer d) ∧ MsgIn T.ps.length m) :
  Calls Tryz.prog 37 #[.pointer (some ⟨bt,0,none⟩),.int .i64 (k:Int)] W fun o w' => o = .returned (.int .i64 0) ∧ PDid W bt pb bs w' (if (T.peer d).up = true then (T.removed k).get d m else T.removed k):=by
 obtain ⟨T2,hT2⟩:∃ T2,T2 = (if (T.peer d).up = true then (T.removed k).get d m else T.removed k):=⟨_,rfl⟩
 rw [← hT2]
 have HT2:=hide hT2
 clear hT2
 have HC:=hide (onItsWay_any (k:Int) W bt pb bs T h hn)
 rw [show T.there (k:Int) = true from by unfold PTown.there;simp [hk]] at HC
 obtain ⟨g,cap,c5,hcell⟩:=h.msgAt hk
 rw [← hm] at hcell
 have m0:W.cell? ⟨g,k * 10,none⟩ = some (.int .i64 m.kind):=hcell 0 _ rfl
 have m1:W.cell? ⟨g,k * 10 + 1,none⟩ = some (.int .i64 m.src):=hcell 1 _ rfl
 have m2:W.cell? ⟨g,k * 10 + 2,none⟩ = some (.int .i64 m.dst):=hcell 2 _ rfl
 have m3:W.cell? ⟨g,k * 10 + 3,none⟩ = some (.int .i64 m.round):=hcell 3 _ rfl
 have m4:W.cell? ⟨g,k * 10 + 4,none⟩ = some (.int .i64 m.state):=hcell 4 _ rfl
 have m5:W.cell? ⟨g,k * 10 + 5,none⟩ = some (.int .i64 m.vote.e):=hcell 5 _ rfl
 have m6:W.cell? ⟨g,k * 10 + 6,none⟩ = some (.int .i64 m.vote.n):=hcell 6 _ rfl
 have m7:W.cell? ⟨g,k * 10 + 7,none⟩ = some (.int .i64 m.vote.p):=hcell 7 _ rfl
 have m8:W.cell? ⟨g,k * 10 + 8,none⟩ = some (.int .i64 m.epoch):=hcell 8 _ rfl
 have m9:W.cell? ⟨g,k * 10 + 9,none⟩ = some (.int .i64 m.news):=hcell 9 _ rfl
 have hX:=(Below.refl W.heap.size W).alloc (Nat.le_refl _) (.cells m.cells.toArray 133)
 have HM:=hide (MBox.new W m)
 have HR:=hide (remove_any k (W.alloc (.cells m.cells.toArray 133)) bt pb bs T (h.below hX) hk (by omega))
 have HX:=hide (Links.of_below bs hX)
 have HN:=hide h.new_notin
 have HD:=hide hd
 have hsz:W.heap.size < (W.alloc (.cells m.cells.toArray 133)).heap.size:=by simp
 clear h hcell hm hX hd
 simp only [MsgM.cells] at HM HR HX hsz
 go_enter Tryz.func37,Tryz.ntmps37
 go_upto_region 4 with (go_at_call 65;refine (unhide HC).mono ?_;rintro o W ⟨rfl,rfl⟩)
 generalize W.alloc (.cells #[.int .i64 m.kind,.int .i64 m.src,.int .i64 m.dst,.int .i64 m.round,.int .i64 m.state,.int .i64 m.vote.e,.int .i64 m.vote.n,.int .i64 m.vote.p,.int .i64 m.epoch,.int .i64 m.news] 133) = W1 at *
 clear m0 m1 m2 m3 m4 m5 m6 m7 m8 m9 c5 HC
 go_upto_region 5 with (go_at_call 66;refine (unhide HR).mono ?_;rintro o w3 ⟨rfl,hd3⟩)
 obtain ⟨bs3,h3,k3⟩:=hd3.open
 have hM3:MBox w3 W.heap.size m:=(show MBox W1 W.heap.size m from unhide HM).links k3 (unhide HN)
 have x0:=hM3.m0
 have x1:=hM3.m1
 have x2:=hM3.m2
 have x3:=hM3.m3
 have x4:=hM3.m4
 have x5:=hM3.m5
 have x6:=hM3.m6
 have x7:=hM3.m7
 have x8:=hM3.m8
 have x9:=hM3.m9
 have HX3:=hide ((unhide HX).trans k3)
 obtain ⟨bp,capP,c0,hcap,hrow⟩:=h3.row
 have hl3:(T.removed k).ps.length = T.ps.length:=rfl
 obtain ⟨b,hb⟩:=h3.block (i:=d) (by omega)
 have r0:w3.cell? ⟨bp,m.dst.toNat,none⟩ = some (.pointer (some ⟨b,0,none⟩)):=by rw [unhide HD];exact hrow d b hb
 rw [hl3] at c0 hcap
 have hlo:0 ≤ m.dst:=by rw [unhide HD];omega
 have hhi:m.dst < (T.ps.length:Int):=by rw [unhide HD];omega
 obtain ⟨q,hat⟩:=h3.peerAt hb
 have c58:=hat.f58
 rw [removed_peer] at c58
 have HH3:=hide h3
 clear hd3 k3 hM3 HX HR HM HN hsz hrow hat h3 hl3
 go_upto_region 6 with fail
 go_quiet (fail)
 have hB4:=below_drewN (Below.refl w3.heap.size w3) nq
 have h4:=(unhide HH3).below hB4
 have HX4:=hide ((unhide HX3).below hB4)
 by_cases hup:(T.peer d).up = true
 ·rw [hup] at c58
  obtain ⟨hmo,hmi⟩:=hok hup
  have HA:=hide ((unhide HX4).calls (pdeliver_any d b m (w3.drewN nq) bt pb bs3 (T.removed k) ((T.removed k).get d m) h4 hb (fun w5 bs5 h5 => get_any d b m w5 bt pb bs5 (T.removed k) h5 hb hp hnet hev hmo hmi)) ((unhide HT2).trans (if_pos hup)))
  clear HH3 HX3 HX4 h4 hB4 hok hmo hmi HT2 hup
  go_wp2_with fail
  refine (unhide HA).mono ?_
  rintro o w8 ⟨rfl,hd8⟩
  have HE:=hide hd8
  clear hd8 HA
  go_wp2
  go_ret
  exact ⟨rfl,unhide HE⟩
 ·have hup':(T.peer d).up = false:=by simpa using hup
  rw [hup'] at c58
  have HE:=hide ((unhide HX4).did (PDid.rfl' h4))
  have HT:Hid (T2 = T.removed k):=(unhide HT2).trans (if_neg hup)
  clear HH3 HX3 HX4 h4 hB4 hok hup hup' HT2
  go_wp2
  go_ret
  exact ⟨rfl,by rw [unhide HT];exact unhide HE⟩
end Go.Proofs.YtceappncglfciaaGreat
namespace Go.Proofs.YtceappncglfciaaGreat
open Go.RowKit
attribute [local go_sem ↓] Go.wp_at_zero Go.wp_at_succ
section
variable {P:Program} {ops:Array Oper} {rest:List Oper} {o:Oper} {a:Act} {w w':World} {Q:Exit → Act → World → Prop}
theorem wpList_append_run (hg:o.guard = none) (s x:Operand) (t:TypeId) (hop:o.op = Op.call { callee:=Callee.builtin Builtin.append,args:=#[s,x],argTypes:=#[t,t] }) (v1 v2 r:Value) (hs:a.eval s = v1) (hx:a.eval x = v2)
  (hrun:(Builtin.append_ #[t,t] o.type #[v1,v2]).run P w = .ok r w') (hK:wpList P ops Q rest (a.put o.dst r) w'):wpList P ops Q (o :: rest) a w:=by
 refine wpList_plain hg fun K hK' => ?_
 unfold Oper.wp
 simp [execOp,hop,resolve,invoke,builtin,hs,hx,hrun,Result.andThen]
 exact hK' _ _ hK
end
theorem ownsRow_slice {w:World} {base:Nat} {e:TypeId} {size n:Nat} {v:Value} {xs:List Value} (h:w.ownsRow base e size v n xs):∃ a cap,v = .slice a n cap:=by
 rcases h.2 with ⟨rfl,rfl⟩ | ⟨g,cap,cur,rfl,_⟩
 ·exact ⟨_,_,rfl⟩
 ·exact ⟨_,_,rfl⟩
def Cloned (W:World) (e:TypeId) (size n:Nat) (xs:List Value) (o:Ending) (w':World):Prop:=∃ v,o = .returned v ∧ w'.ownsRow W.heap.size e size v n xs ∧ Below W.heap.size W w'
set_option maxRecDepth 100000 in
set_option maxHeartbeats 1000000 in
theorem cloneMsgs (W:World) (v:Value) (l:List MsgM) (hw:W.ownsRow 0 133 10 v l.length (l.flatMap MsgM.cells)) (hn:l.length ≤ 1000) :
  Calls Tryz.prog 64 #[v] W (Cloned W 133 10 l.length (l.flatMap MsgM.cells)):=by
 unfold Cloned
 rcases hw.2 with ⟨rfl,h0⟩ | ⟨g,cap,cur,rfl,_,hg,hc,hc2,hs,ht⟩
 ·have hl:l = []:=List.length_eq_zero_iff.1 h0
  subst hl
  have hnil:(binOp .eql 75 (.slice none 0 0) (.slice none 0 0)).run Tryz.prog W = .ok (.bool true) W:=Lib.run_eql_slice_nil _ _ _ _ _ _ _ _ Tryz.underlying75
  clear hw
  go_enter Tryz.func64,Tryz.ntmps64
  go_wp2
  go_ret
  exact ⟨_,rfl,World.ownsRow_nil _ _ _ _,Below.refl _ _⟩
 ·obtain ⟨i0,hi,hz0,hz1,hz2⟩:=info_parts Tryz.infoMsg
  have hX:=(Below.refl W.heap.size W).alloc (Nat.le_refl _) (.cells #[] 133)
  have hcl:∀ j u,(l.flatMap MsgM.cells)[j]? = some u → (W.alloc (.cells #[] 133)).cell? ((⟨g,0,none⟩:Addr).add j) = some u:=(hw.alloc _).cells rfl
  obtain ⟨v',w',hr,h2,h3,_,h5⟩:=run_append_own_at (P:=Tryz.prog) (W.alloc (.cells #[] 133)) W.heap.size 75 75 133 i0 _ 10 80 Tryz.underlying75 hi hz0 hz1 hz2 rfl (by omega) (.slice (some ⟨W.heap.size,0,none⟩) 0 0) 0 [] (World.ownsRow_made W #[] 0 (Nat.le_refl _) (Nat.zero_le _) rfl) ⟨g,0,none⟩ l.length cap (l.flatMap MsgM.cells) (len_msgs l) hcl (one_msgs l) (by unfold maxLen;omega) (by omega) (by simp)
  rw [Nat.zero_add,List.nil_append] at h2
  have hB:Below W.heap.size W w':=⟨h3.os.trans hX.os,h3.tape.trans hX.tape,h3.output.trans hX.output,Nat.le_trans hX.size h3.size,fun j hj => (h3.block j (Nat.lt_of_lt_of_le hj hX.size) (by simp [Value.ownBlock];omega)).trans (hX.block j hj)⟩
  have HR:=hide hr
  have HF:=hide (And.intro h2 hB)
  have hnil:(binOp .eql 75 (.slice (some ⟨g,0,none⟩) l.length cap) (.slice none 0 0)).run Tryz.prog W = .ok (.bool false) W:=Lib.run_eql_slice_nil _ _ _ _ _ _ _ _ Tryz.underlying75
  clear hw hcl hX hr h2 h3 h5 hB hg hs ht
  go_enter Tryz.func64,Tryz.ntmps64
  go_wp2_with (at_builtin;refine wpList_append_run (by rfl) _ _ _ (by rfl) _ _ _ (by rfl) (by rfl) (unhide HR) ?_)
  go_ret
  exact ⟨_,rfl,unhide HF⟩
theorem len_evs:∀ l:List (Int × Int),(evCells l).length = l.length * 2
 | [] => rfl
 | x :: r => by
  have:=len_evs r
  simp [evCells] at this ⊢
  omega
theorem one_evs (l:List (Int × Int)):∀ u ∈ evCells l,u.oneCell' = true:=by
 intro u hu
 unfold evCells at hu
 obtain ⟨m,_,hm⟩:=List.mem_flatMap.1 hu
 simp only [List.mem_cons,List.not_mem_nil,or_false] at hm
 rcases hm with rfl | rfl <;> rfl
set_option maxRecDepth 100000 in
set_option maxHeartbeats 1000000 in
theorem cloneEvents (W:World) (v:Value) (l:List (Int × Int)) (hw:W.ownsRow 0 49 2 v l.length (evCells l)) (hn:l.length ≤ 40000000000) :
  Calls Tryz.prog 44 #[v] W (Cloned W 49 2 l.length (evCells l)):=by
 unfold Cloned
 rcases hw.2 with ⟨rfl,h0⟩ | ⟨g,cap,cur,rfl,_,hg,hc,hc2,hs,ht⟩
 ·have hl:l = []:=List.length_eq_zero_iff.1 h0
  subst hl
  have hnil:(binOp .eql 46 (.slice none 0 0) (.slice none 0 0)).run Tryz.prog W = .ok (.bool true) W:=Lib.run_eql_slice_nil _ _ _ _ _ _ _ _ Tryz.underlying46
  clear hw
  go_enter Tryz.func44,Tryz.ntmps44
  go_wp2
  go_ret
  exact ⟨_,rfl,World.ownsRow_nil _ _ _ _,Below.refl _ _⟩
 ·obtain ⟨i0,hi,hz0,hz1,hz2⟩:=info_parts Tryz.infoEvent
  have hX:=(Below.refl W.heap.size W).alloc (Nat.le_refl _) (.cells #[] 49)
  have hcl:∀ j u,(evCells l)[j]? = some u → (W.alloc (.cells #[] 49)).cell? ((⟨g,0,none⟩:Addr).add j) = some u:=(hw.alloc _).cells rfl
  obtain ⟨v',w',hr,h2,h3,_,h5⟩:=run_append_own_at (P:=Tryz.prog) (W.alloc (.cells #[] 49)) W.heap.size 46 46 49 i0 _ 2 16 Tryz.underlying46 hi hz0 hz1 hz2 rfl (by omega) (.slice (some ⟨W.heap.size,0,none⟩) 0 0) 0 [] (World.ownsRow_made W #[] 0 (Nat.le_refl _) (Nat.zero_le _) rfl) ⟨g,0,none⟩ l.length cap (evCells l) (len_evs l) hcl (one_evs l) (by unfold maxLen;omega) (by omega) (by simp)
  rw [Nat.zero_add,List.nil_append] at h2
  have hB:Below W.heap.size W w':=⟨h3.os.trans hX.os,h3.tape.trans hX.tape,h3.output.trans hX.output,Nat.le_trans hX.size h3.size,fun j hj => (h3.block j (Nat.lt_of_lt_of_le hj hX.size) (by simp [Value.ownBlock];omega)).trans (hX.block j hj)⟩
  have HR:=hide hr
  have HF:=hide (And.intro h2 hB)
  have hnil:(binOp .eql 46 (.slice (some ⟨g,0,none⟩) l.length cap) (.slice none 0 0)).run Tryz.prog W = .ok (.bool false) W:=Lib.run_eql_slice_nil _ _ _ _ _ _ _ _ Tryz.underlying46
  clear hw hcl hX hr h2 h3 h5 hB hg hs ht
  go_enter Tryz.func44,Tryz.ntmps44
  go_wp2_with (at_builtin;refine wpList_append_run (by rfl) _ _ _ (by rfl) _ _ _ (by rfl) (by rfl) (unhide HR) ?_)
  go_ret
  exact ⟨_,rfl,unhide HF⟩
set_option maxRecDepth 100000 in
set_option maxHeartbeats 1000000 in
theorem Messages_any (W:World) (bt:Nat) (pb bs:List Nat) (T:PTown) (h:PR W bt pb bs T) (hn:T.way.length ≤ 1000) :
  Calls Tryz.prog 32 #[.pointer (some ⟨bt,0,none⟩)] W (Cloned W 133 10 T.way.length (T.way.flatMap MsgM.cells)):=by
 obtain ⟨bp,capP,way,ev,hb,hw,he,_⟩:=h.turn
 have c5:W.cell? ⟨bt,5,none⟩ = some way:=hb.cell 5
 have HC:=hide (cloneMsgs W way T.way hw hn)
 unfold Cloned at *
 clear h hb hw he
 go_enter Tryz.func32,Tryz.ntmps32
 go_wp2_with (go_at_call 64;refine (unhide HC).mono ?_;rintro o w2 ⟨v,rfl,hf⟩;have HF:=hide hf;clear hf)
 go_ret
 exact ⟨_,rfl,unhide HF⟩
set_option maxRecDepth 100000 in
set_option maxHeartbeats 1000000 in
theorem Events_any (W:World) (bt:Nat) (pb bs:List Nat) (T:PTown) (h:PR W bt pb bs T) (hn:T.events.length ≤ 40000000000) :
  Calls Tryz.prog 19 #[.pointer (some ⟨bt,0,none⟩)] W (Cloned W 49 2 T.events.length (evCells T.events)):=by
 obtain ⟨bp,capP,way,ev,hb,hw,he,_⟩:=h.turn
 have c5:W.cell? ⟨bt,6,none⟩ = some ev:=hb.cell 6
 have HC:=hide (cloneEvents W ev T.events he hn)
 unfold Cloned at *
 clear h hb hw he
 go_enter Tryz.func19,Tryz.ntmps19
 go_wp2_with (go_at_call 44;refine (unhide HC).mono ?_;rintro o w2 ⟨v,rfl,hf⟩;have HF:=hide hf;clear hf)
 go_ret
 exact ⟨_,rfl,unhide HF⟩
end Go.Proofs.YtceappncglfciaaGreat
namespace Go.Proofs.YtceappncglfciaaGreat
open Go.RowKit Go.Shelf
attribute [local go_sem] Oper.semAt_some
structure TickOK (T:PTown):Prop where
 hp:T.ps.length ≤ 7
 hn:T.net ≤ 1000
 hev:T.events.length ≤ 40000000000
 hnow:TimeOK T.now
 hle:4 ≤ T.lease ∧ T.lease ≤ 100
 hm:∀ i,i < T.ps.length → (T.peer i).up = true → MindOK T.ps.length (T.peer i)
theorem PR.rowAt {W:World} {bt:Nat} {pb bs:List Nat} {T:PTown} (h:PR W bt pb bs T):T.ps.length ≤ T.rowC ∧ ∀ i b,pb[i]? = some b → W.cell? ⟨T.rowB,i,none⟩ = some (.pointer (some ⟨b,0,none⟩)):=by
 obtain ⟨bp,capP,c0,hc,hr⟩:=h.row
 have e:=c0.symm.trans h.row0
 simp only [Option.some.injEq,Value.slice.injEq,Addr.mk.injEq,true_and,and_true] at e
 obtain ⟨e1,e2⟩:=e
 rw [← e1,← e2]
 exact ⟨hc,hr⟩
section
variable {W:World} {bt:Nat} {pb bs:List Nat} {T T':PTown} {l:Nat}
theorem PDid.around {o o':Obj} {w3:World} (hl:W.heap[l]? = some o) (hn:l ∉ bs) (h:PDid (W.putObj l o') bt pb bs w3 T'):PDid W bt pb bs (w3.putObj l o) T':=by
 have hlt:l < W.heap.size:=(Array.getElem?_eq_some_iff.1 hl).1
 obtain ⟨b2,hr,hk,hb⟩:=h
 have hn2:l ∉ b2:=fun hm => (hb l hm).elim hn (fun e => by rw [World.putObj_size] at e;omega)
 refine ⟨b2,hr.keep (fun k hk2 => World.putObj_heap_other (fun e => hn2 (e ▸ hk2))),⟨hk.os,hk.tape,hk.output,?_,fun k hk1 hk2 => ?_⟩,fun x hx => (hb x hx).imp id (fun e => by rwa [World.putObj_size] at e)⟩
 ·have:=hk.size
  rw [World.putObj_size] at this ⊢
  exact this
 ·by_cases e:k = l
  ·subst e
   rw [World.putObj_heap_same (by have:=hk.size;rw [World.putObj_size] at this;omega)]
   exact hl.symm
  ·rw [World.putObj_heap_other e,hk.block k (by rw [World.putObj_size];exact hk1) hk2,World.putObj_heap_other e]
end
theorem tick_round {assign body:Code} {ps:Array Tmp} {tm:Array Value} {fn:FuncId} {D m l:Nat} {W:World} {bt:Nat} {pb bs:List Nat} {T:PTown} {i b:Nat} (hps:ps.size = 1) (h:PR W bt pb bs T) (hb:pb[i]? = some b) (ok:TickOK T) (hup:(T.peer i).up = true)
  (hl:W.heap[l]? = some (.loop { state:=.ready,pending:=none,fn,tmps:=tm,params:=ps,assign,body,defers:=D })) (hn:l ∉ bs) (a₁:Nat → Act)
  (hassign:∀ (l:Nat) (W:World) (K:Act → World → Prop),K (a₁ b) W → assign.wpIn (Fence.wide.inRound l) m Tryz.prog (Exit.then K (fun _ _ _ => False)) { tmps:=(ps.zip #[.pointer (some ⟨b,0,none⟩)]).foldl (fun t (p,v) => t.setIfInBounds p v) tm,defers:=[] } W)
  (hbody:∀ (l:Nat) (W:World) (R:World → Prop),Calls Tryz.prog 43 #[.pointer (some ⟨b,0,none⟩)] W (fun o w' => o = .returned (.tuple #[]) ∧ R w') → body.wpIn (Fence.wide.inRound l) m Tryz.prog (fun e _ w' => e = .normal ∧ R w') (a₁ b) W) :
  YieldAt Fence.wide m Tryz.prog l #[.pointer (some ⟨b,0,none⟩)] W fun e W' => e = .returned (.bool true) ∧ PDid W bt pb bs W' (T.timeGoes i):=by
 have hi:i < T.ps.length:=(h.at hb).1
 have hlt:l < W.heap.size:=(Array.getElem?_eq_some_iff.1 hl).1
 refine ⟨fn,_,assign,body,run_yield hl (by simp [hps]),roundIn_of_wpIn trivial (hassign l W _ ⟨_,run_beginRound hl rfl,?_⟩)⟩
 have h2:PR (W.putObj l (.loop { state:=.busy,pending:=none,fn,tmps:=tm,params:=ps,assign,body,defers:=D })) bt pb bs T:=h.keep (fun k hk => World.putObj_heap_other (fun e => hn (e ▸ hk)))
 have ht:=ptick_any i b _ bt pb bs T (T.timeGoes i) h2 hb (fun w bs1 h1 => timeGoes_any i b w bt pb bs1 T h1 hb ok.hp ok.hn ok.hev ok.hnow ok.hle (ok.hm i hi hup))
 refine wpIn_mono (hbody l _ _ ht) ?_
 rintro e a w3 ⟨rfl,hd⟩
 have hl3:w3.heap[l]? = some (.loop { state:=.busy,pending:=none,fn,tmps:=tm,params:=ps,assign,body,defers:=D }):=by
  obtain ⟨b2,_,hk,_⟩:=hd
  rw [hk.block l (by rw [World.putObj_size];exact hlt) hn,World.putObj_heap_same hlt]
 exact ⟨_,_,run_endRound none hl3,rfl,hd.around hl hn⟩
set_option maxRecDepth 100000 in
set_option maxHeartbeats 2000000 in
theorem up1_in (m l Bt:Nat) (hm1:1 ≤ m) (W:World) (bt:Nat) (pb bs:List Nat) (T:PTown) (h:PR W bt pb bs T) (hB:W.cell? ⟨Bt,0,none⟩ = some (.pointer (some ⟨bt,0,none⟩))) (hp:T.ps.length ≤ 7)
  (hY:∀ k b W' bs',k < T.ps.length → pb[k]? = some b → PR W' bt pb bs' (T.ticksTo k) → Links W bs W' bs' → ((T.ticksTo k).peer k).up = true → YieldAt Fence.wide (m - 1) Tryz.prog l #[.pointer (some ⟨b,0,none⟩)] W' fun e W'' => e = .returned (.bool true) ∧ PDid W' bt pb bs' W'' ((T.ticksTo k).timeGoes k)) :
  CallsIn Fence.wide m Tryz.prog 72 #[.func (.yield l) #[] #[],.pointer (some ⟨Bt,0,none⟩)] W fun e W' => (∃ v,e = .returned v) ∧ PDid W bt pb bs W' (T.ticksTo T.ps.length):=by
 have c0:=h.row0
 have hcap:=h.rowAt.1
 have HY:=hide hY
 have HH:=hide h
 have hlenT:pb.length = T.ps.length:=h.len
 clear hY h
 refine callsIn_of_wp Tryz.func72 rfl trivial ?_ rfl
 simp only [Tryz.ntmps72,List.size_toArray,List.length_cons,List.length_nil,Nat.reduceAdd,Nat.reduceSub,Array.replicate_succ,Array.replicate_zero,List.push_toArray,List.append_toArray,List.nil_append,List.cons_append]
 gi_wp2
 gi_loopw [10] (fun c wr => ∃ (k:Nat) (bs':List Nat),k ≤ T.ps.length ∧ c = .int .i64 (k:Int) ∧ PR wr bt pb bs' (T.ticksTo k) ∧ Links W bs wr bs') (fun c _ => T.ps.length - (RowKit.intOf c).toNat)
 case atStart => exact ⟨0,bs,Nat.zero_le _,rfl,unhide HH,Links.refl _ _⟩
 case round =>
  obtain ⟨k,bs',hk,rfl,hr,hlk⟩:=hrel
  by_cases hkn:k = T.ps.length
  ·subst hkn
   have HE:=hide (hlk.did (PDid.rfl' hr))
   clear hr hlk
   gi_wp2
   go_end0
   exact ⟨⟨_,rfl⟩,unhide HE⟩
  ·have hkl:k < T.ps.length:=by omega
   obtain ⟨b,hb⟩:∃ b,pb[k]? = some b:=⟨pb[k]'(by omega),List.getElem?_eq_getElem _⟩
   have r0:wr.cell? ⟨T.rowB,k,none⟩ = some (.pointer (some ⟨b,0,none⟩)):=by rw [← (Fr.ticksTo (T:=T) k).rowB];exact hr.rowAt.2 k b hb
   obtain ⟨q,hat⟩:=hr.peerAt hb
   have c58:=hat.f58
   have HK:=hide hlk
   have HR:=hide hr
   clear hat hkn hlk hr
   cases hup:((T.ticksTo k).peer k).up with
   | true =>
    rw [hup] at c58
    have HT:Hid (T.ticksTo (k + 1) = (T.ticksTo k).timeGoes k):=by
     show _ = _
     rw [PTown.ticksTo,PTown.tickAt,if_pos hup]
    obtain ⟨fn,tmps,assign,body,hy,hR⟩:=(unhide HY) k b wr bs' hkl hb (unhide HR) (unhide HK) hup
    have HRR:=hide hR
    clear hR hup
    gi_wp2
    refine (unhide HRR).mono ?_
    rintro e W3 ⟨rfl,hd⟩
    obtain ⟨bs3,h3,k3⟩:=hd.open
    rw [← unhide HT] at h3
    have HF:=hide (And.intro h3 ((unhide HK).trans k3))
    clear hd h3 k3 HRR HT
    gi_wp2
    go_roundw
    case rel => exact ⟨k + 1,bs3,hkl,by simp,(unhide HF).1,(unhide HF).2⟩
    case measure => simp [RowKit.intOf];omega
   | false =>
    rw [hup] at c58
    have HT:Hid (T.ticksTo (k + 1) = T.ticksTo k):=by
     show _ = _
     rw [PTown.ticksTo,PTown.tickAt,if_neg (by simp [hup])]
    clear hup
    gi_wp2
    refine ⟨fun _ h => (by cases h),?_⟩
    gi_wp2
    go_roundw
    case rel => exact ⟨k + 1,bs',hkl,by simp,by rw [unhide HT];exact unhide HR,unhide HK⟩
    case measure => simp [RowKit.intOf];omega
end Go.Proofs.YtceappncglfciaaGreat
namespace Go.Proofs.YtceappncglfciaaGreat
open Go.RowKit Go.Shelf
attribute [local go_sem] Oper.semAt_some
theorem Links.keepBlock {W w:World} {bs bs1:List Nat} (h:Links W bs w bs1) {k:Nat} (hk:k < W.heap.size) (hn:k ∉ bs):w.heap[k]? = W.heap[k]?:=h.1.block k hk hn
theorem Links.out {W w:World} {bs bs1:List Nat} (h:Links W bs w bs1) {k:Nat} (hk:k < W.heap.size) (hn:k ∉ bs):k ∉ bs1:=fun hm => (h.2 k hm).elim hn (fun e => by omega)
theorem range_ticks {g:Operand} {ps:Array Tmp} {assign body:Code} {Q:Exit → Act → World → Prop} {a:Act} {w:World} {n Bt bt:Nat} {pb bs:List Nat} {T:PTown} (hn4:4 ≤ n)
  (hg:a.eval g = .func (.func 72) #[] #[.pointer (some ⟨Bt,0,none⟩)]) (hps:ps.size = 1) (h:PR w bt pb bs T) (hB:w.cell? ⟨Bt,0,none⟩ = some (.pointer (some ⟨bt,0,none⟩))) (h1p:1 ≤ T.ps.length) (hok:∀ k,k < T.ps.length → TickOK (T.ticksTo k)) (a₁:Nat → Act)
  (hassign:∀ (b l:Nat) (W:World) (K:Act → World → Prop),K (a₁ b) W → assign.wpIn (Fence.wide.inRound l) (n - 1 - 1) Tryz.prog (Exit.then K (fun _ _ _ => False)) { tmps:=(ps.zip #[.pointer (some ⟨b,0,none⟩)]).foldl (fun t (p,v) => t.setIfInBounds p v) a.tmps,defers:=[] } W)
  (hbody:∀ (b l:Nat) (W:World) (R:World → Prop),Calls Tryz.prog 43 #[.pointer (some ⟨b,0,none⟩)] W (fun o w' => o = .returned (.tuple #[]) ∧ R w') → body.wpIn (Fence.wide.inRound l) (n - 1 - 1) Tryz.prog (fun e _ w' => e = .normal ∧ R w') (a₁ b) W)
  (hdone:∀ (W':World) (bs':List Nat),PR W' bt pb bs' (T.ticksTo T.ps.length) → Links w bs W' bs' → w.heap.size ∉ bs' → W'.heap[w.heap.size]? = some (.deferred (some [])) → Q .normal { a with defers:={ target:=.collected w.heap.size,args:=#[] } :: a.defers } W') :
  (Code.rangeFunc g ps assign body).wpIn Fence.wide n Tryz.prog Q a w:=by
 refine wpIn_rangeFunc fun fn _ => ?_
 obtain ⟨rec,hrec⟩:∃ rec:Loop,rec = { state:=.ready,pending:=none,fn,tmps:=a.tmps,params:=ps,assign,body,defers:=w.heap.size }:=⟨_,rfl⟩
 obtain ⟨W1,hW1⟩:∃ W1,(w.alloc (.deferred (some []))).alloc (.loop rec) = W1:=⟨_,rfl⟩
 have hb1:Below w.heap.size w W1:=by rw [← hW1];exact ((Below.refl _ w).alloc (Nat.le_refl _) _).alloc (by simp) _
 have hs1:W1.heap.size = w.heap.size + 2:=by rw [← hW1];simp
 have hl1:W1.heap[w.heap.size + 1]? = some (.loop rec):=by
  rw [← hW1]
  have:=World.alloc_heap_new (w.alloc (.deferred (some []))) (.loop rec)
  rwa [World.size_alloc] at this
 have hd1:W1.heap[w.heap.size]? = some (.deferred (some [])):=by
  rw [← hW1];exact (Below.heap_alloc _ _ _ (by simp)).trans (World.alloc_heap_new w _)
 have h1:=h.below hb1
 have hlt:=h.lt
 have hnl:w.heap.size + 1 ∉ bs:=fun hm => by have:=hlt _ hm;omega
 have hnd:w.heap.size ∉ bs:=fun hm => by have:=hlt _ hm;omega
 have hBl:Bt < w.heap.size:=World.block_lt_of_cell? w ⟨Bt,0,none⟩ hB
 have hBc:W1.cell? ⟨Bt,0,none⟩ = some (.pointer (some ⟨bt,0,none⟩)):=(World.cell?_of_block (a:=⟨Bt,0,none⟩) (hb1.block Bt hBl)).trans hB
 refine ⟨w.heap.size + 1,[{ target:=.collected w.heap.size,args:=#[] }],W1,{ target:=.fn (.func 72) #[.pointer (some ⟨Bt,0,none⟩)],args:=#[.func (.yield (w.heap.size + 1)) #[] #[]] },W1,72,
  #[.func (.yield (w.heap.size + 1)) #[] #[],.pointer (some ⟨Bt,0,none⟩)],W1,?_,?_,?_,?_,fun _ => by omega,?_⟩
 ·rw [← hW1,hrec];exact run_enterLoop_outer _ _ _ _ _
 ·simp only [resolve,hg]
  simp [go_sem]
 ·intro f' _;trivial
 ·have eg:=enters_of Tryz.func72 (by kernel_rfl) rfl
  simp [invoke,go_sem,eg]
 ·refine (up1_in (n - 1) (w.heap.size + 1) Bt (by omega) W1 bt pb bs T h1 hBc (hok 0 h1p).hp ?_).mono ?_
  ·intro k b W' bs' hk hb hr hlk hup
   have hl':W'.heap[w.heap.size + 1]? = some (.loop rec):=(hlk.keepBlock (by omega) hnl).trans hl1
   rw [hrec] at hl'
   exact tick_round hps hr hb (hok k (by omega)) hup hl' (hlk.out (by omega) hnl) a₁ (hassign b) (hbody b)
  ·rintro e W2 ⟨⟨v,rfl⟩,hd⟩
   obtain ⟨bs2,h2,k2⟩:=hd.open
   have hl2:W2.heap[w.heap.size + 1]? = some (.loop rec):=(k2.keepBlock (by omega) hnl).trans hl1
   have hn2:=k2.out (k:=w.heap.size + 1) (by omega) hnl
   have hnd2:=k2.out (k:=w.heap.size) (by omega) hnd
   have hsz2:=k2.1.size
   refine ⟨none,_,by have:=run_endLoop (P:=Tryz.prog) hl2 (by rw [hrec];simp);rw [hrec] at this;exact this,?_⟩
   refine hdone _ bs2 (h2.keep (fun k hk => World.putObj_heap_other (fun e => hn2 (e ▸ hk)))) ⟨⟨k2.1.os.trans hb1.os,k2.1.tape.trans hb1.tape,k2.1.output.trans hb1.output,?_,?_⟩,?_⟩ hnd2 ?_
   ·rw [World.putObj_size];omega
   ·intro k hk hkn
    rw [World.putObj_heap_other (by omega),k2.keepBlock (by omega) hkn,hb1.block k hk]
   ·intro x hx
    rcases k2.2 x hx with e | e
    ·exact .inl e
    ·exact .inr (by omega)
   ·rw [World.putObj_heap_other (by omega),k2.keepBlock (by omega) hnd];exact hd1
end Go.Proofs.YtceappncglfciaaGreat
