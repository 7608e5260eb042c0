import Derived.Test.YtceappncglfciaaGreatM23
import Derived.Conc.LoneCalls
import Derived.Conc.LoneSelectN
set_option linter.unusedVariables false
set_option linter.unusedSimpArgs false
namespace Go.Proofs.YtceappncglfciaaGreat
open Go.RowKit
attribute [local go_sem ↓] Go.wp_at_zero Go.wp_at_succ
structure MsgIn (n:Nat) (m:MsgM):Prop where
 src:∃ k:Nat,k < n ∧ m.src = (k:Int)
 vote:∃ k:Nat,k < n ∧ m.vote.p = (k:Int)
 epoch:0 ≤ m.epoch ∧ m.epoch ≤ 4294967295
 news:0 ≤ m.news ∧ m.news ≤ 4294967295
set_option maxRecDepth 100000 in
set_option maxHeartbeats 2000000 in
theorem get_any (i b:Nat) (m:MsgM) (W:World) (bt:Nat) (pb bs:List Nat) (T:PTown) (h:PR W bt pb bs T) (hb:pb[i]? = some b) (hp:T.ps.length ≤ 7) (hn:T.net ≤ 1000) (hev:T.events.length ≤ 40000000000) (hm:MindOK T.ps.length (T.peer i)) (hmi:MsgIn T.ps.length m) :
  Calls Tryz.prog 87 #[.pointer (some ⟨b,0,none⟩),m.val] W fun o w' => o = .returned (.tuple #[]) ∧ PDid W bt pb bs w' (T.get i m):=by
 obtain ⟨k,hkn,hsrc⟩:=hmi.src
 obtain ⟨kx,hkxn,hvp⟩:=hmi.vote
 have hk:k < 7:=by omega
 have hkx:kx < 7:=by omega
 have hX:=(Below.refl W.heap.size W).alloc (Nat.le_refl _) (.cells m.cells.toArray 133)
 have HM:=hide (MBox.new W m)
 have HH:=hide (h.below hX)
 have HX:=hide (Links.of_below bs hX)
 have HN:=hide h.new_notin
 have hi:i < T.ps.length:=(h.at hb).1
 have HSRC:=hide hsrc
 have HVP:=hide hvp
 clear hsrc hvp
 clear h hX
 unfold MsgM.val
 simp only [MsgM.cells] at HM HH HX
 go_enter Tryz.func87,Tryz.ntmps87
 go_upto_region 1 with fail
 generalize W.alloc (.cells #[.int .i64 m.kind,.int .i64 m.src,.int .i64 m.dst,.int .i64 m.round,.int .i64 m.state,.int .i64 m.vote.e,.int .i64 m.vote.n,.int .i64 m.vote.p,.int .i64 m.epoch,.int .i64 m.news] 133) = W1 at *
 have m0:=(unhide HM).m0
 have m1:=(unhide HM).m1
 have m2:=(unhide HM).m2
 have m3:=(unhide HM).m3
 have m4:=(unhide HM).m4
 have m5:=(unhide HM).m5
 have m6:=(unhide HM).m6
 have m7:=(unhide HM).m7
 have m8:=(unhide HM).m8
 have m9:=(unhide HM).m9
 obtain ⟨q,hat⟩:=(unhide HH).peerAt hb
 have c68:=hat.f68
 clear hat
 by_cases h0:(T.peer i).state = 0
 ·have q0:((T.peer i).state == 0) = true:=by simp [h0]
  obtain ⟨⟨l,hl⟩,l0,hl0⟩:=hm.looking h0
  have HT:Hid (T.get i m = T.getLooking i m):=by
   show _ = _
   unfold PTown.get;rw [if_pos h0]
  have HA:=hide ((unhide HX).calls (getLooking_any i b k kx m W1 bt pb bs T (unhide HH) hb hp hn hk (unhide HSRC) hkx (unhide HVP) l0 hl0 l hl) (unhide HT))
  simp only [MsgM.val] at HA
  clear h0 HT HM HX HH
  go_wp2_with fail
  refine (unhide HA).mono ?_
  rintro o w8 ⟨rfl,hd⟩
  have HE:=hide hd
  clear hd HA
  go_wp2
  go_end0
  exact ⟨rfl,unhide HE⟩
 ·have q0:((T.peer i).state == 0) = false:=by simp [h0]
  by_cases h1:(T.peer i).state = 1
  ·have q1:((T.peer i).state == 1) = true:=by simp [h1]
   obtain ⟨l,hl,_⟩:=hm.following h1
   have HT:Hid (T.get i m = T.getFollowing i m):=by
    show _ = _
    unfold PTown.get;rw [if_neg h0,if_pos h1]
   have hsr:0 ≤ m.src ∧ m.src ≤ 4294967295:=by rw [unhide HSRC];omega
   have HA:=hide ((unhide HX).calls (getFollowing_any i b k m W1 bt pb bs T (unhide HH) hb hk (unhide HSRC) l hl hp hn hm.round (hm.wr.mono (by omega)) (fun _ => ⟨hmi.epoch,hsr,hm.cred.2.2⟩) (fun _ => ⟨hm.cred.1,hm.cred.2.1,hmi.epoch,hmi.news⟩)) (unhide HT))
   simp only [MsgM.val] at HA
   clear h0 h1 HT HM HX HH
   go_wp2_with fail
   refine (unhide HA).mono ?_
   rintro o w8 ⟨rfl,hd⟩
   have HE:=hide hd
   clear hd HA
   go_wp2
   go_end0
   exact ⟨rfl,unhide HE⟩
  ·have q1:((T.peer i).state == 1) = false:=by simp [h1]
   by_cases h2:(T.peer i).state = 2
   ·have q2:((T.peer i).state == 2) = true:=by simp [h2]
    obtain ⟨⟨lh,hlh,_⟩,⟨lj,hlj,hj⟩,la,hla⟩:=hm.leading h2
    have HT:Hid (T.get i m = T.getLeading i m):=by
     show _ = _
     unfold PTown.get;rw [if_neg h0,if_neg h1,if_pos h2]
    have HA:=hide ((unhide HX).calls (getLeading_any i b k m W1 bt pb bs T (unhide HH) hb hp hn hk (unhide HSRC) lh hlh lj hlj la hla hev hm.round hm.wr hm.cred hm.epoch hj ⟨hmi.epoch.1,by have:=hmi.epoch.2;omega⟩) (unhide HT))
    simp only [MsgM.val] at HA
    clear h0 h1 h2 HT HM HX HH
    go_wp2_with fail
    refine (unhide HA).mono ?_
    rintro o w8 ⟨rfl,hd⟩
    have HE:=hide hd
    clear hd HA
    go_wp2
    go_end0
    exact ⟨rfl,unhide HE⟩
   ·have q2:((T.peer i).state == 2) = false:=by simp [h2]
    have HT:Hid (T.get i m = T):=by
     show _ = _
     unfold PTown.get;rw [if_neg h0,if_neg h1,if_neg h2]
    clear h0 h1 h2
    go_wp2
    go_end0
    exact ⟨rfl,by rw [unhide HT];exact (unhide HX).did (PDid.rfl' (unhide HH))⟩
set_option maxRecDepth 100000 in
set_option maxHeartbeats 2000000 in
theorem comeUp_any (i b:Nat) (W:World) (bt:Nat) (pb bs:List Nat) (T:PTown) (h:PR W bt pb bs T) (hb:pb[i]? = some b) (hp:T.ps.length ≤ 7) (hn:T.net ≤ 1000) (hby:BytesL (T.peer i).disk) (hr:0 ≤ (T.peer i).round ∧ (T.peer i).round ≤ 4611686018427387904) :
  Calls Tryz.prog 116 #[.pointer (some ⟨b,0,none⟩)] W fun o w' => o = .returned (.tuple #[]) ∧ PDid W bt pb bs w' (T.comeUp i):=by
 obtain ⟨q,hat⟩:=h.peerAt hb
 have hi:i < T.ps.length:=(h.at hb).1
 have hdl:(T.peer i).disk.length = 56:=by simpa [byteCells] using hat.box.2
 have hcv:=run_convert_bytes_arg (P:=Tryz.prog) (w:=W) 116 5 Tryz.underlying116 Tryz.underlying5 b 2 56 56 (T.peer i).disk hdl (fun j hj => hat.byte hj) 9 Tryz.underlying9
 have HC:=hide (newest_L (T.peer i).disk hby hdl W)
 obtain ⟨x,hx⟩:∃ x,x = newestL (T.peer i).disk:=⟨_,rfl⟩
 rw [← hx] at HC
 simp only [CredM.cells] at HC
 have HT:Hid (T.comeUp i = if x.at_ < 0 then T.setP i { T.peer i with up:=true,c:=x.c,state:=3 } else (T.setP i { T.peer i with up:=true,c:=x.c }).look i):=by rw [hx];exact rfl
 have HH:=hide h
 clear h hat hx
 go_enter Tryz.func116,Tryz.ntmps116
 go_upto_region 1 with (go_at_call 22;refine (unhide HC).mono ?_;rintro o w2 ⟨rfl,hB2⟩)
 have hB3:=hB2.alloc hB2.size (.cells #[.int .i64 x.c.p,.int .i64 x.c.t,.int .i64 x.c.e,.int .i64 x.c.v] 39)
 have HB:Hid (Box (w2.alloc (.cells #[.int .i64 x.c.p,.int .i64 x.c.t,.int .i64 x.c.e,.int .i64 x.c.v] 39)) w2.heap.size #[.int .i64 x.c.p,.int .i64 x.c.t,.int .i64 x.c.e,.int .i64 x.c.v] 39):=Box.new _ _ _
 generalize w2.alloc (.cells #[.int .i64 x.c.p,.int .i64 x.c.t,.int .i64 x.c.e,.int .i64 x.c.v] 39) = W3 at *
 have HH3:=hide ((unhide HH).below hB3)
 have HX3:=hide (Links.of_below bs hB3)
 have hwb:W.heap.size ≤ w2.heap.size:=hB2.size
 clear hcv HC HH hB2 hB3
 obtain ⟨_,q,hat,_,_,_,_,C⟩:=(unhide HH3).at hb
 have c58:=hat.f58
 have c64:=hat.f64
 have c65:=hat.f65
 have c66:=hat.f66
 have c67:=hat.f67
 have z58:=hat.fz 58
 have z64:=hat.fz 64
 have z65:=hat.fz 65
 have z66:=hat.fz 66
 have z67:=hat.fz 67
 have b0:W3.cell? ⟨w2.heap.size,0,none⟩ = some (.int .i64 x.c.p):=(unhide HB).cell 0
 have b1:W3.cell? ⟨w2.heap.size,1,none⟩ = some (.int .i64 x.c.t):=(unhide HB).cell 1
 have b2:W3.cell? ⟨w2.heap.size,2,none⟩ = some (.int .i64 x.c.e):=(unhide HB).cell 2
 have b3:W3.cell? ⟨w2.heap.size,3,none⟩ = some (.int .i64 x.c.v):=(unhide HB).cell 3
 have HF:=hide (stores_close hat C [(58,.bool true),(64,.int .i64 x.c.p),(65,.int .i64 x.c.t),(66,.int .i64 x.c.e),(67,.int .i64 x.c.v)] q { T.peer i with up:=true,c:=x.c } (by simp) rfl)
 simp only [sets] at HF
 clear hat C HB HH3
 go_region_with (fail)
 all_goals
  have hd5:=(unhide HF).post (Below.refl _ _).drew
  generalize (((((W3.setCell ⟨b,58,none⟩ (.bool true)).setCell ⟨b,64,none⟩ (.int .i64 x.c.p)).setCell ⟨b,65,none⟩ (.int .i64 x.c.t)).setCell ⟨b,66,none⟩ (.int .i64 x.c.e)).setCell ⟨b,67,none⟩ (.int .i64 x.c.v)).drew = w5 at *
  obtain ⟨bs5,h5,k5⟩:=hd5.open
  have HX5:=hide ((unhide HX3).trans k5)
  obtain ⟨T5,hT5⟩:∃ T5,T5 = T.setP i { T.peer i with up:=true,c:=x.c }:=⟨_,rfl⟩
  rw [← hT5] at h5
  have hp5:T5.peer i = { T.peer i with up:=true,c:=x.c }:=by rw [hT5,PTown.peer_set hi]
  have hl5:T5.ps.length = T.ps.length:=by rw [hT5,PTown.setP_len]
  have hn5:T5.net = T.net:=by rw [hT5];rfl
  clear HF hd5 k5 HX3 c58 c64 c65 c66 c67 z58 z64 z65 z66 z67 b0 b1 b2 b3
  by_cases hat0:x.at_ < 0
  ·have d1:decide (x.at_ < 0) = true:=by simpa using hat0
   rw [if_pos hat0] at HT
   obtain ⟨_,q5,hat5,_,_,_,_,C5⟩:=h5.at hb
   have e68:=hat5.f68
   have y68:=hat5.fz 68
   have HF5:=hide ((unhide HX5).did (stores_close hat5 C5 [(68,.int .i64 3)] q5 { T5.peer i with state:=3 } (by simp) rfl))
   simp only [sets] at HF5
   have e5:T5.setP i { T5.peer i with state:=3 } = T.setP i { T.peer i with up:=true,c:=x.c,state:=3 }:=by
    rw [hp5,hT5,PTown.set_set]
   rw [e5] at HF5
   clear hat5 C5 h5 hT5 hp5 e5 hat0
   go_wp2
   exact bodyPost_ret (v:=.tuple #[]) (by simp [results,Tryz.results116,go_sem]) rfl ⟨rfl,by rw [unhide HT];exact unhide HF5⟩
  ·have d1:decide (x.at_ < 0) = false:=by simpa using hat0
   rw [if_neg hat0,← hT5] at HT
   have HA:=hide ((unhide HX5).calls (look_any i b w5 bt pb bs5 T5 h5 hb (by omega) (by omega) (by rw [hp5];exact hr)) (unhide HT))
   clear h5 hT5 hp5 hat0 HT HX5
   go_wp2_with fail
   refine (unhide HA).mono ?_
   rintro o w8 ⟨rfl,hd⟩
   have HE:=hide hd
   clear hd HA
   go_wp2
   go_end0
   exact ⟨rfl,unhide HE⟩
end Go.Proofs.YtceappncglfciaaGreat
namespace Go.Proofs.YtceappncglfciaaGreat
open Go.RowKit Go.Conc
section
variable {P:Program} {Q:Exit → Act → World → Prop} {a a1:Act} {w w1 w':World} {b:Frame} {ops:Array Oper} {i id:Nat} {rest:List Nat} {o:Oper} {v:Value}
def WpB (P:Program) (b:Frame) (c:Code) (Q:Exit → Act → World → Prop) (a:Act) (w:World):Prop :=
 ∀ (k:List Item) (cs:List Frame),∃ e a' w',Q e a' w' ∧ Arrives P (lone (b.at a (.code c :: k)) cs w) b k cs e a' w'
theorem wpB_of_wp {c:Code} (h:c.wp P Q a w):WpB P b c Q a w:=fun k cs => h b k cs
theorem wpB_seq {x y:Code} (h:WpB P b x (Exit.then (WpB P b y Q) Q) a w):WpB P b (Code.seq x y) Q a w:=by
 intro k cs
 obtain ⟨e,a₁,w₁,hq,harr⟩:=h (.code y :: k) cs
 cases e with
 | normal =>
  obtain ⟨e₂,a₂,w₂,hq₂,harr₂⟩:=hq k cs
  exact ⟨e₂,a₂,w₂,hq₂,.of_steps (.head step_seq harr) harr₂⟩
 | exit id => exact ⟨_,a₁,w₁,hq,.of_steps (.one step_seq) (.pass (x:=.code y) rfl (fun _ _ => .inl (by simp)) harr)⟩
 | goto l => exact ⟨_,a₁,w₁,hq,.of_steps (.one step_seq) (.pass (x:=.code y) rfl (fun _ _ => .inl (by simp)) harr)⟩
 | ret => exact ⟨_,a₁,w₁,hq,.of_steps (.one step_seq) (.pass (x:=.code y) rfl (fun _ _ => .inl (by simp)) harr)⟩
 | panic ch => exact ⟨_,a₁,w₁,hq,.of_steps (.one step_seq) (.pass (x:=.code y) rfl (fun _ _ => .inl (by simp)) harr)⟩
 | outgrown => exact ⟨_,a₁,w₁,hq,.of_steps (.one step_seq) (.pass (x:=.code y) rfl (fun _ _ => .inl (by simp)) harr)⟩
def baseF (f:FuncId):Frame:={ (default:Frame) with fn:=f,kind:=.normal }
theorem calls_of_wpB {f:FuncId} {fn:Func} {c:Code} {args:Array Value} {R:Ending → World → Prop}
  (hf:P.funcs[f]? = some fn) (hb:fn.body = some c)
  (h:WpB P (baseF f) c (bodyPost P fn R) { tmps:=args ++ Array.replicate (fn.ntmps - args.size) undef,defers:=[] } w) :
  Calls P f args w R:=by
 intro cs
 have henter:Frame.enter P f args .normal = (baseF f).at { tmps:=args ++ Array.replicate (fn.ntmps - args.size) undef,defers:=[] } [.code c]:=by
  simp [Frame.enter,Frame.at,hf,hb,baseF]
 obtain ⟨e,a',w',hq,harr⟩:=h [] cs
 rw [← henter] at harr
 cases e with
 | normal =>
  obtain ⟨hd,v,hr,hR⟩:=hq
  exact ⟨.returned v,w',_,hR,Steps.trans harr (.one step_end),rfl,rfl,hd,rfl,fn,hf,hr⟩
 | ret =>
  obtain ⟨hd,v,hr,hR⟩:=hq
  obtain ⟨todo,hs⟩:=harr
  exact ⟨.returned v,w',_,hR,hs,rfl,rfl,hd,rfl,fn,hf,hr⟩
 | panic chain =>
  obtain ⟨hd,hR⟩:=hq
  obtain ⟨todo,hs⟩:=harr
  exact ⟨.panicked chain,w',_,hR,hs,rfl,rfl,hd,fn,hf⟩
 | exit id => exact hq.elim
 | goto l => exact hq.elim
 | outgrown => exact ⟨.outgrown,w',baseF f,hq,harr.resolve_left (by simp [baseF]),rfl,trivial⟩
def OpTo (P:Program) (b:Frame) (ops:Array Oper) (i:Nat) (a:Act) (w:World) (a':Act) (w':World):Prop :=
 ∀ (rest:List Nat) (k:List Item) (cs:List Frame),step P (lone (b.at a (.inRegion ops (i :: rest) :: k)) cs w) = .next (lone (b.at a' (.inRegion ops rest :: k)) cs w')
theorem opTo_value (ho:ops[i]? = some o) (hw:Region.wanted o (yielded ops a.tmps) = true) (hr:(execOp a.eval o).run P w = .ok (.value v) w'):OpTo P b ops i a w (a.put o.dst v) w':=by
 intro rest k cs
 have hg:=stepG_op (P:=P) (b:=b) (k:=k) (cs:=cs) (w:=w) (rest:=rest) ho hw
 have hfin:(b.at a (.inRegion ops (i :: rest) :: k)).finish v = b.at (a.put o.dst v) (.inRegion ops rest :: k):=by
  rw [Frame.finish_at,ho];rfl
 refine step_lone_go ?_
 rw [hg,← hfin];simp [stepG.apply,hr]
theorem opTo_send (ho:ops[i]? = some o) (hw:Region.wanted o (yielded ops a.tmps) = true) (hk:b.kind ≠ .early) {c s r:Nat} {z:Value} (hr:(execOp a.eval o).run P w = .ok (.comm #[scase c v z] true .send) w) (hc:w.heap[c]? = some (.chan 1 #[] false s r false)) :
  OpTo P b ops i a w (a.put o.dst undef) (w.setChan c 1 #[v] false (s + 1) r false):=by
 intro rest k cs
 have h1:=step_lone_send_room (P:=P) (fr:=b.at a (.inRegion ops (i :: rest) :: k)) (cs:=cs) (stepG_comm (k:=k) (rest:=rest) (cs:=cs) ho hw hk hr) hc (by simp)
 rw [Frame.finish_at,ho] at h1
 exact h1
theorem steps_rest (h:∀ (k:List Item) (cs:List Frame),Steps P (lone (b.at a (.inRegion ops (List.range ops.size) :: k)) cs w) (lone (b.at a1 (.inRegion ops rest :: k)) cs w1)) (hr:wpOps P ops Q rest a1 w1):WpB P b (.region id ops false) Q a w:=by
 intro k cs
 obtain ⟨e,a',w',q,r⟩:=wp_ops rest a1 w1 hr b k cs
 exact ⟨e,a',w',q,.of_steps (.one step_region) (.of_steps (h k cs) r)⟩
def AnyTo (P:Program) (b:Frame) (ops:Array Oper) (a1:Act) (w1:World):Nat → Array Bool → Act → World → Prop
 | 0,listed,a,w => Region.ready .any ops listed = [] ∧ a = a1 ∧ w = w1
 | fuel + 1,listed,a,w => (Region.ready .any ops listed ≠ []) ∧ ∀ i ∈ Region.ready .any ops listed,∃ a' w',OpTo P b ops i a w a' w' ∧ AnyTo P b ops a1 w1 fuel (listed.setIfInBounds i true) a' w'
theorem anyTo_sound:∀ (fuel t:Nat) (listed:Array Bool) (a:Act) (w:World),AnyTo P b ops a1 w1 fuel listed a w →
  ∀ (k:List Item) (cs:List Frame),Steps P (lone (b.at a (.inRegion ops (Region.linearise.go .any ops fuel t listed []) :: k)) cs w) (lone (b.at a1 (.inRegion ops [] :: k)) cs w1):=by
 intro fuel
 induction fuel with
 | zero =>
  intro t listed a w h k cs
  obtain ⟨_,rfl,rfl⟩:=h
  simpa [Region.linearise.go] using Steps.refl P _
 | succ fuel ih =>
  intro t listed a w h k cs
  obtain ⟨h₀,h₁⟩:=h
  simp only [Region.linearise.go]
  change Steps P (lone (b.at a (.inRegion ops (match (Region.ready .any ops listed)[t % (Region.ready .any ops listed).length]? with
   | some i => Region.linearise.go .any ops fuel (t / (Region.ready .any ops listed).length) (listed.setIfInBounds i true) [i]
   | none => [].reverse) :: k)) cs w) _
  cases hi:(Region.ready .any ops listed)[t % (Region.ready .any ops listed).length]? with
  | none =>
   exfalso
   cases hr:Region.ready .any ops listed with
   | nil => exact h₀ hr
   | cons x xs =>
    rw [hr] at hi
    have hlt:t % (x :: xs).length < (x :: xs).length:=Nat.mod_lt _ (by simp)
    simp at hi
    simp at hlt
    omega
  | some i =>
   simp only []
   rw [linearise_go_acc,List.reverse_singleton,List.singleton_append]
   obtain ⟨a',w',ho,hn⟩:=h₁ i (List.mem_of_getElem? hi)
   exact .head (ho _ k cs) (ih _ _ a' w' hn k cs)
theorem wpB_any (hm:P.follows .mixedOrders = true) (h:AnyTo P b ops a1 w1 ops.size (Array.replicate ops.size false) a { w with drawn:=w.drawn + 1 }) (hq:Q .normal a1 w1):WpB P b (.region id ops true) Q a w:=by
 intro k cs
 refine ⟨.normal,a1,w1,hq,?_⟩
 have hs:=step_region_draw (P:=P) (b:=b) (a:=a) (k:=k) (cs:=cs) (w:=w) (ops:=ops) (id:=id)
 simp only [Region.schedule,hm,Bool.true_or,if_true] at hs
 exact .head hs (Steps.trans (anyTo_sound ops.size _ _ a _ h k cs) (.one step_region_end))
end
end Go.Proofs.YtceappncglfciaaGreat
namespace Go.Proofs.YtceappncglfciaaGreat
open Go.RowKit Go.Conc
attribute [local go_sem ↓] Go.wp_at_zero Go.wp_at_succ
theorem PTown.setP_self {T:PTown} {i:Nat} (hi:i < T.ps.length):T.setP i (T.peer i) = T:=by
 have e2:T.peer i = T.ps[i]:=by simp [PTown.peer,hi]
 unfold PTown.setP
 rw [e2,List.set_getElem_self]
theorem setChan_far (w:World) (c c' cap:Nat) (buf:Array Value) (closed:Bool) (s r:Nat) (tm:Bool) (h:c' ≠ c):(w.setChan c cap buf closed s r tm).heap[c']? = w.heap[c']?:=by
 simp [World.setChan,Array.getElem?_setIfInBounds_ne (fun e => h e.symm)]
theorem keeps_setChan {fp:List Nat} {a w:World} (h:Keeps fp a w) {c:Nat} (hc:c ∈ fp) (cap:Nat) (buf:Array Value) (cl:Bool) (s r:Nat) (tm:Bool):Keeps fp a (w.setChan c cap buf cl s r tm) :=
 h.trans (fp':=[c]) ⟨rfl,rfl,rfl,by simp [World.setChan],fun k _ hk => setChan_far w c k cap buf cl s r tm (by simpa using hk)⟩ (fun x hx => .inl (by
  have:x = c:=by simpa using hx
  rw [this];exact hc))
section
variable {W W':World} {bt i b:Nat} {q:PL} {p:PeerP} {pb bs:List Nat} {T:PTown}
theorem chan_close (h:PR W bt pb bs T) (hb:pb[i]? = some b) (hat:PeerAt W bt i b q (T.peer i)) (C:Close W bt i b q pb bs T) (c:Nat) (hc:c = q.cm ∨ c = q.ct ∨ c = q.co) (s r:Nat) :
  PDid W bt pb bs (W.setChan c 1 #[] false s r false) T:=by
 have hi:=(h.at hb).1
 have hcq:c ∈ q.blocks:=(PL.mem_blocks q c).2 (by rcases hc with h | h | h <;> simp [h])
 have hbn:=hat.b_notin
 have hcl:=hat.lt c hcq
 have far:∀ k,k ≠ c → (W.setChan c 1 #[] false s r false).heap[k]? = W.heap[k]?:=fun k hk => setChan_far W c k _ _ _ _ _ _ hk
 have self:(W.setChan c 1 #[] false s r false).heap[c]? = some (.chan 1 #[] false s r false):=heap_setChan W c _ _ _ _ _ _ hcl
 have ch:∀ d,ChanAt W d → ChanAt (W.setChan c 1 #[] false s r false) d:=fun d hd => by
  by_cases e:d = c
  ·subst e;exact ⟨s,r,self⟩
  ·obtain ⟨s1,r1,h1⟩:=hd
   exact ⟨s1,r1,(far d e).trans h1⟩
 have hnd:=hat.nd
 have hmap:∀ k,(k ∈ q.mv.toList ∨ k ∈ q.ms.toList ∨ k ∈ q.mh.toList ∨ k ∈ q.mj.toList ∨ k ∈ q.ma.toList) → k ≠ c:=fun k hk e => by
  subst e
  have ho:∃ es clock,W.heap[k]? = some (.map es clock):=by
   rcases hk with h | h | h | h | h
   ·exact hat.mv.obj k h
   ·exact hat.ms.obj k h
   ·exact hat.mh.obj k h
   ·exact hat.mj.obj k h
   ·exact hat.ma.obj k h
  obtain ⟨es,cl,h1⟩:=ho
  rcases hc with h | h | h
  ·obtain ⟨s1,r1,h2⟩:=hat.cm;rw [← h,h1] at h2;cases h2
  ·obtain ⟨s1,r1,h2⟩:=hat.ct;rw [← h,h1] at h2;cases h2
  ·obtain ⟨s1,r1,h2⟩:=hat.co;rw [← h,h1] at h2;cases h2
 have:=C (W.setChan c 1 #[] false s r false) q (T.peer i) (PeerAt.mk (hat.box.same (far b (fun e => hbn (e ▸ hcq)))) (ch _ hat.cm) (ch _ hat.ct) (ch _ hat.co)
  (hat.mv.same (fun k hk => far k (hmap k (by simp [hk])))) (hat.ms.same (fun k hk => far k (hmap k (by simp [hk])))) (hat.mh.same (fun k hk => far k (hmap k (by simp [hk])))) (hat.mj.same (fun k hk => far k (hmap k (by simp [hk])))) (hat.ma.same (fun k hk => far k (hmap k (by simp [hk])))) hnd) (fun x hx => .inl hx) (keeps_setChan (Keeps.refl _ _) (by simp [hcq]) _ _ _ _ _ _)
 rwa [PTown.setP_self hi] at this
end
theorem setChan_twice (w:World) (c cap cap':Nat) (buf buf':Array Value) (cl cl':Bool) (s r s' r':Nat) (tm tm':Bool):(w.setChan c cap buf cl s r tm).setChan c cap' buf' cl' s' r' tm' = w.setChan c cap' buf' cl' s' r' tm':=by
 simp [World.setChan]
theorem res3_0 (x y z:Nat) (a b c v:Value):commResult #[rcase x a,rcase y b,rcase z c] .select ((0:Nat):Int) v true = .tuple #[goInt 0,.bool true,v,b,c]:=by
 simp [commResult,rcase,List.zipIdx_cons]
theorem res3_1 (x y z:Nat) (a b c v:Value):commResult #[rcase x a,rcase y b,rcase z c] .select ((1:Nat):Int) v true = .tuple #[goInt 1,.bool true,a,v,c]:=by
 simp [commResult,rcase,List.zipIdx_cons]
theorem res3_2 (x y z:Nat) (a b c v:Value):commResult #[rcase x a,rcase y b,rcase z c] .select ((2:Nat):Int) v true = .tuple #[goInt 2,.bool true,a,b,v]:=by
 simp [commResult,rcase,List.zipIdx_cons]
section
variable {P:Program} {Q:Exit → Act → World → Prop} {a a1:Act} {w w1 w':World} {b:Frame} {ops:Array Oper} {i id:Nat} {o:Oper} {v za zb zc:Value} {x y z:Nat}
theorem opTo_sel3_1 (ho:ops[i]? = some o) (hw:Region.wanted o (yielded ops a.tmps) = true) (hk:b.kind ≠ .early) {s r s1 r1 s3 r3:Nat} (hr:(execOp a.eval o).run P w = .ok (.comm #[rcase x za,rcase y zb,rcase z zc] true .select) w)
  (hx:w.heap[x]? = some (.chan 1 #[] false s1 r1 false)) (hy:w.heap[y]? = some (.chan 1 #[v] false s r false)) (hz:w.heap[z]? = some (.chan 1 #[] false s3 r3 false)) :
  OpTo P b ops i a w (a.put o.dst (.tuple #[goInt 1,.bool true,za,v,zc])) (w.setChan y 1 #[] false s (r + 1) false):=by
 intro rest k cs
 have h1:=step_lone_sel_recv_buf (P:=P) (k:=1) (fr:=b.at a (.inRegion ops (i :: rest) :: k)) (cs:=cs) (stepG_comm (k:=k) (rest:=rest) (cs:=cs) ho hw hk hr) rfl (fun m c' hm hc' => by
  rcases m with _ | _ | _ | m
  ·simp only [List.getElem?_toArray,List.getElem?_cons_zero,Option.some.injEq] at hc'
   subst hc';exact noWay_recv hx
  ·exact absurd rfl hm
  ·simp only [List.getElem?_toArray,List.getElem?_cons_succ,List.getElem?_cons_zero,Option.some.injEq] at hc'
   subst hc';exact noWay_recv hz
  ·simp at hc') hy (by simp)
 rw [Frame.finish_at,ho,res3_1] at h1
 exact h1
theorem opTo_sel3_0 (ho:ops[i]? = some o) (hw:Region.wanted o (yielded ops a.tmps) = true) (hk:b.kind ≠ .early) {s r s1 r1 s3 r3:Nat} (hr:(execOp a.eval o).run P w = .ok (.comm #[rcase x za,rcase y zb,rcase z zc] true .select) w)
  (hx:w.heap[x]? = some (.chan 1 #[v] false s r false)) (hy:w.heap[y]? = some (.chan 1 #[] false s1 r1 false)) (hz:w.heap[z]? = some (.chan 1 #[] false s3 r3 false)) :
  OpTo P b ops i a w (a.put o.dst (.tuple #[goInt 0,.bool true,v,zb,zc])) (w.setChan x 1 #[] false s (r + 1) false):=by
 intro rest k cs
 have h1:=step_lone_sel_recv_buf (P:=P) (k:=0) (fr:=b.at a (.inRegion ops (i :: rest) :: k)) (cs:=cs) (stepG_comm (k:=k) (rest:=rest) (cs:=cs) ho hw hk hr) rfl (fun m c' hm hc' => by
  rcases m with _ | _ | _ | m
  ·exact absurd rfl hm
  ·simp only [List.getElem?_toArray,List.getElem?_cons_succ,List.getElem?_cons_zero,Option.some.injEq] at hc'
   subst hc';exact noWay_recv hy
  ·simp only [List.getElem?_toArray,List.getElem?_cons_succ,List.getElem?_cons_zero,Option.some.injEq] at hc'
   subst hc';exact noWay_recv hz
  ·simp at hc') hx (by simp)
 rw [Frame.finish_at,ho,res3_0] at h1
 exact h1
theorem opTo_sel3_2 (ho:ops[i]? = some o) (hw:Region.wanted o (yielded ops a.tmps) = true) (hk:b.kind ≠ .early) {s r s1 r1 s3 r3:Nat} (hr:(execOp a.eval o).run P w = .ok (.comm #[rcase x za,rcase y zb,rcase z zc] true .select) w)
  (hx:w.heap[x]? = some (.chan 1 #[] false s1 r1 false)) (hy:w.heap[y]? = some (.chan 1 #[] false s3 r3 false)) (hz:w.heap[z]? = some (.chan 1 #[v] false s r false)) :
  OpTo P b ops i a w (a.put o.dst (.tuple #[goInt 2,.bool true,za,zb,v])) (w.setChan z 1 #[] false s (r + 1) false):=by
 intro rest k cs
 have h1:=step_lone_sel_recv_buf (P:=P) (k:=2) (fr:=b.at a (.inRegion ops (i :: rest) :: k)) (cs:=cs) (stepG_comm (k:=k) (rest:=rest) (cs:=cs) ho hw hk hr) rfl (fun m c' hm hc' => by
  rcases m with _ | _ | _ | m
  ·simp only [List.getElem?_toArray,List.getElem?_cons_zero,Option.some.injEq] at hc'
   subst hc';exact noWay_recv hx
  ·simp only [List.getElem?_toArray,List.getElem?_cons_succ,List.getElem?_cons_zero,Option.some.injEq] at hc'
   subst hc';exact noWay_recv hy
  ·exact absurd rfl hm
  ·simp at hc') hz (by simp)
 rw [Frame.finish_at,ho,res3_2] at h1
 exact h1
theorem wpB_five {ops:Array Oper} {a0 a1 a2 a3 a4 a5:Act} {w0 w1 w2 w3 w4 w5:World} (hl:List.range ops.size = [0,1,2,3,4]) (h0:OpTo P b ops 0 a0 w0 a1 w1) (h1:OpTo P b ops 1 a1 w1 a2 w2) (h2:OpTo P b ops 2 a2 w2 a3 w3) (h3:OpTo P b ops 3 a3 w3 a4 w4) (h4:OpTo P b ops 4 a4 w4 a5 w5) (hq:Q .normal a5 w5):WpB P b (.region id ops false) Q a0 w0 :=
 steps_rest (rest:=[]) (fun k cs => by rw [hl];exact .head (h0 _ k cs) (.head (h1 _ k cs) (.head (h2 _ k cs) (.head (h3 _ k cs) (.one (h4 _ k cs)))))) hq
end
theorem zeroMsg (w:World):(zeroValue 133).run Tryz.prog w = .ok msgZ.val w:=by kernel_rfl
theorem zeroUnit (w:World):(zeroValue 147).run Tryz.prog w = .ok (.agg #[]) w:=by kernel_rfl
theorem zeroOrder (w:World):(zeroValue 87).run Tryz.prog w = .ok (.agg #[.int .i64 0,.int .i64 0]) w:=by kernel_rfl
set_option maxRecDepth 100000 in
set_option maxHeartbeats 2000000 in
theorem takeTick_any (i b:Nat) (W:World) (bt:Nat) (pb bs:List Nat) (T T':PTown) (q:PL) (s r:Nat) (h:PR W bt pb bs T) (hb:pb[i]? = some b) (hat:PeerAt W bt i b q (T.peer i)) (C:Close W bt i b q pb bs T) (hc:W.heap[q.ct]? = some (.chan 1 #[] false s r false))
  (HA:∀ w bs1,PR w bt pb bs1 T → Calls Tryz.prog 88 #[.pointer (some ⟨b,0,none⟩)] w fun o w' => o = .returned (.tuple #[]) ∧ PDid w bt pb bs1 w' T') :
  Calls Tryz.prog 71 #[.pointer (some ⟨b,0,none⟩)] (W.setChan q.ct 1 #[.agg #[]] false (s + 1) r false) fun o w' => o = .returned (.tuple #[]) ∧ PDid W bt pb bs w' T':=by
 obtain ⟨s1,r1,c1⟩:=hat.cm
 obtain ⟨s3,r3,c3⟩:=hat.co
 have hbn:=hat.b_notin
 have hnd:=hat.nd
 have hct:q.ct ∈ q.blocks:=(PL.mem_blocks q q.ct).2 (by simp)
 have hbt:b ≠ q.ct:=fun e => hbn (e ▸ hct)
 have hcl:=hat.lt _ hct
 have n1:q.cm ≠ q.ct:=by
  intro e
  rw [PL.blocks] at hnd
  simp [e] at hnd
 have n3:q.co ≠ q.ct:=by
  intro e
  rw [PL.blocks] at hnd
  simp [e] at hnd
 have hfb:(W.setChan q.ct 1 #[.agg #[]] false (s + 1) r false).heap[b]? = W.heap[b]?:=setChan_far _ _ _ _ _ _ _ _ _ hbt
 have c59:=(World.cell?_of_block (w:=W) (a:=⟨b,59,none⟩) hfb).trans hat.f59
 have c60:=(World.cell?_of_block (w:=W) (a:=⟨b,60,none⟩) hfb).trans hat.f60
 have c61:=(World.cell?_of_block (w:=W) (a:=⟨b,61,none⟩) hfb).trans hat.f61
 have hx1:(W.setChan q.ct 1 #[.agg #[]] false (s + 1) r false).heap[q.cm]? = some (.chan 1 #[] false s1 r1 false):=(setChan_far _ _ _ _ _ _ _ _ _ n1).trans c1
 have hx2:(W.setChan q.ct 1 #[.agg #[]] false (s + 1) r false).heap[q.ct]? = some (.chan 1 #[.agg #[]] false (s + 1) r false):=heap_setChan _ _ _ _ _ _ _ _ hcl
 have hx3:(W.setChan q.ct 1 #[.agg #[]] false (s + 1) r false).heap[q.co]? = some (.chan 1 #[] false s3 r3 false):=(setChan_far _ _ _ _ _ _ _ _ _ n3).trans c3
 have hd2:=chan_close h hb hat C q.ct (.inr (.inl rfl)) (s + 1) (r + 1)
 obtain ⟨bs2,h2,k2⟩:=hd2.open
 have HB:=hide ((show Links W bs _ bs2 from k2).calls (HA _ bs2 h2) rfl)
 have hw2:(W.setChan q.ct 1 #[.agg #[]] false (s + 1) r false).setChan q.ct 1 #[] false (s + 1) (r + 1) false = W.setChan q.ct 1 #[] false (s + 1) (r + 1) false:=setChan_twice _ _ _ _ _ _ _ _ _ _ _ _ _ _
 clear hd2 h2 k2 h hat C HA
 generalize W.setChan q.ct 1 #[.agg #[]] false (s + 1) r false = W1 at *
 refine calls_of_wpB Tryz.func71 rfl ?_
 simp only [Tryz.ntmps71,List.size_toArray,List.length_cons,List.length_nil,Nat.reduceAdd,Nat.reduceSub,Array.replicate_succ,Array.replicate_zero,List.push_toArray,List.append_toArray,List.nil_append,List.cons_append]
 refine wpB_seq (wpB_of_wp ?_)
 have hz1:=zeroMsg W1
 have hz2:=zeroUnit W1
 have hz3:=zeroOrder W1
 go_wp2
 refine wpB_seq ?_
 refine wpB_five rfl (opTo_sel3_1 (s:=s + 1) (r:=r) (v:=.agg #[]) (za:=msgZ.val) (zb:=.agg #[]) (zc:=.agg #[.int .i64 0,.int .i64 0]) (by rfl) (by rfl) (by decide) (by simp [execOp,rcase,Act.eval,hz1,hz2,hz3,go_sem]) hx1 hx2 hx3) (opTo_value (v:=.int .i64 1) (w':=W1.setChan q.ct 1 #[] false (s + 1) (r + 1) false) (by rfl) (by rfl) (by simp [execOp,Act.eval,Act.put,goInt,go_sem])) (opTo_value (v:=.bool false) (w':=W1.setChan q.ct 1 #[] false (s + 1) (r + 1) false) (by rfl) (by rfl) (by simp [execOp,Act.eval,Act.put,goInt,go_sem])) (opTo_value (v:=.bool true) (w':=W1.setChan q.ct 1 #[] false (s + 1) (r + 1) false) (by rfl) (by rfl) (by simp [execOp,Act.eval,Act.put,goInt,go_sem])) (opTo_value (v:=.bool false) (w':=W1.setChan q.ct 1 #[] false (s + 1) (r + 1) false) (by rfl) (by rfl) (by simp [execOp,Act.eval,Act.put,goInt,go_sem])) ?_
 rw [hw2]
 show WpB _ _ _ _ _ _
 refine wpB_of_wp ?_
 walk_nrm
 generalize W.setChan q.ct 1 #[] false (s + 1) (r + 1) false = W2 at *
 go_wp2_with fail
 refine (unhide HB).mono ?_
 rintro o w8 ⟨rfl,hd⟩
 have HE:=hide hd
 clear hd HB
 go_wp2
 go_end0
 exact ⟨rfl,unhide HE⟩
end Go.Proofs.YtceappncglfciaaGreat
