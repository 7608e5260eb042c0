import Derived.Test.YtceappncglfciaaGreatM26
set_option linter.unusedVariables false
set_option linter.unusedSimpArgs false
namespace Go.Proofs.YtceappncglfciaaGreat
open Go.RowKit
attribute [local go_sem ↓] Go.wp_at_zero Go.wp_at_succ
set_option maxRecDepth 100000 in
set_option maxHeartbeats 1000000 in
theorem StateNo (i:Int) (W:World) (bt:Nat) (pb bs:List Nat) (T:PTown) (h:PR W bt pb bs T) (hp:T.ps.length ≤ 7) (hne:T.upE i ≠ 0) :
  Calls Tryz.prog 20 #[.pointer (some ⟨bt,0,none⟩),.int .i64 i] W fun o w' => o = .returned (.tuple #[.int .i64 0,.int .i64 (T.upE i)]) ∧ w' = W:=by
 have HC:=hide (upPeer_none i W bt pb bs T h hp hne)
 have hd:(T.upE i != 0) = true:=by simp [hne]
 obtain ⟨e,he⟩:∃ e,e = T.upE i:=⟨_,rfl⟩
 rw [← he] at HC hd ⊢
 clear h hne he
 go_enter Tryz.func20,Tryz.ntmps20
 go_wp2_with (go_at_call 45;refine (unhide HC).mono ?_;rintro o w2 ⟨rfl,rfl⟩)
 refine bodyPost_ret (v:=.tuple #[.int .i64 0,.int .i64 e]) (by simp [results,Tryz.results20,go_sem]) rfl ?_
 exact ⟨rfl,rfl⟩
set_option maxRecDepth 100000 in
set_option maxHeartbeats 1000000 in
theorem StateOk (k b:Nat) (W:World) (bt:Nat) (pb bs:List Nat) (T:PTown) (h:PR W bt pb bs T) (hp:T.ps.length ≤ 7) (hb:pb[k]? = some b) (hup:(T.peer k).up = true) :
  Calls Tryz.prog 20 #[.pointer (some ⟨bt,0,none⟩),.int .i64 (k:Int)] W fun o w' => o = .returned (.tuple #[.int .i64 (T.peer k).state,.int .i64 0]) ∧ w' = W:=by
 have HC:=hide (upPeer_some k b W bt pb bs T h hp hb hup)
 obtain ⟨q,hat⟩:=h.peerAt hb
 have c68:=hat.f68
 clear h hat
 go_enter Tryz.func20,Tryz.ntmps20
 go_wp2_with (go_at_call 45;refine (unhide HC).mono ?_;rintro o w2 ⟨rfl,rfl⟩)
 refine bodyPost_ret (v:=.tuple #[.int .i64 (T.peer k).state,.int .i64 0]) (by simp [results,Tryz.results20,go_sem]) rfl ?_
 exact ⟨rfl,rfl⟩
set_option maxRecDepth 100000 in
set_option maxHeartbeats 1000000 in
theorem CrashNo (i:Int) (W:World) (bt:Nat) (pb bs:List Nat) (T:PTown) (h:PR W bt pb bs T) (hp:T.ps.length ≤ 7) (hne:T.upE i ≠ 0) :
  Calls Tryz.prog 23 #[.pointer (some ⟨bt,0,none⟩),.int .i64 i] W fun o w' => o = .returned (.int .i64 (T.upE i)) ∧ w' = W:=by
 have HC:=hide (upPeer_none i W bt pb bs T h hp hne)
 have hd:(T.upE i != 0) = true:=by simp [hne]
 obtain ⟨e,he⟩:∃ e,e = T.upE i:=⟨_,rfl⟩
 rw [← he] at HC hd ⊢
 clear h hne he
 go_enter Tryz.func23,Tryz.ntmps23
 go_wp2_with (go_at_call 45;refine (unhide HC).mono ?_;rintro o w2 ⟨rfl,rfl⟩)
 go_ret
 exact ⟨rfl,rfl⟩
set_option maxRecDepth 100000 in
set_option maxHeartbeats 1000000 in
theorem CrashOk (k b:Nat) (W:World) (bt:Nat) (pb bs:List Nat) (T:PTown) (h:PR W bt pb bs T) (hp:T.ps.length ≤ 7) (hb:pb[k]? = some b) (hup:(T.peer k).up = true) :
  Calls Tryz.prog 23 #[.pointer (some ⟨bt,0,none⟩),.int .i64 (k:Int)] W fun o w' => o = .returned (.int .i64 0) ∧ PDid W bt pb bs w' (T.goDown k):=by
 have HC:=hide (upPeer_some k b W bt pb bs T h hp hb hup)
 have HO:=hide (orderDown k b 0 W bt pb bs T h hb)
 clear h
 go_enter Tryz.func23,Tryz.ntmps23
 go_wp2_with (go_at_call 45;refine (unhide HC).mono ?_;rintro o w2 ⟨rfl,rfl⟩)
 refine (unhide HO).mono ?_
 rintro o w8 ⟨rfl,hd⟩
 have HE:=hide hd
 clear hd HO
 go_wp2
 go_ret
 exact ⟨rfl,unhide HE⟩
set_option maxRecDepth 100000 in
set_option maxHeartbeats 1000000 in
theorem HearNo (i:Int) (W:World) (bt:Nat) (pb bs:List Nat) (T:PTown) (h:PR W bt pb bs T) (hp:T.ps.length ≤ 7) (hne:T.upE i ≠ 0) :
  Calls Tryz.prog 34 #[.pointer (some ⟨bt,0,none⟩),.int .i64 i] W fun o w' => o = .returned (.int .i64 (T.upE i)) ∧ w' = W:=by
 have HC:=hide (upPeer_none i W bt pb bs T h hp hne)
 have hd:(T.upE i != 0) = true:=by simp [hne]
 obtain ⟨e,he⟩:∃ e,e = T.upE i:=⟨_,rfl⟩
 rw [← he] at HC hd ⊢
 clear h hne he
 go_enter Tryz.func34,Tryz.ntmps34
 go_wp2_with (go_at_call 45;refine (unhide HC).mono ?_;rintro o w2 ⟨rfl,rfl⟩)
 go_ret
 exact ⟨rfl,rfl⟩
set_option maxRecDepth 100000 in
set_option maxHeartbeats 1000000 in
theorem HearOk (k b:Nat) (W:World) (bt:Nat) (pb bs:List Nat) (T:PTown) (h:PR W bt pb bs T) (hp:T.ps.length ≤ 7) (hb:pb[k]? = some b) (hup:(T.peer k).up = true) (hes:(T.peer k).established = true) (hv:(T.peer k).c.v < 1000000000) (hw:Wr 1 (T.peer k)) (hc:(T.peer k).c.ok) :
  Calls Tryz.prog 34 #[.pointer (some ⟨bt,0,none⟩),.int .i64 (k:Int)] W fun o w' => o = .returned (.int .i64 0) ∧ PDid W bt pb bs w' (T.hearNews k):=by
 have HC:=hide (upPeer_some k b W bt pb bs T h hp hb hup)
 have HO:=hide (orderHear k b 0 W bt pb bs T h hb hw hc (by omega))
 obtain ⟨q,hat⟩:=h.peerAt hb
 have c82:=hat.f82
 rw [hes] at c82
 have c67:=hat.f67
 have d1:decide (1000000000 ≤ (T.peer k).c.v) = false:=by simp;omega
 clear h hat hv hes
 go_enter Tryz.func34,Tryz.ntmps34
 go_wp2_with (go_at_call 45;refine (unhide HC).mono ?_;rintro o w2 ⟨rfl,rfl⟩)
 refine (unhide HO).mono ?_
 rintro o w8 ⟨rfl,hd⟩
 have HE:=hide hd
 clear hd HO
 go_wp2
 go_ret
 exact ⟨rfl,unhide HE⟩
set_option maxRecDepth 100000 in
set_option maxHeartbeats 1000000 in
theorem HearState (k b:Nat) (W:World) (bt:Nat) (pb bs:List Nat) (T:PTown) (h:PR W bt pb bs T) (hp:T.ps.length ≤ 7) (hb:pb[k]? = some b) (hup:(T.peer k).up = true) (hes:(T.peer k).established = false) :
  Calls Tryz.prog 34 #[.pointer (some ⟨bt,0,none⟩),.int .i64 (k:Int)] W fun o w' => o = .returned (.int .i64 5) ∧ w' = W:=by
 have HC:=hide (upPeer_some k b W bt pb bs T h hp hb hup)
 obtain ⟨q,hat⟩:=h.peerAt hb
 have c82:=hat.f82
 have c67:=hat.f67
 rw [hes] at c82
 clear h hat hes
 go_enter Tryz.func34,Tryz.ntmps34
 go_wp2_with (go_at_call 45;refine (unhide HC).mono ?_;rintro o w2 ⟨rfl,rfl⟩)
 go_ret
 exact ⟨rfl,rfl⟩
set_option maxRecDepth 100000 in
set_option maxHeartbeats 1000000 in
theorem HearFull (k b:Nat) (W:World) (bt:Nat) (pb bs:List Nat) (T:PTown) (h:PR W bt pb bs T) (hp:T.ps.length ≤ 7) (hb:pb[k]? = some b) (hup:(T.peer k).up = true) (hes:(T.peer k).established = true) (hv:1000000000 ≤ (T.peer k).c.v) :
  Calls Tryz.prog 34 #[.pointer (some ⟨bt,0,none⟩),.int .i64 (k:Int)] W fun o w' => o = .returned (.int .i64 3) ∧ w' = W:=by
 have HC:=hide (upPeer_some k b W bt pb bs T h hp hb hup)
 obtain ⟨q,hat⟩:=h.peerAt hb
 have c82:=hat.f82
 have c67:=hat.f67
 rw [hes] at c82
 have d1:decide (1000000000 ≤ (T.peer k).c.v) = true:=by simpa using hv
 clear hv
 clear h hat hes
 go_enter Tryz.func34,Tryz.ntmps34
 go_wp2_with (go_at_call 45;refine (unhide HC).mono ?_;rintro o w2 ⟨rfl,rfl⟩)
 go_ret
 exact ⟨rfl,rfl⟩
set_option maxRecDepth 100000 in
set_option maxHeartbeats 1000000 in
theorem ArmArg (i n:Int) (W:World) (bt:Nat) (pb bs:List Nat) (T:PTown) (h:PR W bt pb bs T) (hp:T.ps.length ≤ 7) (hn:¬ (0 ≤ n ∧ n ≤ 28)) :
  Calls Tryz.prog 33 #[.pointer (some ⟨bt,0,none⟩),.int .i64 i,.int .i64 n] W fun o w' => o = .returned (.int .i64 1) ∧ w' = W:=by
 have HI:=hide (within_any n 0 28 W)
 rw [show (decide (0 ≤ n) && decide (n ≤ 28)) = false from by simp;omega] at HI
 clear h
 go_enter Tryz.func33,Tryz.ntmps33
 go_wp2_with (go_at_call 41;refine (unhide HI).mono ?_;rintro o w1 ⟨rfl,rfl⟩)
 go_ret
 exact ⟨rfl,rfl⟩
set_option maxRecDepth 100000 in
set_option maxHeartbeats 1000000 in
theorem ArmNo (i n:Int) (W:World) (bt:Nat) (pb bs:List Nat) (T:PTown) (h:PR W bt pb bs T) (hp:T.ps.length ≤ 7) (hn:0 ≤ n ∧ n ≤ 28) (hne:T.upE i ≠ 0) :
  Calls Tryz.prog 33 #[.pointer (some ⟨bt,0,none⟩),.int .i64 i,.int .i64 n] W fun o w' => o = .returned (.int .i64 (T.upE i)) ∧ w' = W:=by
 have HI:=hide (within_any n 0 28 W)
 rw [show (decide (0 ≤ n) && decide (n ≤ 28)) = true from by simp;omega] at HI
 have HC:=hide (upPeer_none i W bt pb bs T h hp hne)
 have hd:(T.upE i != 0) = true:=by simp [hne]
 obtain ⟨e,he⟩:∃ e,e = T.upE i:=⟨_,rfl⟩
 rw [← he] at HC hd ⊢
 clear h hne he
 go_enter Tryz.func33,Tryz.ntmps33
 go_wp2_with (first | (go_at_call 41;refine (unhide HI).mono ?_;rintro o w1 ⟨rfl,rfl⟩) | (go_at_call 45;refine (unhide HC).mono ?_;rintro o w2 ⟨rfl,rfl⟩))
 go_ret
 exact ⟨rfl,rfl⟩
set_option maxRecDepth 100000 in
set_option maxHeartbeats 1000000 in
theorem ArmOk (k b:Nat) (n:Int) (W:World) (bt:Nat) (pb bs:List Nat) (T:PTown) (h:PR W bt pb bs T) (hp:T.ps.length ≤ 7) (hb:pb[k]? = some b) (hup:(T.peer k).up = true) (hn:0 ≤ n ∧ n ≤ 28) :
  Calls Tryz.prog 33 #[.pointer (some ⟨bt,0,none⟩),.int .i64 (k:Int),.int .i64 n] W fun o w' => o = .returned (.int .i64 0) ∧ PDid W bt pb bs w' (T.armP k n):=by
 have HI:=hide (within_any n 0 28 W)
 rw [show (decide (0 ≤ n) && decide (n ≤ 28)) = true from by simp;omega] at HI
 have HC:=hide (upPeer_some k b W bt pb bs T h hp hb hup)
 have HO:=hide (orderArm k b n W bt pb bs T h hb)
 clear h
 go_enter Tryz.func33,Tryz.ntmps33
 go_wp2_with (first | (go_at_call 41;refine (unhide HI).mono ?_;rintro o w1 ⟨rfl,rfl⟩) | (go_at_call 45;refine (unhide HC).mono ?_;rintro o w2 ⟨rfl,rfl⟩))
 refine (unhide HO).mono ?_
 rintro o w8 ⟨rfl,hd⟩
 have HE:=hide hd
 clear hd HO
 go_wp2
 go_ret
 exact ⟨rfl,unhide HE⟩
set_option maxRecDepth 100000 in
set_option maxHeartbeats 1000000 in
theorem RestartArg (i:Int) (W:World) (bt:Nat) (pb bs:List Nat) (T:PTown) (h:PR W bt pb bs T) (hp:T.ps.length ≤ 7) (hi:T.is i = false) :
  Calls Tryz.prog 24 #[.pointer (some ⟨bt,0,none⟩),.int .i64 i] W fun o w' => o = .returned (.int .i64 1) ∧ w' = W:=by
 have HC:=hide (has_any i W bt pb bs T h hp)
 rw [hi] at HC
 clear h hi
 go_enter Tryz.func24,Tryz.ntmps24
 go_wp2_with (go_at_call 46;refine (unhide HC).mono ?_;rintro o w2 ⟨rfl,rfl⟩)
 go_ret
 exact ⟨rfl,rfl⟩
set_option maxRecDepth 100000 in
set_option maxHeartbeats 1000000 in
theorem RestartUp (k b:Nat) (W:World) (bt:Nat) (pb bs:List Nat) (T:PTown) (h:PR W bt pb bs T) (hp:T.ps.length ≤ 7) (hb:pb[k]? = some b) (hup:(T.peer k).up = true) :
  Calls Tryz.prog 24 #[.pointer (some ⟨bt,0,none⟩),.int .i64 (k:Int)] W fun o w' => o = .returned (.int .i64 2) ∧ w' = W:=by
 have HC:=hide (has_any (k:Int) W bt pb bs T h hp)
 have hk:k < T.ps.length:=(h.at hb).1
 have h1:T.is (k:Int) = true:=by unfold PTown.is;simp [hk]
 rw [h1] at HC
 obtain ⟨bp,capP,c0,hcap,hrow⟩:=h.row
 have r0:=hrow k b hb
 obtain ⟨q,hat⟩:=h.peerAt hb
 have c58:=hat.f58
 rw [hup] at c58
 clear h hat hrow h1 hup
 go_enter Tryz.func24,Tryz.ntmps24
 go_wp2_with (go_at_call 46;refine (unhide HC).mono ?_;rintro o w2 ⟨rfl,rfl⟩)
 go_ret
 exact ⟨rfl,rfl⟩
set_option maxRecDepth 100000 in
set_option maxHeartbeats 1000000 in
theorem RestartOk (k b:Nat) (W:World) (bt:Nat) (pb bs:List Nat) (T:PTown) (h:PR W bt pb bs T) (hp:T.ps.length ≤ 7) (hb:pb[k]? = some b) (hup:(T.peer k).up = false) (hn:T.net ≤ 1000) (hby:BytesL (T.peer k).disk) (hr:0 ≤ (T.peer k).round ∧ (T.peer k).round ≤ 4611686018427387904) :
  Calls Tryz.prog 24 #[.pointer (some ⟨bt,0,none⟩),.int .i64 (k:Int)] W fun o w' => o = .returned (.int .i64 0) ∧ PDid W bt pb bs w' (T.comeUp k):=by
 have HC:=hide (has_any (k:Int) W bt pb bs T h hp)
 have hk:k < T.ps.length:=(h.at hb).1
 have h1:T.is (k:Int) = true:=by unfold PTown.is;simp [hk]
 rw [h1] at HC
 obtain ⟨bp,capP,c0,hcap,hrow⟩:=h.row
 have r0:=hrow k b hb
 obtain ⟨q,hat⟩:=h.peerAt hb
 have c58:=hat.f58
 rw [hup] at c58
 have HO:=hide (orderUp k b 0 W bt pb bs T h hb hp hn hby hr)
 clear h hat hrow h1 hup hby hr
 go_enter Tryz.func24,Tryz.ntmps24
 go_wp2_with (go_at_call 46;refine (unhide HC).mono ?_;rintro o w2 ⟨rfl,rfl⟩)
 refine (unhide HO).mono ?_
 rintro o w8 ⟨rfl,hd⟩
 have HE:=hide hd
 clear hd HO
 go_wp2
 go_ret
 exact ⟨rfl,unhide HE⟩
set_option maxRecDepth 100000 in
set_option maxHeartbeats 1000000 in
theorem DiskArg (i:Int) (W:World) (bt:Nat) (pb bs:List Nat) (T:PTown) (h:PR W bt pb bs T) (hp:T.ps.length ≤ 7) (hi:T.is i = false) :
  Calls Tryz.prog 21 #[.pointer (some ⟨bt,0,none⟩),.int .i64 i] W fun o w' => o = .returned (.tuple #[.string (strOfNums []),.int .i64 1]) ∧ w' = W:=by
 have HC:=hide (has_any i W bt pb bs T h hp)
 rw [hi] at HC
 clear h hi
 go_enter Tryz.func21,Tryz.ntmps21
 go_wp2_with (go_at_call 46;refine (unhide HC).mono ?_;rintro o w2 ⟨rfl,rfl⟩)
 refine bodyPost_ret (v:=.tuple #[.string (strOfNums []),.int .i64 1]) (by simp [results,Tryz.results21,go_sem];rfl) rfl ?_
 exact ⟨rfl,rfl⟩
set_option maxRecDepth 100000 in
set_option maxHeartbeats 1000000 in
theorem DiskOk (k b:Nat) (W:World) (bt:Nat) (pb bs:List Nat) (T:PTown) (h:PR W bt pb bs T) (hp:T.ps.length ≤ 7) (hb:pb[k]? = some b) :
  Calls Tryz.prog 21 #[.pointer (some ⟨bt,0,none⟩),.int .i64 (k:Int)] W fun o w' => o = .returned (.tuple #[.string (strOfNums (T.peer k).disk),.int .i64 0]) ∧ w' = W:=by
 have HC:=hide (has_any (k:Int) W bt pb bs T h hp)
 have hk:k < T.ps.length:=(h.at hb).1
 have h1:T.is (k:Int) = true:=by unfold PTown.is;simp [hk]
 rw [h1] at HC
 obtain ⟨bp,capP,c0,hcap,hrow⟩:=h.row
 have r0:=hrow k b hb
 obtain ⟨q,hat⟩:=h.peerAt hb
 have hdl:(T.peer k).disk.length = 56:=by simpa [byteCells] using hat.box.2
 have hcv:=run_convert_bytes_arg (P:=Tryz.prog) (w:=W) 116 5 Tryz.underlying116 Tryz.underlying5 b 2 56 56 (T.peer k).disk hdl (fun j hj => hat.byte hj) 9 Tryz.underlying9
 clear h hat hrow h1
 go_enter Tryz.func21,Tryz.ntmps21
 go_wp2_with (go_at_call 46;refine (unhide HC).mono ?_;rintro o w2 ⟨rfl,rfl⟩)
 refine bodyPost_ret (v:=.tuple #[.string (strOfNums (T.peer k).disk),.int .i64 0]) (by simp [results,Tryz.results21,go_sem]) rfl ?_
 exact ⟨rfl,rfl⟩
end Go.Proofs.YtceappncglfciaaGreat
namespace Go.Proofs.YtceappncglfciaaGreat
open Go.RowKit
attribute [local go_sem ↓] Go.wp_at_zero Go.wp_at_succ
section
variable {P:Program} {ops:Array Oper} {o:Oper} {a:Act} {w w':World} {K:Act → World → Prop} {Q:Exit → Act → World → Prop} {E:Prop}
theorem step_append_run (hg:o.guard = none) (s x:Operand) (t:TypeId) (hop:o.op = Op.call { callee:=Callee.builtin Builtin.append,args:=#[s,x],argTypes:=#[t,t] }) (v1 v2 r:Value) (hs:a.eval s = v1) (hx:a.eval x = v2)
  (hrun:(Builtin.append_ #[t,t] o.type #[v1,v2]).run P w = .ok r w') (hK:K (a.put o.dst r) w'):if Region.wanted o (yielded ops a.tmps) = true then Oper.wp P o a w K Q else E:=by
 have hw:Region.wanted o (yielded ops a.tmps) = true:=by simp [Region.wanted,hg]
 rw [if_pos hw]
 unfold Oper.wp
 simp [execOp,hop,resolve,invoke,builtin,hs,hx,hrun,Result.andThen]
 exact hK
end
theorem Addr.add_none (g o j:Nat):(⟨g,o,none⟩:Addr).add j = ⟨g,o + j,none⟩:=by unfold Addr.add;split <;> simp_all
section
variable (k m cap g:Nat) (w:World)
theorem del_slice0 (hk:k ≤ m) (hc:m + 1 ≤ cap):(Instr.slice 75 (.slice (some ⟨g,0,none⟩) (m + 1) cap) (some (.int .i64 (k:Int))) (some (.int .i64 ((k:Int) + 1))) (some (.int .i64 ((m:Int) + 1)))).run Tryz.prog w = .ok (.slice (some ⟨g,k * 10,none⟩) 1 (m + 1 - k)) w:=by
 obtain ⟨i0,hi,hz0,hz1,hz2⟩:=info_parts Tryz.infoMsg
 have h1:((m:Int) + 1).toNat = m + 1:=by omega
 have h2:((k:Int) + 1).toNat = k + 1:=by omega
 have h3:¬ (m + 1 = k):=by omega
 have h4:(m:Int) + 1 ≤ (cap:Int):=by omega
 have h5:(0:Int) ≤ (m:Int) + 1:=by omega
 have h6:(0:Int) ≤ (k:Int) + 1:=by omega
 have h7:(k:Int) + 1 ≤ (m:Int) + 1:=by omega
 have h8:(k:Int) ≤ (k:Int) + 1:=by omega
 simp [Instr.slice,Instr.sliceBounds,Instr.sliceBound,run_underlying Tryz.underlying75,sizeOf,typeInfo,hi,hz1,go_sem,h1,h2,h3,h4,h5,h6,h7,h8,Addr.add_none]
theorem del_slice1 (hk:k ≤ m) (hc:m + 1 ≤ cap):(Instr.slice 75 (.slice (some ⟨g,0,none⟩) (m + 1) cap) none (some (.int .i64 (k:Int))) none).run Tryz.prog w = .ok (.slice (some ⟨g,0,none⟩) k cap) w:=by
 obtain ⟨i0,hi,hz0,hz1,hz2⟩:=info_parts Tryz.infoMsg
 have h4:(k:Int) ≤ (cap:Int):=by omega
 have h5:¬ (cap = 0):=by omega
 simp [Instr.slice,Instr.sliceBounds,Instr.sliceBound,run_underlying Tryz.underlying75,sizeOf,typeInfo,hi,hz1,go_sem,h4,h5,Addr.add_none]
 intro h;omega
def delAt (k cap g:Nat):Addr:=if cap = k + 1 then ⟨g,0,none⟩ else ⟨g,(k + 1) * 10,none⟩
theorem del_slice2 (hk:k ≤ m) (hc:m + 1 ≤ cap):(Instr.slice 75 (.slice (some ⟨g,0,none⟩) (m + 1) cap) (some (.int .i64 ((k:Int) + 1))) none none).run Tryz.prog w = .ok (.slice (some (delAt k cap g)) (m - k) (cap - (k + 1))) w:=by
 obtain ⟨i0,hi,hz0,hz1,hz2⟩:=info_parts Tryz.infoMsg
 have h2:((k:Int) + 1).toNat = k + 1:=by omega
 have h6:(0:Int) ≤ (k:Int) + 1:=by omega
 have h7:(k:Int) + 1 ≤ (m:Int) + 1:=by omega
 have h8:m + 1 - (k + 1) = m - k:=by omega
 unfold delAt
 by_cases h5:cap = k + 1
 ·rw [if_pos h5]
  simp [Instr.slice,Instr.sliceBounds,Instr.sliceBound,run_underlying Tryz.underlying75,sizeOf,typeInfo,hi,hz1,go_sem,h2,h5,h6,h7,Addr.add_none]
 ·rw [if_neg h5]
  simp [Instr.slice,Instr.sliceBounds,Instr.sliceBound,run_underlying Tryz.underlying75,sizeOf,typeInfo,hi,hz1,go_sem,h2,h5,h6,h7,Addr.add_none]
theorem del_slice3 (hc:m + 1 ≤ cap):(Instr.slice 75 (.slice (some ⟨g,0,none⟩) m cap) (some (.int .i64 (m:Int))) (some (.int .i64 ((m:Int) + 1))) none).run Tryz.prog w = .ok (.slice (some ⟨g,m * 10,none⟩) 1 (cap - m)) w:=by
 obtain ⟨i0,hi,hz0,hz1,hz2⟩:=info_parts Tryz.infoMsg
 have h2:((m:Int) + 1).toNat = m + 1:=by omega
 have h4:(m:Int) + 1 ≤ (cap:Int):=by omega
 have h5:¬ (cap = m):=by omega
 have h6:(0:Int) ≤ (m:Int) + 1:=by omega
 simp [Instr.slice,Instr.sliceBounds,Instr.sliceBound,run_underlying Tryz.underlying75,sizeOf,typeInfo,hi,hz1,go_sem,h2,h4,h5,h6,Addr.add_none]
theorem len_msgs (l:List MsgM):(l.flatMap MsgM.cells).length = l.length * 10:=by
 induction l with
 | nil => rfl
 | cons m r ih => rw [List.flatMap_cons,List.length_append,ih];simp [MsgM.cells];omega
theorem one_msgs (l:List MsgM):∀ u ∈ l.flatMap MsgM.cells,u.oneCell' = true:=by
 intro u hu
 obtain ⟨m,_,hm⟩:=List.mem_flatMap.1 hu
 simp only [MsgM.cells,List.mem_cons,List.not_mem_nil,or_false] at hm
 rcases hm with rfl | rfl | rfl | rfl | rfl | rfl | rfl | rfl | rfl | rfl <;> rfl
theorem del_append (cur:Array Value) (l:List MsgM) (ty:TypeId) (hg:w.heap[g]? = some (.cells cur 133 (0,0))) (hl:l.length = m + 1) (hk:k ≤ m) (hc:m + 1 ≤ cap) (hs:cur.size = cap * 10) (ht:cur.toList.take ((m + 1) * 10) = l.flatMap MsgM.cells) :
  ∃ cur',(Builtin.append_ #[75,75] ty #[.slice (some ⟨g,0,none⟩) k cap,.slice (some (delAt k cap g)) (m - k) (cap - (k + 1))]).run Tryz.prog w = .ok (.slice (some ⟨g,0,none⟩) m cap) (w.setRow g cur') ∧ cur'.size = cap * 10 ∧ cur'.toList.take (m * 10) = (l.eraseIdx k).flatMap MsgM.cells:=by
 obtain ⟨i0,hi,hz0,hz1,hz2⟩:=info_parts Tryz.infoMsg
 have hkl:k < l.length:=by omega
 have e1:l = l.take k ++ (l[k] :: l.drop (k + 1)):=by rw [List.getElem_cons_drop,List.take_append_drop]
 have e2:l.eraseIdx k = l.take k ++ l.drop (k + 1):=List.eraseIdx_eq_take_drop_succ l k
 obtain ⟨A,hA⟩:∃ A,A = l.take k:=⟨_,rfl⟩
 obtain ⟨B,hB⟩:∃ B,B = l.drop (k + 1):=⟨_,rfl⟩
 have lA:A.length = k:=by rw [hA,List.length_take];omega
 have lB:B.length = m - k:=by rw [hB,List.length_drop];omega
 rw [← hA,← hB] at e1 e2
 have hcl:cur.toList.length = cap * 10:=by simpa using hs
 have ht2:cur.toList = A.flatMap MsgM.cells ++ (l[k].cells ++ (B.flatMap MsgM.cells ++ cur.toList.drop ((m + 1) * 10))):=by
  have hlm:=congrArg (List.flatMap MsgM.cells) e1
  rw [List.flatMap_append,List.flatMap_cons] at hlm
  have h0:=List.take_append_drop ((m + 1) * 10) cur.toList
  rw [ht,hlm] at h0
  rw [← List.append_assoc,← List.append_assoc,List.append_assoc (A.flatMap MsgM.cells)]
  exact h0.symm
 have lc:l[k].cells.length = 10:=rfl
 have lAc:(A.flatMap MsgM.cells).length = k * 10:=by rw [len_msgs,lA]
 have lBc:(B.flatMap MsgM.cells).length = (m - k) * 10:=by rw [len_msgs,lB]
 have hnews:∀ j u,(B.flatMap MsgM.cells)[j]? = some u → w.cell? ((delAt k cap g).add j) = some u:=by
  intro j u hu
  have hj:=(List.getElem?_eq_some_iff.1 hu).1
  have hne:¬ cap = k + 1:=by rw [lBc] at hj;omega
  unfold delAt
  rw [if_neg hne,Addr.add_none,cell_of_row w g _ cur _ (0,0) hg,← Array.getElem?_toList,ht2]
  rw [List.getElem?_append_right (by rw [lAc];omega),lAc,List.getElem?_append_right (by rw [lc];omega),lc,List.getElem?_append_left (by omega)]
  rw [show (k + 1) * 10 + j - k * 10 - 10 = j from by omega]
  exact hu
 have hr:=run_append_room (P:=Tryz.prog) w 75 ty 133 i0 Tryz.underlying75 hi g k cap cur hg (delAt k cap g) (m - k) (cap - (k + 1)) (B.flatMap MsgM.cells) (by rw [lBc,hz1]) hnews (one_msgs B) (by omega) (by rw [lBc,hz1,hs];omega)
 rw [hz1,show k + (m - k) = m from by omega,lBc] at hr
 refine ⟨_,hr,?_,?_⟩
 ·simp only [List.size_toArray,List.length_append,List.length_take,List.length_drop,hcl,lBc];omega
 ·simp only [List.append_assoc]
  rw [e2,List.flatMap_append]
  have h3:cur.toList.take (k * 10) = A.flatMap MsgM.cells:=by rw [ht2,List.take_append_of_le_length (by omega),List.take_of_length_le (by omega)]
  rw [h3,List.take_append,List.take_of_length_le (by omega),lAc,List.take_append_of_le_length (by omega),List.take_of_length_le (by omega)]
def zMsg:List Value:=[.int .i64 0,.int .i64 0,.int .i64 0,.int .i64 0,.int .i64 0,.int .i64 0,.int .i64 0,.int .i64 0,.int .i64 0,.int .i64 0]
theorem del_clear (cur:Array Value) (ty:TypeId) (hg:w.heap[g]? = some (.cells cur 133 (0,0))) (hc:m + 1 ≤ cap) (hs:cur.size = cap * 10) :
  ∃ cur',(Builtin.clear_ #[75] ty #[.slice (some ⟨g,m * 10,none⟩) 1 (cap - m)]).run Tryz.prog w = .ok (.tuple #[]) (w.setRow g cur') ∧ cur'.size = cap * 10 ∧ cur'.toList.take (m * 10) = cur.toList.take (m * 10):=by
 have hz:=zeroMsg w
 have hst:=run_storeCells_at Tryz.prog g (m * 10) 133 zMsg 0 cur w hg (by simp only [zMsg,List.length_cons,List.length_nil];omega) (by simp [zMsg,Value.oneCell'])
 have hcl:cur.toList.length = cap * 10:=by simpa using hs
 have e:(Builtin.zeroCells msgZ.val.cells 1).toList = zMsg:=by kernel_rfl
 have hrun:(Builtin.clear_ #[75] ty #[.slice (some ⟨g,m * 10,none⟩) 1 (cap - m)]).run Tryz.prog w = .ok (.tuple #[]) (w.setRow g (cur.toList.take (m * 10 + 0) ++ zMsg ++ cur.toList.drop (m * 10 + 0 + zMsg.length)).toArray):=by
  simp [Builtin.clear_,run_underlying Tryz.underlying75,hz,e,hst]
 refine ⟨_,hrun,?_,?_⟩
 ·simp only [List.size_toArray,List.length_append,List.length_take,List.length_drop,hcl,zMsg,List.length_cons,List.length_nil];omega
 ·simp only [List.append_assoc,Nat.add_zero]
  rw [List.take_append_of_le_length (by rw [List.length_take];omega),List.take_take,Nat.min_self]
end
end Go.Proofs.YtceappncglfciaaGreat
namespace Go.Proofs.YtceappncglfciaaGreat
open Go.RowKit
attribute [local go_sem ↓] Go.wp_at_zero Go.wp_at_succ
theorem setRow_heap_far (w:World) (g k:Nat) (cur:Array Value) (h:k ≠ g):(w.setRow g cur).heap[k]? = w.heap[k]?:=by
 unfold World.setRow
 simp [Array.getElem?_modify]
 intro e
 exact absurd e.symm h
theorem keeps_setRow (w:World) (g:Nat) (cur:Array Value):Keeps [g] w (w.setRow g cur):=⟨rfl,rfl,rfl,by simp [World.setRow],fun k _ hk => setRow_heap_far w g k cur (by simpa using hk)⟩
set_option maxRecDepth 100000 in
set_option maxHeartbeats 2000000 in
theorem delete_any (k m cap g:Nat) (W:World) (cur:Array Value) (l:List MsgM) (hg:W.heap[g]? = some (.cells cur 133 (0,0))) (hl:l.length = m + 1) (hk:k ≤ m) (hc:m + 1 ≤ cap) (hs:cur.size = cap * 10) (ht:cur.toList.take ((m + 1) * 10) = l.flatMap MsgM.cells) :
  Calls Tryz.prog 85 #[.slice (some ⟨g,0,none⟩) (m + 1) cap,.int .i64 (k:Int),.int .i64 ((k:Int) + 1)] W fun o w' => o = .returned (.slice (some ⟨g,0,none⟩) m cap) ∧ Keeps [g] W w' ∧
   ∃ cur',w'.heap[g]? = some (.cells cur' 133 (0,0)) ∧ cur'.size = cap * 10 ∧ cur'.toList.take (m * 10) = (l.eraseIdx k).flatMap MsgM.cells:=by
 have s0:=fun w => del_slice0 k m cap g w hk hc
 have s1:=fun w => del_slice1 k m cap g w hk hc
 have s2:=fun w => del_slice2 k m cap g w hk hc
 have s3:=fun w => del_slice3 m cap g w hc
 have HA:=hide (fun ty => del_append k m cap g W.drew cur l ty hg hl hk hc hs ht)
 have HC:=hide (fun w cur2 ty h1 h2 => del_clear m cap g w cur2 ty h1 hc h2)
 have hne:((k:Int) == (k:Int) + 1) = false:=by simp;omega
 have HG:=hide hg
 clear hg ht hs
 go_enter Tryz.func85,Tryz.ntmps85
 go_upto_region 5 with fail
 obtain ⟨ca,ra,sa,ta⟩:=unhide HA 75
 have HR:=hide ra
 clear ra HA
 go_region_law ((refine step_append_run (by rfl) _ _ _ (by rfl) _ _ _ (by rfl) (by rfl) (unhide HR) ?_))
 all_goals
  have hga:=setRow_heap W.drew g cur ca 133 (0,0) (unhide HG)
  obtain ⟨cb,rb,sb,tb⟩:=unhide HC _ ca 0 hga sa
  have hgb:=setRow_heap (W.drew.setRow g ca) g ca cb 133 (0,0) hga
  have hkb:Keeps [g] W ((W.drew.setRow g ca).setRow g cb):=((Keeps.of_below (Below.refl W.heap.size W).drew).trans (keeps_setRow _ g ca) (fun x hx => .inl hx)).trans (keeps_setRow _ g cb) (fun x hx => .inl hx)
  have HFIN:Hid (Keeps [g] W ((W.drew.setRow g ca).setRow g cb) ∧ ∃ cur',((W.drew.setRow g ca).setRow g cb).heap[g]? = some (.cells cur' 133 (0,0)) ∧ cur'.size = cap * 10 ∧ cur'.toList.take (m * 10) = (l.eraseIdx k).flatMap MsgM.cells):=⟨hkb,cb,hgb,sb,tb.trans ta⟩
  clear hga hgb hkb sb tb sa ta HR HC HG hl
  go_wp2
  go_ret
  exact ⟨rfl,unhide HFIN⟩
def PTown.removed (T:PTown) (k:Nat):PTown:={ T with way:=T.way.eraseIdx k }
set_option maxRecDepth 100000 in
set_option maxHeartbeats 2000000 in
theorem remove_any (k:Nat) (W:World) (bt:Nat) (pb bs:List Nat) (T:PTown) (h:PR W bt pb bs T) (hk:k < T.way.length) (hn:T.way.length ≤ 1000) :
  Calls Tryz.prog 66 #[.pointer (some ⟨bt,0,none⟩),.int .i64 (k:Int)] W fun o w' => o = .returned (.tuple #[]) ∧ PDid W bt pb bs w' (T.removed k):=by
 obtain ⟨bp,capP,way,ev,hb,hw,he,C⟩:=h.turn
 have n1:way.ownBlock ≠ some bt:=own_ne hw hb (by decide)
 have n2:=own_ne2 hw he (by decide)
 have n3:ev.ownBlock ≠ some bt:=own_ne he hb (by decide)
 obtain ⟨m,hm⟩:∃ m,T.way.length = m + 1:=⟨T.way.length - 1,by omega⟩
 rcases hw.2 with ⟨_,h0⟩ | ⟨g,cap,cur,hv,_,hg,hc,hc2,hs,ht⟩
 ·omega
 have c5:W.cell? ⟨bt,5,none⟩ = some way:=hb.cell 5
 have f5:=hb.frozen 5
 rw [hm] at hc ht hv
 rw [hv] at c5 C n1 n2
 have gb:g ≠ bt:=fun e => n1 (by rw [← e];rfl)
 have HD:=hide (delete_any k m cap g W cur T.way hg hm (by omega) hc hs ht)
 have hlt:=hb.lt
 have HZ:Hid (∀ w' cur',Keeps [g] W w' → w'.heap[g]? = some (.cells cur' 133 (0,0)) → cur'.size = cap * 10 → cur'.toList.take (m * 10) = (T.way.eraseIdx k).flatMap MsgM.cells →
   (w'.cell? ⟨bt,5,none⟩ = some (.slice (some ⟨g,0,none⟩) (m + 1) cap) ∧ w'.frozen? ⟨bt,5,none⟩ = false) ∧ PDid W bt pb bs (w'.setCell ⟨bt,5,none⟩ (.slice (some ⟨g,0,none⟩) m cap)) (T.removed k)):=by
  intro w' cur' kk g2 s2 t2
  have hb2:w'.heap[bt]? = W.heap[bt]?:=kk.block bt hlt (by simpa using gb.symm)
  refine ⟨⟨(World.cell?_of_block hb2).trans c5,(World.frozen?_of_block hb2).trans f5⟩,?_⟩
  have hb3:Box w' bt _ 81:=hb2.trans hb
  have other:∀ j,j ≠ bt → (w'.setCell ⟨bt,5,none⟩ (.slice (some ⟨g,0,none⟩) m cap)).heap[j]? = w'.heap[j]?:=fun j hj => Below.heap_setCell w' _ _ j hj
  have hle:(T.way.eraseIdx k).length = m:=by rw [List.length_eraseIdx,if_pos hk];omega
  refine C _ T.now (.slice (some ⟨g,0,none⟩) m cap) ev (T.way.eraseIdx k) T.events (hb3.set 5 _) ?_ ?_ ?_ ?_ (fun x hx => .inl hx)
  ·rw [hle]
   refine ⟨by rw [len_msgs,hle],.inr ⟨g,cap,cur',rfl,Nat.zero_le _,(other g gb).trans g2,by omega,hc2,s2,t2⟩⟩
  ·refine own_same he (fun x hx => ?_)
   have hlx:=(he.lt x hx).2
   have e1:x ≠ bt:=fun e => n3 (by rw [hx,e])
   have e2:x ≠ g:=fun e => n2 x hx (by rw [e];rfl)
   exact (other x e1).trans (kk.block x hlx (by simpa using e2))
  ·refine ⟨kk.os,kk.tape,kk.output,Nat.le_trans kk.size (by simp),fun x hx hxn => ?_⟩
   simp only [List.mem_cons,List.mem_append,not_or,Option.mem_toList] at hxn
   exact (other x hxn.1).trans (kk.block x hx (by
    simp only [List.mem_cons,List.not_mem_nil,or_false]
    intro e
    exact hxn.2.1 (by rw [e];rfl)))
  ·intro x hx
   exact .inl hx
 clear h hb hw he C n1 n2 n3 hg hs ht hv
 go_enter Tryz.func66,Tryz.ntmps66
 go_wp2_with (go_at_call 85;refine (unhide HD).mono ?_;rintro o w2 ⟨rfl,kk,cur',g2,s2,t2⟩;obtain ⟨⟨z1,z2⟩,hf⟩:=unhide HZ w2 cur' kk g2 s2 t2;have HF:=hide hf;clear hf kk g2 s2 t2)
 go_end0
 exact ⟨rfl,unhide HF⟩
end Go.Proofs.YtceappncglfciaaGreat
