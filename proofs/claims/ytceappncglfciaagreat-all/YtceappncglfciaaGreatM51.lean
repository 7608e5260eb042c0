import Derived.Test.YtceappncglfciaaGreatM50
import Derived.Test.YtceappncglfciaaGreatM47
set_option linter.unusedVariables false
set_option linter.unusedSimpArgs false
namespace Go.Proofs.YtceappncglfciaaGreat
open Go.RowKit
attribute [local go_sem ↓] Go.wp_at_zero Go.wp_at_succ
set_option maxRecDepth 100000 in
set_option maxHeartbeats 4000000 in
theorem asks_messages (h a b K:Int) (W:World) (pb bt:Nat) (bs:List Nat) (L:Lies) (T:TownM) (base kb:Nat) (ls:List Nat) (c:Int) (E F:List (Value × Int)) (ve vf:Value) (hP:PairIn W pb bt bs L T K) (hB:BookAt W base kb ls c E F ve vf)
  (hc:0 ≤ c ∧ c ≤ 1000000) (hE:E.length ≤ 4000000) :
  Calls Tryz.prog 29 #[.pointer (some ⟨kb,0,none⟩),.pointer (some ⟨pb,0,none⟩),.agg #[.int .i64 7,.int .i64 h,.int .i64 a,.int .i64 b]] W fun o w' => o = .returned (.bool true) ∧ Told W base kb ls c E F ve vf w':=by
 have hX:=(Below.refl W.heap.size W).alloc (Nat.le_refl _) (.cells #[.int .i64 7,.int .i64 h,.int .i64 a,.int .i64 b] 72)
 have hS:=Box.new W #[.int .i64 7,.int .i64 h,.int .i64 a,.int .i64 b] 72
 have hP1:=hP.below hX
 have hB1:=hB.below hX
 generalize hWs:W.alloc (.cells #[.int .i64 7,.int .i64 h,.int .i64 a,.int .i64 b] 72) = Ws at *
 have HWS:=hide hWs
 have p0:Ws.cell? ⟨pb,0,none⟩ = some (.pointer (some ⟨bt,0,none⟩)):=hP1.box.cell 0
 have s0:Ws.cell? ⟨W.heap.size,0,none⟩ = some (.int .i64 7):=hS.cell 0
 have HA:=hide (messages_below hP1.at_.a hP1.fits)
 have hwl:=way_le hP1.fits
 have HNEXT:Hid (∀ w1 va vcap,w1.ownsRow Ws.heap.size 133 10 (.slice va T.way.length vcap) T.way.length (T.way.flatMap MsgM.cells) → Below Ws.heap.size Ws w1 →
   w1.cell? ⟨pb,1,none⟩ = some (.pointer (some ⟨L.bt,0,none⟩)) ∧ w1.cell? ⟨L.bt,6,none⟩ = some L.way ∧ Calls Tryz.prog 60 #[.pointer (some ⟨kb,0,none⟩),.slice va T.way.length vcap,L.way] w1 fun o w' => o = .returned (.bool true) ∧ Told W base kb ls c E F ve vf w'):=fun w1 va vcap hv hb => by
  have hP2:=hP1.below hb
  have hB2:=hB1.below hb
  have hbx:Box w1 L.bt _ 131:=hP2.at_.b.town
  have hbase:base ≤ Ws.heap.size:=Nat.le_trans hB1.kb0 (Nat.le_of_lt hB1.box.lt)
  refine ⟨hP2.box.cell 1,hbx.cell 6,?_⟩
  refine (takeM_any w1 base kb ls c E F ve vf T.way _ _ hB2 (row_base hv hbase) hP2.at_.b.way (by omega) (fun g hg hm => ?_) hc hE).mono ?_
  ·have h1:=(hv.lt g hg).1
   have h2:=(hB1.fpLt g hm).2
   omega
  ·rintro o w' ⟨rfl,ls',E',ve',q1,q2,q3,q4⟩
   exact ⟨rfl,Told.after (hX.trans (hb.mono hX.size)) (fun g hg => Nat.le_trans hX.size (hv.lt g hg).1) q1 ⟨by omega,Int.le_refl _⟩ q2 (by omega) q3 q4⟩
 clear hX hS hP1 hB1 hP hB hWs
 go_enter Tryz.func29,Tryz.ntmps29
 go_upto_region 3 with fail
 rw [unhide HWS]
 go_wp2_with (go_at_call 32;refine (unhide HA).mono ?_;rintro o w1 ⟨va,vcap,rfl,hv,hb⟩;obtain ⟨q1,q6,hcall⟩:=unhide HNEXT w1 va vcap hv hb;have HB:=hide hcall;clear hcall hv hb HNEXT HA p0 s0)
 refine (unhide HB).mono ?_
 rintro o w2 ⟨rfl,hd⟩
 have HD:=hide hd
 clear hd HB q1 q6
 go_wp2
 go_ret
 exact ⟨rfl,unhide HD⟩
set_option maxRecDepth 100000 in
set_option maxHeartbeats 4000000 in
theorem asks_events (h a b K:Int) (W:World) (pb bt:Nat) (bs:List Nat) (L:Lies) (T:TownM) (base kb:Nat) (ls:List Nat) (c:Int) (E F:List (Value × Int)) (ve vf:Value) (hP:PairIn W pb bt bs L T K) (hB:BookAt W base kb ls c E F ve vf)
  (hc:0 ≤ c ∧ c ≤ 1000000) (hF:F.length ≤ 4000000) :
  Calls Tryz.prog 29 #[.pointer (some ⟨kb,0,none⟩),.pointer (some ⟨pb,0,none⟩),.agg #[.int .i64 12,.int .i64 h,.int .i64 a,.int .i64 b]] W fun o w' => o = .returned (.bool true) ∧ Told W base kb ls c E F ve vf w':=by
 have hX:=(Below.refl W.heap.size W).alloc (Nat.le_refl _) (.cells #[.int .i64 12,.int .i64 h,.int .i64 a,.int .i64 b] 72)
 have hS:=Box.new W #[.int .i64 12,.int .i64 h,.int .i64 a,.int .i64 b] 72
 have hP1:=hP.below hX
 have hB1:=hB.below hX
 generalize hWs:W.alloc (.cells #[.int .i64 12,.int .i64 h,.int .i64 a,.int .i64 b] 72) = Ws at *
 have HWS:=hide hWs
 have p0:Ws.cell? ⟨pb,0,none⟩ = some (.pointer (some ⟨bt,0,none⟩)):=hP1.box.cell 0
 have s0:Ws.cell? ⟨W.heap.size,0,none⟩ = some (.int .i64 12):=hS.cell 0
 have HA:=hide (events_below hP1.at_.a)
 have hwl:=town_evs hP1.at_.a
 have HNEXT:Hid (∀ w1 va vcap,w1.ownsRow Ws.heap.size 49 2 (.slice va T.events.length vcap) T.events.length (T.events.flatMap evC) → Below Ws.heap.size Ws w1 →
   w1.cell? ⟨pb,1,none⟩ = some (.pointer (some ⟨L.bt,0,none⟩)) ∧ w1.cell? ⟨L.bt,7,none⟩ = some L.ev ∧ Calls Tryz.prog 63 #[.pointer (some ⟨kb,0,none⟩),.slice va T.events.length vcap,L.ev] w1 fun o w' => o = .returned (.bool true) ∧ Told W base kb ls c E F ve vf w'):=fun w1 va vcap hv hb => by
  have hP2:=hP1.below hb
  have hB2:=hB1.below hb
  have hbx:Box w1 L.bt _ 131:=hP2.at_.b.town
  have hbase:base ≤ Ws.heap.size:=Nat.le_trans hB1.kb0 (Nat.le_of_lt hB1.box.lt)
  have hev:=hP2.at_.b.events
  rw [evCells_eq] at hev
  refine ⟨hP2.box.cell 1,hbx.cell 7,?_⟩
  refine (takeE_any w1 base kb ls c E F ve vf T.events _ _ hB2 (row_base hv hbase) hev hwl (fun g hg hm => ?_) hc hF).mono ?_
  ·have h1:=(hv.lt g hg).1
   have h2:=(hB1.fpLt g hm).2
   omega
  ·rintro o w' ⟨rfl,ls',F',vf',q1,q2,q3,q4⟩
   exact ⟨rfl,Told.after (hX.trans (hb.mono hX.size)) (fun g hg => Nat.le_trans hX.size (hv.lt g hg).1) q1 ⟨by omega,Int.le_refl _⟩ (by omega) q2 q3 q4⟩
 clear hX hS hP1 hB1 hP hB hWs
 go_enter Tryz.func29,Tryz.ntmps29
 go_upto_region 14 with fail
 rw [unhide HWS]
 go_wp2_with (go_at_call 19;refine (unhide HA).mono ?_;rintro o w1 ⟨va,vcap,rfl,hv,hb⟩;obtain ⟨q1,q6,hcall⟩:=unhide HNEXT w1 va vcap hv hb;have HB:=hide hcall;clear hcall hv hb HNEXT HA p0 s0)
 refine (unhide HB).mono ?_
 rintro o w2 ⟨rfl,hd⟩
 have HD:=hide hd
 clear hd HB q1 q6
 go_wp2
 go_ret
 exact ⟨rfl,unhide HD⟩
set_option maxRecDepth 100000 in
set_option maxHeartbeats 4000000 in
theorem asks_state (h a b K:Int) (W:World) (pb bt:Nat) (bs:List Nat) (L:Lies) (T:TownM) (base kb:Nat) (ls:List Nat) (c:Int) (E F:List (Value × Int)) (ve vf:Value) (hP:PairIn W pb bt bs L T K) (hB:BookAt W base kb ls c E F ve vf) :
  Calls Tryz.prog 29 #[.pointer (some ⟨kb,0,none⟩),.pointer (some ⟨pb,0,none⟩),.agg #[.int .i64 8,.int .i64 h,.int .i64 a,.int .i64 b]] W fun o w' => o = .returned (.bool true) ∧ Told W base kb ls c E F ve vf w':=by
 have hX:=(Below.refl W.heap.size W).alloc (Nat.le_refl _) (.cells #[.int .i64 8,.int .i64 h,.int .i64 a,.int .i64 b] 72)
 have hS:=Box.new W #[.int .i64 8,.int .i64 h,.int .i64 a,.int .i64 b] 72
 have hP1:=hP.below hX
 generalize hWs:W.alloc (.cells #[.int .i64 8,.int .i64 h,.int .i64 a,.int .i64 b] 72) = Ws at *
 have HWS:=hide hWs
 have p0:Ws.cell? ⟨pb,0,none⟩ = some (.pointer (some ⟨bt,0,none⟩)):=hP1.box.cell 0
 have p1:Ws.cell? ⟨pb,1,none⟩ = some (.pointer (some ⟨L.bt,0,none⟩)):=hP1.box.cell 1
 have s0:Ws.cell? ⟨W.heap.size,0,none⟩ = some (.int .i64 8):=hS.cell 0
 have s2:Ws.cell? ⟨W.heap.size,2,none⟩ = some (.int .i64 a):=hS.cell 2
 have HA:Hid (∀ n,Calls Tryz.prog 20 #[.pointer (some ⟨bt,0,none⟩),.int .i64 a] (Ws.drewN n) fun o w' => o = .returned (.tuple #[.int .i64 (T.stateOf a),.int .i64 (T.upE a true)]) ∧ w' = Ws.drewN n):=fun n => state_same a (hP1.below (below_drewN (Below.refl _ _) n)).at_.a hP1.fits
 have HB:Hid (∀ n,Calls Tryz.prog 61 #[.pointer (some ⟨L.bt,0,none⟩),.int .i64 a] (Ws.drewN n) fun o w' => o = .returned (.tuple #[.int .i64 (T.stateOf a),.int .i64 (T.upE a true)]) ∧ w' = Ws.drewN n):=fun n => dState_any a _ L T (hP1.below (below_drewN (Below.refl _ _) n)).at_.b
 have HT:Hid (∀ n,Told W base kb ls c E F ve vf (Ws.drewN n)):=fun n => Told.below hB (below_drewN hX n)
 generalize T.stateOf a = x at *
 generalize T.upE a true = e at *
 have HNUM:=hide (fun w => num_any e w)
 clear hX hS hP1 hP hB hWs
 go_enter Tryz.func29,Tryz.ntmps29
 go_upto_region 6 with fail
 rw [unhide HWS]
 go_quiet ((go_at_call 20;exact Calls.quiet_of_same (unhide HA _)))
 go_upto_region 7 with fail
 go_quiet ((go_at_call 61;(refine (unhide HB _).mono ?_;rintro e9 w9 ⟨rfl,rfl⟩;exact ⟨rfl,_,rfl⟩)))
 go_wp2_with (go_at_call 51;refine (unhide HNUM _).mono ?_;rintro o w5 ⟨rfl,rfl⟩)
 go_ret
 exact ⟨by simp,unhide HT _⟩
set_option maxRecDepth 100000 in
set_option maxHeartbeats 4000000 in
theorem asks_disk (h a b K:Int) (W:World) (pb bt:Nat) (bs:List Nat) (L:Lies) (T:TownM) (base kb:Nat) (ls:List Nat) (c:Int) (E F:List (Value × Int)) (ve vf:Value) (hP:PairIn W pb bt bs L T K) (hB:BookAt W base kb ls c E F ve vf) :
  Calls Tryz.prog 29 #[.pointer (some ⟨kb,0,none⟩),.pointer (some ⟨pb,0,none⟩),.agg #[.int .i64 9,.int .i64 h,.int .i64 a,.int .i64 b]] W fun o w' => o = .returned (.bool true) ∧ Told W base kb ls c E F ve vf w':=by
 have hX:=(Below.refl W.heap.size W).alloc (Nat.le_refl _) (.cells #[.int .i64 9,.int .i64 h,.int .i64 a,.int .i64 b] 72)
 have hS:=Box.new W #[.int .i64 9,.int .i64 h,.int .i64 a,.int .i64 b] 72
 have hP1:=hP.below hX
 generalize hWs:W.alloc (.cells #[.int .i64 9,.int .i64 h,.int .i64 a,.int .i64 b] 72) = Ws at *
 have HWS:=hide hWs
 have p0:Ws.cell? ⟨pb,0,none⟩ = some (.pointer (some ⟨bt,0,none⟩)):=hP1.box.cell 0
 have p1:Ws.cell? ⟨pb,1,none⟩ = some (.pointer (some ⟨L.bt,0,none⟩)):=hP1.box.cell 1
 have s0:Ws.cell? ⟨W.heap.size,0,none⟩ = some (.int .i64 9):=hS.cell 0
 have s2:Ws.cell? ⟨W.heap.size,2,none⟩ = some (.int .i64 a):=hS.cell 2
 have HA:Hid (∀ n,Calls Tryz.prog 21 #[.pointer (some ⟨bt,0,none⟩),.int .i64 a] (Ws.drewN n) fun o w' => o = .returned (.tuple #[.string (strOfNums (T.diskOf a)),.int .i64 (T.isE a)]) ∧ w' = Ws.drewN n):=fun n => disk_same a (hP1.below (below_drewN (Below.refl _ _) n)).at_.a hP1.fits
 have HB:Hid (∀ n,Calls Tryz.prog 62 #[.pointer (some ⟨L.bt,0,none⟩),.int .i64 a] (Ws.drewN n) fun o w' => o = .returned (.tuple #[.string (strOfNums (T.diskOf a)),.int .i64 (T.isE a)]) ∧ w' = Ws.drewN n):=fun n => dDisk_any a _ L T (hP1.below (below_drewN (Below.refl _ _) n)).at_.b
 have HT:Hid (∀ n,Told W base kb ls c E F ve vf (Ws.drewN n)):=fun n => Told.below hB (below_drewN hX n)
 generalize strOfNums (T.diskOf a) = x at *
 generalize T.isE a = e at *
 have HNUM:=hide (fun w => num_any e w)
 clear hX hS hP1 hP hB hWs
 go_enter Tryz.func29,Tryz.ntmps29
 go_upto_region 10 with fail
 rw [unhide HWS]
 go_quiet ((go_at_call 21;exact Calls.quiet_of_same (unhide HA _)))
 go_upto_region 11 with fail
 go_quiet ((go_at_call 62;(refine (unhide HB _).mono ?_;rintro e9 w9 ⟨rfl,rfl⟩;exact ⟨rfl,_,rfl⟩)))
 go_wp2_with (go_at_call 51;refine (unhide HNUM _).mono ?_;rintro o w5 ⟨rfl,rfl⟩)
 go_ret
 exact ⟨by simp,unhide HT _⟩
set_option maxRecDepth 100000 in
set_option maxHeartbeats 4000000 in
theorem asks_none (kk h a b:Int) (W:World) (pb:Nat) (base kb:Nat) (ls:List Nat) (c:Int) (E F:List (Value × Int)) (ve vf:Value) (hB:BookAt W base kb ls c E F ve vf) (n7:¬ kk = 7) (n8:¬ kk = 8) (n9:¬ kk = 9) (n12:¬ kk = 12) :
  Calls Tryz.prog 29 #[.pointer (some ⟨kb,0,none⟩),.pointer (some ⟨pb,0,none⟩),.agg #[.int .i64 kk,.int .i64 h,.int .i64 a,.int .i64 b]] W fun o w' => o = .returned (.bool true) ∧ Told W base kb ls c E F ve vf w':=by
 have hX:=(Below.refl W.heap.size W).alloc (Nat.le_refl _) (.cells #[.int .i64 kk,.int .i64 h,.int .i64 a,.int .i64 b] 72)
 have HT:=hide (Told.below hB hX)
 clear hX hB
 go_enter Tryz.func29,Tryz.ntmps29
 go_wp2
 go_ret
 exact ⟨rfl,unhide HT⟩
theorem asks_any (kk h a b K:Int) (W:World) (pb bt:Nat) (bs:List Nat) (L:Lies) (T:TownM) (base kb:Nat) (ls:List Nat) (c:Int) (E F:List (Value × Int)) (ve vf:Value) (hP:PairIn W pb bt bs L T K) (hB:BookAt W base kb ls c E F ve vf)
  (hc:0 ≤ c ∧ c ≤ 1000000) (hE:E.length ≤ 4000000) (hF:F.length ≤ 4000000) :
  Calls Tryz.prog 29 #[.pointer (some ⟨kb,0,none⟩),.pointer (some ⟨pb,0,none⟩),.agg #[.int .i64 kk,.int .i64 h,.int .i64 a,.int .i64 b]] W fun o w' => o = .returned (.bool true) ∧ Told W base kb ls c E F ve vf w':=by
 by_cases n7:kk = 7
 ·subst n7;exact asks_messages h a b K W pb bt bs L T base kb ls c E F ve vf hP hB hc hE
 by_cases n8:kk = 8
 ·subst n8;exact asks_state h a b K W pb bt bs L T base kb ls c E F ve vf hP hB
 by_cases n9:kk = 9
 ·subst n9;exact asks_disk h a b K W pb bt bs L T base kb ls c E F ve vf hP hB
 by_cases n12:kk = 12
 ·subst n12;exact asks_events h a b K W pb bt bs L T base kb ls c E F ve vf hP hB hc hF
 exact asks_none kk h a b W pb base kb ls c E F ve vf hB n7 n8 n9 n12
end Go.Proofs.YtceappncglfciaaGreat
namespace Go.Proofs.YtceappncglfciaaGreat
open Go.RowKit
attribute [local go_sem ↓] Go.wp_at_zero Go.wp_at_succ
def Tells (W:World) (o:Ending) (w':World):Prop:=(∃ r,o = .returned (.bool r)) ∧ Below W.heap.size W w'
set_option maxRecDepth 100000 in
set_option maxHeartbeats 4000000 in
theorem early_any (kk h a b K:Int) (W:World) (pb bt:Nat) (bs:List Nat) (L:Lies) (T:TownM) (hP:PairIn W pb bt bs L T K) :
  Calls Tryz.prog 27 #[.pointer (some ⟨pb,0,none⟩),.agg #[.int .i64 kk,.int .i64 h,.int .i64 a,.int .i64 b]] W fun o w' => Tells W o w':=by
 have hX:=(Below.refl W.heap.size W).alloc (Nat.le_refl _) (.cells #[.int .i64 kk,.int .i64 h,.int .i64 a,.int .i64 b] 72)
 have hS:=Box.new W #[.int .i64 kk,.int .i64 h,.int .i64 a,.int .i64 b] 72
 have hP1:=hP.below hX
 have HX:Hid (∀ n,Below W.heap.size W ((W.alloc (.cells #[.int .i64 kk,.int .i64 h,.int .i64 a,.int .i64 b] 72)).drewN n)):=fun n => below_drewN hX n
 generalize hWs:W.alloc (.cells #[.int .i64 kk,.int .i64 h,.int .i64 a,.int .i64 b] 72) = Ws at *
 have HWS:=hide hWs
 have p1:Ws.cell? ⟨pb,1,none⟩ = some (.pointer (some ⟨L.bt,0,none⟩)):=hP1.box.cell 1
 have hbx:Box Ws L.bt _ 131:=hP1.at_.b.town
 have q6:Ws.cell? ⟨L.bt,6,none⟩ = some L.way:=hbx.cell 6
 have s0:Ws.cell? ⟨W.heap.size,0,none⟩ = some (.int .i64 kk):=hS.cell 0
 have s2:Ws.cell? ⟨W.heap.size,2,none⟩ = some (.int .i64 a):=hS.cell 2
 obtain ⟨wa,wcap,hway⟩:=row_shape hP1.at_.b.way
 have hrow:=hP1.at_.b.way
 rw [hway] at q6 hrow
 have hwl:=way_le hP1.fits
 have hcases:(a < 0) ∨ (¬ a < 0 ∧ (T.way.length:Int) ≤ a) ∨ (∃ k:Nat,a = (k:Int) ∧ k < T.way.length):=by
  by_cases h0:a < 0
  ·exact .inl h0
  ·by_cases h1:(T.way.length:Int) ≤ a
   ·exact .inr (.inl ⟨h0,h1⟩)
   ·exact .inr (.inr ⟨a.toNat,by omega,by omega⟩)
 have HROW:=hide hrow
 clear hX hS hP1 hP hWs hbx hway hrow
 have hk2:(kk < 10 ∧ kk = 1) ∨ (kk < 10 ∧ ¬ kk = 1) ∨ ¬ kk < 10:=by omega
 rcases hcases with h0 | ⟨h0,h1⟩ | ⟨k,rfl,hk⟩
 ·have d0:decide (a < 0) = true:=by simp [h0]
  rcases hk2 with ⟨e1,rfl⟩ | ⟨e1,e2⟩ | e1
  all_goals
   go_enter Tryz.func27,Tryz.ntmps27
   go_upto_region 1 with fail
   rw [unhide HWS]
   go_quiet (fail)
   go_wp2
   go_ret
   exact ⟨⟨_,rfl⟩,unhide HX _⟩
 ·have d0:decide (a < 0) = false:=by simp;omega
  have d1:decide ((T.way.length:Int) ≤ a) = true:=by simp [h1]
  rcases hk2 with ⟨e1,rfl⟩ | ⟨e1,e2⟩ | e1
  all_goals
   go_enter Tryz.func27,Tryz.ntmps27
   go_upto_region 1 with fail
   rw [unhide HWS]
   go_quiet (fail)
   go_wp2
   go_ret
   exact ⟨⟨_,rfl⟩,unhide HX _⟩
 ·obtain ⟨g,cap,h1,hgl,hcel⟩:=row_cell msgLen (unhide HROW) hk (by omega) ⟨0,0,0,0,0,⟨0,0,0⟩,0,0⟩
  cases h1
  generalize T.way.getD k ⟨0,0,0,0,0,⟨0,0,0⟩,0,0⟩ = y at hcel
  have m0:Ws.cell? ⟨g,k * 10,none⟩ = some (.int .i64 y.kind):=hcel 0 _ rfl
  have d0:decide ((k:Int) < 0) = false:=by simp
  have d1:decide ((T.way.length:Int) ≤ (k:Int)) = false:=by simp;omega
  have k0:(0:Int) ≤ (k:Int):=by omega
  have kl:(k:Int) < (T.way.length:Int):=by omega
  clear hcel
  rcases hk2 with ⟨e1,rfl⟩ | ⟨e1,e2⟩ | e1
  all_goals
   go_enter Tryz.func27,Tryz.ntmps27
   go_upto_region 1 with fail
   rw [unhide HWS]
   go_quiet (fail)
   go_wp2
   go_ret
   exact ⟨⟨_,rfl⟩,unhide HX _⟩
end Go.Proofs.YtceappncglfciaaGreat
namespace Go.Proofs.YtceappncglfciaaGreat
open Go.RowKit
attribute [local go_sem ↓] Go.wp_at_zero Go.wp_at_succ
structure Row (X:World) (base ob N:Nat) (l:List CredM) (wr:World):Prop where
 row:wr.ownsRow base 39 4 (.slice (some ⟨ob,0,none⟩) N N) N (l.flatMap credCells)
 len:l.length = N
 keeps:Keeps [ob] X wr
section
variable {X wr w2:World} {base ob N k:Nat} {l:List CredM}
theorem Row.set (h:Row X base ob N l wr) (hk:k < N) (y:CredM):Row X base ob N (l.set k y) (wr.setCells ob (k * 4) (credCells y)):=by
 have hfr:=setCells_frame ob (credCells y) (k * 4) wr
 refine ⟨row_store credLen (by rw [h.len];exact hk) h.len h.row,by rw [List.length_set];exact h.len,?_⟩
 refine h.keeps.trans (fp':=[ob]) ⟨hfr.1,hfr.2.1,hfr.2.2.1,by rw [hfr.2.2.2];exact Nat.le_refl _,fun b _ hb => heap_setCells_other ob b (by simpa using hb) (credCells y) (k * 4) wr⟩ (fun x hx => .inl hx)
theorem Row.below (h:Row X base ob N l wr) (hb:Below wr.heap.size wr w2):Row X base ob N l w2 :=
 ⟨own_same h.row (fun b hv => hb.block b (h.row.lt b hv).2),h.len,h.keeps.trans (Keeps.of_below (fp:=[ob]) hb) (fun _ hx => .inl hx)⟩
theorem Row.setX (h:Row X base ob N l wr) {xb:Nat} (hx:xb ≠ ob) (hX:X.heap.size ≤ xb) (o:Nat) (vs:List Value):Row X base ob N l (wr.setCells xb o vs):=by
 have hfr:=setCells_frame xb vs o wr
 refine ⟨own_same h.row (fun b hv => heap_setCells_other xb b (fun e => hx ?_) vs o wr),h.len,?_⟩
 ·have:ob = b:=by simpa [Value.ownBlock] using hv
  omega
 ·refine h.keeps.trans (fp':=[xb]) ⟨hfr.1,hfr.2.1,hfr.2.2.1,by rw [hfr.2.2.2];exact Nat.le_refl _,fun b _ hb => heap_setCells_other xb b (by simpa using hb) vs o wr⟩ (fun x hx2 => .inr ?_)
  rw [List.mem_singleton.1 hx2]
  exact hX
theorem Row.cell (h:Row X base ob N l wr) (hk:k < N):∀ j u,(credCells (l.getD k credZ))[j]? = some u → wr.cell? ⟨ob,k * 4 + j,none⟩ = some u:=by
 obtain ⟨g,cap,h1,hgl,hc⟩:=row_cell credLen h.row (show k < l.length by rw [h.len];exact hk) (by omega) credZ
 cases h1
 exact hc
theorem Row.block (h:Row X base ob N l wr):∃ cur,wr.heap[ob]? = some (.cells cur 39 (0,0)) ∧ cur.toList.take (N * 4) = l.flatMap credCells:=by
 rcases h.row.2 with ⟨h1,_⟩ | ⟨g1,cap1,cur,h1,_,h3,h4,h5,h6,h7⟩
 ·cases h1
 ·cases h1
  have e:l.length * 4 = N * 4:=by rw [h.len]
  refine ⟨cur,h3,?_⟩
  have:=h7
  first
   | exact this
   | (rw [← e];exact this)
theorem Row.frozen (h:Row X base ob N l wr) (j:Nat):wr.frozen? ⟨ob,j,none⟩ = false:=by
 obtain ⟨cur,hb,_⟩:=h.block
 exact Box.frozen (show Box wr ob cur 39 from hb) j
end
def c77:CredM:=⟨77,78,79,80⟩
def c999:CredM:=⟨999,0,0,999⟩
def handed (l:List CredM):List CredM:=l ++ List.replicate 8 c77
theorem handed_len (l:List CredM):(handed l).length = l.length + 8:=by simp [handed]
theorem handed_lt (l:List CredM) {k:Nat} (h:k < l.length):(handed l).getD k credZ = l.getD k credZ:=by
 unfold handed
 rw [List.getD_eq_getElem?_getD,List.getD_eq_getElem?_getD,List.getElem?_append_left h]
theorem handed_ge (l:List CredM) {k:Nat} (h:l.length ≤ k) (h2:k < l.length + 8):(handed l).getD k credZ = c77:=by
 unfold handed
 rw [List.getD_eq_getElem?_getD,List.getElem?_append_right h,List.getElem?_replicate,if_pos (by omega)]
 rfl
section
variable {X wr:World} {base ob k:Nat} {l:List CredM}
theorem Row.first_ge (h:Row X base ob (l.length + 8) (mixed (handed l) (List.replicate (l.length + 8) credZ) k) wr) (hk:l.length ≤ k) (hk2:k < l.length + 8):Row X base ob (l.length + 8) (mixed (handed l) (List.replicate (l.length + 8) credZ) (k + 1)) (wr.setCells ob (k * 4) (credCells c77)):=by
 have e:=mixed_step (a:=handed l) (b:=List.replicate (l.length + 8) credZ) (k:=k) (by rw [handed_len,List.length_replicate]) (by rw [List.length_replicate];exact hk2) credZ
 rw [handed_ge l hk hk2] at e
 have:=h.set hk2 c77
 rwa [e] at this
theorem Row.first_lt {y:CredM} (h:Row X base ob (l.length + 8) ((mixed (handed l) (List.replicate (l.length + 8) credZ) k).set k y) wr) (hk:k < l.length):Row X base ob (l.length + 8) (mixed (handed l) (List.replicate (l.length + 8) credZ) (k + 1)) (wr.setCells ob (k * 4) (credCells (l.getD k credZ))):=by
 have e:=mixed_step (a:=handed l) (b:=List.replicate (l.length + 8) credZ) (k:=k) (by rw [handed_len,List.length_replicate]) (by rw [List.length_replicate];omega) credZ
 rw [handed_lt l hk] at e
 have:=h.set (k:=k) (by omega) (l.getD k credZ)
 rwa [List.set_set,e] at this
theorem Row.last (h:Row X base ob (l.length + 8) (mixed (List.replicate (l.length + 8) c999) (handed l) k) wr) (hk:k < l.length + 8):Row X base ob (l.length + 8) (mixed (List.replicate (l.length + 8) c999) (handed l) (k + 1)) (wr.setCells ob (k * 4) (credCells c999)):=by
 have e:=mixed_step (a:=List.replicate (l.length + 8) c999) (b:=handed l) (k:=k) (by rw [handed_len,List.length_replicate]) (by rw [handed_len];exact hk) credZ
 rw [show (List.replicate (l.length + 8) c999).getD k credZ = c999 by rw [List.getD_eq_getElem?_getD,List.getElem?_replicate,if_pos hk];rfl] at e
 have:=h.set hk c999
 rwa [e] at this
theorem Row.last_cell (h:Row X base ob (l.length + 8) (mixed (List.replicate (l.length + 8) c999) (handed l) k) wr) (hk:k < l.length + 8):∀ j u,(credCells ((handed l).getD k credZ))[j]? = some u → wr.cell? ⟨ob,k * 4 + j,none⟩ = some u:=by
 have:=h.cell hk
 rwa [mixed_get (by rw [handed_len,List.length_replicate]) (by rw [handed_len];exact hk)] at this
end
end Go.Proofs.YtceappncglfciaaGreat
namespace Go.Proofs.YtceappncglfciaaGreat
open Go.RowKit
def PairOr (W:World) (pv:Value) (fp:List Nat) (K:Int):Prop :=
 (pv = .pointer none ∧ fp = []) ∨ ∃ pb bt bs L T,pv = .pointer (some ⟨pb,0,none⟩) ∧ fp = pb :: (bs ++ L.blocks) ∧ PairIn W pb bt bs L T K
section
variable {W w:World} {pv:Value} {fp:List Nat} {K K':Int}
theorem PairOr.lt (h:PairOr W pv fp K):∀ x ∈ fp,x < W.heap.size:=by
 rcases h with ⟨_,rfl⟩ | ⟨pb,bt,bs,L,T,_,rfl,h⟩
 ·exact fun x hx => absurd hx List.not_mem_nil
 ·exact h.lt
theorem PairOr.same (h:PairOr W pv fp K) (hs:∀ x ∈ fp,w.heap[x]? = W.heap[x]?):PairOr w pv fp K:=by
 rcases h with h | ⟨pb,bt,bs,L,T,h1,rfl,h⟩
 ·exact .inl h
 ·exact .inr ⟨pb,bt,bs,L,T,h1,rfl,h.same hs⟩
theorem PairOr.mono (h:PairOr W pv fp K) (hk:K ≤ K'):PairOr W pv fp K':=by
 rcases h with h | ⟨pb,bt,bs,L,T,h1,h2,h⟩
 ·exact .inl h
 ·exact .inr ⟨pb,bt,bs,L,T,h1,h2,h.box,h.at_,h.fits.mono hk,h.out⟩
theorem PairOr.below (h:PairOr W pv fp K) (hb:Below W.heap.size W w):PairOr w pv fp K:=h.same (fun x hx => hb.block x (h.lt x hx))
end
structure Inv (W0:World) (kb:Nat) (pv qv:Value) (K:Int) (n:Nat) (wr:World):Prop where
 ex:∃ fp fq ls c E F ve vf,PairOr wr pv fp K ∧ PairOr wr qv fq K ∧ BookAt wr W0.heap.size kb ls c E F ve vf ∧ ((0 ≤ c ∧ c ≤ (n:Int)) ∧ E.length ≤ 4 * n ∧ F.length ≤ 4 * n) ∧
  (∀ x ∈ fp,x ∉ fq ∧ x ∉ bookFp kb ls ve vf ∧ W0.heap.size ≤ x) ∧ (∀ x ∈ fq,x ∉ fp ∧ x ∉ bookFp kb ls ve vf ∧ W0.heap.size ≤ x)
 below:Below W0.heap.size W0 wr
section
variable {W0 wr w':World} {kb pb:Nat} {pv qv:Value} {K K':Int} {n n':Nat}
theorem Inv.swap (h:Inv W0 kb pv qv K n wr):Inv W0 kb qv pv K n wr:=by
 obtain ⟨fp,fq,ls,c,E,F,ve,vf,h1,h2,h3,h4,h5,h6⟩:=h.ex
 exact ⟨⟨fq,fp,ls,c,E,F,ve,vf,h2,h1,h3,h4,h6,h5⟩,h.below⟩
theorem Inv.mono (h:Inv W0 kb pv qv K n wr) (hk:K ≤ K') (hn:n ≤ n'):Inv W0 kb pv qv K' n' wr:=by
 obtain ⟨fp,fq,ls,c,E,F,ve,vf,h1,h2,h3,h4,h5,h6⟩:=h.ex
 exact ⟨⟨fp,fq,ls,c,E,F,ve,vf,h1.mono hk,h2.mono hk,h3,by omega,h5,h6⟩,h.below⟩
theorem Inv.later (h:Inv W0 kb pv qv K n wr) (hb:Below wr.heap.size wr w'):Inv W0 kb pv qv K n w':=by
 obtain ⟨fp,fq,ls,c,E,F,ve,vf,h1,h2,h3,h4,h5,h6⟩:=h.ex
 exact ⟨⟨fp,fq,ls,c,E,F,ve,vf,h1.below hb,h2.below hb,h3.below hb,h4,h5,h6⟩,h.below.trans (hb.mono h.below.size)⟩
theorem Inv.pair (h:Inv W0 kb (.pointer (some ⟨pb,0,none⟩)) qv K n wr):∃ bt bs L T,PairIn wr pb bt bs L T K ∧ ∀ w' bs' L' T',PairAt w' bt bs' L' T' → Fits (K + 15000) T' → PLinks wr bs L w' bs' L' → Inv W0 kb (.pointer (some ⟨pb,0,none⟩)) qv (K + 15000) n w':=by
 obtain ⟨fp,fq,ls,c,E,F,ve,vf,h1,h2,h3,h4,h5,h6⟩:=h.ex
 rcases h1 with ⟨h1,_⟩ | ⟨pb',bt,bs,L,T,h0,rfl,h1⟩
 ·cases h1
 ·cases h0
  refine ⟨bt,bs,L,T,h1,fun w' bs' L' T' ha hf hl => ?_⟩
  have hmem:∀ x ∈ pb :: (bs' ++ L'.blocks),x ∈ pb :: (bs ++ L.blocks) ∨ wr.heap.size ≤ x:=fun x hx => by
   rcases List.mem_cons.1 hx with e | e
   ·exact .inl (by rw [e];exact List.mem_cons_self)
   ·rcases hl.new x e with e | e
    ·exact .inl (List.mem_cons_of_mem _ e)
    ·exact .inr e
  have hq:∀ x ∈ fq,w'.heap[x]? = wr.heap[x]?:=fun x hx => hl.keeps.block x (h2.lt x hx) (fun e => (h6 x hx).1 (List.mem_cons_of_mem _ e))
  have hbk:∀ x ∈ bookFp kb ls ve vf,w'.heap[x]? = wr.heap[x]?:=fun x hx => hl.keeps.block x (h3.fpLt x hx).2 (fun e => (h5 x (List.mem_cons_of_mem _ e)).2.1 hx)
  refine ⟨⟨pb :: (bs' ++ L'.blocks),fq,ls,c,E,F,ve,vf,.inr ⟨pb,bt,bs',L',T',rfl,rfl,h1.next ha hl hf⟩,(h2.same hq).mono (by omega),h3.same hbk hl.keeps.size,h4,fun x hx => ?_,fun x hx => ?_⟩,?_⟩
  ·rcases hmem x hx with e | e
   ·exact h5 x e
   ·exact ⟨fun e1 => by have:=h2.lt x e1;omega,fun e1 => by have:=(h3.fpLt x e1).2;omega,Nat.le_trans h.below.size e⟩
  ·refine ⟨fun e => ?_,(h6 x hx).2⟩
   rcases hmem x e with e | e
   ·exact (h6 x hx).1 e
   ·have:=h2.lt x hx;omega
  ·refine h.below.trans ⟨hl.keeps.os,hl.keeps.tape,hl.keeps.output,hl.keeps.size,fun k hk => hl.keeps.block k (Nat.lt_of_lt_of_le hk h.below.size) (fun e => ?_)⟩
   have:=(h5 k (List.mem_cons_of_mem _ e)).2.2
   omega
theorem Inv.book (h:Inv W0 kb (.pointer (some ⟨pb,0,none⟩)) qv K n wr):∃ bt bs L T ls c E F ve vf,PairIn wr pb bt bs L T K ∧ BookAt wr W0.heap.size kb ls c E F ve vf ∧ ((0 ≤ c ∧ c ≤ (n:Int)) ∧ E.length ≤ 4 * n ∧ F.length ≤ 4 * n) ∧ (∀ x ∈ pb :: (bs ++ L.blocks),x ∉ bookFp kb ls ve vf) ∧
  ∀ w',Told wr W0.heap.size kb ls c E F ve vf w' → Inv W0 kb (.pointer (some ⟨pb,0,none⟩)) qv K (n + 1) w':=by
 obtain ⟨fp,fq,ls,c,E,F,ve,vf,h1,h2,h3,h4,h5,h6⟩:=h.ex
 have h10:=h1
 rcases h1 with ⟨h1,_⟩ | ⟨pb',bt,bs,L,T,h0,rfl,h1⟩
 ·cases h1
 ·cases h0
  refine ⟨bt,bs,L,T,ls,c,E,F,ve,vf,h1,h3,h4,fun x hx => (h5 x hx).2.1,fun w' ht => ?_⟩
  obtain ⟨ls',c',E',F',ve',vf',hb,hc,hE,hF,hk,hn⟩:=ht
  have hp:∀ x ∈ pb :: (bs ++ L.blocks),w'.heap[x]? = wr.heap[x]?:=fun x hx => hk.block x (h10.lt x hx) (h5 x hx).2.1
  have hq:∀ x ∈ fq,w'.heap[x]? = wr.heap[x]?:=fun x hx => hk.block x (h2.lt x hx) (h6 x hx).2.1
  refine ⟨⟨pb :: (bs ++ L.blocks),fq,ls',c',E',F',ve',vf',h10.same hp,h2.same hq,hb,⟨⟨by omega,by omega⟩,by omega,by omega⟩,fun x hx => ?_,fun x hx => ?_⟩,?_⟩
  ·refine ⟨(h5 x hx).1,fun e => ?_,(h5 x hx).2.2⟩
   rcases hn x e with e | e
   ·exact (h5 x hx).2.1 e
   ·have:=h10.lt x hx;omega
  ·refine ⟨(h6 x hx).1,fun e => ?_,(h6 x hx).2.2⟩
   rcases hn x e with e | e
   ·exact (h6 x hx).2.1 e
   ·have:=h2.lt x hx;omega
  ·refine h.below.trans ⟨hk.os,hk.tape,hk.output,hk.size,fun k hk1 => hk.block k (Nat.lt_of_lt_of_le hk1 h.below.size) (fun e => ?_)⟩
   have:=(h3.fpLt k e).1
   omega
theorem Inv.books (h:Inv W0 kb pv qv K n wr):∃ ls c E F ve vf,BookAt wr W0.heap.size kb ls c E F ve vf ∧ E.length ≤ 4 * n ∧ F.length ≤ 4 * n:=by
 obtain ⟨fp,fq,ls,c,E,F,ve,vf,h1,h2,h3,h4,h5,h6⟩:=h.ex
 exact ⟨ls,c,E,F,ve,vf,h3,h4.2⟩
theorem Inv.cases (h:Inv W0 kb pv qv K n wr):pv = .pointer none ∨ ∃ pb,pv = .pointer (some ⟨pb,0,none⟩):=by
 obtain ⟨fp,fq,ls,c,E,F,ve,vf,h1,h2,h3,h4,h5,h6⟩:=h.ex
 rcases h1 with ⟨h1,_⟩ | ⟨pb,bt,bs,L,T,h0,_,_⟩
 ·exact .inl h1
 ·exact .inr ⟨pb,h0⟩
end
end Go.Proofs.YtceappncglfciaaGreat
