import Derived.Test.YtceappncglfciaaGreatM49
import Derived.Test.YtceappncglfciaaGreatM47
import Derived.Test.YtceappncglfciaaGreatM46
import Derived.Test.YtceappncglfciaaGreatM30
import Derived.Test.YtceappncglfciaaGreatM31
import Derived.Laws.OwnMore
set_option linter.unusedVariables false
set_option linter.unusedSimpArgs false
namespace Go.Proofs.YtceappncglfciaaGreat
open Go.RowKit
attribute [local go_sem ↓] Go.wp_at_zero Go.wp_at_succ
set_option maxRecDepth 100000 in
set_option maxHeartbeats 4000000 in
theorem does_crash (h a b K:Int) (W:World) (pb bt:Nat) (bs:List Nat) (L:Lies) (T:TownM) (hP:PairIn W pb bt bs L T K) (hK:K + 15000 ≤ 4294967294) :
  Calls Tryz.prog 28 #[.pointer (some ⟨pb,0,none⟩),.agg #[.int .i64 5,.int .i64 h,.int .i64 a,.int .i64 b]] W fun o w' => o = .returned (.bool true) ∧ ∃ bs' L' T',PairAt w' bt bs' L' T' ∧ Fits (K + 15000) T' ∧ PLinks W bs L w' bs' L':=by
 have hX:=(Below.refl W.heap.size W).alloc (Nat.le_refl _) (.cells #[.int .i64 5,.int .i64 h,.int .i64 a,.int .i64 b] 72)
 have hS:=Box.new W #[.int .i64 5,.int .i64 h,.int .i64 a,.int .i64 b] 72
 have hP1:=hP.below hX
 have hsb:W.heap.size ∉ bs ++ L.blocks:=fun hm => by
  have:=hP.at_.lt _ hm
  omega
 have HX:=hide hX
 generalize hWs:W.alloc (.cells #[.int .i64 5,.int .i64 h,.int .i64 a,.int .i64 b] 72) = Ws at *
 have HWS:=hide hWs
 have hP2:PairIn Ws.drew pb bt bs L T K:=hP1.below ((Below.refl Ws.heap.size Ws).drew)
 obtain ⟨h2,hfit⟩:=two_crash hP2.at_ hP2.fits hK a
 have p0:Ws.cell? ⟨pb,0,none⟩ = some (.pointer (some ⟨bt,0,none⟩)):=hP1.box.cell 0
 have s0:Ws.cell? ⟨W.heap.size,0,none⟩ = some (.int .i64 5):=hS.cell 0
 have s2:Ws.cell? ⟨W.heap.size,2,none⟩ = some (.int .i64 a):=hS.cell 2
 have s3:Ws.cell? ⟨W.heap.size,3,none⟩ = some (.int .i64 b):=hS.cell 3
 generalize (T.upE a true) = e at *
 generalize (T.crash a) = T' at *
 have HA:=hide h2.1
 have HNEXT:Hid (∀ w1,TDid townRep Ws.drew bt bs w1 T' → Box w1 pb #[.pointer (some ⟨bt,0,none⟩),.pointer (some ⟨L.bt,0,none⟩)] 128 ∧ Box w1 W.heap.size #[.int .i64 5,.int .i64 h,.int .i64 a,.int .i64 b] 72 ∧ Calls Tryz.prog 56 (arg1 a L.bt) w1.drew fun o w' => o = .returned (.int .i64 e) ∧ ∃ bs' L' T',PairAt w' bt bs' L' T' ∧ Fits (K + 15000) T' ∧ PLinks W bs L w' bs' L'):=fun w1 hd => by
  obtain ⟨bs1,hr1,hb1,ha1,hl1⟩:=hP2.at_.left hd
  refine ⟨(hl1.keeps.block pb hP2.box.lt hP2.out).trans hP2.box,(hl1.keeps.block W.heap.size hS.lt hsb).trans hS,?_⟩
  have hb1d:Rep w1.drew L T:=hb1.same (fun _ _ => rfl)
  refine (h2.2 w1.drew hb1d).mono ?_
  rintro o w2 ⟨rfl,he⟩
  have hd2:TDid townRep Ws.drew bt bs w1.drew T':=hd.post ((Below.refl w1.heap.size w1).drew)
  obtain ⟨bs2,L2,hp2,hl2⟩:=hP2.at_.both hd2 he
  exact ⟨rfl,bs2,L2,T',hp2,hfit,(PLinks.of_below bs L ((unhide HX).drew)).trans hl2⟩
 simp only [arg1] at HA HNEXT
 have HNUM:=hide (fun w => num_any e w)
 clear hX hS hP1 hP2 h2 hfit hsb hP HX hWs
 go_enter Tryz.func28,Tryz.ntmps28
 go_upto_region 16 with fail
 rw [unhide HWS]
 go_cut [5] (fun ev wc => ev = .int .i64 e ∧ TDid townRep Ws.drew bt bs wc T')
 case first =>
  go_region_law (go_simp;go_at_call 23;refine (unhide HA).mono ?_;rintro o w1 ⟨rfl,hd⟩;have HD:=hide hd;clear hd)
  all_goals
   go_wp2
   go_meet
   case rel => exact ⟨rfl,unhide HD⟩
 case rest =>
  obtain ⟨rfl,hd⟩:=hcut
  obtain ⟨hbp,hbs,hcall⟩:=unhide HNEXT wc hd
  have q1:wc.cell? ⟨pb,1,none⟩ = some (.pointer (some ⟨L.bt,0,none⟩)):=hbp.cell 1
  have t2:wc.cell? ⟨W.heap.size,2,none⟩ = some (.int .i64 a):=hbs.cell 2
  have t3:wc.cell? ⟨W.heap.size,3,none⟩ = some (.int .i64 b):=hbs.cell 3
  have HB:=hide hcall
  clear hd hbp hbs hcall HNEXT HA p0 s0 s2 s3
  generalize wc = w1 at *
  go_upto_region 17 with fail
  go_region_law (go_simp;go_at_call 56;refine (unhide HB).mono ?_;rintro o w2 ⟨rfl,hd⟩;have HD:=hide hd;clear hd)
  all_goals
   clear HB q1 t2 t3
   go_wp2_with (go_at_call 51;refine (unhide HNUM _).mono ?_;rintro o w5 ⟨rfl,rfl⟩)
   go_ret
   exact ⟨by simp,unhide HD⟩
set_option maxRecDepth 100000 in
set_option maxHeartbeats 4000000 in
theorem does_restart (h a b K:Int) (W:World) (pb bt:Nat) (bs:List Nat) (L:Lies) (T:TownM) (hP:PairIn W pb bt bs L T K) (hK:K + 15000 ≤ 4294967294) :
  Calls Tryz.prog 28 #[.pointer (some ⟨pb,0,none⟩),.agg #[.int .i64 6,.int .i64 h,.int .i64 a,.int .i64 b]] W fun o w' => o = .returned (.bool true) ∧ ∃ bs' L' T',PairAt w' bt bs' L' T' ∧ Fits (K + 15000) T' ∧ PLinks W bs L w' bs' L':=by
 have hX:=(Below.refl W.heap.size W).alloc (Nat.le_refl _) (.cells #[.int .i64 6,.int .i64 h,.int .i64 a,.int .i64 b] 72)
 have hS:=Box.new W #[.int .i64 6,.int .i64 h,.int .i64 a,.int .i64 b] 72
 have hP1:=hP.below hX
 have hsb:W.heap.size ∉ bs ++ L.blocks:=fun hm => by
  have:=hP.at_.lt _ hm
  omega
 have HX:=hide hX
 generalize hWs:W.alloc (.cells #[.int .i64 6,.int .i64 h,.int .i64 a,.int .i64 b] 72) = Ws at *
 have HWS:=hide hWs
 have hP2:PairIn Ws.drew pb bt bs L T K:=hP1.below ((Below.refl Ws.heap.size Ws).drew)
 obtain ⟨h2,hfit⟩:=two_restart hP2.at_ hP2.fits hK a
 have p0:Ws.cell? ⟨pb,0,none⟩ = some (.pointer (some ⟨bt,0,none⟩)):=hP1.box.cell 0
 have s0:Ws.cell? ⟨W.heap.size,0,none⟩ = some (.int .i64 6):=hS.cell 0
 have s2:Ws.cell? ⟨W.heap.size,2,none⟩ = some (.int .i64 a):=hS.cell 2
 have s3:Ws.cell? ⟨W.heap.size,3,none⟩ = some (.int .i64 b):=hS.cell 3
 generalize (T.upE a false) = e at *
 generalize (T.restart a) = T' at *
 have HA:=hide h2.1
 have HNEXT:Hid (∀ w1,TDid townRep Ws.drew bt bs w1 T' → Box w1 pb #[.pointer (some ⟨bt,0,none⟩),.pointer (some ⟨L.bt,0,none⟩)] 128 ∧ Box w1 W.heap.size #[.int .i64 6,.int .i64 h,.int .i64 a,.int .i64 b] 72 ∧ Calls Tryz.prog 57 (arg1 a L.bt) w1.drew fun o w' => o = .returned (.int .i64 e) ∧ ∃ bs' L' T',PairAt w' bt bs' L' T' ∧ Fits (K + 15000) T' ∧ PLinks W bs L w' bs' L'):=fun w1 hd => by
  obtain ⟨bs1,hr1,hb1,ha1,hl1⟩:=hP2.at_.left hd
  refine ⟨(hl1.keeps.block pb hP2.box.lt hP2.out).trans hP2.box,(hl1.keeps.block W.heap.size hS.lt hsb).trans hS,?_⟩
  have hb1d:Rep w1.drew L T:=hb1.same (fun _ _ => rfl)
  refine (h2.2 w1.drew hb1d).mono ?_
  rintro o w2 ⟨rfl,he⟩
  have hd2:TDid townRep Ws.drew bt bs w1.drew T':=hd.post ((Below.refl w1.heap.size w1).drew)
  obtain ⟨bs2,L2,hp2,hl2⟩:=hP2.at_.both hd2 he
  exact ⟨rfl,bs2,L2,T',hp2,hfit,(PLinks.of_below bs L ((unhide HX).drew)).trans hl2⟩
 simp only [arg1] at HA HNEXT
 have HNUM:=hide (fun w => num_any e w)
 clear hX hS hP1 hP2 h2 hfit hsb hP HX hWs
 go_enter Tryz.func28,Tryz.ntmps28
 go_upto_region 19 with fail
 rw [unhide HWS]
 go_cut [5] (fun ev wc => ev = .int .i64 e ∧ TDid townRep Ws.drew bt bs wc T')
 case first =>
  go_region_law (go_simp;go_at_call 24;refine (unhide HA).mono ?_;rintro o w1 ⟨rfl,hd⟩;have HD:=hide hd;clear hd)
  all_goals
   go_wp2
   go_meet
   case rel => exact ⟨rfl,unhide HD⟩
 case rest =>
  obtain ⟨rfl,hd⟩:=hcut
  obtain ⟨hbp,hbs,hcall⟩:=unhide HNEXT wc hd
  have q1:wc.cell? ⟨pb,1,none⟩ = some (.pointer (some ⟨L.bt,0,none⟩)):=hbp.cell 1
  have t2:wc.cell? ⟨W.heap.size,2,none⟩ = some (.int .i64 a):=hbs.cell 2
  have t3:wc.cell? ⟨W.heap.size,3,none⟩ = some (.int .i64 b):=hbs.cell 3
  have HB:=hide hcall
  clear hd hbp hbs hcall HNEXT HA p0 s0 s2 s3
  generalize wc = w1 at *
  go_upto_region 20 with fail
  go_region_law (go_simp;go_at_call 57;refine (unhide HB).mono ?_;rintro o w2 ⟨rfl,hd⟩;have HD:=hide hd;clear hd)
  all_goals
   clear HB q1 t2 t3
   go_wp2_with (go_at_call 51;refine (unhide HNUM _).mono ?_;rintro o w5 ⟨rfl,rfl⟩)
   go_ret
   exact ⟨by simp,unhide HD⟩
set_option maxRecDepth 100000 in
set_option maxHeartbeats 4000000 in
theorem does_arm (h a b K:Int) (W:World) (pb bt:Nat) (bs:List Nat) (L:Lies) (T:TownM) (hP:PairIn W pb bt bs L T K) (hK:K + 15000 ≤ 4294967294) :
  Calls Tryz.prog 28 #[.pointer (some ⟨pb,0,none⟩),.agg #[.int .i64 10,.int .i64 h,.int .i64 a,.int .i64 b]] W fun o w' => o = .returned (.bool true) ∧ ∃ bs' L' T',PairAt w' bt bs' L' T' ∧ Fits (K + 15000) T' ∧ PLinks W bs L w' bs' L':=by
 have hX:=(Below.refl W.heap.size W).alloc (Nat.le_refl _) (.cells #[.int .i64 10,.int .i64 h,.int .i64 a,.int .i64 b] 72)
 have hS:=Box.new W #[.int .i64 10,.int .i64 h,.int .i64 a,.int .i64 b] 72
 have hP1:=hP.below hX
 have hsb:W.heap.size ∉ bs ++ L.blocks:=fun hm => by
  have:=hP.at_.lt _ hm
  omega
 have HX:=hide hX
 generalize hWs:W.alloc (.cells #[.int .i64 10,.int .i64 h,.int .i64 a,.int .i64 b] 72) = Ws at *
 have HWS:=hide hWs
 have hP2:PairIn Ws.drew pb bt bs L T K:=hP1.below ((Below.refl Ws.heap.size Ws).drew)
 obtain ⟨h2,hfit⟩:=two_arm hP2.at_ hP2.fits hK a b
 have p0:Ws.cell? ⟨pb,0,none⟩ = some (.pointer (some ⟨bt,0,none⟩)):=hP1.box.cell 0
 have s0:Ws.cell? ⟨W.heap.size,0,none⟩ = some (.int .i64 10):=hS.cell 0
 have s2:Ws.cell? ⟨W.heap.size,2,none⟩ = some (.int .i64 a):=hS.cell 2
 have s3:Ws.cell? ⟨W.heap.size,3,none⟩ = some (.int .i64 b):=hS.cell 3
 generalize (T.armE a b) = e at *
 generalize (T.arm a b) = T' at *
 have HA:=hide h2.1
 have HNEXT:Hid (∀ w1,TDid townRep Ws.drew bt bs w1 T' → Box w1 pb #[.pointer (some ⟨bt,0,none⟩),.pointer (some ⟨L.bt,0,none⟩)] 128 ∧ Box w1 W.heap.size #[.int .i64 10,.int .i64 h,.int .i64 a,.int .i64 b] 72 ∧ Calls Tryz.prog 58 (arg2 a b L.bt) w1.drew fun o w' => o = .returned (.int .i64 e) ∧ ∃ bs' L' T',PairAt w' bt bs' L' T' ∧ Fits (K + 15000) T' ∧ PLinks W bs L w' bs' L'):=fun w1 hd => by
  obtain ⟨bs1,hr1,hb1,ha1,hl1⟩:=hP2.at_.left hd
  refine ⟨(hl1.keeps.block pb hP2.box.lt hP2.out).trans hP2.box,(hl1.keeps.block W.heap.size hS.lt hsb).trans hS,?_⟩
  have hb1d:Rep w1.drew L T:=hb1.same (fun _ _ => rfl)
  refine (h2.2 w1.drew hb1d).mono ?_
  rintro o w2 ⟨rfl,he⟩
  have hd2:TDid townRep Ws.drew bt bs w1.drew T':=hd.post ((Below.refl w1.heap.size w1).drew)
  obtain ⟨bs2,L2,hp2,hl2⟩:=hP2.at_.both hd2 he
  exact ⟨rfl,bs2,L2,T',hp2,hfit,(PLinks.of_below bs L ((unhide HX).drew)).trans hl2⟩
 simp only [arg2] at HA HNEXT
 have HNUM:=hide (fun w => num_any e w)
 clear hX hS hP1 hP2 h2 hfit hsb hP HX hWs
 go_enter Tryz.func28,Tryz.ntmps28
 go_upto_region 22 with fail
 rw [unhide HWS]
 go_cut [5] (fun ev wc => ev = .int .i64 e ∧ TDid townRep Ws.drew bt bs wc T')
 case first =>
  go_region_law (go_simp;go_at_call 33;refine (unhide HA).mono ?_;rintro o w1 ⟨rfl,hd⟩;have HD:=hide hd;clear hd)
  all_goals
   go_wp2
   go_meet
   case rel => exact ⟨rfl,unhide HD⟩
 case rest =>
  obtain ⟨rfl,hd⟩:=hcut
  obtain ⟨hbp,hbs,hcall⟩:=unhide HNEXT wc hd
  have q1:wc.cell? ⟨pb,1,none⟩ = some (.pointer (some ⟨L.bt,0,none⟩)):=hbp.cell 1
  have t2:wc.cell? ⟨W.heap.size,2,none⟩ = some (.int .i64 a):=hbs.cell 2
  have t3:wc.cell? ⟨W.heap.size,3,none⟩ = some (.int .i64 b):=hbs.cell 3
  have HB:=hide hcall
  clear hd hbp hbs hcall HNEXT HA p0 s0 s2 s3
  generalize wc = w1 at *
  go_upto_region 23 with fail
  go_region_law (go_simp;go_at_call 58;refine (unhide HB).mono ?_;rintro o w2 ⟨rfl,hd⟩;have HD:=hide hd;clear hd)
  all_goals
   clear HB q1 t2 t3
   go_wp2_with (go_at_call 51;refine (unhide HNUM _).mono ?_;rintro o w5 ⟨rfl,rfl⟩)
   go_ret
   exact ⟨by simp,unhide HD⟩
set_option maxRecDepth 100000 in
set_option maxHeartbeats 4000000 in
theorem does_hear (h a b K:Int) (W:World) (pb bt:Nat) (bs:List Nat) (L:Lies) (T:TownM) (hP:PairIn W pb bt bs L T K) (hK:K + 15000 ≤ 4294967294) :
  Calls Tryz.prog 28 #[.pointer (some ⟨pb,0,none⟩),.agg #[.int .i64 11,.int .i64 h,.int .i64 a,.int .i64 b]] W fun o w' => o = .returned (.bool true) ∧ ∃ bs' L' T',PairAt w' bt bs' L' T' ∧ Fits (K + 15000) T' ∧ PLinks W bs L w' bs' L':=by
 have hX:=(Below.refl W.heap.size W).alloc (Nat.le_refl _) (.cells #[.int .i64 11,.int .i64 h,.int .i64 a,.int .i64 b] 72)
 have hS:=Box.new W #[.int .i64 11,.int .i64 h,.int .i64 a,.int .i64 b] 72
 have hP1:=hP.below hX
 have hsb:W.heap.size ∉ bs ++ L.blocks:=fun hm => by
  have:=hP.at_.lt _ hm
  omega
 have HX:=hide hX
 generalize hWs:W.alloc (.cells #[.int .i64 11,.int .i64 h,.int .i64 a,.int .i64 b] 72) = Ws at *
 have HWS:=hide hWs
 have hP2:PairIn Ws.drew pb bt bs L T K:=hP1.below ((Below.refl Ws.heap.size Ws).drew)
 obtain ⟨h2,hfit⟩:=two_hear hP2.at_ hP2.fits hK a
 have p0:Ws.cell? ⟨pb,0,none⟩ = some (.pointer (some ⟨bt,0,none⟩)):=hP1.box.cell 0
 have s0:Ws.cell? ⟨W.heap.size,0,none⟩ = some (.int .i64 11):=hS.cell 0
 have s2:Ws.cell? ⟨W.heap.size,2,none⟩ = some (.int .i64 a):=hS.cell 2
 have s3:Ws.cell? ⟨W.heap.size,3,none⟩ = some (.int .i64 b):=hS.cell 3
 generalize (T.hearE a) = e at *
 generalize (T.hear a) = T' at *
 have HA:=hide h2.1
 have HNEXT:Hid (∀ w1,TDid townRep Ws.drew bt bs w1 T' → Box w1 pb #[.pointer (some ⟨bt,0,none⟩),.pointer (some ⟨L.bt,0,none⟩)] 128 ∧ Box w1 W.heap.size #[.int .i64 11,.int .i64 h,.int .i64 a,.int .i64 b] 72 ∧ Calls Tryz.prog 59 (arg1 a L.bt) w1.drew fun o w' => o = .returned (.int .i64 e) ∧ ∃ bs' L' T',PairAt w' bt bs' L' T' ∧ Fits (K + 15000) T' ∧ PLinks W bs L w' bs' L'):=fun w1 hd => by
  obtain ⟨bs1,hr1,hb1,ha1,hl1⟩:=hP2.at_.left hd
  refine ⟨(hl1.keeps.block pb hP2.box.lt hP2.out).trans hP2.box,(hl1.keeps.block W.heap.size hS.lt hsb).trans hS,?_⟩
  have hb1d:Rep w1.drew L T:=hb1.same (fun _ _ => rfl)
  refine (h2.2 w1.drew hb1d).mono ?_
  rintro o w2 ⟨rfl,he⟩
  have hd2:TDid townRep Ws.drew bt bs w1.drew T':=hd.post ((Below.refl w1.heap.size w1).drew)
  obtain ⟨bs2,L2,hp2,hl2⟩:=hP2.at_.both hd2 he
  exact ⟨rfl,bs2,L2,T',hp2,hfit,(PLinks.of_below bs L ((unhide HX).drew)).trans hl2⟩
 simp only [arg1] at HA HNEXT
 have HNUM:=hide (fun w => num_any e w)
 clear hX hS hP1 hP2 h2 hfit hsb hP HX hWs
 go_enter Tryz.func28,Tryz.ntmps28
 go_upto_region 25 with fail
 rw [unhide HWS]
 go_cut [5] (fun ev wc => ev = .int .i64 e ∧ TDid townRep Ws.drew bt bs wc T')
 case first =>
  go_region_law (go_simp;go_at_call 34;refine (unhide HA).mono ?_;rintro o w1 ⟨rfl,hd⟩;have HD:=hide hd;clear hd)
  all_goals
   go_wp2
   go_meet
   case rel => exact ⟨rfl,unhide HD⟩
 case rest =>
  obtain ⟨rfl,hd⟩:=hcut
  obtain ⟨hbp,hbs,hcall⟩:=unhide HNEXT wc hd
  have q1:wc.cell? ⟨pb,1,none⟩ = some (.pointer (some ⟨L.bt,0,none⟩)):=hbp.cell 1
  have t2:wc.cell? ⟨W.heap.size,2,none⟩ = some (.int .i64 a):=hbs.cell 2
  have t3:wc.cell? ⟨W.heap.size,3,none⟩ = some (.int .i64 b):=hbs.cell 3
  have HB:=hide hcall
  clear hd hbp hbs hcall HNEXT HA p0 s0 s2 s3
  generalize wc = w1 at *
  go_upto_region 26 with fail
  go_region_law (go_simp;go_at_call 59;refine (unhide HB).mono ?_;rintro o w2 ⟨rfl,hd⟩;have HD:=hide hd;clear hd)
  all_goals
   clear HB q1 t2 t3
   go_wp2_with (go_at_call 51;refine (unhide HNUM _).mono ?_;rintro o w5 ⟨rfl,rfl⟩)
   go_ret
   exact ⟨by simp,unhide HD⟩
set_option maxRecDepth 100000 in
set_option maxHeartbeats 4000000 in
theorem does_none (kk h a b K:Int) (W:World) (pb bt:Nat) (bs:List Nat) (L:Lies) (T:TownM) (hP:PairIn W pb bt bs L T K) (n1:¬ kk = 1) (n2:¬ kk = 2) (n3:¬ kk = 3) (n4:¬ kk = 4) (n5:¬ kk = 5) (n6:¬ kk = 6) (n10:¬ kk = 10) (n11:¬ kk = 11) :
  Calls Tryz.prog 28 #[.pointer (some ⟨pb,0,none⟩),.agg #[.int .i64 kk,.int .i64 h,.int .i64 a,.int .i64 b]] W fun o w' => o = .returned (.bool true) ∧ ∃ bs' L' T',PairAt w' bt bs' L' T' ∧ Fits (K + 15000) T' ∧ PLinks W bs L w' bs' L':=by
 have hX:=(Below.refl W.heap.size W).alloc (Nat.le_refl _) (.cells #[.int .i64 kk,.int .i64 h,.int .i64 a,.int .i64 b] 72)
 have HE:Hid (∃ bs' L' T',PairAt (W.alloc (.cells #[.int .i64 kk,.int .i64 h,.int .i64 a,.int .i64 b] 72)) bt bs' L' T' ∧ Fits (K + 15000) T' ∧ PLinks W bs L (W.alloc (.cells #[.int .i64 kk,.int .i64 h,.int .i64 a,.int .i64 b] 72)) bs' L'):=⟨bs,L,T,hP.at_.below hX,hP.fits.mono (by omega),PLinks.of_below bs L hX⟩
 have HNUM:=hide (fun w => num_any 0 w)
 clear hX hP
 go_enter Tryz.func28,Tryz.ntmps28
 go_wp2_with (go_at_call 51;refine (unhide HNUM _).mono ?_;rintro o w5 ⟨rfl,rfl⟩)
 go_ret
 exact ⟨by simp,unhide HE⟩
theorem does_any (kk h a b K:Int) (W:World) (pb bt:Nat) (bs:List Nat) (L:Lies) (T:TownM) (hP:PairIn W pb bt bs L T K) (hK:K + 15000 ≤ 4294967294) :
  Calls Tryz.prog 28 #[.pointer (some ⟨pb,0,none⟩),.agg #[.int .i64 kk,.int .i64 h,.int .i64 a,.int .i64 b]] W fun o w' => o = .returned (.bool true) ∧ ∃ bs' L' T',PairAt w' bt bs' L' T' ∧ Fits (K + 15000) T' ∧ PLinks W bs L w' bs' L':=by
 by_cases n1:kk = 1
 ·subst n1;exact does_deliver h a b K W pb bt bs L T hP hK
 by_cases n2:kk = 2
 ·subst n2;exact does_drop h a b K W pb bt bs L T hP hK
 by_cases n3:kk = 3
 ·subst n3;exact does_copy h a b K W pb bt bs L T hP hK
 by_cases n4:kk = 4
 ·subst n4;exact does_tick h a b K W pb bt bs L T hP hK
 by_cases n5:kk = 5
 ·subst n5;exact does_crash h a b K W pb bt bs L T hP hK
 by_cases n6:kk = 6
 ·subst n6;exact does_restart h a b K W pb bt bs L T hP hK
 by_cases n10:kk = 10
 ·subst n10;exact does_arm h a b K W pb bt bs L T hP hK
 by_cases n11:kk = 11
 ·subst n11;exact does_hear h a b K W pb bt bs L T hP hK
 exact does_none kk h a b K W pb bt bs L T hP n1 n2 n3 n4 n5 n6 n10 n11
end Go.Proofs.YtceappncglfciaaGreat
namespace Go.Proofs.YtceappncglfciaaGreat
open Go.RowKit
section
variable {W w:World} {bt:Nat} {bs:List Nat} {T:TownM} {K:Int}
theorem state_same (i:Int) (hR:townRep.R W bt bs T) (hf:Fits K T) :
  Calls Tryz.prog 20 #[.pointer (some ⟨bt,0,none⟩),.int .i64 i] W fun o w' => o = .returned (.tuple #[.int .i64 (T.stateOf i),.int .i64 (T.upE i true)]) ∧ w' = W:=by
 obtain ⟨pb,P,hr,hs,hev⟩:=hR
 unfold TownM.stateOf
 rw [hs.upE]
 rcases P.up_cases i with ⟨h0,k,rfl,hk,hu⟩ | h0
 ·obtain ⟨b,hb⟩:=hr.block hk
  rw [if_pos h0,h0,Int.toNat_natCast,(hs.ps k hk).state hu]
  exact StateOk k b W bt pb bs P hr (hs.hn hf) hb hu
 ·rw [if_neg h0]
  exact StateNo i W bt pb bs P hr (hs.hn hf) h0
theorem disk_same (i:Int) (hR:townRep.R W bt bs T) (hf:Fits K T) :
  Calls Tryz.prog 21 #[.pointer (some ⟨bt,0,none⟩),.int .i64 i] W fun o w' => o = .returned (.tuple #[.string (strOfNums (T.diskOf i)),.int .i64 (T.isE i)]) ∧ w' = W:=by
 obtain ⟨pb,P,hr,hs,hev⟩:=hR
 unfold TownM.diskOf TownM.isE
 rw [hs.is]
 rcases P.is_cases i with ⟨h0,k,rfl,hk⟩ | h0
 ·obtain ⟨b,hb⟩:=hr.block hk
  rw [if_pos h0,if_pos h0,Int.toNat_natCast,(hs.ps k hk).disk]
  exact DiskOk k b W bt pb bs P hr (hs.hn hf) hb
 ·rw [if_neg (by rw [h0];simp),if_neg (by rw [h0];simp)]
  exact DiskArg i W bt pb bs P hr (hs.hn hf) h0
theorem messages_below (hR:townRep.R W bt bs T) (hf:Fits K T) :
  Calls Tryz.prog 32 #[.pointer (some ⟨bt,0,none⟩)] W fun o w' => ∃ a cap,o = .returned (.slice a T.way.length cap) ∧ w'.ownsRow W.heap.size 133 10 (.slice a T.way.length cap) T.way.length (T.way.flatMap MsgM.cells) ∧ Below W.heap.size W w':=by
 obtain ⟨pb,P,hr,hs,hev⟩:=hR
 have hl:=hs.wayLen hf
 refine (Messages_any W bt pb bs P hr (by omega)).mono ?_
 rintro o w' ⟨v,rfl,h1,h2⟩
 rw [hs.way]
 obtain ⟨a,cap,rfl⟩:=ownsRow_slice h1
 exact ⟨a,cap,rfl,h1,h2⟩
theorem events_below (hR:townRep.R W bt bs T) :
  Calls Tryz.prog 19 #[.pointer (some ⟨bt,0,none⟩)] W fun o w' => ∃ a cap,o = .returned (.slice a T.events.length cap) ∧ w'.ownsRow W.heap.size 49 2 (.slice a T.events.length cap) T.events.length (T.events.flatMap evC) ∧ Below W.heap.size W w':=by
 obtain ⟨pb,P,hr,hs,hev⟩:=hR
 refine (Events_any W bt pb bs P hr hev).mono ?_
 rintro o w' ⟨v,rfl,h1,h2⟩
 rw [hs.events,← evCells_eq]
 obtain ⟨a,cap,rfl⟩:=ownsRow_slice h1
 exact ⟨a,cap,rfl,h1,h2⟩
end
def Told (W:World) (base kb:Nat) (ls:List Nat) (c:Int) (E F:List (Value × Int)) (ve vf:Value) (w':World):Prop :=
 ∃ ls' c' E' F' ve' vf',BookAt w' base kb ls' c' E' F' ve' vf' ∧ (c ≤ c' ∧ c' ≤ c + 1) ∧ E'.length ≤ E.length + 4 ∧ F'.length ≤ F.length + 4 ∧ Keeps (bookFp kb ls ve vf) W w' ∧ ∀ x ∈ bookFp kb ls' ve' vf',x ∈ bookFp kb ls ve vf ∨ W.heap.size ≤ x
section
variable {W w1 w':World} {base kb:Nat} {ls:List Nat} {c:Int} {E F:List (Value × Int)} {ve vf v:Value}
theorem Told.below (h:BookAt W base kb ls c E F ve vf) (hb:Below W.heap.size W w'):Told W base kb ls c E F ve vf w' :=
 ⟨ls,c,E,F,ve,vf,h.below hb,⟨Int.le_refl _,by omega⟩,by omega,by omega,Keeps.of_below hb,fun _ hx => .inl hx⟩
theorem Told.after {ls':List Nat} {c':Int} {E' F':List (Value × Int)} {ve' vf':Value} (hb:Below W.heap.size W w1) (hv:∀ g,v.ownBlock = some g → W.heap.size ≤ g) (hB:BookAt w' base kb ls' c' E' F' ve' vf') (hc:c ≤ c' ∧ c' ≤ c + 1) (hE:E'.length ≤ E.length + 4) (hF:F'.length ≤ F.length + 4)
  (hk:Keeps (bookFp kb ls ve vf ++ v.ownBlock.toList) w1 w') (hn:∀ x ∈ bookFp kb ls' ve' vf',x ∈ bookFp kb ls ve vf ∨ v.ownBlock = some x ∨ w1.heap.size ≤ x):Told W base kb ls c E F ve vf w':=by
 refine ⟨ls',c',E',F',ve',vf',hB,hc,hE,hF,(Keeps.of_below (fp:=bookFp kb ls ve vf) hb).trans hk (fun x hx => ?_),fun x hx => ?_⟩
 ·rcases List.mem_append.1 hx with e | e
  ·exact .inl e
  ·exact .inr (hv x (by simpa using e))
 ·rcases hn x hx with e | e | e
  ·exact .inl e
  ·exact .inr (hv x e)
  ·exact .inr (Nat.le_trans hb.size e)
end
end Go.Proofs.YtceappncglfciaaGreat
namespace Go.Proofs.YtceappncglfciaaGreat
open Go.RowKit
def mixed {α:Type} (a b:List α) (k:Nat):List α:=a.take k ++ b.drop k
section
variable {α:Type} {a b:List α} {k:Nat}
theorem mixed_zero:mixed a b 0 = b:=by simp [mixed]
theorem mixed_all (h:a.length = b.length):mixed a b b.length = a:=by simp [mixed,← h]
theorem mixed_get (h:a.length = b.length) (hk:k < b.length) (d:α):(mixed a b k).getD k d = b.getD k d:=by
 unfold mixed
 rw [List.getD_eq_getElem?_getD,List.getD_eq_getElem?_getD,List.getElem?_append_right (by simp;omega),List.length_take,Nat.min_eq_left (by omega),Nat.sub_self,List.getElem?_drop,Nat.add_zero]
theorem mixed_step (h:a.length = b.length) (hk:k < b.length) (d:α):(mixed a b k).set k (a.getD k d) = mixed a b (k + 1):=by
 unfold mixed
 have e:(a.take k).length = k:=by simp;omega
 rw [List.set_append_right _ _ (by omega),e,Nat.sub_self,List.drop_eq_getElem_cons hk,List.set_cons_zero,List.take_add_one,List.append_assoc,List.getD_eq_getElem?_getD,List.getElem?_eq_getElem (by omega)]
 rfl
end
theorem credLen (c:CredM):(credCells c).length = 4:=rfl
theorem made_zero (n:Nat):(madeCells #[.int .i64 0,.int .i64 0,.int .i64 0,.int .i64 0] (n * 4)).toList = (List.replicate n credZ).flatMap credCells:=by
 apply List.ext_getElem?
 intro i
 have hl:((List.replicate n credZ).flatMap credCells).length = n * 4:=by
  rw [flat_len credCells 4 _ (fun z _ => credLen z),List.length_replicate]
 by_cases hi:i < n * 4
 ·have h1:(madeCells #[.int .i64 0,.int .i64 0,.int .i64 0,.int .i64 0] (n * 4)).toList[i]? = some (.int .i64 0):=by
   unfold madeCells
   simp [hi]
   have:i % 4 < 4:=Nat.mod_lt _ (by omega)
   have:i % 4 = 0 ∨ i % 4 = 1 ∨ i % 4 = 2 ∨ i % 4 = 3:=by omega
   rcases this with e | e | e | e <;> rw [e] <;> rfl
  have h2:=flat_get credCells 4 (List.replicate n credZ) (i / 4) (i % 4) credZ (fun z _ => credLen z) (by rw [List.getElem?_replicate,if_pos (by omega)]) (Nat.mod_lt _ (by omega))
  rw [show i / 4 * 4 + i % 4 = i by omega] at h2
  rw [h1,h2]
  have:i % 4 < 4:=Nat.mod_lt _ (by omega)
  have:i % 4 = 0 ∨ i % 4 = 1 ∨ i % 4 = 2 ∨ i % 4 = 3:=by omega
  rcases this with e | e | e | e <;> rw [e] <;> rfl
 ·rw [List.getElem?_eq_none (by rw [Array.length_toList,size_madeCells];omega),List.getElem?_eq_none (by omega)]
def ConfMay (l:List CredM) (wait lease net:Int):Prop :=
 ((1 ≤ l.length ∧ l.length ≤ 7) ∧ (1 ≤ wait ∧ wait ≤ 20) ∧ (4 ≤ lease ∧ lease ≤ 100) ∧ (1 ≤ net ∧ net ≤ 1000)) ∧ ∀ c ∈ l,c.may l.length
theorem newNo_any (W:World) (g cap:Nat) (l:List CredM) (wait lease net:Int) (cur:Array Value) (t:TypeId) (hlen:l.length ≤ 100000000000000) (h:¬ ConfMay l wait lease net)
  (hg:W.heap[g]? = some (.cells cur t (0,0))) (hcur:cur.toList.take (l.length * 4) = l.flatMap credCells) (hcap:l.length ≤ cap) :
  Calls Tryz.prog 16 #[.agg #[.slice (some ⟨g,0,none⟩) l.length cap,.int .i64 wait,.int .i64 lease,.int .i64 net]] W fun o w' => o = .returned (.tuple #[.pointer none,.int .i64 1]) ∧ Below W.heap.size W w':=by
 refine NewNo W _ _ _ _ _ _ (fun w hb => ?_)
 by_cases h1:((1 ≤ l.length ∧ l.length ≤ 7) ∧ (1 ≤ wait ∧ wait ≤ 20) ∧ (4 ≤ lease ∧ lease ≤ 100) ∧ (1 ≤ net ∧ net ≤ 1000))
 ·have hlt:g < W.heap.size:=(Array.getElem?_eq_some_iff.1 hg).1
  exact confNo2 w g cap l wait lease net h1.1.1 h1.1.2 h1.2.1 h1.2.2.1 h1.2.2.2 (fun hm => h ⟨h1,hm⟩) (conf_of ((hb.block g hlt).trans hg) hcur hcap)
 ·exact confNo1 w _ _ _ wait lease net hlen h1
structure RawC (W:World) (v:Value) (l:List CredM):Prop where
 is:∃ a cap,v = .slice a l.length cap ∧ l.length ≤ cap ∧ (0 < l.length → ∃ g o,a = some ⟨g,o,none⟩ ∧ g < W.heap.size ∧ ∀ i j,i < l.length → j < 4 → W.cell? ⟨g,o + i * 4 + j,none⟩ = (credCells (l.getD i credZ))[j]?)
 len:l.length ≤ 1048576
theorem RawC.below {W w:World} {v:Value} {l:List CredM} (h:RawC W v l) (hb:Below W.heap.size W w):RawC w v l:=by
 obtain ⟨a,cap,h1,h2,h3⟩:=h.is
 refine ⟨⟨a,cap,h1,h2,fun hp => ?_⟩,h.len⟩
 obtain ⟨g,o,h4,h5,h6⟩:=h3 hp
 exact ⟨g,o,h4,Nat.lt_of_lt_of_le h5 hb.size,fun i j hi hj => (World.cell?_of_block (a:=⟨g,o + i * 4 + j,none⟩) (hb.block g h5)).trans (h6 i j hi hj)⟩
theorem RawC.confO {W:World} {a:Option Addr} {cap:Nat} {l:List CredM} (h:RawC W (.slice a l.length cap) l) (hp:0 < l.length):∃ g o,a = some ⟨g,o,none⟩ ∧ ConfAtO W g o cap l:=by
 obtain ⟨a',cap',h1,h2,h3⟩:=h.is
 cases h1
 obtain ⟨g,o,rfl,h5,h6⟩:=h3 hp
 refine ⟨g,o,rfl,h2,h5,fun k j u hk hu => ?_⟩
 have hj:j < 4:=(List.getElem?_eq_some_iff.1 hu).1
 rw [h6 k j hk hj]
 exact hu
theorem dnewNo_any (W:World) (a:Option Addr) (cap:Nat) (l:List CredM) (wait lease net:Int) (h:¬ ConfMay l wait lease net) (hr:RawC W (.slice a l.length cap) l) :
  Calls Tryz.prog 50 #[.agg #[.slice a l.length cap,.int .i64 wait,.int .i64 lease,.int .i64 net]] W fun o w' => o = .returned (.tuple #[.pointer none,.int .i64 1]) ∧ Below W.heap.size W w':=by
 by_cases h1:((1 ≤ l.length ∧ l.length ≤ 7) ∧ (1 ≤ wait ∧ wait ≤ 20) ∧ (4 ≤ lease ∧ lease ≤ 100) ∧ (1 ≤ net ∧ net ≤ 1000))
 ·obtain ⟨g,o,rfl,hc⟩:=hr.confO (by omega)
  refine (dNewAny W g o cap l wait lease net h1.1.1 h1.1.2 h1.2.1 h1.2.2.1 h1.2.2.2 hc).mono ?_
  intro o w' hd
  exact hd.2 (fun hm => h ⟨h1,hm⟩)
 ·have:=hr.len
  exact dNewNo W a _ cap wait lease net (by omega) h1
theorem dnewOk_any (W:World) (a:Option Addr) (cap:Nat) (l:List CredM) (wait lease net:Int) (h:ConfMay l wait lease net) (hr:RawC W (.slice a l.length cap) l) :
  Calls Tryz.prog 50 #[.agg #[.slice a l.length cap,.int .i64 wait,.int .i64 lease,.int .i64 net]] W fun o w' => ∃ L,o = .returned (.tuple #[.pointer (some ⟨L.bt,0,none⟩),.int .i64 0]) ∧ Rep w' L (TownM.new wait lease net l) ∧ Below W.heap.size W w' ∧ ∀ x ∈ L.blocks,W.heap.size ≤ x:=by
 obtain ⟨h1,hm⟩:=h
 obtain ⟨g,o,rfl,hc⟩:=hr.confO (by omega)
 refine (dNewAny W g o cap l wait lease net h1.1.1 h1.1.2 h1.2.1 h1.2.2.1 h1.2.2.2 hc).mono ?_
 intro o w' hd
 exact hd.1 hm
end Go.Proofs.YtceappncglfciaaGreat
