import Derived.Test.YtceappncglfciaaGreatM42
import Derived.Test.YtceappncglfciaaGreatM30
set_option linter.unusedVariables false
set_option linter.unusedSimpArgs false
namespace Go.Proofs.YtceappncglfciaaGreat
open Go.RowKit
attribute [local go_sem ↓] Go.wp_at_zero Go.wp_at_succ
theorem Tryz.dinfoPeer:(Tryz.prog.info? 159).map (fun i => (i.zero,i.size,i.bytes)) = some (some (.agg zPeer),121,864):=by kernel_rfl
structure DBld (W0:World) (bt:Nat) (cv:Value) (wait lease net:Int) (l:List CredM) (k:Nat) (v:Value) (wr:World):Prop where
 town:Box wr bt #[cv,.int .i64 wait,.int .i64 lease,.int .i64 net,v,.int .i64 0,.slice none 0 0,.slice none 0 0] 131
 row:wr.ownsRow W0.heap.size 159 121 v k ((l.take k).flatMap (fun c => (TownM.newPeer c).cells))
 below:Below W0.heap.size W0 wr
 bt:W0.heap.size ≤ bt
section
variable {W0 wr w2 w6:World} {bt k:Nat} {cv v:Value} {wait lease net:Int} {l:List CredM}
theorem DBld.keep (h:DBld W0 bt cv wait lease net l k v wr) (hb:Below wr.heap.size wr w2):DBld W0 bt cv wait lease net l k v w2 :=
 ⟨h.town.keep hb,own_same h.row (fun b hv => hb.block b (h.row.lt b hv).2),h.below.trans (hb.mono h.below.size),h.bt⟩
theorem DBld.rep (h:DBld W0 bt cv wait lease net l l.length v wr) (h1:1 ≤ l.length):∃ bp capP,Rep wr ⟨bt,bp,capP,cv,.slice none 0 0,.slice none 0 0⟩ ⟨wait,lease,net,l.map TownM.newPeer,0,[],[]⟩ ∧ W0.heap.size ≤ bp:=by
 rcases h.row.2 with ⟨_,h0⟩ | ⟨g,cap,cur,hv,hg0,hg,hc,hc2,hs,ht⟩
 ·omega
 refine ⟨g,cap,⟨?_,⟨cur,hg,?_,hs,?_⟩,World.ownsRow_nil _ _ _ _,World.ownsRow_nil _ _ _ _,?_⟩,hg0⟩
 ·have:=h.town
  rw [hv] at this
  simp only [List.length_map]
  exact this
 ·simp only [List.length_map];exact hc
 ·simp only [List.length_map]
  rw [ht,List.take_length,List.flatMap_map]
 ·intro p hp
  obtain ⟨c,_,rfl⟩:=List.mem_map.1 hp
  exact ⟨rfl,rfl,rfl⟩
theorem take_one (l:List CredM) (k:Nat) (h:k < l.length):l.take (k + 1) = l.take k ++ [l.getD k credZ]:=by
 rw [List.take_add_one,List.getElem?_eq_getElem h,List.getD_eq_getElem?_getD,List.getElem?_eq_getElem h]
 rfl
theorem DBld.step {X:World} {g cap:Nat} (h:DBld W0 bt cv wait lease net l k v wr) (hk:k < l.length) (hX:Below wr.heap.size wr X) (hg:X.grownBy w6 v.ownBlock)
  (ho:w6.ownsRow W0.heap.size 159 121 (.slice (some ⟨g,0,none⟩) (k + 1) cap) (k + 1) ((l.take k).flatMap (fun c => (TownM.newPeer c).cells) ++ (TownM.newPeer (l.getD k credZ)).cells)) :
  DBld W0 bt cv wait lease net l (k + 1) (.slice (some ⟨g,0,none⟩) (k + 1) cap) (w6.setCell ⟨bt,4,none⟩ (.slice (some ⟨g,0,none⟩) (k + 1) cap)):=by
 have hbl:=h.town.lt
 have nv:v.ownBlock ≠ some bt:=own_ne h.row h.town (by decide)
 have t6:Box w6 bt #[cv,.int .i64 wait,.int .i64 lease,.int .i64 net,v,.int .i64 0,.slice none 0 0,.slice none 0 0] 131 :=
  (hg.block bt (Nat.lt_of_lt_of_le hbl hX.size) (fun e => nv e.symm)).trans ((hX.block bt hbl).trans h.town)
 have n6:(Value.slice (some ⟨g,0,none⟩) (k + 1) cap).ownBlock ≠ some bt:=own_ne ho t6 (by decide)
 refine ⟨t6.set 4 _,?_,?_,h.bt⟩
 ·rw [take_one l k hk,List.flatMap_append,List.flatMap_singleton]
  exact own_same ho (fun b hb => Below.heap_setCell w6 ⟨bt,4,none⟩ _ b (fun e => n6 (by rw [hb];exact congrArg some e)))
 ·have hbw:=h.below
  refine ⟨hg.os.trans (hX.os.trans hbw.os),hg.tape.trans (hX.tape.trans hbw.tape),hg.output.trans (hX.output.trans hbw.output),Nat.le_trans hbw.size (Nat.le_trans hX.size (Nat.le_trans hg.size (by simp))),fun x hx => ?_⟩
  have hx2:x < wr.heap.size:=Nat.lt_of_lt_of_le hx hbw.size
  have e1:x ≠ bt:=by have:=h.bt;omega
  exact (Below.heap_setCell w6 ⟨bt,4,none⟩ _ x e1).trans ((hg.block x (Nat.lt_of_lt_of_le hx2 hX.size) (fun e => by have:=(h.row.lt x e.symm).1;omega)).trans ((hX.block x hx2).trans (hbw.block x hx)))
end
theorem zPeer_cells:(Value.agg zPeer).cells.size = 121:=by kernel_rfl
def z28:Array Value:=Array.replicate 28 (.int .u8 0)
theorem Tryz.mk28 (w:World):(Instr.makeSlice 116 (.int .i64 28) (.int .i64 28)).run Tryz.prog w = .ok (.slice (some ⟨w.heap.size,0,none⟩) 28 28) (w.alloc (.cells z28 5)):=by kernel_rfl
theorem Tryz.cv28 (w:World):(convert 116 9 (.slice (some ⟨w.heap.size,0,none⟩) 28 28)).run Tryz.prog (w.alloc (.cells z28 5)) = .ok (.string (strOfNums (List.replicate 28 0))) (w.alloc (.cells z28 5)):=by
 refine run_convert_bytes_arg (P:=Tryz.prog) (w:=w.alloc (.cells z28 5)) 116 5 Tryz.underlying116 Tryz.underlying5 w.heap.size 0 28 28 (List.replicate 28 0) rfl (fun j hj => ?_) 9 Tryz.underlying9
 rw [Nat.zero_add]
 rw [(Box.new w z28 5).cell j]
 have h1:z28[j]? = some (.int .u8 0):=by
  unfold z28
  rw [Array.getElem?_replicate,if_pos hj]
 rw [h1,List.getD_eq_getElem?_getD,List.getElem?_replicate,if_pos hj]
 rfl
theorem Tryz.bs2 (w:World) (d:List Int):(Instr.buildSlice 129 1 #[(0,.agg ({ peerZ with disk:=d,armed:=-1 }:PeerM).cells.toArray)]).run Tryz.prog w = .ok (.slice (some ⟨w.heap.size,0,none⟩) 1 1) (w.alloc (.cells ({ peerZ with disk:=d,armed:=-1 }:PeerM).cells.toArray 159)):=by kernel_rfl
theorem wp_bs {o:Oper} {a:Act} {w:World} {K:Act → World → Prop} {Q:Exit → Act → World → Prop} {x:Operand} {d:List Int} {pn:PeerM} (hp:pn = { peerZ with disk:=d,armed:=-1 }) (N:Nat) (hN:w.heap.size = N) (ho:o.op = .buildSlice 129 1 #[(0,x)]) (hx:a.eval x = .agg pn.cells.toArray)
  (h:K (a.put o.dst (.slice (some ⟨N,0,none⟩) 1 1)) (w.alloc (.cells pn.cells.toArray 159))):o.wp Tryz.prog a w K Q:=by
 have e:((#[(0,x)]:Array (Nat × Operand)).map fun (i,x) => (i,a.eval x)) = #[(0,.agg ({ peerZ with disk:=d,armed:=-1 }:PeerM).cells.toArray)]:=by
  rw [← hp]
  simp [hx]
 rw [← hN,hp] at h
 unfold Oper.wp execOp
 simp only [ho,Sem.run_bind]
 rw [e]
 simp only [Tryz.bs2,Result.andThen_ok]
 exact h
structure ConfAtO (W:World) (g ro cap:Nat) (l:List CredM):Prop where
 cap:l.length ≤ cap
 lt:g < W.heap.size
 cell:∀ k j u,k < l.length → [Value.int .i64 (l.getD k credZ).p,.int .i64 (l.getD k credZ).t,.int .i64 (l.getD k credZ).e,.int .i64 (l.getD k credZ).v][j]? = some u → W.cell? ⟨g,ro + k * 4 + j,none⟩ = some u
theorem ConfAtO.below {W W':World} {g ro cap:Nat} {l:List CredM} (h:ConfAtO W g ro cap l) (hb:Below W.heap.size W W'):ConfAtO W' g ro cap l :=
 ⟨h.cap,Nat.lt_of_lt_of_le h.lt hb.size,fun k j u hk hu => (World.cell?_of_block (a:=⟨g,ro + k * 4 + j,none⟩) (hb.block g h.lt)).trans (h.cell k j u hk hu)⟩
def DNews (W:World) (wait lease net:Int) (l:List CredM) (o:Ending) (w':World):Prop :=
 ((∀ c ∈ l,c.may l.length) → ∃ L,o = .returned (.tuple #[.pointer (some ⟨L.bt,0,none⟩),.int .i64 0]) ∧ Rep w' L (TownM.new wait lease net l) ∧ Below W.heap.size W w' ∧ ∀ x ∈ L.blocks,W.heap.size ≤ x) ∧
 ((¬ ∀ c ∈ l,c.may l.length) → o = .returned (.tuple #[.pointer none,.int .i64 1]) ∧ Below W.heap.size W w')
set_option maxRecDepth 100000 in
set_option maxHeartbeats 4000000 in
theorem dNewAny (W:World) (g ro cap:Nat) (l:List CredM) (wait lease net:Int) (h1:1 ≤ l.length) (h7:l.length ≤ 7) (hw:1 ≤ wait ∧ wait ≤ 20) (hle:4 ≤ lease ∧ lease ≤ 100) (hne:1 ≤ net ∧ net ≤ 1000) (hc:ConfAtO W g ro cap l) :
  Calls Tryz.prog 50 #[.agg #[.slice (some ⟨g,ro,none⟩) l.length cap,.int .i64 wait,.int .i64 lease,.int .i64 net]] W fun o w' => DNews W wait lease net l o w':=by
 have hcap:=hc.cap
 have hlg:=hc.lt
 have HC:=hide hc
 have hX:=(Below.refl W.heap.size W).alloc (Nat.le_refl _) (.cells #[.slice (some ⟨g,ro,none⟩) l.length cap,.int .i64 wait,.int .i64 lease,.int .i64 net] 24)
 have hBX:Box (W.alloc (.cells #[.slice (some ⟨g,ro,none⟩) l.length cap,.int .i64 wait,.int .i64 lease,.int .i64 net] 24)) W.heap.size #[.slice (some ⟨g,ro,none⟩) l.length cap,.int .i64 wait,.int .i64 lease,.int .i64 net] 24:=Box.new _ _ _
 have HX:=hide hX
 have HBX:=hide hBX
 obtain ⟨w0,w9⟩:=hw
 obtain ⟨e0,e9⟩:=hle
 obtain ⟨n0,n9⟩:=hne
 have d1:decide ((l.length:Int) < 1) = false:=by simp;omega
 have d2:decide (7 < (l.length:Int)) = false:=by simp;omega
 have d3:decide (wait < 1) = false:=by simp;omega
 have d4:decide (20 < wait) = false:=by simp;omega
 have d5:decide (lease < 4) = false:=by simp;omega
 have d6:decide (100 < lease) = false:=by simp;omega
 have d7:decide (net < 1) = false:=by simp;omega
 have d8:decide (1000 < net) = false:=by simp;omega
 have hX2:=(Below.refl (W.alloc (.cells #[.slice (some ⟨g,ro,none⟩) l.length cap,.int .i64 wait,.int .i64 lease,.int .i64 net] 24)).heap.size (W.alloc (.cells #[.slice (some ⟨g,ro,none⟩) l.length cap,.int .i64 wait,.int .i64 lease,.int .i64 net] 24))).alloc (Nat.le_refl _) (.cells #[.slice (some ⟨g,ro,none⟩) l.length cap,.int .i64 wait,.int .i64 lease,.int .i64 net,.slice none 0 0,.int .i64 0,.slice none 0 0,.slice none 0 0] 131)
 have hD0:DBld W (W.heap.size + 1) (.slice (some ⟨g,ro,none⟩) l.length cap) wait lease net l 0 (.slice none 0 0) ((W.alloc (.cells #[.slice (some ⟨g,ro,none⟩) l.length cap,.int .i64 wait,.int .i64 lease,.int .i64 net] 24)).alloc (.cells #[.slice (some ⟨g,ro,none⟩) l.length cap,.int .i64 wait,.int .i64 lease,.int .i64 net,.slice none 0 0,.int .i64 0,.slice none 0 0,.slice none 0 0] 131)):=by
  refine ⟨?_,World.ownsRow_nil _ _ _ _,hX.trans (hX2.mono hX.size),by omega⟩
  have:=Box.new (W.alloc (.cells #[.slice (some ⟨g,ro,none⟩) l.length cap,.int .i64 wait,.int .i64 lease,.int .i64 net] 24)) #[.slice (some ⟨g,ro,none⟩) l.length cap,.int .i64 wait,.int .i64 lease,.int .i64 net,.slice none 0 0,.int .i64 0,.slice none 0 0,.slice none 0 0] 131
  rw [World.size_alloc] at this
  exact this
 have HD0:=hide hD0
 have HBX2:=hide (hBX.keep hX2)
 clear hX hBX hc hX2 hD0
 go_enter Tryz.func50,Tryz.ntmps50
 go_upto_region 5 with fail
 generalize ((W.alloc (.cells #[.slice (some ⟨g,ro,none⟩) l.length cap,.int .i64 wait,.int .i64 lease,.int .i64 net] 24)).alloc (.cells #[.slice (some ⟨g,ro,none⟩) l.length cap,.int .i64 wait,.int .i64 lease,.int .i64 net,.slice none 0 0,.int .i64 0,.slice none 0 0,.slice none 0 0] 131)) = w2 at *
 obtain ⟨bt,hbt⟩:∃ bt,bt = W.heap.size + 1:=⟨_,rfl⟩
 obtain ⟨gf,hgf⟩:∃ gf,gf = W.heap.size:=⟨_,rfl⟩
 rw [← hbt] at HD0 ⊢
 rw [← hgf] at HBX2
 have HBT:=hide hbt
 have HGF:=hide hgf
 have hne1:gf ≠ bt:=by omega
 have hne2:bt ≠ gf:=by omega
 rw [← hgf]
 clear hbt hgf HX HBX
 go_wp2_with fail
 go_loopw [6] (fun cx wr => ∃ (k:Nat) (v:Value),k ≤ l.length ∧ cx = .int .i64 (k:Int) ∧ (∀ j,j < k → (l.getD j credZ).may l.length) ∧ DBld W bt (.slice (some ⟨g,ro,none⟩) l.length cap) wait lease net l k v wr ∧ Box wr gf #[.slice (some ⟨g,ro,none⟩) l.length cap,.int .i64 wait,.int .i64 lease,.int .i64 net] 24) (fun cx _ => l.length - (RowKit.intOf cx).toNat)
 case atStart => exact ⟨0,_,Nat.zero_le _,rfl,fun j hj => absurd hj (Nat.not_lt_zero _),unhide HD0,unhide HBX2⟩
 case round =>
  obtain ⟨k,v,hk,rfl,hall,hD,hbx⟩:=hrel
  clear HD0 HBX2
  by_cases hkn:k = l.length
  ·subst hkn
   have HM:Hid (∀ c ∈ l,c.may l.length):=fun c hcl => by
    obtain ⟨j,hj,hje⟩:=List.getElem_of_mem hcl
    have:=hall j (by omega)
    rw [List.getD_eq_getElem?_getD,List.getElem?_eq_getElem hj] at this
    rw [← hje]
    exact this
   clear hall
   obtain ⟨bp,capP,hr0,hbp⟩:=hD.rep h1
   obtain ⟨L,hL⟩:∃ L:Lies,L = ⟨bt,bp,capP,.slice (some ⟨g,ro,none⟩) l.length cap,.slice none 0 0,.slice none 0 0⟩:=⟨_,rfl⟩
   obtain ⟨T0,hT0⟩:∃ T0:TownM,T0 = ⟨wait,lease,net,l.map TownM.newPeer,0,[],[]⟩:=⟨_,rfl⟩
   rw [← hL,← hT0] at hr0
   have hok:∀ c ∈ l,c.ok:=fun c hc => CredM.may_ok h7 (unhide HM c hc)
   have hf0:Fits 1 T0:=by
    rw [hT0]
    exact ⟨by simpa using ⟨h1,h7⟩,⟨w0,w9⟩,⟨e0,e9⟩,⟨n0,n9⟩,t01,by simp;omega,fun m hm => absurd hm List.not_mem_nil,fun p hp => by
     obtain ⟨c,hcl,rfl⟩:=List.mem_map.1 hp
     exact newPeer_ok (by simpa using h1) (hok c hcl)⟩
   have hl0:T0.ps.length = l.length:=by rw [hT0];simp
   have hLbt:L.bt = bt:=by rw [hL]
   have hLb:∀ x ∈ L.blocks,W.heap.size ≤ x:=fun x hx => by
    have hb0:=hD.bt
    rcases mem_blocks.1 hx with e | e | e | e
    ·rw [e,hL];exact hb0
    ·rw [e,hL];exact hbp
    ·rw [hL] at e;simp [Value.ownBlock] at e
    ·rw [hL] at e;simp [Value.ownBlock] at e
   have HNEW:Hid (TownM.new wait lease net l = T0.comesTo l.length):=by rw [hT0];exact rfl
   have HR0:=hide hr0
   have HF0:=hide hf0
   have HLB:=hide hLb
   have HBW:=hide hD.below
   have HL0:=hide hl0
   have HLT:=hide hLbt
   have HBX:=hide hbx
   clear hD hbx hr0 hbp hL hT0 hok hf0 hl0 hLbt hLb hk
   go_wp2_with fail
   go_loopw [10] (fun cx wx => ∃ j:Nat,j ≤ l.length ∧ cx = .int .i64 (j:Int) ∧ ∃ L2,Rep wx L2 (T0.comesTo j) ∧ DLinks wr L wx L2) (fun cx _ => l.length - (RowKit.intOf cx).toNat)
   case atStart => exact ⟨0,Nat.zero_le _,rfl,L,unhide HR0,DLinks.refl _ _⟩
   case round =>
    obtain ⟨j,hj,rfl,L2,hr,hx⟩:=hrel
    clear HR0
    by_cases hjn:j = l.length
    ·subst hjn
     have HE:Hid (∃ L,Ending.returned (Value.tuple #[.pointer (some ⟨bt,0,none⟩),.int .i64 0]) = .returned (.tuple #[.pointer (some ⟨L.bt,0,none⟩),.int .i64 0]) ∧ Rep wr L (TownM.new wait lease net l) ∧ Below W.heap.size W wr ∧ ∀ x ∈ L.blocks,W.heap.size ≤ x):=by
      have hbw:=unhide HBW
      refine ⟨L2,by rw [hx.bt,unhide HLT],by rw [unhide HNEW];exact hr,⟨hx.keeps.os.trans hbw.os,hx.keeps.tape.trans hbw.tape,hx.keeps.output.trans hbw.output,Nat.le_trans hbw.size hx.keeps.size,fun y hy => ?_⟩,fun y hy => ?_⟩
      ·exact (hx.keeps.block y (Nat.lt_of_lt_of_le hy hbw.size) (fun hm => by have:=unhide HLB y hm;omega)).trans (hbw.block y hy)
      ·rcases hx.new y hy with e | e
       ·exact unhide HLB y e
       ·exact Nat.le_trans hbw.size e
     clear hr hx
     go_wp2
     refine bodyPost_ret (v:=.tuple #[.pointer (some ⟨bt,0,none⟩),.int .i64 0]) (by simp [results,Tryz.results50,go_sem]) rfl ?_
     exact ⟨fun _ => unhide HE,fun hno => absurd (unhide HM) hno⟩
    ·have hjl:j < l.length:=by omega
     have hfj:=(unhide HF0).comesTo j (by rw [unhide HL0];exact hj)
     have hlj:(T0.comesTo j).ps.length = l.length:=(comesTo_len T0 j).trans (unhide HL0)
     have hij:j < (T0.comesTo j).ps.length:=by rw [hlj];exact hjl
     obtain ⟨dn,dc,hdd,hdk⟩:=(hfj.peer hij).disk
     have HC0:=come_any j dn dc wr L2 (T0.comesTo j) hr hij hfj.n.2 hfj.net.2 hdd
     rw [hx.bt,unhide HLT] at HC0
     have HC:=hide (HC0.mono (fun o w' ⟨e1,e2⟩ => And.intro e1 (show ∃ L2,Rep w' L2 (T0.comesTo (j + 1)) ∧ DLinks _ L w' L2 from by
      obtain ⟨L3,r3,k3⟩:=e2.open
      exact ⟨L3,r3,hx.trans k3⟩)))
     clear HC0 hr hx hfj hlj hij hdd hdk hjn
     go_wp2_with fail
     refine (unhide HC).mono ?_
     rintro o w8 ⟨rfl,hd⟩
     have HD:=hide hd
     clear hd HC
     go_wp2
     go_roundw
     case rel => exact ⟨j + 1,hjl,by go_num,unhide HD⟩
     case measure => simp [RowKit.intOf];omega
  ·have hkl:k < l.length:=by omega
   have hcr:=(unhide HC).below hD.below
   obtain ⟨c,hcd⟩:∃ c,c = l.getD k credZ:=⟨_,rfl⟩
   have hcin:c ∈ l:=by rw [hcd];simp [List.getD_eq_getElem?_getD,hkl]
   by_cases hcm:c.may l.length
   rotate_left
   ·have hcell:=fun j u => hcr.cell k j u hkl
    rw [← hcd] at hcell
    have k0:(0:Int) ≤ (k:Int):=by omega
    have kl:(k:Int) < (l.length:Int):=by omega
    have f0:wr.cell? ⟨gf,0,none⟩ = some (.slice (some ⟨g,ro,none⟩) l.length cap):=hbx.cell 0
    have m0:wr.cell? ⟨g,ro + k * 4,none⟩ = some (.int .i64 c.p):=hcell 0 _ rfl
    have m1:wr.cell? ⟨g,ro + k * 4 + 1,none⟩ = some (.int .i64 c.t):=hcell 1 _ rfl
    have m2:wr.cell? ⟨g,ro + k * 4 + 2,none⟩ = some (.int .i64 c.e):=hcell 2 _ rfl
    have m3:wr.cell? ⟨g,ro + k * 4 + 3,none⟩ = some (.int .i64 c.v):=hcell 3 _ rfl
    have hb5:=hD.below.alloc hD.below.size (.cells #[.int .i64 c.p,.int .i64 c.t,.int .i64 c.e,.int .i64 c.v] 39)
    have HE:Hid (∀ w',Below W.heap.size W w' → DNews W wait lease net l (.returned (.tuple #[.pointer none,.int .i64 1])) w'):=fun w' hb => ⟨fun hm => absurd (hm c hcin) hcm,fun _ => ⟨rfl,hb⟩⟩
    have HB5:=hide hb5
    have hno:c.e < 0 ∨ (0 ≤ c.e ∧ c.p < c.e) ∨ (0 ≤ c.e ∧ c.e ≤ c.p ∧ 1000 < c.p) ∨ (0 ≤ c.e ∧ c.e ≤ c.p ∧ c.p ≤ 1000 ∧ c.t < 0) ∨ (0 ≤ c.e ∧ c.e ≤ c.p ∧ c.p ≤ 1000 ∧ 0 ≤ c.t ∧ (l.length:Int) ≤ c.t) ∨ (0 ≤ c.e ∧ c.e ≤ c.p ∧ c.p ≤ 1000 ∧ 0 ≤ c.t ∧ c.t < (l.length:Int) ∧ c.v < 0) ∨ (0 ≤ c.e ∧ c.e ≤ c.p ∧ c.p ≤ 1000 ∧ 0 ≤ c.t ∧ c.t < (l.length:Int) ∧ 0 ≤ c.v ∧ 1000000000 < c.v):=by
     unfold CredM.may at hcm
     omega
    clear hD hbx hcr hcell hcd hcin hcm hb5 hkn hall
    rcases hno with a1 | ⟨a1,a2⟩ | ⟨a1,a2,a3⟩ | ⟨a1,a2,a3,a4⟩ | ⟨a1,a2,a3,a4,a5⟩ | ⟨a1,a2,a3,a4,a5,a6⟩ | ⟨a1,a2,a3,a4,a5,a6,a7⟩
    all_goals
     go_wp2
     refine bodyPost_ret (v:=.tuple #[.pointer none,.int .i64 1]) (by simp [results,Tryz.results50,go_sem]) rfl ?_
     exact unhide HE _ (unhide HB5)
   have HALL:Hid (∀ j,j < k + 1 → (l.getD j credZ).may l.length):=fun j hj => by
    by_cases e:j = k
    ·rw [e,← hcd];exact hcm
    ·exact hall j (by omega)
   clear hall hcin
   have hcok:=CredM.may_ok h7 hcm
   have hcell:=fun j u => hcr.cell k j u hkl
   rw [← hcd] at hcell
   have k0:(0:Int) ≤ (k:Int):=by omega
   have kl:(k:Int) < (l.length:Int):=by omega
   have f0:wr.cell? ⟨gf,0,none⟩ = some (.slice (some ⟨g,ro,none⟩) l.length cap):=hbx.cell 0
   have m0:wr.cell? ⟨g,ro + k * 4,none⟩ = some (.int .i64 c.p):=hcell 0 _ rfl
   have m1:wr.cell? ⟨g,ro + k * 4 + 1,none⟩ = some (.int .i64 c.t):=hcell 1 _ rfl
   have m2:wr.cell? ⟨g,ro + k * 4 + 2,none⟩ = some (.int .i64 c.e):=hcell 2 _ rfl
   have m3:wr.cell? ⟨g,ro + k * 4 + 3,none⟩ = some (.int .i64 c.v):=hcell 3 _ rfl
   obtain ⟨a1,a2,a3,a4,a5,a6,a7⟩:=hcm
   have b1:decide (c.e < 0) = false:=by simp;omega
   have b2:decide (c.p < c.e) = false:=by simp;omega
   have b3:decide (1000 < c.p) = false:=by simp;omega
   have b4:decide (c.t < 0) = false:=by simp;omega
   have b5:decide ((l.length:Int) ≤ c.t) = false:=by simp;omega
   have b6:decide (c.v < 0) = false:=by simp;omega
   have b7:decide (1000000000 < c.v) = false:=by simp;omega
   have hb5:=(Below.refl wr.heap.size wr).alloc (Nat.le_refl _) (.cells #[.int .i64 c.p,.int .i64 c.t,.int .i64 c.e,.int .i64 c.v] 39)
   have HD5:=hide (hD.keep hb5)
   have HB5:=hide (hbx.keep hb5)
   have HEN:=hide (rencode_L 1 c (CredM.bad hcok (by omega) (by omega)) (wr.alloc (.cells #[.int .i64 c.p,.int .i64 c.t,.int .i64 c.e,.int .i64 c.v] 39)))
   have HCD:=hide hcd
   have HOK:=hide hcok
   simp only [CredM.cells] at HEN
   clear hD hbx hcr hcell hcd hcok hb5 hkn
   go_upto_region 12 with (go_at_call 77;refine (unhide HEN).mono ?_;rintro o w6 ⟨rfl,hb6⟩)
   have hD6:=(unhide HD5).keep hb6
   have hB6:=(unhide HB5).keep hb6
   clear HD5 HB5 HEN hb6 f0 m0 m1 m2 m3 b1 b2 b3 b4 b5 b6 b7 a1 a2 a3 a4 a5 a6 a7
   obtain ⟨va,vcap,hv⟩:=row_shape hD6.row
   have t4:w6.cell? ⟨bt,4,none⟩ = some (.slice va k vcap):=by rw [← hv];exact hD6.town.cell 4
   have y4:=hD6.town.frozen 4
   obtain ⟨dk,hdk⟩:∃ dk,dk = encL 1 c.p c.t c.e c.v ++ List.replicate 28 (0:Int):=⟨_,rfl⟩
   obtain ⟨s1,hs1⟩:∃ s1,s1 = strOfNums (encL 1 c.p c.t c.e c.v):=⟨_,rfl⟩
   obtain ⟨s2,hs2⟩:∃ s2,s2 = strOfNums (List.replicate 28 0):=⟨_,rfl⟩
   rw [← hs1]
   have hst:s1 ++ s2 = strOfNums dk:=by rw [hs1,hs2,strOfNums_append,hdk]
   have hpn:({ peerZ with disk:=dk,armed:=-1 }:PeerM) = TownM.newPeer c:=by rw [hdk];rfl
   have hz1s:s1.size = 28:=by
    rw [hs1,size_strOfNums _ (show BytesL (encL 1 c.p c.t c.e c.v) from slot_bytes (unhide HOK) (by omega) (by omega))]
    exact encL_len _ _ _ _ _
   have hz2s:s2.size = 28:=by
    rw [hs2,size_strOfNums _ (fun x hx => by rw [List.eq_of_mem_replicate hx];decide)]
    rfl
   have hzz:¬ 9223372036854775807 < s1.size + s2.size:=by rw [hz1s,hz2s];omega
   have hms:=fun w => Tryz.mk28 w
   have hcv1:(convert 116 9 (.slice (some ⟨w6.heap.size,0,none⟩) 28 28)).run Tryz.prog (w6.alloc (.cells z28 5)).drew = .ok (.string s2) (w6.alloc (.cells z28 5)).drew:=by rw [hs2];exact Tryz.cv28 w6.drew
   have hbs:∀ w,(Instr.buildSlice 129 1 #[(0,.agg ({ peerZ with disk:=dk,armed:=-1 }:PeerM).cells.toArray)]).run Tryz.prog w = .ok (.slice (some ⟨w.heap.size,0,none⟩) 1 1) (w.alloc (.cells ({ peerZ with disk:=dk,armed:=-1 }:PeerM).cells.toArray 159)):=fun w => Tryz.bs2 w dk
   obtain ⟨pn,hpn2⟩:∃ pn:PeerM,pn = { peerZ with disk:=dk,armed:=-1 }:=⟨_,rfl⟩
   rw [← hpn2] at hbs hpn
   obtain ⟨i0,hi0,hz0,hz1,hz2⟩:=info_parts Tryz.dinfoPeer
   have hfitp:pn.fit:=by rw [hpn2];exact ⟨rfl,rfl,rfl⟩
   have hplen:pn.cells.length = 121:=PeerM.len hfitp
   have hXa:=((Below.refl w6.heap.size w6).alloc (Nat.le_refl _) (.cells z28 5)).drew
   have hXb:Below w6.heap.size w6 ((w6.alloc (.cells z28 5)).alloc (.cells pn.cells.toArray 159)).drew:=(((Below.refl w6.heap.size w6).alloc (Nat.le_refl _) (.cells z28 5)).alloc (by simp) (.cells pn.cells.toArray 159)).drew
   have hrow:=hD6.row
   rw [hv] at hrow
   have HA:Hid (((w6.alloc (.cells z28 5)).alloc (.cells pn.cells.toArray 159)).drew.ownsRow W.heap.size 159 121 (.slice va k vcap) k ((l.take k).flatMap (fun c => (TownM.newPeer c).cells))):=own_same hrow (fun b hb => hXb.block b (hrow.lt b hb).2)
   have HNW:Hid (∀ j u,pn.cells[j]? = some u → ((w6.alloc (.cells z28 5)).alloc (.cells pn.cells.toArray 159)).drew.cell? ((⟨w6.heap.size + 1,0,none⟩:Addr).add j) = some u):=fun j u hu => by
    have hbk:=heap_alloc_new (w6.alloc (.cells z28 5)) (.cells pn.cells.toArray 159)
    rw [World.size_alloc] at hbk
    exact World.news_of_block hbk j u (by simpa using hu)
   have H1:Hid (∀ u ∈ pn.cells,u.oneCell' = true):=PeerM.one pn
   have HSZ:Hid (((w6.alloc (.cells z28 5)).alloc (.cells pn.cells.toArray 159)).drew.heap.size = w6.heap.size + 1 + 1):=by
    show ((w6.alloc _).alloc _).heap.size = _
    rw [World.size_alloc,World.size_alloc]
   have HBS:Hid (W.heap.size ≤ ((w6.alloc (.cells z28 5)).alloc (.cells pn.cells.toArray 159)).drew.heap.size):=Nat.le_trans hD6.below.size hXb.size
   have nvb:(Value.slice va k vcap).ownBlock ≠ some bt:=by rw [← hv];exact own_ne hD6.row hD6.town (by decide)
   have nvf:∀ b,(Value.slice va k vcap).ownBlock = some b → b ≠ gf:=fun b hb e => by
    have hb2:hD6.row = hD6.row:=rfl
    exact own_ne hrow hB6 (by decide) (by rw [hb,e])
   have HFAR:Hid (∀ w7,((w6.alloc (.cells z28 5)).alloc (.cells pn.cells.toArray 159)).drew.grownBy w7 (Value.slice va k vcap).ownBlock → w7.cell? ⟨bt,4,none⟩ = some (.slice va k vcap) ∧ w7.frozen? ⟨bt,4,none⟩ = false):=fun w7 hg => by
    have hb:w7.heap[bt]? = w6.heap[bt]?:=(hg.block bt (Nat.lt_of_lt_of_le hD6.town.lt hXb.size) (fun e => nvb e.symm)).trans (hXb.block bt hD6.town.lt)
    exact ⟨(World.cell?_of_block hb).trans t4,(World.frozen?_of_block hb).trans y4⟩
   have HFIN:Hid (∀ g3 cap3 w7,w7.ownsRow W.heap.size 159 121 (.slice (some ⟨g3,0,none⟩) (k + 1) cap3) (k + 1) ((l.take k).flatMap (fun c => (TownM.newPeer c).cells) ++ pn.cells) → ((w6.alloc (.cells z28 5)).alloc (.cells pn.cells.toArray 159)).drew.grownBy w7 (Value.slice va k vcap).ownBlock →
     DBld W bt (.slice (some ⟨g,ro,none⟩) l.length cap) wait lease net l (k + 1) (.slice (some ⟨g3,0,none⟩) (k + 1) cap3) (w7.setCell ⟨bt,4,none⟩ (.slice (some ⟨g3,0,none⟩) (k + 1) cap3)) ∧ Box (w7.setCell ⟨bt,4,none⟩ (.slice (some ⟨g3,0,none⟩) (k + 1) cap3)) gf #[.slice (some ⟨g,ro,none⟩) l.length cap,.int .i64 wait,.int .i64 lease,.int .i64 net] 24):=fun g3 cap3 w7 ho hg => by
    rw [← hv] at hg
    rw [hpn,unhide HCD] at ho
    refine ⟨hD6.step hkl hXb hg ho,?_⟩
    have e1:w7.heap[gf]? = w6.heap[gf]?:=(hg.block gf (Nat.lt_of_lt_of_le hB6.lt hXb.size) (fun e => by rw [hv] at e;exact nvf gf e.symm rfl)).trans (hXb.block gf hB6.lt)
    exact Box.setOther (e1.trans hB6) hne1 _
   have hbtl:=hD6.town.lt
   have t4a:∀ o,(w6.alloc o).cell? ⟨bt,4,none⟩ = some (.slice va k vcap):=fun o => (World.cell?_of_block (a:=⟨bt,4,none⟩) (Below.heap_alloc w6 o bt hbtl)).trans t4
   have t4b:∀ o1 o2,((w6.alloc o1).alloc o2).cell? ⟨bt,4,none⟩ = some (.slice va k vcap):=fun o1 o2 => (World.cell?_of_block (a:=⟨bt,4,none⟩) (Below.heap_alloc (w6.alloc o1) o2 bt (by rw [World.size_alloc];omega))).trans (t4a o1)
   have HPL:=hide hplen
   have HPN:=hide hpn2
   have HST:=hide hst
   clear hD6 hB6 hrow hXa hXb nvb nvf hv hpn hpn2 hfitp hplen hst hdk hs1 hs2 hz1s hz2s HCD HOK
   refine wp_region_held_drew (S:=fun _ => True) (by kernel_rfl) trivial (fun hHeld => ?_)
   refine wpAnyH_take (i:=0) (v:=?_) rfl (by kernel_rfl) (by kernel_rfl) (by kernel_rfl) (fun _ _ _ h => h) (Or.inl ⟨by rfl,?_⟩) (by assumption) ?_
   rotate_left
   ·intro w hSw
    go_simp
    (try with_reducible rfl)
   (try simp only [Act.put,List.getElem_toArray,List.getElem_cons_zero,List.getElem_cons_succ,List.setIfInBounds_toArray,List.set_cons_zero,List.set_cons_succ])
   refine wpAnyH_take (i:=1) (v:=?_) rfl (by kernel_rfl) (by kernel_rfl) (by kernel_rfl) (fun _ _ _ h => h) (Or.inl ⟨by rfl,?_⟩) (by assumption) ?_
   rotate_left
   ·intro w hSw
    go_simp
    (try with_reducible rfl)
   (try simp only [Act.put,List.getElem_toArray,List.getElem_cons_zero,List.getElem_cons_succ,List.setIfInBounds_toArray,List.set_cons_zero,List.set_cons_succ])
   refine wpAnyH_take (i:=2) (v:=?_) rfl (by kernel_rfl) (by kernel_rfl) (by kernel_rfl) (fun _ _ _ h => h) (Or.inl ⟨by rfl,?_⟩) (by assumption) ?_
   rotate_left
   ·intro w hSw
    go_simp
    (try with_reducible rfl)
   (try simp only [Act.put,List.getElem_toArray,List.getElem_cons_zero,List.getElem_cons_succ,List.setIfInBounds_toArray,List.set_cons_zero,List.set_cons_succ])
   refine wpAnyH_take (i:=3) (v:=?_) rfl (by kernel_rfl) (by kernel_rfl) (by kernel_rfl) (fun _ _ _ h => h) (Or.inl ⟨by rfl,?_⟩) (by assumption) ?_
   rotate_left
   ·intro w hSw
    go_simp
    (try with_reducible rfl)
   (try simp only [Act.put,List.getElem_toArray,List.getElem_cons_zero,List.getElem_cons_succ,List.setIfInBounds_toArray,List.set_cons_zero,List.set_cons_succ])
   refine wpAnyH_take (i:=5) (v:=?_) rfl (by kernel_rfl) (by kernel_rfl) (by kernel_rfl) (fun _ _ _ h => h) (Or.inl ⟨by rfl,?_⟩) (by assumption) ?_
   rotate_left
   ·intro w hSw
    go_simp
    (try with_reducible rfl)
   (try simp only [Act.put,List.getElem_toArray,List.getElem_cons_zero,List.getElem_cons_succ,List.setIfInBounds_toArray,List.set_cons_zero,List.set_cons_succ])
   refine wpAnyH_ready (rs:=[4,6]) (by kernel_rfl) (by simp) ?_
   refine AllReadyH.cons rfl (fun K hK => ?_) (AllReadyH.cons rfl (fun K hK => ?_) AllReadyH.nil)
   (try simp only [List.getElem_toArray,List.getElem_cons_zero,List.getElem_cons_succ])
   go_simp
   refine hK.out _ _ trivial (fun hHeld2 => ?_)
   clear hK K hHeld
   have hHeld:=hHeld2
   clear hHeld2
   (try simp only [Act.put,List.getElem_toArray,List.getElem_cons_zero,List.getElem_cons_succ,List.setIfInBounds_toArray,List.set_cons_zero,List.set_cons_succ])
   refine wpAnyH_ready (rs:=[6]) (by kernel_rfl) (by simp) ?_
   refine AllReadyH.cons rfl (fun K hK => ?_) AllReadyH.nil
   (try simp only [List.getElem_toArray,List.getElem_cons_zero,List.getElem_cons_succ])
   go_simp
   refine hK.out _ _ trivial (fun hHeld2 => ?_)
   clear hK K hHeld
   have hHeld:=hHeld2
   clear hHeld2
   (try simp only [Act.put,List.getElem_toArray,List.getElem_cons_zero,List.getElem_cons_succ,List.setIfInBounds_toArray,List.set_cons_zero,List.set_cons_succ])
   refine wpAnyH_ready (rs:=[7]) (by kernel_rfl) (by simp) ?_
   refine AllReadyH.cons rfl (fun K hK => ?_) AllReadyH.nil
   (try simp only [List.getElem_toArray,List.getElem_cons_zero,List.getElem_cons_succ])
   go_simp
   refine hK.out _ _ trivial (fun hHeld2 => ?_)
   clear hK K hHeld
   have hHeld:=hHeld2
   clear hHeld2
   (try simp only [Act.put,List.getElem_toArray,List.getElem_cons_zero,List.getElem_cons_succ,List.setIfInBounds_toArray,List.set_cons_zero,List.set_cons_succ])
   refine wpAnyH_take (i:=8) (v:=?_) rfl (by kernel_rfl) (by kernel_rfl) (by kernel_rfl) (fun _ _ _ h => h) (Or.inl ⟨by rfl,?_⟩) (by assumption) ?_
   rotate_left
   ·intro w hSw
    go_simp
    (try with_reducible rfl)
   (try simp only [Act.put,List.getElem_toArray,List.getElem_cons_zero,List.getElem_cons_succ,List.setIfInBounds_toArray,List.set_cons_zero,List.set_cons_succ])
   refine wpAnyH_take (i:=9) (v:=.agg pn.cells.toArray) rfl (by kernel_rfl) (by kernel_rfl) (by kernel_rfl) (fun _ _ _ h => h) (Or.inl ⟨by rfl,?_⟩) (by assumption) ?_
   ·intro w hSw
    rw [unhide HPN]
    go_simp
    rw [unhide HST]
    kernel_rfl
   (try simp only [Act.put,List.getElem_toArray,List.getElem_cons_zero,List.getElem_cons_succ,List.setIfInBounds_toArray,List.set_cons_zero,List.set_cons_succ])
   refine wpAnyH_ready (rs:=[10]) (by kernel_rfl) (by simp) ?_
   refine AllReadyH.cons rfl (fun K hK => ?_) AllReadyH.nil
   (try simp only [List.getElem_toArray,List.getElem_cons_zero,List.getElem_cons_succ])
   (rw [if_pos (by rfl)];refine wp_bs (x:=.tmp 113) (d:=dk) (unhide HPN) (w6.heap.size + 1) (World.size_alloc _ _) rfl (by rfl) ?_)
   refine hK.out _ _ trivial (fun hHeld2 => ?_)
   clear hK K hHeld
   have hHeld:=hHeld2
   clear hHeld2
   (try simp only [Act.put,List.getElem_toArray,List.getElem_cons_zero,List.getElem_cons_succ,List.setIfInBounds_toArray,List.set_cons_zero,List.set_cons_succ])
   refine wpAnyH_ready (rs:=[11]) (by kernel_rfl) (by simp) ?_
   refine AllReadyH.cons rfl (fun K hK => ?_) AllReadyH.nil
   (refine step_append_lies _ (by rfl) _ _ _ (by rfl) W.heap.size 159 i0 _ 121 864 Tryz.underlying129 hi0 hz0 hz1 hz2 zPeer_cells (by omega) (.slice va k vcap) k ((l.take k).flatMap (fun c => (TownM.newPeer c).cells)) (by rfl) (unhide HA) ⟨w6.heap.size + 1,0,none⟩ 1 1 pn.cells (by rfl) (by rw [unhide HPL]) (unhide HNW) (unhide H1) (by omega) (by unfold maxLen;omega) (by omega) (unhide HBS) (w6.heap.size + 1 + 1) (unhide HSZ) ?_;intro g3 cap3 w7 ho hg hat hlt7;obtain ⟨z1,z2⟩:=unhide HFAR w7 hg;have HD:=hide (unhide HFIN g3 cap3 w7 ho hg);clear ho hg hat)
   refine hK.out _ _ trivial (fun hHeld2 => ?_)
   clear hK K hHeld
   have hHeld:=hHeld2
   clear hHeld2
   (try simp only [Act.put,List.getElem_toArray,List.getElem_cons_zero,List.getElem_cons_succ,List.setIfInBounds_toArray,List.set_cons_zero,List.set_cons_succ])
   refine wpAnyH_take (i:=12) (v:=?_) rfl (by kernel_rfl) (by kernel_rfl) (by kernel_rfl) (fun _ _ _ h => h) (Or.inl ⟨by rfl,?_⟩) (by assumption) ?_
   rotate_left
   ·intro w hSw
    go_simp
    (try with_reducible rfl)
   (try simp only [Act.put,List.getElem_toArray,List.getElem_cons_zero,List.getElem_cons_succ,List.setIfInBounds_toArray,List.set_cons_zero,List.set_cons_succ])
   refine wpAnyH_take (i:=13) (v:=?_) rfl (by kernel_rfl) (by kernel_rfl) (by kernel_rfl) (fun _ _ _ h => h) (Or.inl ⟨by rfl,?_⟩) (by assumption) ?_
   rotate_left
   ·intro w hSw
    go_simp
    (try with_reducible rfl)
   (try simp only [Act.put,List.getElem_toArray,List.getElem_cons_zero,List.getElem_cons_succ,List.setIfInBounds_toArray,List.set_cons_zero,List.set_cons_succ])
   refine wpAnyH_ready (rs:=[14]) (by kernel_rfl) (by simp) ?_
   refine AllReadyH.cons rfl (fun K hK => ?_) AllReadyH.nil
   (try simp only [List.getElem_toArray,List.getElem_cons_zero,List.getElem_cons_succ])
   go_simp
   refine hK.out _ _ trivial (fun hHeld2 => ?_)
   clear hK K hHeld
   have hHeld:=hHeld2
   clear hHeld2
   (try simp only [Act.put,List.getElem_toArray,List.getElem_cons_zero,List.getElem_cons_succ,List.setIfInBounds_toArray,List.set_cons_zero,List.set_cons_succ])
   refine wpAnyH_done (by kernel_rfl) ?_ _
   rotate_left
   (try simp only [List.getElem_toArray,List.getElem_cons_zero,List.getElem_cons_succ])
   go_simp
   refine hK.out _ _ trivial (fun hHeld2 => ?_)
   clear hK K hHeld
   have hHeld:=hHeld2
   clear hHeld2
   (try simp only [Act.put,List.getElem_toArray,List.getElem_cons_zero,List.getElem_cons_succ,List.setIfInBounds_toArray,List.set_cons_zero,List.set_cons_succ])
   refine wpAnyH_ready (rs:=[4,7]) (by kernel_rfl) (by simp) ?_
   refine AllReadyH.cons rfl (fun K hK => ?_) (AllReadyH.cons rfl (fun K hK => ?_) AllReadyH.nil)
   (try simp only [List.getElem_toArray,List.getElem_cons_zero,List.getElem_cons_succ])
   go_simp
   refine hK.out _ _ trivial (fun hHeld2 => ?_)
   clear hK K hHeld
   have hHeld:=hHeld2
   clear hHeld2
   (try simp only [Act.put,List.getElem_toArray,List.getElem_cons_zero,List.getElem_cons_succ,List.setIfInBounds_toArray,List.set_cons_zero,List.set_cons_succ])
   refine wpAnyH_ready (rs:=[7]) (by kernel_rfl) (by simp) ?_
   refine AllReadyH.cons rfl (fun K hK => ?_) AllReadyH.nil
   (try simp only [List.getElem_toArray,List.getElem_cons_zero,List.getElem_cons_succ])
   go_simp
   refine hK.out _ _ trivial (fun hHeld2 => ?_)
   clear hK K hHeld
   have hHeld:=hHeld2
   clear hHeld2
   (try simp only [Act.put,List.getElem_toArray,List.getElem_cons_zero,List.getElem_cons_succ,List.setIfInBounds_toArray,List.set_cons_zero,List.set_cons_succ])
   refine wpAnyH_take (i:=8) (v:=?_) rfl (by kernel_rfl) (by kernel_rfl) (by kernel_rfl) (fun _ _ _ h => h) (Or.inl ⟨by rfl,?_⟩) (by assumption) ?_
   rotate_left
   ·intro w hSw
    go_simp
    (try with_reducible rfl)
   (try simp only [Act.put,List.getElem_toArray,List.getElem_cons_zero,List.getElem_cons_succ,List.setIfInBounds_toArray,List.set_cons_zero,List.set_cons_succ])
   refine wpAnyH_take (i:=9) (v:=.agg pn.cells.toArray) rfl (by kernel_rfl) (by kernel_rfl) (by kernel_rfl) (fun _ _ _ h => h) (Or.inl ⟨by rfl,?_⟩) (by assumption) ?_
   ·intro w hSw
    rw [unhide HPN]
    go_simp
    rw [unhide HST]
    kernel_rfl
   (try simp only [Act.put,List.getElem_toArray,List.getElem_cons_zero,List.getElem_cons_succ,List.setIfInBounds_toArray,List.set_cons_zero,List.set_cons_succ])
   refine wpAnyH_ready (rs:=[10]) (by kernel_rfl) (by simp) ?_
   refine AllReadyH.cons rfl (fun K hK => ?_) AllReadyH.nil
   (try simp only [List.getElem_toArray,List.getElem_cons_zero,List.getElem_cons_succ])
   (rw [if_pos (by rfl)];refine wp_bs (x:=.tmp 113) (d:=dk) (unhide HPN) (w6.heap.size + 1) (World.size_alloc _ _) rfl (by rfl) ?_)
   refine hK.out _ _ trivial (fun hHeld2 => ?_)
   clear hK K hHeld
   have hHeld:=hHeld2
   clear hHeld2
   (try simp only [Act.put,List.getElem_toArray,List.getElem_cons_zero,List.getElem_cons_succ,List.setIfInBounds_toArray,List.set_cons_zero,List.set_cons_succ])
   refine wpAnyH_ready (rs:=[11]) (by kernel_rfl) (by simp) ?_
   refine AllReadyH.cons rfl (fun K hK => ?_) AllReadyH.nil
   (refine step_append_lies _ (by rfl) _ _ _ (by rfl) W.heap.size 159 i0 _ 121 864 Tryz.underlying129 hi0 hz0 hz1 hz2 zPeer_cells (by omega) (.slice va k vcap) k ((l.take k).flatMap (fun c => (TownM.newPeer c).cells)) (by rfl) (unhide HA) ⟨w6.heap.size + 1,0,none⟩ 1 1 pn.cells (by rfl) (by rw [unhide HPL]) (unhide HNW) (unhide H1) (by omega) (by unfold maxLen;omega) (by omega) (unhide HBS) (w6.heap.size + 1 + 1) (unhide HSZ) ?_;intro g3 cap3 w7 ho hg hat hlt7;obtain ⟨z1,z2⟩:=unhide HFAR w7 hg;have HD:=hide (unhide HFIN g3 cap3 w7 ho hg);clear ho hg hat)
   refine hK.out _ _ trivial (fun hHeld2 => ?_)
   clear hK K hHeld
   have hHeld:=hHeld2
   clear hHeld2
   (try simp only [Act.put,List.getElem_toArray,List.getElem_cons_zero,List.getElem_cons_succ,List.setIfInBounds_toArray,List.set_cons_zero,List.set_cons_succ])
   refine wpAnyH_take (i:=12) (v:=?_) rfl (by kernel_rfl) (by kernel_rfl) (by kernel_rfl) (fun _ _ _ h => h) (Or.inl ⟨by rfl,?_⟩) (by assumption) ?_
   rotate_left
   ·intro w hSw
    go_simp
    (try with_reducible rfl)
   (try simp only [Act.put,List.getElem_toArray,List.getElem_cons_zero,List.getElem_cons_succ,List.setIfInBounds_toArray,List.set_cons_zero,List.set_cons_succ])
   refine wpAnyH_take (i:=13) (v:=?_) rfl (by kernel_rfl) (by kernel_rfl) (by kernel_rfl) (fun _ _ _ h => h) (Or.inl ⟨by rfl,?_⟩) (by assumption) ?_
   rotate_left
   ·intro w hSw
    go_simp
    (try with_reducible rfl)
   (try simp only [Act.put,List.getElem_toArray,List.getElem_cons_zero,List.getElem_cons_succ,List.setIfInBounds_toArray,List.set_cons_zero,List.set_cons_succ])
   refine wpAnyH_ready (rs:=[14]) (by kernel_rfl) (by simp) ?_
   refine AllReadyH.cons rfl (fun K hK => ?_) AllReadyH.nil
   (try simp only [List.getElem_toArray,List.getElem_cons_zero,List.getElem_cons_succ])
   go_simp
   refine hK.out _ _ trivial (fun hHeld2 => ?_)
   clear hK K hHeld
   have hHeld:=hHeld2
   clear hHeld2
   (try simp only [Act.put,List.getElem_toArray,List.getElem_cons_zero,List.getElem_cons_succ,List.setIfInBounds_toArray,List.set_cons_zero,List.set_cons_succ])
   refine wpAnyH_done (by kernel_rfl) ?_ _
   rotate_left
   (try simp only [List.getElem_toArray,List.getElem_cons_zero,List.getElem_cons_succ])
   go_simp
   refine hK.out _ _ trivial (fun hHeld2 => ?_)
   clear hK K hHeld
   have hHeld:=hHeld2
   clear hHeld2
   (try simp only [Act.put,List.getElem_toArray,List.getElem_cons_zero,List.getElem_cons_succ,List.setIfInBounds_toArray,List.set_cons_zero,List.set_cons_succ])
   refine wpAnyH_take (i:=8) (v:=?_) rfl (by kernel_rfl) (by kernel_rfl) (by kernel_rfl) (fun _ _ _ h => h) (Or.inl ⟨by rfl,?_⟩) (by assumption) ?_
   rotate_left
   ·intro w hSw
    go_simp
    (try with_reducible rfl)
   (try simp only [Act.put,List.getElem_toArray,List.getElem_cons_zero,List.getElem_cons_succ,List.setIfInBounds_toArray,List.set_cons_zero,List.set_cons_succ])
   refine wpAnyH_take (i:=9) (v:=.agg pn.cells.toArray) rfl (by kernel_rfl) (by kernel_rfl) (by kernel_rfl) (fun _ _ _ h => h) (Or.inl ⟨by rfl,?_⟩) (by assumption) ?_
   ·intro w hSw
    rw [unhide HPN]
    go_simp
    rw [unhide HST]
    kernel_rfl
   (try simp only [Act.put,List.getElem_toArray,List.getElem_cons_zero,List.getElem_cons_succ,List.setIfInBounds_toArray,List.set_cons_zero,List.set_cons_succ])
   refine wpAnyH_ready (rs:=[4,10]) (by kernel_rfl) (by simp) ?_
   refine AllReadyH.cons rfl (fun K hK => ?_) (AllReadyH.cons rfl (fun K hK => ?_) AllReadyH.nil)
   (try simp only [List.getElem_toArray,List.getElem_cons_zero,List.getElem_cons_succ])
   go_simp
   refine hK.out _ _ trivial (fun hHeld2 => ?_)
   clear hK K hHeld
   have hHeld:=hHeld2
   clear hHeld2
   (try simp only [Act.put,List.getElem_toArray,List.getElem_cons_zero,List.getElem_cons_succ,List.setIfInBounds_toArray,List.set_cons_zero,List.set_cons_succ])
   refine wpAnyH_ready (rs:=[10]) (by kernel_rfl) (by simp) ?_
   refine AllReadyH.cons rfl (fun K hK => ?_) AllReadyH.nil
   (try simp only [List.getElem_toArray,List.getElem_cons_zero,List.getElem_cons_succ])
   (rw [if_pos (by rfl)];refine wp_bs (x:=.tmp 113) (d:=dk) (unhide HPN) (w6.heap.size + 1) (World.size_alloc _ _) rfl (by rfl) ?_)
   refine hK.out _ _ trivial (fun hHeld2 => ?_)
   clear hK K hHeld
   have hHeld:=hHeld2
   clear hHeld2
   (try simp only [Act.put,List.getElem_toArray,List.getElem_cons_zero,List.getElem_cons_succ,List.setIfInBounds_toArray,List.set_cons_zero,List.set_cons_succ])
   refine wpAnyH_ready (rs:=[11]) (by kernel_rfl) (by simp) ?_
   refine AllReadyH.cons rfl (fun K hK => ?_) AllReadyH.nil
   (refine step_append_lies _ (by rfl) _ _ _ (by rfl) W.heap.size 159 i0 _ 121 864 Tryz.underlying129 hi0 hz0 hz1 hz2 zPeer_cells (by omega) (.slice va k vcap) k ((l.take k).flatMap (fun c => (TownM.newPeer c).cells)) (by rfl) (unhide HA) ⟨w6.heap.size + 1,0,none⟩ 1 1 pn.cells (by rfl) (by rw [unhide HPL]) (unhide HNW) (unhide H1) (by omega) (by unfold maxLen;omega) (by omega) (unhide HBS) (w6.heap.size + 1 + 1) (unhide HSZ) ?_;intro g3 cap3 w7 ho hg hat hlt7;obtain ⟨z1,z2⟩:=unhide HFAR w7 hg;have HD:=hide (unhide HFIN g3 cap3 w7 ho hg);clear ho hg hat)
   refine hK.out _ _ trivial (fun hHeld2 => ?_)
   clear hK K hHeld
   have hHeld:=hHeld2
   clear hHeld2
   (try simp only [Act.put,List.getElem_toArray,List.getElem_cons_zero,List.getElem_cons_succ,List.setIfInBounds_toArray,List.set_cons_zero,List.set_cons_succ])
   refine wpAnyH_take (i:=12) (v:=?_) rfl (by kernel_rfl) (by kernel_rfl) (by kernel_rfl) (fun _ _ _ h => h) (Or.inl ⟨by rfl,?_⟩) (by assumption) ?_
   rotate_left
   ·intro w hSw
    go_simp
    (try with_reducible rfl)
   (try simp only [Act.put,List.getElem_toArray,List.getElem_cons_zero,List.getElem_cons_succ,List.setIfInBounds_toArray,List.set_cons_zero,List.set_cons_succ])
   refine wpAnyH_take (i:=13) (v:=?_) rfl (by kernel_rfl) (by kernel_rfl) (by kernel_rfl) (fun _ _ _ h => h) (Or.inl ⟨by rfl,?_⟩) (by assumption) ?_
   rotate_left
   ·intro w hSw
    go_simp
    (try with_reducible rfl)
   (try simp only [Act.put,List.getElem_toArray,List.getElem_cons_zero,List.getElem_cons_succ,List.setIfInBounds_toArray,List.set_cons_zero,List.set_cons_succ])
   refine wpAnyH_ready (rs:=[14]) (by kernel_rfl) (by simp) ?_
   refine AllReadyH.cons rfl (fun K hK => ?_) AllReadyH.nil
   (try simp only [List.getElem_toArray,List.getElem_cons_zero,List.getElem_cons_succ])
   go_simp
   refine hK.out _ _ trivial (fun hHeld2 => ?_)
   clear hK K hHeld
   have hHeld:=hHeld2
   clear hHeld2
   (try simp only [Act.put,List.getElem_toArray,List.getElem_cons_zero,List.getElem_cons_succ,List.setIfInBounds_toArray,List.set_cons_zero,List.set_cons_succ])
   refine wpAnyH_done (by kernel_rfl) ?_ _
   rotate_left
   (try simp only [List.getElem_toArray,List.getElem_cons_zero,List.getElem_cons_succ])
   (rw [if_pos (by rfl)];refine wp_bs (x:=.tmp 113) (d:=dk) (unhide HPN) (w6.heap.size + 1) (World.size_alloc _ _) rfl (by rfl) ?_)
   refine hK.out _ _ trivial (fun hHeld2 => ?_)
   clear hK K hHeld
   have hHeld:=hHeld2
   clear hHeld2
   (try simp only [Act.put,List.getElem_toArray,List.getElem_cons_zero,List.getElem_cons_succ,List.setIfInBounds_toArray,List.set_cons_zero,List.set_cons_succ])
   refine wpAnyH_ready (rs:=[4]) (by kernel_rfl) (by simp) ?_
   refine AllReadyH.cons rfl (fun K hK => ?_) AllReadyH.nil
   (try simp only [List.getElem_toArray,List.getElem_cons_zero,List.getElem_cons_succ])
   go_simp
   refine hK.out _ _ trivial (fun hHeld2 => ?_)
   clear hK K hHeld
   have hHeld:=hHeld2
   clear hHeld2
   (try simp only [Act.put,List.getElem_toArray,List.getElem_cons_zero,List.getElem_cons_succ,List.setIfInBounds_toArray,List.set_cons_zero,List.set_cons_succ])
   refine wpAnyH_ready (rs:=[11]) (by kernel_rfl) (by simp) ?_
   refine AllReadyH.cons rfl (fun K hK => ?_) AllReadyH.nil
   (refine step_append_lies _ (by rfl) _ _ _ (by rfl) W.heap.size 159 i0 _ 121 864 Tryz.underlying129 hi0 hz0 hz1 hz2 zPeer_cells (by omega) (.slice va k vcap) k ((l.take k).flatMap (fun c => (TownM.newPeer c).cells)) (by rfl) (unhide HA) ⟨w6.heap.size + 1,0,none⟩ 1 1 pn.cells (by rfl) (by rw [unhide HPL]) (unhide HNW) (unhide H1) (by omega) (by unfold maxLen;omega) (by omega) (unhide HBS) (w6.heap.size + 1 + 1) (unhide HSZ) ?_;intro g3 cap3 w7 ho hg hat hlt7;obtain ⟨z1,z2⟩:=unhide HFAR w7 hg;have HD:=hide (unhide HFIN g3 cap3 w7 ho hg);clear ho hg hat)
   refine hK.out _ _ trivial (fun hHeld2 => ?_)
   clear hK K hHeld
   have hHeld:=hHeld2
   clear hHeld2
   (try simp only [Act.put,List.getElem_toArray,List.getElem_cons_zero,List.getElem_cons_succ,List.setIfInBounds_toArray,List.set_cons_zero,List.set_cons_succ])
   refine wpAnyH_take (i:=12) (v:=?_) rfl (by kernel_rfl) (by kernel_rfl) (by kernel_rfl) (fun _ _ _ h => h) (Or.inl ⟨by rfl,?_⟩) (by assumption) ?_
   rotate_left
   ·intro w hSw
    go_simp
    (try with_reducible rfl)
   (try simp only [Act.put,List.getElem_toArray,List.getElem_cons_zero,List.getElem_cons_succ,List.setIfInBounds_toArray,List.set_cons_zero,List.set_cons_succ])
   refine wpAnyH_take (i:=13) (v:=?_) rfl (by kernel_rfl) (by kernel_rfl) (by kernel_rfl) (fun _ _ _ h => h) (Or.inl ⟨by rfl,?_⟩) (by assumption) ?_
   rotate_left
   ·intro w hSw
    go_simp
    (try with_reducible rfl)
   (try simp only [Act.put,List.getElem_toArray,List.getElem_cons_zero,List.getElem_cons_succ,List.setIfInBounds_toArray,List.set_cons_zero,List.set_cons_succ])
   refine wpAnyH_ready (rs:=[14]) (by kernel_rfl) (by simp) ?_
   refine AllReadyH.cons rfl (fun K hK => ?_) AllReadyH.nil
   (try simp only [List.getElem_toArray,List.getElem_cons_zero,List.getElem_cons_succ])
   go_simp
   refine hK.out _ _ trivial (fun hHeld2 => ?_)
   clear hK K hHeld
   have hHeld:=hHeld2
   clear hHeld2
   (try simp only [Act.put,List.getElem_toArray,List.getElem_cons_zero,List.getElem_cons_succ,List.setIfInBounds_toArray,List.set_cons_zero,List.set_cons_succ])
   refine wpAnyH_done (by kernel_rfl) ?_ _
   rotate_left
   all_goals
    clear HA HNW H1 HSZ HBS HFAR HFIN z1 z2 t4 t4a t4b y4 hms hcv1 hbs
    go_wp2
    go_roundw
    case rel => exact ⟨k + 1,_,hkl,by go_num,unhide HALL,unhide HD⟩
    case measure => simp [RowKit.intOf];omega
set_option maxRecDepth 100000 in
set_option maxHeartbeats 2000000 in
theorem dNewNo (W:World) (a:Option Addr) (n cap:Nat) (wait lease net:Int) (hlen:n ≤ 100000000000000) (h:¬ ((1 ≤ n ∧ n ≤ 7) ∧ (1 ≤ wait ∧ wait ≤ 20) ∧ (4 ≤ lease ∧ lease ≤ 100) ∧ (1 ≤ net ∧ net ≤ 1000))) :
  Calls Tryz.prog 50 #[.agg #[.slice a n cap,.int .i64 wait,.int .i64 lease,.int .i64 net]] W fun o w' => o = .returned (.tuple #[.pointer none,.int .i64 1]) ∧ Below W.heap.size W w':=by
 have hX:=(Below.refl W.heap.size W).alloc (Nat.le_refl _) (.cells #[.slice a n cap,.int .i64 wait,.int .i64 lease,.int .i64 net] 24)
 have HX:=hide hX
 have hno:(n:Int) < 1 ∨ (1 ≤ (n:Int) ∧ 7 < (n:Int)) ∨ (1 ≤ (n:Int) ∧ (n:Int) ≤ 7 ∧ wait < 1) ∨ (1 ≤ (n:Int) ∧ (n:Int) ≤ 7 ∧ 1 ≤ wait ∧ 20 < wait) ∨ (1 ≤ (n:Int) ∧ (n:Int) ≤ 7 ∧ 1 ≤ wait ∧ wait ≤ 20 ∧ lease < 4) ∨ (1 ≤ (n:Int) ∧ (n:Int) ≤ 7 ∧ 1 ≤ wait ∧ wait ≤ 20 ∧ 4 ≤ lease ∧ 100 < lease) ∨ (1 ≤ (n:Int) ∧ (n:Int) ≤ 7 ∧ 1 ≤ wait ∧ wait ≤ 20 ∧ 4 ≤ lease ∧ lease ≤ 100 ∧ net < 1) ∨ (1 ≤ (n:Int) ∧ (n:Int) ≤ 7 ∧ 1 ≤ wait ∧ wait ≤ 20 ∧ 4 ≤ lease ∧ lease ≤ 100 ∧ 1 ≤ net ∧ 1000 < net):=by omega
 clear hX h
 rcases hno with a1 | ⟨a1,a2⟩ | ⟨a1,a2,a3⟩ | ⟨a1,a2,a3,a4⟩ | ⟨a1,a2,a3,a4,a5⟩ | ⟨a1,a2,a3,a4,a5,a6⟩ | ⟨a1,a2,a3,a4,a5,a6,a7⟩ | ⟨a1,a2,a3,a4,a5,a6,a7,a8⟩
 all_goals
  go_enter Tryz.func50,Tryz.ntmps50
  go_wp2
  refine bodyPost_ret (v:=.tuple #[.pointer none,.int .i64 1]) (by simp [results,Tryz.results50,go_sem]) rfl ?_
  exact ⟨rfl,unhide HX⟩
end Go.Proofs.YtceappncglfciaaGreat
