import Derived.Test.YtceappncglfciaaGreatM28
set_option linter.unusedVariables false
set_option linter.unusedSimpArgs false
namespace Go.Proofs.YtceappncglfciaaGreat
open Go.RowKit Go.Shelf
attribute [local go_sem] Oper.semAt_some
theorem PR.later {W:World} {bt:Nat} {pb bs:List Nat} {T:PTown} (h:PR W bt pb bs T):PDid W bt pb bs (W.setCell ⟨bt,4,none⟩ (.int .i64 (T.now + 1))) T.later:=by
 obtain ⟨bp,capP,way,ev,hb,hw,he,C⟩:=h.turn
 have n1:way.ownBlock ≠ some bt:=own_ne hw hb (by decide)
 have n3:ev.ownBlock ≠ some bt:=own_ne he hb (by decide)
 have other:∀ k,k ≠ bt → (W.setCell ⟨bt,4,none⟩ (.int .i64 (T.now + 1))).heap[k]? = W.heap[k]?:=fun k hk => Below.heap_setCell W _ _ k hk
 refine C _ (T.now + 1) way ev T.way T.events (hb.set 4 _) (own_same hw (fun b hb2 => other b (fun e => n1 (by rw [hb2,e])))) (own_same he (fun b hb2 => other b (fun e => n3 (by rw [hb2,e])))) ⟨rfl,rfl,rfl,by simp,fun k _ hk => other k (fun e => hk (by simp [e]))⟩ (fun g hg => .inl hg) (fun g hg => .inl hg)
theorem up_in (n:Nat) (bt:Nat) (w:World) :
  CallsIn Fence.wide n Tryz.prog 42 #[.pointer (some ⟨bt,0,none⟩)] w fun e w' => e = .returned (.func (.func 72) #[] #[.pointer (some ⟨w.heap.size,0,none⟩)]) ∧ w' = w.alloc (.cells #[.pointer (some ⟨bt,0,none⟩)] 40):=by
 refine callsIn_of_wp Tryz.func42 rfl trivial ?_ rfl
 simp only [Tryz.ntmps42,List.size_toArray,List.length_cons,List.length_nil,Nat.reduceAdd,Nat.reduceSub,Array.replicate_succ,Array.replicate_zero,List.push_toArray,List.append_toArray,List.nil_append,List.cons_append]
 gi_wp2
 go_ret
 exact ⟨rfl,rfl⟩
def markD (D:Nat):Deferred:={ target:=.collected D,args:=#[] }
def Marks (W:World) (bs':List Nat) (w:World) (ds:List Nat):Prop:=ds.Nodup ∧ ∀ D ∈ ds,w.heap[D]? = some (.deferred (some [])) ∧ D ∉ bs' ∧ W.heap.size ≤ D
theorem leave_marks {fn:Func} {tmps:Array Value} {v:Value} {n:Nat} {W:World} {bt:Nat} {pb bs bs':List Nat} {T:PTown} (hres:∀ w',(results fn tmps).run Tryz.prog w' = .ok v w') :
  ∀ (ds:List Nat) (w:World),PR w bt pb bs' T → Links W bs w bs' → Marks W bs' w ds → LeavesInM Fence.wide n Tryz.prog fn tmps (fun o w' => o = .returned v ∧ PDid W bt pb bs w' T) (ds.map markD) .returning w
 | [],w,h,hl,_ => ⟨v,hres w,rfl,hl.did (PDid.rfl' h)⟩
 | D :: r,w,h,hl,hm => by
  obtain ⟨hnd,hD⟩:=hm
  obtain ⟨h1,h2,h3⟩:=hD D (by simp)
  have hlt:D < w.heap.size:=(Array.getElem?_eq_some_iff.1 h1).1
  refine ⟨by simp,.inl ⟨D,w.putObj D (.deferred none),rfl,run_takeDeferred h1,?_⟩⟩
  refine leave_marks hres r _ (h.keep (fun k hk => World.putObj_heap_other (fun e => h2 (e ▸ hk)))) ⟨⟨hl.1.os,hl.1.tape,hl.1.output,by rw [World.putObj_size];exact hl.1.size,fun k hk hk2 => (World.putObj_heap_other (by omega)).trans (hl.1.block k hk hk2)⟩,hl.2⟩ ⟨(List.nodup_cons.1 hnd).2,fun D2 hD2 => ?_⟩
  obtain ⟨g1,g2,g3⟩:=hD D2 (by simp [hD2])
  exact ⟨(World.putObj_heap_other (fun e:D2 = D => (List.nodup_cons.1 hnd).1 (e ▸ hD2))).trans g1,g2,g3⟩
set_option maxRecDepth 100000 in
set_option maxHeartbeats 2000000 in
theorem TickArg (n:Int) (W:World) (bt:Nat) (hn:¬ (1 ≤ n ∧ n ≤ 1000)) :
  Calls Tryz.prog 18 #[.pointer (some ⟨bt,0,none⟩),.int .i64 n] W fun o w' => o = .returned (.int .i64 1) ∧ w' = W:=by
 have HI:=hide (within_any n 1 1000 W)
 rw [show (decide (1 ≤ n) && decide (n ≤ 1000)) = false from by simp;omega] at HI
 go_enter Tryz.func18,Tryz.ntmps18
 go_wp2_with (go_at_call 41;refine (unhide HI).mono ?_;rintro o w1 ⟨rfl,rfl⟩)
 go_ret
 exact ⟨rfl,rfl⟩
def TickI (W:World) (bt:Nat) (pb bs:List Nat) (T:PTown) (m:Nat) (a:Act) (w:World):Prop :=
 ∃ (j:Nat) (ds bs':List Nat) (x11 x12 x13 x14 x15 x16 x17 x18 x19 x20 x24:Value),j ≤ m ∧
  a = ⟨#[.pointer (some ⟨bt,0,none⟩),.int .i64 (m:Int),undef,undef,.int .i64 0,undef,.int .i64 (m:Int),.bool true,.bool false,.int .i64 (m:Int),.int .i64 (j:Int),x11,x12,x13,x14,x15,x16,x17,x18,x19,x20,undef,undef,undef,x24],ds.map markD⟩ ∧
  PR w bt pb bs' (T.tickN j) ∧ Links W bs w bs' ∧ Marks W bs' w ds
set_option maxRecDepth 100000 in
set_option maxHeartbeats 2000000 in
theorem TickOk (n:Int) (W:World) (bt:Nat) (pb bs:List Nat) (T:PTown) (h:PR W bt pb bs T) (hn:1 ≤ n ∧ n ≤ 1000) (h1p:1 ≤ T.ps.length) (hok:∀ j:Nat,(j:Int) < n → ∀ k,k < T.ps.length → TickOK ((T.tickN j).later.ticksTo k)) :
  Calls Tryz.prog 18 #[.pointer (some ⟨bt,0,none⟩),.int .i64 n] W fun o w' => o = .returned (.int .i64 0) ∧ PDid W bt pb bs w' (T.tickN n.toNat):=by
 have HI:=hide (within_any n 1 1000 W)
 rw [show (decide (1 ≤ n) && decide (n ≤ 1000)) = true from by simp;omega] at HI
 have HH:=hide h
 have HOK:=hide hok
 obtain ⟨m,hm⟩:∃ m:Nat,n = (m:Int):=⟨n.toNat,by omega⟩
 subst hm
 rw [Int.toNat_natCast]
 have hm0:1 ≤ m ∧ m ≤ 1000:=by omega
 clear h hok hn
 refine (callsIn_wide (n:=8)).1 ?_
 refine callsIn_of_wp_marks Tryz.func18 rfl trivial ?_ rfl
 simp only [Tryz.ntmps18,List.size_toArray,List.length_cons,List.length_nil,Nat.reduceAdd,Nat.reduceSub,Array.replicate_succ,Array.replicate_zero,List.push_toArray,List.append_toArray,List.nil_append,List.cons_append]
 gi_wp2_with fail
 refine ⟨trivial,?_⟩
 refine (callsIn_wide.2 (unhide HI)).mono ?_
 rintro o W ⟨rfl,rfl⟩
 clear HI
 gi_wp2_with fail
 refine wpIn_loop (TickI W bt pb bs T m) (fun a _ => m - (RowKit.intOf (a.tmps.getD 10 undef)).toNat) ⟨0,[],bs,undef,undef,undef,undef,undef,undef,undef,undef,undef,undef,undef,Nat.zero_le _,rfl,unhide HH,Links.refl _ _,List.nodup_nil,by simp⟩ ?_
 rintro a w ⟨j,ds,bs',x11,x12,x13,x14,x15,x16,x17,x18,x19,x20,x24,hj,rfl,hr,hl,hmk⟩
 by_cases hjm:j = m
 ·subst hjm
  have HE:=hide (And.intro hr (And.intro hl hmk))
  clear hr hl hmk
  gi_wp2
  exact leave_marks (v:=.int .i64 0) (fun w' => by simp [results,Tryz.results18,go_sem]) ds w (unhide HE).1 (unhide HE).2.1 (unhide HE).2.2
 ·have hjl:j < m:=by omega
  have hokj:=(unhide HOK) j (by omega)
  have hlen:(T.tickN j).ps.length = T.ps.length:=ptickN_len T j
  have hok0:=(hokj 0 h1p).hnow
  obtain ⟨nw,hnw⟩:∃ nw,nw = (T.tickN j).now:=⟨_,rfl⟩
  have hn0:0 ≤ nw + 1:=by rw [hnw];exact hok0.1
  have hn1:nw + 1 ≤ 4611686018427387904:=by rw [hnw];exact hok0.2
  obtain ⟨bp,capP,way,ev,hbx,_⟩:=hr.turn
  have c4:w.cell? ⟨bt,4,none⟩ = some (.int .i64 nw):=by rw [hnw];exact hbx.cell 4
  have f4:=hbx.frozen 4
  have hla:=hr.later
  rw [← hnw] at hla
  have hneg:¬ (nw + 1 < 0):=by omega
  obtain ⟨bs2,h2,k2⟩:=hla.open
  have HL2:=hide (hl.trans k2)
  have HMK:Hid (Marks W bs2 (w.setCell ⟨bt,4,none⟩ (.int .i64 (nw + 1))) ds):=⟨hmk.1,fun D hD => by
   obtain ⟨g1,g2,g3⟩:=hmk.2 D hD
   have hlt:D < w.heap.size:=(Array.getElem?_eq_some_iff.1 g1).1
   exact ⟨(k2.keepBlock hlt g2).trans g1,k2.out hlt g2,g3⟩⟩
  have HR2:=hide h2
  have HOJ:=hide hokj
  clear hr hl hmk hbx hla h2 k2 hokj hok0 hnw
  gi_wp2_with fail
  generalize w.setCell ⟨bt,4,none⟩ (.int .i64 (nw + 1)) = w2 at *
  refine ⟨trivial,?_⟩
  refine (up_in _ bt _).mono ?_
  rintro o w3 ⟨rfl,rfl⟩
  gi_wp2_with fail
  have hb3:=(Below.refl w2.heap.size w2).alloc (Nat.le_refl _) (.cells #[.pointer (some ⟨bt,0,none⟩)] 40)
  have hbox:(w2.alloc (.cells #[.pointer (some ⟨bt,0,none⟩)] 40)).cell? ⟨w2.heap.size,0,none⟩ = some (.pointer (some ⟨bt,0,none⟩)):=(Box.new w2 #[.pointer (some ⟨bt,0,none⟩)] 40).cell 0
  have hr3:=(unhide HR2).below hb3
  have hl3:=(unhide HL2).below hb3
  have hsz3:(w2.alloc (.cells #[.pointer (some ⟨bt,0,none⟩)] 40)).heap.size = w2.heap.size + 1:=by simp
  have hmk3:Marks W bs2 (w2.alloc (.cells #[.pointer (some ⟨bt,0,none⟩)] 40)) ds:=⟨(unhide HMK).1,fun D hD => by
   obtain ⟨g1,g2,g3⟩:=(unhide HMK).2 D hD
   exact ⟨(hb3.block D (Array.getElem?_eq_some_iff.1 g1).1).trans g1,g2,g3⟩⟩
  generalize w2.alloc (.cells #[.pointer (some ⟨bt,0,none⟩)] 40) = w3 at *
  clear hb3 HMK HR2 HL2
  have hlen2:(T.tickN j).later.ps.length = T.ps.length:=hlen
  refine range_ticks (T:=(T.tickN j).later) (bt:=bt) (pb:=pb) (bs:=bs2) (by omega) rfl rfl hr3 hbox (by omega) (fun k hk => (unhide HOJ) k (by omega)) (fun b => ⟨#[.pointer (some ⟨bt,0,none⟩),.int .i64 (m:Int),undef,undef,.int .i64 0,.pointer (some ⟨b,0,none⟩),.int .i64 (m:Int),.bool true,.bool false,.int .i64 (m:Int),.int .i64 (j:Int),.bool true,.pointer (some ⟨bt,0,none⟩),.pointer (some ⟨bt,0,none⟩),.pointer (some ⟨bt,4,none⟩),.int .i64 nw,.int .i64 (nw + 1),.pointer (some ⟨bt,0,none⟩),.pointer (some ⟨bt,4,none⟩),.pointer (some ⟨bt,0,none⟩),.func (.func 72) #[] #[.pointer (some ⟨w2.heap.size,0,none⟩)],.pointer (some ⟨b,0,none⟩),undef,undef,x24],[]⟩) ?_ ?_ ?_
  ·intro b l X K hK
   gi_wp2
   exact hK
  ·intro b l X R hc
   have HC:=hide hc
   clear hc
   gi_wp2_with fail
   refine ⟨trivial,?_⟩
   refine (CallsIn.inRound l (callsIn_wide.2 (unhide HC))).mono ?_
   rintro o w5 ⟨rfl,hR⟩
   gi_wp2
   exact hR
  ·intro W' bs4 h4 hl4 hn4 hd4
   have hT:(T.tickN j).later.ticksTo (T.tickN j).later.ps.length = T.tickN (j + 1):=rfl
   rw [hT] at h4
   have HF:Hid (TickI W bt pb bs T m ⟨#[.pointer (some ⟨bt,0,none⟩),.int .i64 (m:Int),undef,undef,.int .i64 0,undef,.int .i64 (m:Int),.bool true,.bool false,.int .i64 (m:Int),.int .i64 ((j:Int) + 1),.bool true,.pointer (some ⟨bt,0,none⟩),.pointer (some ⟨bt,0,none⟩),.pointer (some ⟨bt,4,none⟩),.int .i64 nw,.int .i64 (nw + 1),.pointer (some ⟨bt,0,none⟩),.pointer (some ⟨bt,4,none⟩),.pointer (some ⟨bt,0,none⟩),.func (.func 72) #[] #[.pointer (some ⟨w2.heap.size,0,none⟩)],undef,undef,undef,.int .i64 ((j:Int) + 1)],markD w3.heap.size :: ds.map markD⟩ W'):=by
    refine ⟨j + 1,w3.heap.size :: ds,bs4,.bool true,.pointer (some ⟨bt,0,none⟩),.pointer (some ⟨bt,0,none⟩),.pointer (some ⟨bt,4,none⟩),.int .i64 nw,.int .i64 (nw + 1),.pointer (some ⟨bt,0,none⟩),.pointer (some ⟨bt,4,none⟩),.pointer (some ⟨bt,0,none⟩),.func (.func 72) #[] #[.pointer (some ⟨w2.heap.size,0,none⟩)],.int .i64 ((j:Int) + 1),hjl,by simp,h4,hl3.trans hl4,?_,?_⟩
    ·refine List.nodup_cons.2 ⟨fun hm => ?_,hmk3.1⟩
     have:=(Array.getElem?_eq_some_iff.1 (hmk3.2 _ hm).1).1
     omega
    ·intro D hD
     rcases List.mem_cons.1 hD with rfl | hD
     ·exact ⟨hd4,hn4,hl3.1.size⟩
     ·obtain ⟨g1,g2,g3⟩:=hmk3.2 D hD
      have hlt:D < w3.heap.size:=(Array.getElem?_eq_some_iff.1 g1).1
      exact ⟨(hl4.keepBlock hlt g2).trans g1,hl4.out hlt g2,g3⟩
   clear h4 hl4 hn4 hd4 hr3 hl3 hmk3 hbox hT
   gi_wp2
   refine ⟨unhide HF,?_⟩
   simp [RowKit.intOf]
   omega
end Go.Proofs.YtceappncglfciaaGreat
namespace Go.Proofs.YtceappncglfciaaGreat
open Go.RowKit
attribute [local go_sem ↓] Go.wp_at_zero Go.wp_at_succ
theorem PeerAt.below {W W':World} {bt i b:Nat} {q:PL} {p:PeerP} (h:PeerAt W bt i b q p) (hb:Below W.heap.size W W'):PeerAt W' bt i b q p:=h.same (hb.block b h.box.lt) (fun k hk => hb.block k (h.lt k hk))
def zeroDisk:List Int:=List.replicate 56 0
theorem newest_zero:newestL zeroDisk = newZ:=by
 have h1:rightL (slotL zeroDisk false) = false:=by decide
 have h2:rightL (slotL zeroDisk true) = false:=by decide
 unfold newestL
 rw [if_pos (by rfl)]
 unfold newStep
 simp [h1,h2]
theorem zero_bytes:BytesL zeroDisk:=fun x hx => by rw [List.eq_of_mem_replicate hx];decide
def firstP (c:CredM):PeerP:={ PeerP.zeroed (diskWrite zeroDisk c 28) with c:=c }
set_option maxRecDepth 100000 in
set_option maxHeartbeats 1000000 in
theorem write_first (i b:Nat) (c:CredM) (W:World) (bt:Nat) (q:PL) (hat:PeerAt W bt i b q (PeerP.zeroed zeroDisk)) (hc:c.ok) :
  Calls Tryz.prog 70 #[.pointer (some ⟨b,0,none⟩),.agg #[.int .i64 c.p,.int .i64 c.t,.int .i64 c.e,.int .i64 c.v]] W fun o w' => o = .returned (.bool true) ∧ PeerAt w' bt i b q (firstP c) ∧ Keeps [b] W w':=by
 have hX:=(Below.refl W.heap.size W).alloc (Nat.le_refl _) (.cells #[.int .i64 c.p,.int .i64 c.t,.int .i64 c.e,.int .i64 c.v] 39)
 have HBX:Hid (Box (W.alloc (.cells #[.int .i64 c.p,.int .i64 c.t,.int .i64 c.e,.int .i64 c.v] 39)) W.heap.size #[.int .i64 c.p,.int .i64 c.t,.int .i64 c.e,.int .i64 c.v] 39):=Box.new _ _ _
 have HH:=hide (hat.below hX)
 have HX:Hid (Keeps [b] W _):=Keeps.of_below hX
 have hbl:b < W.heap.size:=hat.box.lt
 clear hat hX
 go_enter Tryz.func70,Tryz.ntmps70
 go_upto_region 1 with fail
 generalize W.alloc (.cells #[.int .i64 c.p,.int .i64 c.t,.int .i64 c.e,.int .i64 c.v] 39) = W1 at *
 have hat:=unhide HH
 have hdl:zeroDisk.length = 56:=rfl
 have hcv:=run_convert_bytes_arg (P:=Tryz.prog) (w:=W1) 116 5 Tryz.underlying116 Tryz.underlying5 b 2 56 56 zeroDisk hdl (fun j hj => hat.byte hj) 9 Tryz.underlying9
 have HC:=hide (newest_L zeroDisk zero_bytes hdl W1)
 rw [newest_zero] at HC
 simp only [CredM.cells,newZ,credZ] at HC
 clear hat
 go_upto_region 2 with (go_at_call 22;refine (unhide HC).mono ?_;rintro o w2 ⟨rfl,hB2⟩)
 have hB3:=hB2.alloc hB2.size (.cells #[.int .i64 0,.int .i64 0,.int .i64 0,.int .i64 0] 39)
 generalize w2.alloc (.cells #[.int .i64 0,.int .i64 0,.int .i64 0,.int .i64 0] 39) = W3 at *
 have HH3:=hide ((unhide HH).below hB3)
 have HX3:Hid (Keeps [b] W W3):=(unhide HX).trans (Keeps.of_below hB3) (fun x hx => .inl hx)
 have HBX3:=hide ((unhide HBX).keep hB3)
 clear hcv HC HH HX HBX hB2 hB3
 have hbad:=CredM.bad hc (n:=1) (by omega) (by omega)
 have HEN:=hide (encode_L 1 c hbad W3)
 simp only [CredM.cells] at HEN
 have b0:W3.cell? ⟨W.heap.size,0,none⟩ = some (.int .i64 c.p):=(unhide HBX3).cell 0
 have b1:W3.cell? ⟨W.heap.size,1,none⟩ = some (.int .i64 c.t):=(unhide HBX3).cell 1
 have b2:W3.cell? ⟨W.heap.size,2,none⟩ = some (.int .i64 c.e):=(unhide HBX3).cell 2
 have b3:W3.cell? ⟨W.heap.size,3,none⟩ = some (.int .i64 c.v):=(unhide HBX3).cell 3
 have HEB:=hide (enc_bytes_bad hbad)
 have HEL:=hide (encL_len 1 c.p c.t c.e c.v)
 have HDW:Hid (diskWrite zeroDisk c 28 = splice zeroDisk 0 (encL 1 c.p c.t c.e c.v)):=by
  show _ = _
  rw [dw_splice_0 zeroDisk c 28 newZ newest_zero.symm rfl (by decide) (Nat.le_refl _)]
  show splice zeroDisk 0 ((encL 1 c.p c.t c.e c.v).take 28) = _
  rw [List.take_of_length_le (by rw [encL_len];omega)]
 generalize encL 1 c.p c.t c.e c.v = E at *
 go_upto_region 7 with (go_at_call 49;refine (unhide HEN).mono ?_;rintro o w4 ⟨rfl,hB4⟩)
 have hat4:=(unhide HH3).below hB4
 have HX4:Hid (Keeps [b] W w4):=(unhide HX3).trans (Keeps.of_below hB4) (fun x hx => .inl hx)
 have HBX4:=hide ((unhide HBX3).keep hB4)
 have hbx4:W.heap.size < w4.heap.size:=(unhide HBX4).lt
 clear HEN HH3 HX3 HBX3 hB4 b0 b1 b2 b3 hbad
 have c62:w4.cell? ⟨b,62,none⟩ = some (.bool false):=hat4.f62
 have hbl4:b < w4.heap.size:=hat4.box.lt
 have hes:(strOfNums E).size = 28:=by rw [strOfNums_size];exact unhide HEL
 have hcp:∀ ty,(Builtin.copy_ #[116,9] ty #[.slice (some ⟨b,2,none⟩) 56 56,.string (strOfNums E)]).run Tryz.prog w4 = .ok (goInt (strOfNums E).size) (w4.setCells b 2 ((strOfNums E).data.toList.map fun x => Value.int .u8 (x.toNat:Int))):=fun ty =>
  run_copy_string (P:=Tryz.prog) w4 _ _ ty 5 b 2 56 56 (strOfNums E) Tryz.underlying116 (fun w => by rfl) (by omega) (fun j hj => (hat4.there 2 56 (by omega) j (by omega)).1) (fun j hj => hat4.fz _)
 rw [bytes_cells E (unhide HEB),hes] at hcp
 have hbn:=hat4.b_notin
 obtain ⟨hat5,_⟩:=hat4.cells (W':=w4.setCells b 2 (byteCells E)) (q':=q) (p':=PeerP.zeroed (splice zeroDisk 0 E)) (by
  show PBox _ _ _ _ (byteCells (splice zeroDisk 0 E)) _
  rw [byte_splice]
  exact hat4.box.setDisk 0 (by simp [byteCells,unhide HEL])) (fun k hk => heap_setCells_other b k (fun e => by subst e;exact hbn hk) _ _ _) ⟨rfl,rfl,rfl⟩ (.inl ⟨rfl,rfl⟩) (.inl ⟨rfl,rfl⟩) (.inl ⟨rfl,rfl⟩) (.inl ⟨rfl,rfl⟩) (.inl ⟨rfl,rfl⟩)
 have HX5:Hid (Keeps [b] W (w4.setCells b 2 (byteCells E))):=keeps_setCells (fp:=[]) _ _ (unhide HX4)
 have HBX5:Hid (Box (w4.setCells b 2 (byteCells E)) W.heap.size #[.int .i64 c.p,.int .i64 c.t,.int .i64 c.e,.int .i64 c.v] 39):=(heap_setCells_other b _ (by omega) _ _ _).trans (unhide HBX4)
 have HH5:=hide hat5
 clear hat4 hat5 HBX4 HX4 HEB HEL
 have d62:(w4.setCells b 2 (byteCells E)).cell? ⟨b,62,none⟩ = some (.bool false):=(unhide HH5).f62
 go_upto_region 10 with fail
 generalize w4.setCells b 2 (byteCells E) = w5 at *
 have hat5:=unhide HH5
 have d64:w5.cell? ⟨b,64,none⟩ = some (.int .i64 0):=hat5.f64
 have d65:w5.cell? ⟨b,65,none⟩ = some (.int .i64 0):=hat5.f65
 have d66:w5.cell? ⟨b,66,none⟩ = some (.int .i64 0):=hat5.f66
 have d67:w5.cell? ⟨b,67,none⟩ = some (.int .i64 0):=hat5.f67
 have y64:=hat5.fz 64
 have y65:=hat5.fz 65
 have y66:=hat5.fz 66
 have y67:=hat5.fz 67
 have e0:w5.cell? ⟨W.heap.size,0,none⟩ = some (.int .i64 c.p):=(unhide HBX5).cell 0
 have e1:w5.cell? ⟨W.heap.size,1,none⟩ = some (.int .i64 c.t):=(unhide HBX5).cell 1
 have e2:w5.cell? ⟨W.heap.size,2,none⟩ = some (.int .i64 c.e):=(unhide HBX5).cell 2
 have e3:w5.cell? ⟨W.heap.size,3,none⟩ = some (.int .i64 c.v):=(unhide HBX5).cell 3
 have hbn5:=hat5.b_notin
 obtain ⟨hat6,_⟩:=hat5.cells (W':=sets b w5 [(64,.int .i64 c.p),(65,.int .i64 c.t),(66,.int .i64 c.e),(67,.int .i64 c.v)]) (q':=q) (p':=firstP c) (by
  show PBox _ _ _ _ (byteCells (diskWrite zeroDisk c 28)) _
  rw [unhide HDW]
  exact hat5.box.sets _ (by simp)) (fun k hk => sets_far (fun e => by subst e;exact hbn5 hk) _ _) ⟨rfl,rfl,rfl⟩ (.inl ⟨rfl,rfl⟩) (.inl ⟨rfl,rfl⟩) (.inl ⟨rfl,rfl⟩) (.inl ⟨rfl,rfl⟩) (.inl ⟨rfl,rfl⟩)
 have HF:=hide (And.intro hat6 (sets_keeps [(64,.int .i64 c.p),(65,.int .i64 c.t),(66,.int .i64 c.e),(67,.int .i64 c.v)] (unhide HX5)))
 simp only [sets] at HF
 clear hat5 hat6 HH5 HX5 HBX5 hcp HDW
 go_wp2
 go_ret
 exact ⟨by rfl,unhide HF⟩
end Go.Proofs.YtceappncglfciaaGreat
namespace Go.Proofs.YtceappncglfciaaGreat
open Go.RowKit
attribute [local go_sem ↓] Go.wp_at_zero Go.wp_at_succ
theorem Tryz.infoUnit:(Tryz.prog.info? 147).map (fun i => i.bytes) = some 0:=by kernel_rfl
theorem Tryz.infoOrder:(Tryz.prog.info? 87).map (fun i => i.bytes) = some 16:=by kernel_rfl
def chanZ:Obj:=.chan 1 #[] false 0 0 false
def newCells (bt i x y z:Nat):Array Value:=(pcells bt i (byteCells zeroDisk) ((PeerP.zeroed zeroDisk).tail ⟨x,y,z,none,none,none,none,none⟩)).toArray
theorem Tryz.builtPeer (bt i x y z:Nat):Tryz.prog.built 114 [(0,.pointer (some ⟨bt,0,none⟩)),(1,.int .i64 (i:Int)),(4,.chan (some x)),(5,.chan (some y)),(6,.chan (some z))] = some (newCells bt i x y z):=by kernel_rfl
theorem makeChan_any (t:TypeId) {e:TypeId} {dir:ChanDir} {it:TypeInfo} (ht:Tryz.prog.underlying t = some (.chan dir e)) (hi:Tryz.prog.info? e = some it) (hb:it.bytes ≤ 1000) (w:World):(Instr.makeChan t (.int .i64 1)).run Tryz.prog w = .ok (.chan (some w.heap.size)) (w.alloc chanZ):=by
 have:=Conc.run_makeChan (P:=Tryz.prog) (w:=w) ht hi .i64 1 (by decide) (by omega)
 exact this
set_option maxRecDepth 100000 in
set_option maxHeartbeats 1000000 in
theorem newPeer_any (i:Nat) (c:CredM) (W:World) (bt:Nat) (hc:c.ok) :
  Calls Tryz.prog 39 #[.pointer (some ⟨bt,0,none⟩),.int .i64 (i:Int),.agg #[.int .i64 c.p,.int .i64 c.t,.int .i64 c.e,.int .i64 c.v]] W fun o w' => ∃ b q,o = .returned (.pointer (some ⟨b,0,none⟩)) ∧ PeerAt w' bt i b q (firstP c) ∧ Below W.heap.size W w' ∧ W.heap.size ≤ b ∧ ∀ x ∈ q.blocks,W.heap.size ≤ x:=by
 obtain ⟨i1,hi1,_,_,hz1⟩:=info_parts Tryz.infoMsg
 obtain ⟨i2,hi2,hz2⟩:∃ it,Tryz.prog.info? 147 = some it ∧ it.bytes = 0:=by
  obtain ⟨it,h1,h2⟩:=Option.map_eq_some_iff.1 Tryz.infoUnit
  exact ⟨it,h1,h2⟩
 obtain ⟨i3,hi3,hz3⟩:∃ it,Tryz.prog.info? 87 = some it ∧ it.bytes = 16:=by
  obtain ⟨it,h1,h2⟩:=Option.map_eq_some_iff.1 Tryz.infoOrder
  exact ⟨it,h1,h2⟩
 have hX:=(Below.refl W.heap.size W).alloc (Nat.le_refl _) (.cells #[.int .i64 c.p,.int .i64 c.t,.int .i64 c.e,.int .i64 c.v] 39)
 have HBX:Hid (Box (W.alloc (.cells #[.int .i64 c.p,.int .i64 c.t,.int .i64 c.e,.int .i64 c.v] 39)) W.heap.size #[.int .i64 c.p,.int .i64 c.t,.int .i64 c.e,.int .i64 c.v] 39):=Box.new _ _ _
 have HX:=hide hX
 clear hX
 go_enter Tryz.func39,Tryz.ntmps39
 go_upto_region 1 with fail
 generalize W.alloc (.cells #[.int .i64 c.p,.int .i64 c.t,.int .i64 c.e,.int .i64 c.v] 39) = W1 at *
 have m1:=fun w => makeChan_any 96 Tryz.underlying96 hi1 (by omega) w
 have m2:=fun w => makeChan_any 97 Tryz.underlying97 hi2 (by omega) w
 have m3:=fun w => makeChan_any 98 Tryz.underlying98 hi3 (by omega) w
 have hbd:=fun w x y z => run_build (P:=Tryz.prog) w 114 #[(0,.pointer (some ⟨bt,0,none⟩)),(1,.int .i64 (i:Int)),(4,.chan (some x)),(5,.chan (some y)),(6,.chan (some z))] (newCells bt i x y z) (Tryz.builtPeer bt i x y z)
 have hcl:∀ x y z:Nat,(((((Tryz.zeroCells114.setIfInBounds 0 (.pointer (some ⟨bt,0,none⟩))).setIfInBounds 1 (.int .i64 (i:Int))).setIfInBounds 59 (.chan (some x))).setIfInBounds 60 (.chan (some y))).setIfInBounds 61 (.chan (some z))) = newCells bt i x y z:=fun x y z => by kernel_rfl
 have HMK:Hid (∀ x y z:Nat,x ≠ y → x ≠ z → y ≠ z → (W1.heap.size ≤ x ∧ x < W1.heap.size + 3) → (W1.heap.size ≤ y ∧ y < W1.heap.size + 3) → (W1.heap.size ≤ z ∧ z < W1.heap.size + 3) →
   Hid (Calls Tryz.prog 70 #[.pointer (some ⟨W1.heap.size + 1 + 1 + 1,0,none⟩),.agg #[.int .i64 c.p,.int .i64 c.t,.int .i64 c.e,.int .i64 c.v]] (((((W1.alloc chanZ).alloc chanZ).alloc chanZ).alloc (.cells (newCells bt i x y z) 114)).drew) fun o w' => o = .returned (.bool true) ∧
    ∃ b q,b = W1.heap.size + 1 + 1 + 1 ∧ PeerAt w' bt i b q (firstP c) ∧ Below W.heap.size W w' ∧ W.heap.size ≤ b ∧ ∀ x ∈ q.blocks,W.heap.size ≤ x) ∧
   Box (((((W1.alloc chanZ).alloc chanZ).alloc chanZ).alloc (.cells (newCells bt i x y z) 114)).drew) W.heap.size #[.int .i64 c.p,.int .i64 c.t,.int .i64 c.e,.int .i64 c.v] 39):=by
  intro x y z n1 n2 n3 hx hy hz
  show Hid (Calls Tryz.prog 70 #[.pointer (some ⟨W1.heap.size + 1 + 1 + 1,0,none⟩),.agg #[.int .i64 c.p,.int .i64 c.t,.int .i64 c.e,.int .i64 c.v]] ((((W1.drew.alloc chanZ).alloc chanZ).alloc chanZ).alloc (.cells (newCells bt i x y z) 114)) fun o w' => o = .returned (.bool true) ∧
    ∃ b q,b = W1.heap.size + 1 + 1 + 1 ∧ PeerAt w' bt i b q (firstP c) ∧ Below W.heap.size W w' ∧ W.heap.size ≤ b ∧ ∀ x ∈ q.blocks,W.heap.size ≤ x) ∧
   Box ((((W1.drew.alloc chanZ).alloc chanZ).alloc chanZ).alloc (.cells (newCells bt i x y z) 114)) W.heap.size #[.int .i64 c.p,.int .i64 c.t,.int .i64 c.e,.int .i64 c.v] 39
  have hs0:(unhide HX).size = (unhide HX).size:=rfl
  have hsz:=(unhide HX).size
  obtain ⟨X,hX⟩:∃ X,((W1.drew.alloc chanZ).alloc chanZ).alloc chanZ = X:=⟨_,rfl⟩
  have hXs:X.heap.size = W1.heap.size + 3:=by rw [← hX];simp
  have hXc:∀ k,W1.heap.size ≤ k → k < W1.heap.size + 3 → X.heap[k]? = some chanZ:=by
   intro k h1 h2
   rw [← hX]
   have e0:W1.drew.heap.size = W1.heap.size:=rfl
   rcases Nat.lt_or_ge k (W1.heap.size + 1) with h3 | h3
   ·have:k = W1.drew.heap.size:=by omega
    rw [Below.heap_alloc _ _ _ (by simp;omega),Below.heap_alloc _ _ _ (by simp;omega),this]
    exact World.alloc_heap_new _ _
   ·rcases Nat.lt_or_ge k (W1.heap.size + 2) with h4 | h4
    ·have:k = (W1.drew.alloc chanZ).heap.size:=by rw [World.size_alloc];omega
     rw [Below.heap_alloc _ _ _ (by simp;omega),this]
     exact World.alloc_heap_new _ _
    ·have:k = ((W1.drew.alloc chanZ).alloc chanZ).heap.size:=by rw [World.size_alloc,World.size_alloc];omega
     rw [this]
     exact World.alloc_heap_new _ _
  have hbX:Below W.heap.size W X:=by
   rw [← hX]
   refine ((((unhide HX).drew).alloc ?_ _).alloc ?_ _).alloc ?_ _
   ·exact hsz
   ·simp only [World.size_alloc];show W.heap.size ≤ W1.heap.size + 1;omega
   ·simp only [World.size_alloc];show W.heap.size ≤ W1.heap.size + 1 + 1;omega
  have hBX:Box X W.heap.size #[.int .i64 c.p,.int .i64 c.t,.int .i64 c.e,.int .i64 c.v] 39:=by
   rw [← hX]
   exact (((show Box W1.drew W.heap.size _ _ from unhide HBX).alloc _).alloc _).alloc _
  rw [hX]
  have hbY:=hbX.alloc hbX.size (.cells (newCells bt i x y z) 114)
  have far:∀ k,k < X.heap.size → (X.alloc (.cells (newCells bt i x y z) 114)).heap[k]? = X.heap[k]?:=fun k hk => Below.heap_alloc _ _ _ hk
  have hat:PeerAt (X.alloc (.cells (newCells bt i x y z) 114)) bt i X.heap.size ⟨x,y,z,none,none,none,none,none⟩ (PeerP.zeroed zeroDisk) :=
   ⟨⟨World.alloc_heap_new _ _,by simp [byteCells,PeerP.zeroed,zeroDisk]⟩,⟨0,0,(far x (by omega)).trans (hXc x hx.1 hx.2)⟩,⟨0,0,(far y (by omega)).trans (hXc y hy.1 hy.2)⟩,⟨0,0,(far z (by omega)).trans (hXc z hz.1 hz.2)⟩,trivial,trivial,trivial,trivial,trivial,by
    simp [PL.blocks,n1,n2,n3]⟩
  have e3:X.heap.size = W1.heap.size + 1 + 1 + 1:=by omega
  rw [← e3]
  refine ⟨(write_first i X.heap.size c _ bt _ hat hc).mono ?_,hBX.alloc _⟩
  rintro o w' ⟨rfl,h1,h2⟩
  refine ⟨rfl,X.heap.size,_,rfl,h1,?_,by omega,?_⟩
  ·exact ⟨h2.os.trans hbY.os,h2.tape.trans hbY.tape,h2.output.trans hbY.output,Nat.le_trans hbY.size h2.size,fun k hk => (h2.block k (Nat.lt_of_lt_of_le hk hbY.size) (by simp;omega)).trans (hbY.block k hk)⟩
  ·intro k hk
   simp only [PL.blocks,Option.toList_none,List.append_nil,List.mem_cons,List.not_mem_nil,or_false] at hk
   omega
 go_region_with (fail)
 all_goals
  try simp only [hcl]
  first
  | (obtain ⟨HWR,hbx⟩:=unhide HMK W1.heap.size (W1.heap.size + 1) (W1.heap.size + 1 + 1) (by omega) (by omega) (by omega) (by omega) (by omega) (by omega)
     generalize ((((W1.alloc chanZ).alloc chanZ).alloc chanZ).alloc (.cells (newCells bt i W1.heap.size (W1.heap.size + 1) (W1.heap.size + 1 + 1)) 114)).drew = w5 at *
     have b0:w5.cell? ⟨W.heap.size,0,none⟩ = some (.int .i64 c.p):=hbx.cell 0
     have b1:w5.cell? ⟨W.heap.size,1,none⟩ = some (.int .i64 c.t):=hbx.cell 1
     have b2:w5.cell? ⟨W.heap.size,2,none⟩ = some (.int .i64 c.e):=hbx.cell 2
     have b3:w5.cell? ⟨W.heap.size,3,none⟩ = some (.int .i64 c.v):=hbx.cell 3
     clear m1 m2 m3 hbd hcl HMK HBX HX hbx
     go_wp2_with (go_at_call 70;refine (unhide HWR).mono ?_;rintro o w6 ⟨rfl,b,q,hbq,hf⟩;have HF:=hide hf;have HB:=hide hbq;clear hf hbq)
     go_ret
     exact ⟨b,q,by rw [unhide HB];rfl,unhide HF⟩)
  | (obtain ⟨HWR,hbx⟩:=unhide HMK W1.heap.size (W1.heap.size + 1 + 1) (W1.heap.size + 1) (by omega) (by omega) (by omega) (by omega) (by omega) (by omega)
     generalize ((((W1.alloc chanZ).alloc chanZ).alloc chanZ).alloc (.cells (newCells bt i W1.heap.size (W1.heap.size + 1 + 1) (W1.heap.size + 1)) 114)).drew = w5 at *
     have b0:w5.cell? ⟨W.heap.size,0,none⟩ = some (.int .i64 c.p):=hbx.cell 0
     have b1:w5.cell? ⟨W.heap.size,1,none⟩ = some (.int .i64 c.t):=hbx.cell 1
     have b2:w5.cell? ⟨W.heap.size,2,none⟩ = some (.int .i64 c.e):=hbx.cell 2
     have b3:w5.cell? ⟨W.heap.size,3,none⟩ = some (.int .i64 c.v):=hbx.cell 3
     clear m1 m2 m3 hbd hcl HMK HBX HX hbx
     go_wp2_with (go_at_call 70;refine (unhide HWR).mono ?_;rintro o w6 ⟨rfl,b,q,hbq,hf⟩;have HF:=hide hf;have HB:=hide hbq;clear hf hbq)
     go_ret
     exact ⟨b,q,by rw [unhide HB];rfl,unhide HF⟩)
  | (obtain ⟨HWR,hbx⟩:=unhide HMK (W1.heap.size + 1) W1.heap.size (W1.heap.size + 1 + 1) (by omega) (by omega) (by omega) (by omega) (by omega) (by omega)
     generalize ((((W1.alloc chanZ).alloc chanZ).alloc chanZ).alloc (.cells (newCells bt i (W1.heap.size + 1) W1.heap.size (W1.heap.size + 1 + 1)) 114)).drew = w5 at *
     have b0:w5.cell? ⟨W.heap.size,0,none⟩ = some (.int .i64 c.p):=hbx.cell 0
     have b1:w5.cell? ⟨W.heap.size,1,none⟩ = some (.int .i64 c.t):=hbx.cell 1
     have b2:w5.cell? ⟨W.heap.size,2,none⟩ = some (.int .i64 c.e):=hbx.cell 2
     have b3:w5.cell? ⟨W.heap.size,3,none⟩ = some (.int .i64 c.v):=hbx.cell 3
     clear m1 m2 m3 hbd hcl HMK HBX HX hbx
     go_wp2_with (go_at_call 70;refine (unhide HWR).mono ?_;rintro o w6 ⟨rfl,b,q,hbq,hf⟩;have HF:=hide hf;have HB:=hide hbq;clear hf hbq)
     go_ret
     exact ⟨b,q,by rw [unhide HB];rfl,unhide HF⟩)
  | (obtain ⟨HWR,hbx⟩:=unhide HMK (W1.heap.size + 1) (W1.heap.size + 1 + 1) W1.heap.size (by omega) (by omega) (by omega) (by omega) (by omega) (by omega)
     generalize ((((W1.alloc chanZ).alloc chanZ).alloc chanZ).alloc (.cells (newCells bt i (W1.heap.size + 1) (W1.heap.size + 1 + 1) W1.heap.size) 114)).drew = w5 at *
     have b0:w5.cell? ⟨W.heap.size,0,none⟩ = some (.int .i64 c.p):=hbx.cell 0
     have b1:w5.cell? ⟨W.heap.size,1,none⟩ = some (.int .i64 c.t):=hbx.cell 1
     have b2:w5.cell? ⟨W.heap.size,2,none⟩ = some (.int .i64 c.e):=hbx.cell 2
     have b3:w5.cell? ⟨W.heap.size,3,none⟩ = some (.int .i64 c.v):=hbx.cell 3
     clear m1 m2 m3 hbd hcl HMK HBX HX hbx
     go_wp2_with (go_at_call 70;refine (unhide HWR).mono ?_;rintro o w6 ⟨rfl,b,q,hbq,hf⟩;have HF:=hide hf;have HB:=hide hbq;clear hf hbq)
     go_ret
     exact ⟨b,q,by rw [unhide HB];rfl,unhide HF⟩)
  | (obtain ⟨HWR,hbx⟩:=unhide HMK (W1.heap.size + 1 + 1) W1.heap.size (W1.heap.size + 1) (by omega) (by omega) (by omega) (by omega) (by omega) (by omega)
     generalize ((((W1.alloc chanZ).alloc chanZ).alloc chanZ).alloc (.cells (newCells bt i (W1.heap.size + 1 + 1) W1.heap.size (W1.heap.size + 1)) 114)).drew = w5 at *
     have b0:w5.cell? ⟨W.heap.size,0,none⟩ = some (.int .i64 c.p):=hbx.cell 0
     have b1:w5.cell? ⟨W.heap.size,1,none⟩ = some (.int .i64 c.t):=hbx.cell 1
     have b2:w5.cell? ⟨W.heap.size,2,none⟩ = some (.int .i64 c.e):=hbx.cell 2
     have b3:w5.cell? ⟨W.heap.size,3,none⟩ = some (.int .i64 c.v):=hbx.cell 3
     clear m1 m2 m3 hbd hcl HMK HBX HX hbx
     go_wp2_with (go_at_call 70;refine (unhide HWR).mono ?_;rintro o w6 ⟨rfl,b,q,hbq,hf⟩;have HF:=hide hf;have HB:=hide hbq;clear hf hbq)
     go_ret
     exact ⟨b,q,by rw [unhide HB];rfl,unhide HF⟩)
  | (obtain ⟨HWR,hbx⟩:=unhide HMK (W1.heap.size + 1 + 1) (W1.heap.size + 1) W1.heap.size (by omega) (by omega) (by omega) (by omega) (by omega) (by omega)
     generalize ((((W1.alloc chanZ).alloc chanZ).alloc chanZ).alloc (.cells (newCells bt i (W1.heap.size + 1 + 1) (W1.heap.size + 1) W1.heap.size) 114)).drew = w5 at *
     have b0:w5.cell? ⟨W.heap.size,0,none⟩ = some (.int .i64 c.p):=hbx.cell 0
     have b1:w5.cell? ⟨W.heap.size,1,none⟩ = some (.int .i64 c.t):=hbx.cell 1
     have b2:w5.cell? ⟨W.heap.size,2,none⟩ = some (.int .i64 c.e):=hbx.cell 2
     have b3:w5.cell? ⟨W.heap.size,3,none⟩ = some (.int .i64 c.v):=hbx.cell 3
     clear m1 m2 m3 hbd hcl HMK HBX HX hbx
     go_wp2_with (go_at_call 70;refine (unhide HWR).mono ?_;rintro o w6 ⟨rfl,b,q,hbq,hf⟩;have HF:=hide hf;have HB:=hide hbq;clear hf hbq)
     go_ret
     exact ⟨b,q,by rw [unhide HB];rfl,unhide HF⟩)
end Go.Proofs.YtceappncglfciaaGreat
