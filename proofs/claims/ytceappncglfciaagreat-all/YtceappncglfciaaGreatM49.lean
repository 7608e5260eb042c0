import Derived.Test.YtceappncglfciaaGreatM48
import Derived.Test.YtceappncglfciaaGreatM42
import Derived.Test.YtceappncglfciaaGreatM43
import Derived.Test.YtceappncglfciaaGreatM10
set_option linter.unusedVariables false
set_option linter.unusedSimpArgs false
namespace Go.Proofs.YtceappncglfciaaGreat
open Go.RowKit
structure PairAt (W:World) (bt:Nat) (bs:List Nat) (L:Lies) (T:TownM):Prop where
 a:townRep.R W bt bs T
 b:Rep W L T
 apart:∀ x ∈ bs,x ∉ L.blocks
structure PLinks (W:World) (bs:List Nat) (L:Lies) (w:World) (bs':List Nat) (L':Lies):Prop where
 bt:L'.bt = L.bt
 keeps:Keeps (bs ++ L.blocks) W w
 new:∀ x ∈ bs' ++ L'.blocks,x ∈ bs ++ L.blocks ∨ W.heap.size ≤ x
section
variable {W w w1 w2:World} {bt:Nat} {bs bs1 bs2:List Nat} {L L1 L2:Lies} {T T':TownM}
theorem PLinks.trans (h:PLinks W bs L w1 bs1 L1) (k:PLinks w1 bs1 L1 w2 bs2 L2):PLinks W bs L w2 bs2 L2:=by
 refine ⟨k.bt.trans h.bt,h.keeps.trans k.keeps h.new,fun x hx => ?_⟩
 rcases k.new x hx with h1 | h1
 ·exact h.new x h1
 ·exact .inr (Nat.le_trans h.keeps.size h1)
theorem PLinks.of_below (bs:List Nat) (L:Lies) (hb:Below W.heap.size W w):PLinks W bs L w bs L:=⟨rfl,Keeps.of_below hb,fun _ hx => .inl hx⟩
theorem PairAt.lt (h:PairAt W bt bs L T):∀ x ∈ bs ++ L.blocks,x < W.heap.size:=fun x hx => by
 rcases List.mem_append.1 hx with h1 | h1
 ·exact townRep.lt h.a x h1
 ·exact h.b.lies x h1
theorem PairAt.same (h:PairAt W bt bs L T) (hs:∀ x ∈ bs ++ L.blocks,w.heap[x]? = W.heap[x]?):PairAt w bt bs L T :=
 ⟨townRep.keep h.a (fun k hk => hs k (List.mem_append.2 (.inl hk))),h.b.same (fun k hk => hs k (List.mem_append.2 (.inr hk))),h.apart⟩
theorem PairAt.below (h:PairAt W bt bs L T) (hb:Below W.heap.size W w):PairAt w bt bs L T:=h.same (fun x hx => hb.block x (h.lt x hx))
theorem PairAt.left (h:PairAt W bt bs L T) (hd:TDid townRep W bt bs w T'):∃ bs1,townRep.R w bt bs1 T' ∧ Rep w L T ∧ (∀ x ∈ bs1,x ∉ L.blocks) ∧ PLinks W bs L w bs1 L:=by
 obtain ⟨bs1,hr,hk,hn⟩:=hd
 have hL:∀ x ∈ L.blocks,x ∉ bs:=fun x hx hb => h.apart x hb hx
 refine ⟨bs1,hr,h.b.same (fun x hx => hk.block x (h.b.lies x hx) (hL x hx)),fun x hx hx2 => ?_,rfl,?_,fun x hx => ?_⟩
 ·rcases hn x hx with h1 | h1
  ·exact h.apart x h1 hx2
  ·have:=h.b.lies x hx2
   omega
 ·exact ⟨hk.os,hk.tape,hk.output,hk.size,fun k hk1 hk2 => hk.block k hk1 (fun e => hk2 (List.mem_append.2 (.inl e)))⟩
 ·rcases List.mem_append.1 hx with h1 | h1
  ·rcases hn x h1 with h2 | h2
   ·exact .inl (List.mem_append.2 (.inl h2))
   ·exact .inr h2
  ·exact .inl (List.mem_append.2 (.inr h1))
theorem PairAt.both (h:PairAt W bt bs L T) (hd:TDid townRep W bt bs w1 T') (he:Did w1 L w2 T'):∃ bs2 L2,PairAt w2 bt bs2 L2 T' ∧ PLinks W bs L w2 bs2 L2:=by
 obtain ⟨bs1,hr,hb,ha,hl⟩:=h.left hd
 obtain ⟨L2,r2,k2⟩:=he.open
 have hlt:=townRep.lt hr
 have hkeep:∀ x ∈ bs1,w2.heap[x]? = w1.heap[x]?:=fun x hx => k2.keeps.block x (hlt x hx) (ha x hx)
 refine ⟨bs1,L2,⟨townRep.keep hr hkeep,r2,fun x hx hx2 => ?_⟩,hl.trans ⟨k2.bt,?_,fun x hx => ?_⟩⟩
 ·rcases k2.new x hx2 with h1 | h1
  ·exact ha x hx h1
  ·have:=hlt x hx
   omega
 ·exact ⟨k2.keeps.os,k2.keeps.tape,k2.keeps.output,k2.keeps.size,fun k hk1 hk2 => k2.keeps.block k hk1 (fun e => hk2 (List.mem_append.2 (.inr e)))⟩
 ·rcases List.mem_append.1 hx with h1 | h1
  ·exact .inl (List.mem_append.2 (.inl h1))
  ·rcases k2.new x h1 with h2 | h2
   ·exact .inl (List.mem_append.2 (.inr h2))
   ·exact .inr h2
end
end Go.Proofs.YtceappncglfciaaGreat
namespace Go.Proofs.YtceappncglfciaaGreat
open Go.RowKit
section
variable {W:World} {bt:Nat} {bs:List Nat} {T:TownM} {K:Int}
theorem town_evs (h:townRep.R W bt bs T):T.events.length ≤ 40000000000:=by
 obtain ⟨pb,P,_,hs,hev⟩:=h
 rw [hs.events];exact hev
theorem tick_evs (h:townRep.R W bt bs T) (hf:Fits K T) (n:Int) (hK:1 ≤ n ∧ n ≤ 1000 → K + 15 * n ≤ 4294967294):1 ≤ n ∧ n ≤ 1000 → ∀ j k:Nat,(j:Int) < n → k < T.ps.length → ((T.tickN j).later.ticksTo k).events.length ≤ 40000000000:=by
 intro hn j k hj hk
 have hK1:=hK hn
 obtain ⟨pb,P,_,hs,_⟩:=h
 have h7:=hf.n.2
 have hsj:=hs.tickN hf j (by omega)
 have hfj:=hf.tickN j (by omega)
 have hfl:=hfj.later1
 have hlj:(P.tickN j).later.ps.length = P.ps.length:=ptickN_len P j
 have hkl:k ≤ P.ps.length:=by rw [← hs.len];omega
 have hss:=hsj.later.ticksTo hfl k (by rw [hlj];exact hkl) (by omega)
 have hff:=hfl.ticksTo k (by rw [hsj.later.len,hlj];exact hkl) (by omega)
 have:=hss.evLen hff (by omega)
 rw [← hss.events] at this
 exact this
end
theorem pair_tick (n K:Int) (W:World) (L:Lies) (T:TownM) (bt:Nat) (bs:List Nat) (W0:World) (h:Rep W L T) (hR:townRep.R W0 bt bs T) (hf:Fits K T) (hK:1 ≤ n ∧ n ≤ 1000 → K + 15 * n ≤ 4294967294) :
  Calls Tryz.prog 55 #[.pointer (some ⟨L.bt,0,none⟩),.int .i64 n] W fun o w' => o = .returned (.int .i64 (TownM.tickE n)) ∧ Did W L w' (T.tickC n):=by
 by_cases hn:1 ≤ n ∧ n ≤ 1000
 ·exact dTick_any n K W L T h hf hK (tick_evs hR hf n hK hn)
 ·exact dTickNo n W L T h hn
end Go.Proofs.YtceappncglfciaaGreat
namespace Go.Proofs.YtceappncglfciaaGreat
open Go.RowKit
def Two (fa fb:FuncId) (xs:Nat → Array Value) (W:World) (bt:Nat) (bs:List Nat) (L:Lies) (T:TownM) (e:Int) (T':TownM):Prop :=
 (Calls Tryz.prog fa (xs bt) W fun o w' => o = .returned (.int .i64 e) ∧ TDid townRep W bt bs w' T') ∧
 ∀ w1,Rep w1 L T → Calls Tryz.prog fb (xs L.bt) w1 fun o w' => o = .returned (.int .i64 e) ∧ Did w1 L w' T'
section
variable {W:World} {bt:Nat} {bs:List Nat} {L:Lies} {T:TownM} {K:Int}
def arg1 (a:Int) (b:Nat):Array Value:=#[.pointer (some ⟨b,0,none⟩),.int .i64 a]
def arg2 (a n:Int) (b:Nat):Array Value:=#[.pointer (some ⟨b,0,none⟩),.int .i64 a,.int .i64 n]
theorem way_le (hf:Fits K T):(T.way.length:Int) ≤ 1000:=Int.le_trans hf.len hf.net.2
theorem two_deliver (h:PairAt W bt bs L T) (hf:Fits K T) (hK:K + 15000 ≤ 4294967294) (a:Int):Two 37 52 (arg1 a) W bt bs L T (T.thereE a) (T.deliver a) ∧ Fits (K + 15000) (T.deliver a) :=
 ⟨⟨deliver_does a W bt bs T K h.a hf (by omega),fun w1 h1 => dDeliver_any a K w1 L T h1 hf (by omega) (town_evs h.a)⟩,(hf.deliver a (by omega)).mono (by omega)⟩
theorem two_drop (h:PairAt W bt bs L T) (hf:Fits K T) (hK:K + 15000 ≤ 4294967294) (a:Int):Two 35 53 (arg1 a) W bt bs L T (T.thereE a) (T.drop a) ∧ Fits (K + 15000) (T.drop a) :=
 ⟨⟨drop_does a W bt bs T K h.a hf (by omega),fun w1 h1 => dDrop_any a w1 L T h1 (way_le hf)⟩,(hf.drop a).mono (by omega)⟩
theorem two_copy (h:PairAt W bt bs L T) (hf:Fits K T) (hK:K + 15000 ≤ 4294967294) (a:Int):Two 36 54 (arg1 a) W bt bs L T (T.copyE a) (T.copy a) ∧ Fits (K + 15000) (T.copy a) :=
 ⟨⟨copy_does a W bt bs T K h.a hf (by omega),fun w1 h1 => dCopy_any a w1 L T h1 (way_le hf) hf.net.2⟩,(hf.copy a).mono (by omega)⟩
theorem two_tick (h:PairAt W bt bs L T) (hf:Fits K T) (hK:K + 15000 ≤ 4294967294) (a:Int):Two 18 55 (arg1 a) W bt bs L T (TownM.tickE a) (T.tickC a) ∧ Fits (K + 15000) (T.tickC a):=by
 refine ⟨⟨tick_does a W bt bs T K h.a hf (fun hn => by omega),fun w1 h1 => pair_tick a K w1 L T bt bs W h1 h.a hf (fun hn => by omega)⟩,?_⟩
 unfold TownM.tickC
 split
 ·rename_i hn
  exact (hf.tickN a.toNat (by omega)).mono (by omega)
 ·exact hf.mono (by omega)
theorem two_crash (h:PairAt W bt bs L T) (hf:Fits K T) (hK:K + 15000 ≤ 4294967294) (a:Int):Two 23 56 (arg1 a) W bt bs L T (T.upE a true) (T.crash a) ∧ Fits (K + 15000) (T.crash a) :=
 ⟨⟨crash_does a W bt bs T K h.a hf (by omega),fun w1 h1 => dCrash_any a w1 L T h1⟩,(hf.crash a).mono (by omega)⟩
theorem two_restart (h:PairAt W bt bs L T) (hf:Fits K T) (hK:K + 15000 ≤ 4294967294) (a:Int):Two 24 57 (arg1 a) W bt bs L T (T.upE a false) (T.restart a) ∧ Fits (K + 15000) (T.restart a) :=
 ⟨⟨restart_does a W bt bs T K h.a hf (by omega),fun w1 h1 => dRestart_any a K w1 L T h1 hf⟩,(hf.restart a).mono (by omega)⟩
theorem two_arm (h:PairAt W bt bs L T) (hf:Fits K T) (hK:K + 15000 ≤ 4294967294) (a n:Int):Two 33 58 (arg2 a n) W bt bs L T (T.armE a n) (T.arm a n) ∧ Fits (K + 15000) (T.arm a n) :=
 ⟨⟨arm_does a n W bt bs T K h.a hf (by omega),fun w1 h1 => dArm_any a n w1 L T h1⟩,(hf.arm a n).mono (by omega)⟩
theorem two_hear (h:PairAt W bt bs L T) (hf:Fits K T) (hK:K + 15000 ≤ 4294967294) (a:Int):Two 34 59 (arg1 a) W bt bs L T (T.hearE a) (T.hear a) ∧ Fits (K + 15000) (T.hear a) :=
 ⟨⟨hear_does a W bt bs T K h.a hf (by omega),fun w1 h1 => dHear_any a K w1 L T h1 hf (by omega)⟩,(hf.hear a (by omega)).mono (by omega)⟩
end
structure PairIn (W:World) (pb bt:Nat) (bs:List Nat) (L:Lies) (T:TownM) (K:Int):Prop where
 box:Box W pb #[.pointer (some ⟨bt,0,none⟩),.pointer (some ⟨L.bt,0,none⟩)] 128
 at_:PairAt W bt bs L T
 fits:Fits K T
 out:pb ∉ bs ++ L.blocks
section
variable {W w w1 w2:World} {pb bt:Nat} {bs bs1:List Nat} {L L1:Lies} {T T':TownM} {K K':Int}
theorem PairIn.same (h:PairIn W pb bt bs L T K) (hs:∀ x ∈ pb :: (bs ++ L.blocks),w.heap[x]? = W.heap[x]?):PairIn w pb bt bs L T K :=
 ⟨(hs pb List.mem_cons_self).trans h.box,h.at_.same (fun x hx => hs x (List.mem_cons_of_mem _ hx)),h.fits,h.out⟩
theorem PairIn.lt (h:PairIn W pb bt bs L T K):∀ x ∈ pb :: (bs ++ L.blocks),x < W.heap.size:=fun x hx => by
 rcases List.mem_cons.1 hx with rfl | h1
 ·exact h.box.lt
 ·exact h.at_.lt x h1
theorem PairIn.below (h:PairIn W pb bt bs L T K) (hb:Below W.heap.size W w):PairIn w pb bt bs L T K:=h.same (fun x hx => hb.block x (h.lt x hx))
theorem PairIn.next (h:PairIn W pb bt bs L T K) (ha:PairAt w bt bs1 L1 T') (hl:PLinks W bs L w bs1 L1) (hf:Fits K' T'):PairIn w pb bt bs1 L1 T' K':=by
 refine ⟨?_,ha,hf,fun hx => ?_⟩
 ·rw [hl.bt]
  exact (hl.keeps.block pb h.box.lt h.out).trans h.box
 ·rcases hl.new pb hx with h1 | h1
  ·exact h.out h1
  ·have:=h.box.lt
   omega
end
end Go.Proofs.YtceappncglfciaaGreat
namespace Go.Proofs.YtceappncglfciaaGreat
open Go.RowKit
attribute [local go_sem ↓] Go.wp_at_zero Go.wp_at_succ
theorem encE_one:encE 1 0 0 0 0 = 0:=by decide +kernel
theorem encS_one:(encS 1 0 0 0 0).size = 28 ∧ (((encS 1 0 0 0 0).extract 0 4).toList == [0,0,0,1]) = true ∧ (((encS 1 0 0 0 0).extract 20 28).toList == [0,0,0,1,0,46,0,3]) = true:=by
 have e:encS 1 0 0 0 0 = ⟨#[0,0,0,1,0,0,0,0,0,0,0,0,0,0,0,0,0,0,0,0,0,0,0,1,0,46,0,3]⟩:=by decide +kernel
 rw [e]
 decide +kernel
set_option maxHeartbeats 1000000 in
theorem shown_any (w:World) :
  Calls Tryz.prog 25 #[] w fun o w' => o = .returned (.bool true) ∧ Below w.heap.size w w':=by
 have he:=fun w => encode_any 1 0 0 0 0 w
 rw [encE_one] at he
 have HE:=hide he
 clear he
 obtain ⟨hs0,hs1,hs2⟩:=encS_one
 generalize encS 1 0 0 0 0 = s at *
 go_enter Tryz.func25,Tryz.ntmps25
 go_wp2_with fail
 refine (unhide HE _).mono ?_
 rintro o w1 ⟨rfl,hB⟩
 go_wp2
 go_ret
 exact ⟨rfl,hB⟩
set_option maxRecDepth 100000 in
set_option maxHeartbeats 4000000 in
theorem does_deliver (h a b K:Int) (W:World) (pb bt:Nat) (bs:List Nat) (L:Lies) (T:TownM) (hP:PairIn W pb bt bs L T K) (hK:K + 15000 ≤ 4294967294) :
  Calls Tryz.prog 28 #[.pointer (some ⟨pb,0,none⟩),.agg #[.int .i64 1,.int .i64 h,.int .i64 a,.int .i64 b]] W fun o w' => o = .returned (.bool true) ∧ ∃ bs' L' T',PairAt w' bt bs' L' T' ∧ Fits (K + 15000) T' ∧ PLinks W bs L w' bs' L':=by
 have hX:=(Below.refl W.heap.size W).alloc (Nat.le_refl _) (.cells #[.int .i64 1,.int .i64 h,.int .i64 a,.int .i64 b] 72)
 have hS:=Box.new W #[.int .i64 1,.int .i64 h,.int .i64 a,.int .i64 b] 72
 have hP1:=hP.below hX
 have hsb:W.heap.size ∉ bs ++ L.blocks:=fun hm => by
  have:=hP.at_.lt _ hm
  omega
 have HX:=hide hX
 generalize hWs:W.alloc (.cells #[.int .i64 1,.int .i64 h,.int .i64 a,.int .i64 b] 72) = Ws at *
 have HWS:=hide hWs
 have hP2:PairIn Ws.drew pb bt bs L T K:=hP1.below ((Below.refl Ws.heap.size Ws).drew)
 obtain ⟨h2,hfit⟩:=two_deliver hP2.at_ hP2.fits hK a
 have p0:Ws.cell? ⟨pb,0,none⟩ = some (.pointer (some ⟨bt,0,none⟩)):=hP1.box.cell 0
 have s0:Ws.cell? ⟨W.heap.size,0,none⟩ = some (.int .i64 1):=hS.cell 0
 have s2:Ws.cell? ⟨W.heap.size,2,none⟩ = some (.int .i64 a):=hS.cell 2
 have s3:Ws.cell? ⟨W.heap.size,3,none⟩ = some (.int .i64 b):=hS.cell 3
 generalize (T.thereE a) = e at *
 generalize (T.deliver a) = T' at *
 have HA:=hide h2.1
 have HNEXT:Hid (∀ w1,TDid townRep Ws.drew bt bs w1 T' → Box w1 pb #[.pointer (some ⟨bt,0,none⟩),.pointer (some ⟨L.bt,0,none⟩)] 128 ∧ Box w1 W.heap.size #[.int .i64 1,.int .i64 h,.int .i64 a,.int .i64 b] 72 ∧ Calls Tryz.prog 52 (arg1 a L.bt) w1.drew fun o w' => o = .returned (.int .i64 e) ∧ ∃ bs' L' T',PairAt w' bt bs' L' T' ∧ Fits (K + 15000) T' ∧ PLinks W bs L w' bs' L'):=fun w1 hd => by
  obtain ⟨bs1,hr1,hb1,ha1,hl1⟩:=hP2.at_.left hd
  refine ⟨(hl1.keeps.block pb hP2.box.lt hP2.out).trans hP2.box,(hl1.keeps.block W.heap.size hS.lt hsb).trans hS,?_⟩
  have hb1d:Rep w1.drew L T:=hb1.same (fun _ _ => rfl)
  refine (h2.2 w1.drew hb1d).mono ?_
  rintro o w2 ⟨rfl,he⟩
  have hd2:TDid townRep Ws.drew bt bs w1.drew T':=hd.post ((Below.refl w1.heap.size w1).drew)
  obtain ⟨bs2,L2,hp2,hl2⟩:=hP2.at_.both hd2 he
  exact ⟨rfl,bs2,L2,T',hp2,hfit,(PLinks.of_below bs L ((unhide HX).drew)).trans hl2⟩
 simp only [arg1] at HA HNEXT
 have HNUM:=hide (fun w => num_any e w)
 clear hX hS hP1 hP2 h2 hfit hsb hP HX hWs
 go_enter Tryz.func28,Tryz.ntmps28
 go_upto_region 4 with fail
 rw [unhide HWS]
 go_cut [5] (fun ev wc => ev = .int .i64 e ∧ TDid townRep Ws.drew bt bs wc T')
 case first =>
  go_region_law (go_simp;go_at_call 37;refine (unhide HA).mono ?_;rintro o w1 ⟨rfl,hd⟩;have HD:=hide hd;clear hd)
  all_goals
   go_wp2
   go_meet
   case rel => exact ⟨rfl,unhide HD⟩
 case rest =>
  obtain ⟨rfl,hd⟩:=hcut
  obtain ⟨hbp,hbs,hcall⟩:=unhide HNEXT wc hd
  have q1:wc.cell? ⟨pb,1,none⟩ = some (.pointer (some ⟨L.bt,0,none⟩)):=hbp.cell 1
  have t2:wc.cell? ⟨W.heap.size,2,none⟩ = some (.int .i64 a):=hbs.cell 2
  have t3:wc.cell? ⟨W.heap.size,3,none⟩ = some (.int .i64 b):=hbs.cell 3
  have HB:=hide hcall
  clear hd hbp hbs hcall HNEXT HA p0 s0 s2 s3
  generalize wc = w1 at *
  go_upto_region 5 with fail
  go_region_law (go_simp;go_at_call 52;refine (unhide HB).mono ?_;rintro o w2 ⟨rfl,hd⟩;have HD:=hide hd;clear hd)
  all_goals
   clear HB q1 t2 t3
   go_wp2_with (go_at_call 51;refine (unhide HNUM _).mono ?_;rintro o w5 ⟨rfl,rfl⟩)
   go_ret
   exact ⟨by simp,unhide HD⟩
set_option maxRecDepth 100000 in
set_option maxHeartbeats 4000000 in
theorem does_drop (h a b K:Int) (W:World) (pb bt:Nat) (bs:List Nat) (L:Lies) (T:TownM) (hP:PairIn W pb bt bs L T K) (hK:K + 15000 ≤ 4294967294) :
  Calls Tryz.prog 28 #[.pointer (some ⟨pb,0,none⟩),.agg #[.int .i64 2,.int .i64 h,.int .i64 a,.int .i64 b]] W fun o w' => o = .returned (.bool true) ∧ ∃ bs' L' T',PairAt w' bt bs' L' T' ∧ Fits (K + 15000) T' ∧ PLinks W bs L w' bs' L':=by
 have hX:=(Below.refl W.heap.size W).alloc (Nat.le_refl _) (.cells #[.int .i64 2,.int .i64 h,.int .i64 a,.int .i64 b] 72)
 have hS:=Box.new W #[.int .i64 2,.int .i64 h,.int .i64 a,.int .i64 b] 72
 have hP1:=hP.below hX
 have hsb:W.heap.size ∉ bs ++ L.blocks:=fun hm => by
  have:=hP.at_.lt _ hm
  omega
 have HX:=hide hX
 generalize hWs:W.alloc (.cells #[.int .i64 2,.int .i64 h,.int .i64 a,.int .i64 b] 72) = Ws at *
 have HWS:=hide hWs
 have hP2:PairIn Ws.drew pb bt bs L T K:=hP1.below ((Below.refl Ws.heap.size Ws).drew)
 obtain ⟨h2,hfit⟩:=two_drop hP2.at_ hP2.fits hK a
 have p0:Ws.cell? ⟨pb,0,none⟩ = some (.pointer (some ⟨bt,0,none⟩)):=hP1.box.cell 0
 have s0:Ws.cell? ⟨W.heap.size,0,none⟩ = some (.int .i64 2):=hS.cell 0
 have s2:Ws.cell? ⟨W.heap.size,2,none⟩ = some (.int .i64 a):=hS.cell 2
 have s3:Ws.cell? ⟨W.heap.size,3,none⟩ = some (.int .i64 b):=hS.cell 3
 generalize (T.thereE a) = e at *
 generalize (T.drop a) = T' at *
 have HA:=hide h2.1
 have HNEXT:Hid (∀ w1,TDid townRep Ws.drew bt bs w1 T' → Box w1 pb #[.pointer (some ⟨bt,0,none⟩),.pointer (some ⟨L.bt,0,none⟩)] 128 ∧ Box w1 W.heap.size #[.int .i64 2,.int .i64 h,.int .i64 a,.int .i64 b] 72 ∧ Calls Tryz.prog 53 (arg1 a L.bt) w1.drew fun o w' => o = .returned (.int .i64 e) ∧ ∃ bs' L' T',PairAt w' bt bs' L' T' ∧ Fits (K + 15000) T' ∧ PLinks W bs L w' bs' L'):=fun w1 hd => by
  obtain ⟨bs1,hr1,hb1,ha1,hl1⟩:=hP2.at_.left hd
  refine ⟨(hl1.keeps.block pb hP2.box.lt hP2.out).trans hP2.box,(hl1.keeps.block W.heap.size hS.lt hsb).trans hS,?_⟩
  have hb1d:Rep w1.drew L T:=hb1.same (fun _ _ => rfl)
  refine (h2.2 w1.drew hb1d).mono ?_
  rintro o w2 ⟨rfl,he⟩
  have hd2:TDid townRep Ws.drew bt bs w1.drew T':=hd.post ((Below.refl w1.heap.size w1).drew)
  obtain ⟨bs2,L2,hp2,hl2⟩:=hP2.at_.both hd2 he
  exact ⟨rfl,bs2,L2,T',hp2,hfit,(PLinks.of_below bs L ((unhide HX).drew)).trans hl2⟩
 simp only [arg1] at HA HNEXT
 have HNUM:=hide (fun w => num_any e w)
 clear hX hS hP1 hP2 h2 hfit hsb hP HX hWs
 go_enter Tryz.func28,Tryz.ntmps28
 go_upto_region 7 with fail
 rw [unhide HWS]
 go_cut [5] (fun ev wc => ev = .int .i64 e ∧ TDid townRep Ws.drew bt bs wc T')
 case first =>
  go_region_law (go_simp;go_at_call 35;refine (unhide HA).mono ?_;rintro o w1 ⟨rfl,hd⟩;have HD:=hide hd;clear hd)
  all_goals
   go_wp2
   go_meet
   case rel => exact ⟨rfl,unhide HD⟩
 case rest =>
  obtain ⟨rfl,hd⟩:=hcut
  obtain ⟨hbp,hbs,hcall⟩:=unhide HNEXT wc hd
  have q1:wc.cell? ⟨pb,1,none⟩ = some (.pointer (some ⟨L.bt,0,none⟩)):=hbp.cell 1
  have t2:wc.cell? ⟨W.heap.size,2,none⟩ = some (.int .i64 a):=hbs.cell 2
  have t3:wc.cell? ⟨W.heap.size,3,none⟩ = some (.int .i64 b):=hbs.cell 3
  have HB:=hide hcall
  clear hd hbp hbs hcall HNEXT HA p0 s0 s2 s3
  generalize wc = w1 at *
  go_upto_region 8 with fail
  go_region_law (go_simp;go_at_call 53;refine (unhide HB).mono ?_;rintro o w2 ⟨rfl,hd⟩;have HD:=hide hd;clear hd)
  all_goals
   clear HB q1 t2 t3
   go_wp2_with (go_at_call 51;refine (unhide HNUM _).mono ?_;rintro o w5 ⟨rfl,rfl⟩)
   go_ret
   exact ⟨by simp,unhide HD⟩
set_option maxRecDepth 100000 in
set_option maxHeartbeats 4000000 in
theorem does_copy (h a b K:Int) (W:World) (pb bt:Nat) (bs:List Nat) (L:Lies) (T:TownM) (hP:PairIn W pb bt bs L T K) (hK:K + 15000 ≤ 4294967294) :
  Calls Tryz.prog 28 #[.pointer (some ⟨pb,0,none⟩),.agg #[.int .i64 3,.int .i64 h,.int .i64 a,.int .i64 b]] W fun o w' => o = .returned (.bool true) ∧ ∃ bs' L' T',PairAt w' bt bs' L' T' ∧ Fits (K + 15000) T' ∧ PLinks W bs L w' bs' L':=by
 have hX:=(Below.refl W.heap.size W).alloc (Nat.le_refl _) (.cells #[.int .i64 3,.int .i64 h,.int .i64 a,.int .i64 b] 72)
 have hS:=Box.new W #[.int .i64 3,.int .i64 h,.int .i64 a,.int .i64 b] 72
 have hP1:=hP.below hX
 have hsb:W.heap.size ∉ bs ++ L.blocks:=fun hm => by
  have:=hP.at_.lt _ hm
  omega
 have HX:=hide hX
 generalize hWs:W.alloc (.cells #[.int .i64 3,.int .i64 h,.int .i64 a,.int .i64 b] 72) = Ws at *
 have HWS:=hide hWs
 have hP2:PairIn Ws.drew pb bt bs L T K:=hP1.below ((Below.refl Ws.heap.size Ws).drew)
 obtain ⟨h2,hfit⟩:=two_copy hP2.at_ hP2.fits hK a
 have p0:Ws.cell? ⟨pb,0,none⟩ = some (.pointer (some ⟨bt,0,none⟩)):=hP1.box.cell 0
 have s0:Ws.cell? ⟨W.heap.size,0,none⟩ = some (.int .i64 3):=hS.cell 0
 have s2:Ws.cell? ⟨W.heap.size,2,none⟩ = some (.int .i64 a):=hS.cell 2
 have s3:Ws.cell? ⟨W.heap.size,3,none⟩ = some (.int .i64 b):=hS.cell 3
 generalize (T.copyE a) = e at *
 generalize (T.copy a) = T' at *
 have HA:=hide h2.1
 have HNEXT:Hid (∀ w1,TDid townRep Ws.drew bt bs w1 T' → Box w1 pb #[.pointer (some ⟨bt,0,none⟩),.pointer (some ⟨L.bt,0,none⟩)] 128 ∧ Box w1 W.heap.size #[.int .i64 3,.int .i64 h,.int .i64 a,.int .i64 b] 72 ∧ Calls Tryz.prog 54 (arg1 a L.bt) w1.drew fun o w' => o = .returned (.int .i64 e) ∧ ∃ bs' L' T',PairAt w' bt bs' L' T' ∧ Fits (K + 15000) T' ∧ PLinks W bs L w' bs' L'):=fun w1 hd => by
  obtain ⟨bs1,hr1,hb1,ha1,hl1⟩:=hP2.at_.left hd
  refine ⟨(hl1.keeps.block pb hP2.box.lt hP2.out).trans hP2.box,(hl1.keeps.block W.heap.size hS.lt hsb).trans hS,?_⟩
  have hb1d:Rep w1.drew L T:=hb1.same (fun _ _ => rfl)
  refine (h2.2 w1.drew hb1d).mono ?_
  rintro o w2 ⟨rfl,he⟩
  have hd2:TDid townRep Ws.drew bt bs w1.drew T':=hd.post ((Below.refl w1.heap.size w1).drew)
  obtain ⟨bs2,L2,hp2,hl2⟩:=hP2.at_.both hd2 he
  exact ⟨rfl,bs2,L2,T',hp2,hfit,(PLinks.of_below bs L ((unhide HX).drew)).trans hl2⟩
 simp only [arg1] at HA HNEXT
 have HNUM:=hide (fun w => num_any e w)
 clear hX hS hP1 hP2 h2 hfit hsb hP HX hWs
 go_enter Tryz.func28,Tryz.ntmps28
 go_upto_region 10 with fail
 rw [unhide HWS]
 go_cut [5] (fun ev wc => ev = .int .i64 e ∧ TDid townRep Ws.drew bt bs wc T')
 case first =>
  go_region_law (go_simp;go_at_call 36;refine (unhide HA).mono ?_;rintro o w1 ⟨rfl,hd⟩;have HD:=hide hd;clear hd)
  all_goals
   go_wp2
   go_meet
   case rel => exact ⟨rfl,unhide HD⟩
 case rest =>
  obtain ⟨rfl,hd⟩:=hcut
  obtain ⟨hbp,hbs,hcall⟩:=unhide HNEXT wc hd
  have q1:wc.cell? ⟨pb,1,none⟩ = some (.pointer (some ⟨L.bt,0,none⟩)):=hbp.cell 1
  have t2:wc.cell? ⟨W.heap.size,2,none⟩ = some (.int .i64 a):=hbs.cell 2
  have t3:wc.cell? ⟨W.heap.size,3,none⟩ = some (.int .i64 b):=hbs.cell 3
  have HB:=hide hcall
  clear hd hbp hbs hcall HNEXT HA p0 s0 s2 s3
  generalize wc = w1 at *
  go_upto_region 11 with fail
  go_region_law (go_simp;go_at_call 54;refine (unhide HB).mono ?_;rintro o w2 ⟨rfl,hd⟩;have HD:=hide hd;clear hd)
  all_goals
   clear HB q1 t2 t3
   go_wp2_with (go_at_call 51;refine (unhide HNUM _).mono ?_;rintro o w5 ⟨rfl,rfl⟩)
   go_ret
   exact ⟨by simp,unhide HD⟩
set_option maxRecDepth 100000 in
set_option maxHeartbeats 4000000 in
theorem does_tick (h a b K:Int) (W:World) (pb bt:Nat) (bs:List Nat) (L:Lies) (T:TownM) (hP:PairIn W pb bt bs L T K) (hK:K + 15000 ≤ 4294967294) :
  Calls Tryz.prog 28 #[.pointer (some ⟨pb,0,none⟩),.agg #[.int .i64 4,.int .i64 h,.int .i64 a,.int .i64 b]] W fun o w' => o = .returned (.bool true) ∧ ∃ bs' L' T',PairAt w' bt bs' L' T' ∧ Fits (K + 15000) T' ∧ PLinks W bs L w' bs' L':=by
 have hX:=(Below.refl W.heap.size W).alloc (Nat.le_refl _) (.cells #[.int .i64 4,.int .i64 h,.int .i64 a,.int .i64 b] 72)
 have hS:=Box.new W #[.int .i64 4,.int .i64 h,.int .i64 a,.int .i64 b] 72
 have hP1:=hP.below hX
 have hsb:W.heap.size ∉ bs ++ L.blocks:=fun hm => by
  have:=hP.at_.lt _ hm
  omega
 have HX:=hide hX
 generalize hWs:W.alloc (.cells #[.int .i64 4,.int .i64 h,.int .i64 a,.int .i64 b] 72) = Ws at *
 have HWS:=hide hWs
 have hP2:PairIn Ws.drew pb bt bs L T K:=hP1.below ((Below.refl Ws.heap.size Ws).drew)
 obtain ⟨h2,hfit⟩:=two_tick hP2.at_ hP2.fits hK a
 have p0:Ws.cell? ⟨pb,0,none⟩ = some (.pointer (some ⟨bt,0,none⟩)):=hP1.box.cell 0
 have s0:Ws.cell? ⟨W.heap.size,0,none⟩ = some (.int .i64 4):=hS.cell 0
 have s2:Ws.cell? ⟨W.heap.size,2,none⟩ = some (.int .i64 a):=hS.cell 2
 have s3:Ws.cell? ⟨W.heap.size,3,none⟩ = some (.int .i64 b):=hS.cell 3
 generalize (TownM.tickE a) = e at *
 generalize (T.tickC a) = T' at *
 have HA:=hide h2.1
 have HNEXT:Hid (∀ w1,TDid townRep Ws.drew bt bs w1 T' → Box w1 pb #[.pointer (some ⟨bt,0,none⟩),.pointer (some ⟨L.bt,0,none⟩)] 128 ∧ Box w1 W.heap.size #[.int .i64 4,.int .i64 h,.int .i64 a,.int .i64 b] 72 ∧ Calls Tryz.prog 55 (arg1 a L.bt) w1.drew fun o w' => o = .returned (.int .i64 e) ∧ ∃ bs' L' T',PairAt w' bt bs' L' T' ∧ Fits (K + 15000) T' ∧ PLinks W bs L w' bs' L'):=fun w1 hd => by
  obtain ⟨bs1,hr1,hb1,ha1,hl1⟩:=hP2.at_.left hd
  refine ⟨(hl1.keeps.block pb hP2.box.lt hP2.out).trans hP2.box,(hl1.keeps.block W.heap.size hS.lt hsb).trans hS,?_⟩
  have hb1d:Rep w1.drew L T:=hb1.same (fun _ _ => rfl)
  refine (h2.2 w1.drew hb1d).mono ?_
  rintro o w2 ⟨rfl,he⟩
  have hd2:TDid townRep Ws.drew bt bs w1.drew T':=hd.post ((Below.refl w1.heap.size w1).drew)
  obtain ⟨bs2,L2,hp2,hl2⟩:=hP2.at_.both hd2 he
  exact ⟨rfl,bs2,L2,T',hp2,hfit,(PLinks.of_below bs L ((unhide HX).drew)).trans hl2⟩
 simp only [arg1] at HA HNEXT
 have HNUM:=hide (fun w => num_any e w)
 clear hX hS hP1 hP2 h2 hfit hsb hP HX hWs
 go_enter Tryz.func28,Tryz.ntmps28
 go_upto_region 13 with fail
 rw [unhide HWS]
 go_cut [5] (fun ev wc => ev = .int .i64 e ∧ TDid townRep Ws.drew bt bs wc T')
 case first =>
  go_region_law (go_simp;go_at_call 18;refine (unhide HA).mono ?_;rintro o w1 ⟨rfl,hd⟩;have HD:=hide hd;clear hd)
  all_goals
   go_wp2
   go_meet
   case rel => exact ⟨rfl,unhide HD⟩
 case rest =>
  obtain ⟨rfl,hd⟩:=hcut
  obtain ⟨hbp,hbs,hcall⟩:=unhide HNEXT wc hd
  have q1:wc.cell? ⟨pb,1,none⟩ = some (.pointer (some ⟨L.bt,0,none⟩)):=hbp.cell 1
  have t2:wc.cell? ⟨W.heap.size,2,none⟩ = some (.int .i64 a):=hbs.cell 2
  have t3:wc.cell? ⟨W.heap.size,3,none⟩ = some (.int .i64 b):=hbs.cell 3
  have HB:=hide hcall
  clear hd hbp hbs hcall HNEXT HA p0 s0 s2 s3
  generalize wc = w1 at *
  go_upto_region 14 with fail
  go_region_law (go_simp;go_at_call 55;refine (unhide HB).mono ?_;rintro o w2 ⟨rfl,hd⟩;have HD:=hide hd;clear hd)
  all_goals
   clear HB q1 t2 t3
   go_wp2_with (go_at_call 51;refine (unhide HNUM _).mono ?_;rintro o w5 ⟨rfl,rfl⟩)
   go_ret
   exact ⟨by simp,unhide HD⟩
end Go.Proofs.YtceappncglfciaaGreat
