import Derived.Test.YtceappncglfciaaGreatM29
import Derived.Test.YtceappncglfciaaGreatM02
set_option linter.unusedVariables false
set_option linter.unusedSimpArgs false
namespace Go.Proofs.YtceappncglfciaaGreat
open Go.RowKit
attribute [local go_sem ↓] Go.wp_at_zero Go.wp_at_succ
theorem within_true (n x y:Int) (W:World) (h:x ≤ n ∧ n ≤ y):Calls Tryz.prog 41 #[.int .i64 n,.int .i64 x,.int .i64 y] W fun o w' => o = .returned (.bool true) ∧ w' = W:=by
 have:=within_any n x y W
 rwa [show (decide (x ≤ n) && decide (n ≤ y)) = true from by simp;omega] at this
set_option maxRecDepth 100000 in
set_option maxHeartbeats 1000000 in
theorem credMay (c:CredM) (n:Nat) (h:c.may n) (hn:n ≤ 7) (W:World) :
  Calls Tryz.prog 69 #[.agg #[.int .i64 c.p,.int .i64 c.t,.int .i64 c.e,.int .i64 c.v],.int .i64 (n:Int)] W fun o w' => o = .returned (.bool true) ∧ Below W.heap.size W w':=by
 obtain ⟨h1,h2,h3,h4,h5,h6,h7⟩:=h
 have hX:=(Below.refl W.heap.size W).alloc (Nat.le_refl _) (.cells #[.int .i64 c.p,.int .i64 c.t,.int .i64 c.e,.int .i64 c.v] 39)
 have HX:=hide hX
 clear hX
 go_enter Tryz.func69,Tryz.ntmps69
 go_wp2_with (go_at_call 41;refine (within_true _ _ _ _ (by omega)).mono ?_;rintro o w1 ⟨rfl,rfl⟩)
 go_ret
 exact ⟨rfl,unhide HX⟩
structure ConfAt (W:World) (g cap:Nat) (l:List CredM):Prop where
 cap:l.length ≤ cap
 lt:g < W.heap.size
 cell:∀ k j u,k < l.length → [Value.int .i64 (l.getD k credZ).p,.int .i64 (l.getD k credZ).t,.int .i64 (l.getD k credZ).e,.int .i64 (l.getD k credZ).v][j]? = some u → W.cell? ⟨g,k * 4 + j,none⟩ = some u
theorem ConfAt.below {W W':World} {g cap:Nat} {l:List CredM} (h:ConfAt W g cap l) (hb:Below W.heap.size W W'):ConfAt W' g cap l :=
 ⟨h.cap,Nat.lt_of_lt_of_le h.lt hb.size,fun k j u hk hu => (World.cell?_of_block (a:=⟨g,k * 4 + j,none⟩) (hb.block g h.lt)).trans (h.cell k j u hk hu)⟩
set_option maxRecDepth 100000 in
set_option maxHeartbeats 2000000 in
theorem confMay (W:World) (g cap:Nat) (l:List CredM) (wait lease net:Int) (h1:1 ≤ l.length) (h7:l.length ≤ 7) (hw:1 ≤ wait ∧ wait ≤ 20) (hle:4 ≤ lease ∧ lease ≤ 100) (hne:1 ≤ net ∧ net ≤ 1000) (hm:∀ c ∈ l,c.may l.length) (hc:ConfAt W g cap l) :
  Calls Tryz.prog 38 #[.agg #[.slice (some ⟨g,0,none⟩) l.length cap,.int .i64 wait,.int .i64 lease,.int .i64 net]] W fun o w' => o = .returned (.bool true) ∧ Below W.heap.size W w':=by
 have hX:=(Below.refl W.heap.size W).alloc (Nat.le_refl _) (.cells #[.slice (some ⟨g,0,none⟩) l.length cap,.int .i64 wait,.int .i64 lease,.int .i64 net] 24)
 have HX:=hide hX
 have HC:=hide hc
 have hcap:=hc.cap
 have hlg:=hc.lt
 have HM:=hide hm
 clear hX hc hm
 go_enter Tryz.func38,Tryz.ntmps38
 go_wp2_with (go_at_call 41;refine (within_true _ _ _ _ (by omega)).mono ?_;rintro o w1 ⟨rfl,rfl⟩)
 go_loopw [33] (fun c wr => ∃ k:Nat,k ≤ l.length ∧ c = .int .i64 (k:Int) ∧ Below W.heap.size W wr) (fun c _ => l.length - (RowKit.intOf c).toNat)
 case atStart => exact ⟨0,Nat.zero_le _,rfl,unhide HX⟩
 case round =>
  obtain ⟨k,hk,rfl,hB⟩:=hrel
  have HB:=hide hB
  by_cases hkn:k = l.length
  ·subst hkn
   clear hB
   go_wp2
   go_ret
   exact ⟨rfl,unhide HB⟩
  ·have hkl:k < l.length:=by omega
   have hcr:=(unhide HC).below hB
   obtain ⟨c,hcd⟩:∃ c,c = l.getD k credZ:=⟨_,rfl⟩
   have hcm:c.may l.length:=unhide HM c (by rw [hcd];simp [List.getD_eq_getElem?_getD,hkl])
   have hcell:=fun j u => hcr.cell k j u hkl
   rw [← hcd] at hcell
   have m0:wr.cell? ⟨g,k * 4,none⟩ = some (.int .i64 c.p):=hcell 0 _ rfl
   have m1:wr.cell? ⟨g,k * 4 + 1,none⟩ = some (.int .i64 c.t):=hcell 1 _ rfl
   have m2:wr.cell? ⟨g,k * 4 + 2,none⟩ = some (.int .i64 c.e):=hcell 2 _ rfl
   have m3:wr.cell? ⟨g,k * 4 + 3,none⟩ = some (.int .i64 c.v):=hcell 3 _ rfl
   have hb2:=hB.alloc hB.size (.cells #[.int .i64 c.p,.int .i64 c.t,.int .i64 c.e,.int .i64 c.v] 39)
   have HB2:=hide hb2
   have HCM:=hide (credMay c l.length hcm h7 (wr.alloc (.cells #[.int .i64 c.p,.int .i64 c.t,.int .i64 c.e,.int .i64 c.v] 39)))
   clear hB hb2 hcr hcell hcd hkn hcm
   go_wp2_with (go_at_call 69;refine (unhide HCM).mono ?_;rintro o w3 ⟨rfl,hB3⟩)
   have hf:=(unhide HB2).trans (hB3.mono (unhide HB2).size)
   have HF:=hide hf
   clear hB3 hf
   go_wp2
   go_roundw
   case rel => exact ⟨k + 1,hkl,by simp,unhide HF⟩
   case measure => simp [RowKit.intOf];omega
end Go.Proofs.YtceappncglfciaaGreat
namespace Go.Proofs.YtceappncglfciaaGreat
open Go.RowKit
attribute [local go_sem ↓] Go.wp_at_zero Go.wp_at_succ
theorem row_blockB {W:World} {base:Nat} {e:TypeId} {s n g:Nat} {v:Value} {xs:List Value} (h:W.ownsRow base e s v n xs) (hg:v.ownBlock = some g):∃ cur fr,W.heap[g]? = some (.cells cur e fr):=by
 rcases h.2 with ⟨rfl,_⟩ | ⟨g',cap,cur',rfl,_,hg',_⟩
 ·simp [Value.ownBlock] at hg
 ·have:g' = g:=by simpa [Value.ownBlock] using hg
  subst this
  exact ⟨_,_,hg'⟩
def ptr (b:Nat):Value:=.pointer (some ⟨b,0,none⟩)
theorem Tryz.infoPtr:(Tryz.prog.info? 82).map (fun i => (i.zero,i.size,i.bytes)) = some (some (.pointer none),1,8):=by kernel_rfl
structure Bld (W0:World) (bt:Nat) (l:List CredM) (wait lease net:Int) (k:Nat) (v:Value) (pb:List Nat) (qs:List PL) (wr:World):Prop where
 below:Below W0.heap.size W0 wr
 town:Box wr bt #[v,.int .i64 wait,.int .i64 lease,.int .i64 net,.int .i64 0,.slice none 0 0,.slice none 0 0] 81
 row:wr.ownsRow W0.heap.size 82 1 v k (pb.map ptr)
 lens:pb.length = k ∧ qs.length = k
 at_:∀ i b q,pb[i]? = some b → qs[i]? = some q → PeerAt wr bt i b q (firstP (l.getD i credZ))
 nd:pb.Nodup ∧ (qs.flatMap PL.blocks).Nodup
 ge:W0.heap.size ≤ bt ∧ (∀ b ∈ pb,W0.heap.size ≤ b) ∧ ∀ x ∈ qs.flatMap PL.blocks,W0.heap.size ≤ x
section
variable {W0 wr X w1:World} {bt:Nat} {l:List CredM} {wait lease net:Int} {k:Nat} {v:Value} {pb:List Nat} {qs:List PL}
theorem Bld.lt (h:Bld W0 bt l wait lease net k v pb qs wr):(∀ b ∈ pb,b < wr.heap.size) ∧ ∀ x ∈ qs.flatMap PL.blocks,x < wr.heap.size:=by
 refine ⟨fun b hb => ?_,fun x hx => ?_⟩
 ·obtain ⟨i,hi⟩:=List.mem_iff_getElem?.1 hb
  have hl:i < qs.length:=by rw [h.lens.2,← h.lens.1];exact (List.getElem?_eq_some_iff.1 hi).1
  exact (h.at_ i b _ hi (List.getElem?_eq_getElem hl)).box.lt
 ·obtain ⟨q,hq,hx2⟩:=List.mem_flatMap.1 hx
  obtain ⟨i,hi⟩:=List.mem_iff_getElem?.1 hq
  have hl:i < pb.length:=by rw [h.lens.1,← h.lens.2];exact (List.getElem?_eq_some_iff.1 hi).1
  exact (h.at_ i _ q (List.getElem?_eq_getElem hl) hi).lt x hx2
theorem Bld.keep (h:Bld W0 bt l wait lease net k v pb qs wr) (hX:Below wr.heap.size wr X):Bld W0 bt l wait lease net k v pb qs X:=by
 refine ⟨h.below.trans (hX.mono h.below.size),h.town.keep hX,?_,h.lens,fun i b q hb hq => (h.at_ i b q hb hq).below hX,h.nd,h.ge⟩
 exact own_same h.row (fun b hb => hX.block b (h.row.lt b hb).2)
theorem Bld.step (h:Bld W0 bt l wait lease net k v pb qs wr) (hX:Below wr.heap.size wr X) {b:Nat} {q:PL} (hat:PeerAt X bt k b q (firstP (l.getD k credZ))) (hb:wr.heap.size ≤ b) (hq:∀ x ∈ q.blocks,wr.heap.size ≤ x) {g cap:Nat}
  (hg:X.grownBy w1 v.ownBlock) (hown:w1.ownsRow W0.heap.size 82 1 (.slice (some ⟨g,0,none⟩) (k + 1) cap) (k + 1) (pb.map ptr ++ [ptr b])) (hgg:v.ownBlock = some g ∨ X.heap.size ≤ g) :
  Bld W0 bt l wait lease net (k + 1) (.slice (some ⟨g,0,none⟩) (k + 1) cap) (pb ++ [b]) (qs ++ [q]) (w1.setCell ⟨bt,0,none⟩ (.slice (some ⟨g,0,none⟩) (k + 1) cap)):=by
 have hB:=h.keep hX
 have hlt:=h.lt
 have hltb:=hB.town.lt
 have nv:v.ownBlock ≠ some bt:=own_ne hB.row hB.town (by decide)
 have hvl:∀ x,v.ownBlock = some x → x < wr.heap.size:=fun x hx => (h.row.lt x hx).2
 have hvt:∀ x,v.ownBlock = some x → ∃ cur fr,X.heap[x]? = some (.cells cur 82 fr):=fun x hx => row_blockB hB.row hx
 have keepX:∀ x,x < X.heap.size → some x ≠ v.ownBlock → x ≠ bt → (w1.setCell ⟨bt,0,none⟩ (.slice (some ⟨g,0,none⟩) (k + 1) cap)).heap[x]? = X.heap[x]?:=fun x hx hxv hxb => (Below.heap_setCell w1 _ _ x hxb).trans (hg.block x hx hxv)
 have gne:g ≠ bt:=by
  rcases hgg with e | e
  ·intro e2;exact nv (by rw [e,e2])
  ·omega
 have peerKeep:∀ i b' q' p',PeerAt X bt i b' q' p' → PeerAt (w1.setCell ⟨bt,0,none⟩ (.slice (some ⟨g,0,none⟩) (k + 1) cap)) bt i b' q' p':=by
  intro i b' q' p' hp
  refine hp.same (keepX b' hp.box.lt (fun e => ?_) (fun e => ?_)) (fun x hx => keepX x (hp.lt x hx) (fun e => ?_) (fun e => ?_))
  ·obtain ⟨cur,fr,hc⟩:=hvt b' e.symm
   rw [hp.box.1] at hc
   simp only [Option.some.injEq,Obj.cells.injEq] at hc
   exact absurd hc.2.1 (by decide)
  ·have:=hp.box.1
   rw [e,show X.heap[bt]? = _ from hB.town] at this
   simp only [Option.some.injEq,Obj.cells.injEq] at this
   exact absurd this.2.1 (by decide)
  ·obtain ⟨cur,fr,hc⟩:=hvt x e.symm
   exact hp.no_cells x hx _ _ _ hc
  ·subst e
   exact hp.no_cells x hx _ _ _ hB.town
 refine ⟨?_,?_,?_,?_,?_,?_,?_⟩
 ·refine Below.setCell (p:=⟨bt,0,none⟩) ?_ h.ge.1 _
  exact hB.below.grown hg hB.below.size (fun x e => (hB.row.lt x e).1)
 ·have t1:Box w1 bt _ 81:=(hg.block bt hltb (fun e => nv e.symm)).trans hB.town
  exact t1.set 0 _
 ·have:=own_same hown (W':=w1.setCell ⟨bt,0,none⟩ (.slice (some ⟨g,0,none⟩) (k + 1) cap)) (fun x hx => by
   have e:g = x:=by simpa [Value.ownBlock] using hx
   subst e
   exact Below.heap_setCell w1 _ _ g gne)
  simpa using this
 ·simp [h.lens]
 ·intro i b' q' hb' hq'
  by_cases hik:i < k
  ·rw [List.getElem?_append_left (by rw [h.lens.1];exact hik)] at hb'
   rw [List.getElem?_append_left (by rw [h.lens.2];exact hik)] at hq'
   exact peerKeep i b' q' _ (hB.at_ i b' q' hb' hq')
  ·have hlen:i < (pb ++ [b]).length:=(List.getElem?_eq_some_iff.1 hb').1
   have:i = k:=by simp [h.lens] at hlen;omega
   subst this
   rw [List.getElem?_append_right (by rw [h.lens.1];exact Nat.le_refl _),h.lens.1,Nat.sub_self] at hb'
   rw [List.getElem?_append_right (by rw [h.lens.2];exact Nat.le_refl _),h.lens.2,Nat.sub_self] at hq'
   have e1:b = b':=by simpa using hb'
   have e2:q = q':=by simpa using hq'
   subst e1;subst e2
   exact peerKeep _ _ _ _ hat
 ·refine ⟨List.nodup_append.2 ⟨h.nd.1,by simp,fun x hx y hy e => ?_⟩,?_⟩
  ·have:y = b:=by simpa using hy
   have:=hlt.1 x hx
   omega
  ·rw [List.flatMap_append]
   refine List.nodup_append.2 ⟨h.nd.2,by simpa using hat.nd,fun x hx y hy e => ?_⟩
   have h1:=hlt.2 x hx
   have h2:=hq y (by simpa using hy)
   omega
 ·have:=h.below.size
  refine ⟨h.ge.1,fun x hx => ?_,fun x hx => ?_⟩
  ·rcases List.mem_append.1 hx with h1 | h1
   ·exact h.ge.2.1 x h1
   ·have:x = b:=by simpa using h1
    omega
  ·rw [List.flatMap_append] at hx
   rcases List.mem_append.1 hx with h1 | h1
   ·exact h.ge.2.2 x h1
   ·have:=hq x (by simpa using h1)
    omega
def newP (wait lease net:Int) (l:List CredM) (rb rc:Nat):PTown:=⟨wait,lease,net,0,l.map firstP,[],[],rb,rc⟩
theorem Bld.town_is (h:Bld W0 bt l wait lease net l.length v pb qs wr) (h1:1 ≤ l.length):∃ rb rc bs,PR wr bt pb bs (newP wait lease net l rb rc) ∧ ∀ x ∈ bs,W0.heap.size ≤ x:=by
 rcases h.row.2 with ⟨_,h0⟩ | ⟨g,cap,cur,hv,hgb,hg,hc,hc2,hs,ht⟩
 ·omega
 have hl:(newP wait lease net l g cap).ps.length = l.length:=by simp [newP]
 refine ⟨g,cap,bt :: g :: (Value.ownBlock (.slice none 0 0)).toList ++ ((Value.ownBlock (.slice none 0 0)).toList ++ (pb ++ qs.flatMap PL.blocks)),⟨⟨g,cap,.slice none 0 0,.slice none 0 0,qs,cur,?_,⟨hg,?_,?_,?_⟩,World.ownsRow_nil _ _ _ _,World.ownsRow_nil _ _ _ _,?_,?_,?_,h.nd.1,h.nd.2,rfl⟩,?_⟩,?_⟩
 ·have:=h.town
  rw [hv] at this
  rw [hl]
  exact this
 ·rw [hl];exact hc
 ·rw [hs];omega
 ·rw [hl];rw [Nat.mul_one] at ht;exact ht
 ·rw [hl];exact h.lens.1
 ·rw [hl];exact h.lens.2
 ·intro i b q p hb hq hp
  have hi:i < l.length:=by rw [← h.lens.1];exact (List.getElem?_eq_some_iff.1 hb).1
  have hp2:p = firstP (l.getD i credZ):=by
   have:(l.map firstP)[i]? = some p:=hp
   rw [List.getElem?_map,List.getElem?_eq_getElem hi] at this
   simp [List.getD_eq_getElem?_getD,List.getElem?_eq_getElem hi]
   exact (Option.some.inj this).symm
  rw [hp2]
  exact h.at_ i b q hb hq
 ·rw [hl]
  have:=h.town.cell 0
  rw [hv] at this
  exact this
 ·intro x hx
  simp only [Value.ownBlock,Option.toList_none,List.nil_append,List.append_nil,List.cons_append,List.mem_cons,List.mem_append] at hx
  rcases hx with rfl | rfl | hx | hx
  ·exact h.ge.1
  ·exact hgb
  ·exact h.ge.2.1 x hx
  ·exact h.ge.2.2 x hx
end
end Go.Proofs.YtceappncglfciaaGreat
namespace Go.Proofs.YtceappncglfciaaGreat
open Go.RowKit
attribute [local go_sem ↓] Go.wp_at_zero Go.wp_at_succ
theorem first_disk (c:CredM):diskWrite zeroDisk c 28 = encL 1 c.p c.t c.e c.v ++ List.replicate 28 0:=by
 unfold diskWrite
 rw [newest_zero]
 show (if (0 + 1:Int) % 2 = 0 then _ else (encL (0 + 1) c.p c.t c.e c.v).take 28 ++ zeroDisk.drop 28) = _
 rw [if_neg (by decide),List.take_of_length_le (by rw [encL_len];omega)]
 rfl
theorem first_ok {c:CredM} (hc:c.ok):DiskOK 1 c (diskWrite zeroDisk c 28):=by rw [first_disk];exact DiskOK.first hc
theorem first_bytes {c:CredM} (hc:c.ok):BytesL (firstP c).disk:=(first_ok hc).bytes
def Oth (i:Nat) (T T':PTown):Prop:=∀ j,j ≠ i → T'.peer j = T.peer j
namespace Oth
variable {T T' T'':PTown} {i:Nat}
theorem trans (h:Oth i T T') (k:Oth i T' T''):Oth i T T'':=fun j hj => (k j hj).trans (h j hj)
theorem setP (p:PeerP):Oth i T (T.setP i p):=fun _ hj => PTown.peer_set_ne (fun e => hj e.symm) p
theorem send (m:MsgM) (l:List Int):Oth i T (T.sendTo m i l):=fun j _ => by unfold PTown.peer;rw [PTown.send_ps]
theorem look:Oth i T (T.look i):=(((setP _).trans ((setP _).trans ((setP _).trans (send _ _)))).trans (setP _))
theorem comeUp:Oth i T (T.comeUp i):=by
 unfold PTown.comeUp
 simp only []
 split
 ·exact setP _
 ·exact (setP _).trans look
end Oth
def PTown.comesTo (T:PTown):Nat → PTown
 | 0 => T
 | k + 1 => (T.comesTo k).comeUp k
theorem comesTo_fr (T:PTown):∀ k,Fr T (T.comesTo k)
 | 0 => Fr.rfl'
 | k + 1 => (comesTo_fr T k).trans Fr.comeUp
theorem comesTo_oth (T:PTown):∀ k j,k ≤ j → (T.comesTo k).peer j = T.peer j
 | 0,_,_ => rfl
 | k + 1,j,h => (Oth.comeUp (i:=k) j (by omega)).trans (comesTo_oth T k j (by omega))
set_option maxRecDepth 100000 in
set_option maxHeartbeats 2000000 in
theorem NewOk (W:World) (g cap:Nat) (l:List CredM) (wait lease net:Int) (h1:1 ≤ l.length) (h7:l.length ≤ 7) (hw:1 ≤ wait ∧ wait ≤ 20) (hle:4 ≤ lease ∧ lease ≤ 100) (hne:1 ≤ net ∧ net ≤ 1000) (hm:∀ c ∈ l,c.may l.length) (hc:ConfAt W g cap l) :
  Calls Tryz.prog 16 #[.agg #[.slice (some ⟨g,0,none⟩) l.length cap,.int .i64 wait,.int .i64 lease,.int .i64 net]] W fun o w' => ∃ bt pb bs rb rc,o = .returned (.tuple #[.pointer (some ⟨bt,0,none⟩),.int .i64 0]) ∧ PR w' bt pb bs ((newP wait lease net l rb rc).comesTo l.length) ∧ Below W.heap.size W w' ∧ ∀ x ∈ bs,W.heap.size ≤ x:=by
 have hX:=(Below.refl W.heap.size W).alloc (Nat.le_refl _) (.cells #[.slice (some ⟨g,0,none⟩) l.length cap,.int .i64 wait,.int .i64 lease,.int .i64 net] 24)
 have HBX:Hid (Box (W.alloc (.cells #[.slice (some ⟨g,0,none⟩) l.length cap,.int .i64 wait,.int .i64 lease,.int .i64 net] 24)) W.heap.size #[.slice (some ⟨g,0,none⟩) l.length cap,.int .i64 wait,.int .i64 lease,.int .i64 net] 24):=Box.new _ _ _
 have HX:=hide hX
 have HC:=hide hc
 have hcap:=hc.cap
 have hlg:=hc.lt
 have HM:=hide hm
 have HCM:=hide (confMay _ g cap l wait lease net h1 h7 hw hle hne hm (hc.below hX))
 clear hX hc hm
 go_enter Tryz.func16,Tryz.ntmps16
 go_upto_region 3 with (go_at_call 38;refine (unhide HCM).mono ?_;rintro o w1 ⟨rfl,hB1⟩)
 have HX1:=hide ((unhide HX).trans (hB1.mono (unhide HX).size))
 have hbx:=(unhide HBX).keep hB1
 have c0:w1.cell? ⟨W.heap.size,0,none⟩ = some (.slice (some ⟨g,0,none⟩) l.length cap):=hbx.cell 0
 have c1:w1.cell? ⟨W.heap.size,1,none⟩ = some (.int .i64 wait):=hbx.cell 1
 have c2:w1.cell? ⟨W.heap.size,2,none⟩ = some (.int .i64 lease):=hbx.cell 2
 have c3:w1.cell? ⟨W.heap.size,3,none⟩ = some (.int .i64 net):=hbx.cell 3
 have HBX1:=hide hbx
 clear hB1 hbx HBX HX HCM
 go_upto_region 4 with fail
 have hb2:=(Below.refl w1.heap.size w1).alloc (Nat.le_refl _) (.cells #[.slice none 0 0,.int .i64 wait,.int .i64 lease,.int .i64 net,.int .i64 0,.slice none 0 0,.slice none 0 0] 81)
 have hBt:Box (w1.alloc (.cells #[.slice none 0 0,.int .i64 wait,.int .i64 lease,.int .i64 net,.int .i64 0,.slice none 0 0,.slice none 0 0] 81)) w1.heap.size #[.slice none 0 0,.int .i64 wait,.int .i64 lease,.int .i64 net,.int .i64 0,.slice none 0 0,.slice none 0 0] 81:=Box.new _ _ _
 generalize w1.alloc (.cells #[.slice none 0 0,.int .i64 wait,.int .i64 lease,.int .i64 net,.int .i64 0,.slice none 0 0,.slice none 0 0] 81) = w2 at *
 have hX2:=(unhide HX1).trans (hb2.mono (unhide HX1).size)
 have HX2:=hide hX2
 have d0:w2.cell? ⟨W.heap.size,0,none⟩ = some (.slice (some ⟨g,0,none⟩) l.length cap):=((unhide HBX1).keep hb2).cell 0
 obtain ⟨bt,hbt⟩:∃ bt,bt = w1.heap.size:=⟨_,rfl⟩
 have hbtW:W.heap.size ≤ bt:=by rw [hbt];exact (unhide HX1).size
 rw [← hbt] at hBt ⊢
 have HB0:Hid (Bld W bt l wait lease net 0 (.slice none 0 0) [] [] w2):=⟨hX2,hBt,World.ownsRow_nil _ _ _ _,⟨rfl,rfl⟩,fun i b q hb => by simp at hb,⟨List.nodup_nil,List.nodup_nil⟩,hbtW,fun b hb => by simp at hb,fun x hx => by simp at hx⟩
 clear hX2 hBt hb2 HX1 HBX1 c0 c1 c2 c3 hbt
 go_wp2
 go_loopw [23] (fun c wr => ∃ (k:Nat) (v:Value) (pb:List Nat) (qs:List PL),k ≤ l.length ∧ c = .int .i64 (k:Int) ∧ Bld W bt l wait lease net k v pb qs wr) (fun c _ => l.length - (RowKit.intOf c).toNat)
 case atStart => exact ⟨0,_,_,_,Nat.zero_le _,rfl,unhide HB0⟩
 case round =>
  obtain ⟨k,v,pb,qs,hk,rfl,hB⟩:=hrel
  by_cases hkn:k = l.length
  ·subst hkn
   have HB:=hide hB
   obtain ⟨rb,rc,bs,hpr,hbs⟩:=hB.town_is h1
   have HPR:=hide hpr
   have hB':=hB.below
   have HBW:=hide hB'
   have HBS:=hide hbs
   have e0:=hpr.row0
   rw [show (newP wait lease net l rb rc).ps.length = l.length from by simp [newP]] at e0
   rw [show (newP wait lease net l rb rc).rowB = rb from rfl,show (newP wait lease net l rb rc).rowC = rc from rfl] at e0
   clear hB hB' hpr hbs
   go_wp2
   go_loopw [47] (fun c wx => ∃ (j:Nat) (bs':List Nat),j ≤ l.length ∧ c = .int .i64 (j:Int) ∧ PR wx bt pb bs' ((newP wait lease net l rb rc).comesTo j) ∧ Links wr bs wx bs') (fun c _ => l.length - (RowKit.intOf c).toNat)
   case atStart => exact ⟨0,bs,Nat.zero_le _,rfl,unhide HPR,Links.refl _ _⟩
   case round =>
    obtain ⟨j,bs',hj,rfl,hr,hlk⟩:=hrel
    by_cases hjn:j = l.length
    ·subst hjn
     have HF:Hid (PR wr bt pb bs' ((newP wait lease net l rb rc).comesTo l.length) ∧ Below W.heap.size W wr ∧ ∀ x ∈ bs',W.heap.size ≤ x):=by
      have hbw:=unhide HBW
      have hsz:=hbw.size
      refine ⟨hr,⟨hlk.1.os.trans hbw.os,hlk.1.tape.trans hbw.tape,hlk.1.output.trans hbw.output,Nat.le_trans hsz hlk.1.size,fun x hx => ?_⟩,fun x hx => ?_⟩
      ·exact (hlk.1.block x (by omega) (fun hm => by have:=unhide HBS x hm;omega)).trans (hbw.block x hx)
      ·rcases hlk.2 x hx with e | e
       ·exact unhide HBS x e
       ·omega
     clear hr hlk
     go_wp2
     refine bodyPost_ret (v:=.tuple #[.pointer (some ⟨bt,0,none⟩),.int .i64 0]) (by simp [results,Tryz.results16,go_sem]) rfl ?_
     exact ⟨bt,pb,bs',rb,rc,rfl,unhide HF⟩
    ·have hjl:j < l.length:=by omega
     have hfr:=comesTo_fr (newP wait lease net l rb rc) j
     have hlen:((newP wait lease net l rb rc).comesTo j).ps.length = l.length:=by rw [hfr.len];simp [newP]
     obtain ⟨b,hb⟩:=hr.block (i:=j) (by rw [hlen];exact hjl)
     have r0:wr.cell? ⟨rb,j,none⟩ = some (.pointer (some ⟨b,0,none⟩)):=by
      have:=hr.rowAt.2 j b hb
      rwa [hfr.rowB] at this
     have hrc:l.length ≤ rc:=by
      have:=hr.rowAt.1
      rwa [hlen,hfr.rowC] at this
     have hpj:((newP wait lease net l rb rc).comesTo j).peer j = firstP (l.getD j credZ):=by
      rw [comesTo_oth _ j j (Nat.le_refl _)]
      simp [newP,PTown.peer,List.getD_eq_getElem?_getD,hjl]
     have hcok:=CredM.may_ok h7 (unhide HM (l.getD j credZ) (by simp [List.getD_eq_getElem?_getD,hjl]))
     have HO:=hide (orderUp j b 0 wr bt pb bs' _ hr hb (by rw [hlen];exact h7) (by rw [hfr.net];exact hne.2) (by rw [hpj];exact first_bytes hcok) (by rw [hpj];exact ⟨Int.le_refl 0,by show (0:Int) ≤ 4611686018427387904;decide⟩))
     have HK:=hide hlk
     clear hr hlk hfr hlen hpj hcok hjn
     go_wp2_with fail
     refine (unhide HO).mono ?_
     rintro o wy ⟨rfl,hd⟩
     obtain ⟨bs2,h2,k2⟩:=hd.open
     have HF:=hide (And.intro h2 ((unhide HK).trans k2))
     clear hd h2 k2 HO HK
     go_wp2
     go_roundw
     case rel => exact ⟨j + 1,bs2,hjl,by simp,unhide HF⟩
     case measure => simp [RowKit.intOf];omega
  ·have hkl:k < l.length:=by omega
   obtain ⟨i0,hi0,hz0,hz1,hz2⟩:=info_parts Tryz.infoPtr
   have hcr:=(unhide HC).below hB.below
   obtain ⟨c,hcd⟩:∃ c,c = l.getD k credZ:=⟨_,rfl⟩
   have hcm:c.may l.length:=unhide HM c (by rw [hcd];simp [List.getD_eq_getElem?_getD,hkl])
   have hcok:=CredM.may_ok h7 hcm
   have hcell:=fun j u => hcr.cell k j u hkl
   rw [← hcd] at hcell
   have m0:wr.cell? ⟨g,k * 4,none⟩ = some (.int .i64 c.p):=hcell 0 _ rfl
   have m1:wr.cell? ⟨g,k * 4 + 1,none⟩ = some (.int .i64 c.t):=hcell 1 _ rfl
   have m2:wr.cell? ⟨g,k * 4 + 2,none⟩ = some (.int .i64 c.e):=hcell 2 _ rfl
   have m3:wr.cell? ⟨g,k * 4 + 3,none⟩ = some (.int .i64 c.v):=hcell 3 _ rfl
   have HB:=hide hB
   have HCD:=hide hcd
   clear hB hcr hcell hcd hkn hcm
   go_upto_region 7 with fail
   have hb4:=(Below.refl wr.heap.size wr).alloc (Nat.le_refl _) (.cells #[.int .i64 c.p,.int .i64 c.t,.int .i64 c.e,.int .i64 c.v] 39)
   have hB4:=(unhide HB).keep hb4
   have hbx4:Box (wr.alloc (.cells #[.int .i64 c.p,.int .i64 c.t,.int .i64 c.e,.int .i64 c.v] 39)) wr.heap.size #[.int .i64 c.p,.int .i64 c.t,.int .i64 c.e,.int .i64 c.v] 39:=Box.new _ _ _
   generalize wr.alloc (.cells #[.int .i64 c.p,.int .i64 c.t,.int .i64 c.e,.int .i64 c.v] 39) = wa at *
   have b0:wa.cell? ⟨wr.heap.size,0,none⟩ = some (.int .i64 c.p):=hbx4.cell 0
   have b1:wa.cell? ⟨wr.heap.size,1,none⟩ = some (.int .i64 c.t):=hbx4.cell 1
   have b2:wa.cell? ⟨wr.heap.size,2,none⟩ = some (.int .i64 c.e):=hbx4.cell 2
   have b3:wa.cell? ⟨wr.heap.size,3,none⟩ = some (.int .i64 c.v):=hbx4.cell 3
   obtain ⟨va,vcap,hv⟩:=ownsRow_slice hB4.row
   have t0:wa.cell? ⟨bt,0,none⟩ = some v:=hB4.town.cell 0
   rw [hv] at t0
   have HN:=hide (newPeer_any k c wa.drew bt hcok)
   have HB4:=hide hB4
   -- behind newPeer
   have HQ:Hid (∀ w5,Below wa.heap.size wa.drew w5 → Below wa.heap.size wa w5):=fun w5 h5 => ((Below.refl wa.heap.size wa).drew).trans h5
   have HT0:Hid (∀ w5,Below wa.heap.size wa.drew w5 → w5.cell? ⟨bt,0,none⟩ = some (.slice va k vcap) ∧ w5.frozen? ⟨bt,0,none⟩ = false):=fun w5 h5 => by
    have hk5:=hB4.keep (unhide HQ w5 h5)
    exact ⟨by rw [← hv];exact hk5.town.cell 0,hk5.town.frozen 0⟩
   have HOWN:Hid (∀ w5 ob,Below wa.heap.size wa.drew w5 → (w5.alloc ob).ownsRow W.heap.size 82 1 (.slice va k vcap) k (pb.map ptr)):=fun w5 ob h5 => by
    rw [← hv];exact (hB4.keep (unhide HQ w5 h5)).row.alloc ob
   have HNW:Hid (∀ (w5:World) (b:Nat) j u,[ptr b][j]? = some u → (w5.alloc (.cells #[ptr b] 82)).cell? ((⟨w5.heap.size,0,none⟩:Addr).add j) = some u):=fun w5 b j u hu => World.news_of_block (heap_alloc_new w5 (.cells #[ptr b] 82)) j u (by simpa using hu)
   have H1:Hid (∀ b:Nat,∀ u ∈ [ptr b],u.oneCell' = true):=fun b u hu => by
    rw [List.mem_singleton.1 hu];rfl
   have HBS:Hid (∀ w5 ob,Below wa.heap.size wa.drew w5 → W.heap.size ≤ (w5.alloc ob).heap.size ∧ bt < w5.heap.size):=fun w5 ob h5 => by
    have h6:=hB4.keep (unhide HQ w5 h5)
    have:=h6.below.size
    exact ⟨by simp;omega,h6.town.lt⟩
   have HFAR:Hid (∀ w5 ob w6,Below wa.heap.size wa.drew w5 → (w5.alloc ob).grownBy w6 (Value.slice va k vcap).ownBlock → w6.cell? ⟨bt,0,none⟩ = some (.slice va k vcap) ∧ w6.frozen? ⟨bt,0,none⟩ = false):=fun w5 ob w6 h5 hg => by
    have h6:=(hB4.keep (unhide HQ w5 h5)).keep ((Below.refl w5.heap.size w5).alloc (Nat.le_refl _) ob)
    have nv:v.ownBlock ≠ some bt:=own_ne h6.row h6.town (by decide)
    have hblk:=hg.block bt h6.town.lt (fun e => nv (by rw [hv];exact e.symm))
    exact ⟨by rw [← hv];exact (World.cell?_of_block (a:=⟨bt,0,none⟩) hblk).trans (h6.town.cell 0),(World.frozen?_of_block (a:=⟨bt,0,none⟩) hblk).trans (h6.town.frozen 0)⟩
   have HFIN:Hid (∀ w5 (b:Nat) (q:PL) w6 g2 cap2,Below wa.heap.size wa.drew w5 → PeerAt w5 bt k b q (firstP c) → wa.heap.size ≤ b → (∀ x ∈ q.blocks,wa.heap.size ≤ x) → (w5.alloc (.cells #[ptr b] 82)).grownBy w6 (Value.slice va k vcap).ownBlock →
     w6.ownsRow W.heap.size 82 1 (.slice (some ⟨g2,0,none⟩) (k + 1) cap2) (k + 1) (pb.map ptr ++ [ptr b]) → ((Value.slice va k vcap).ownBlock = some g2 ∨ g2 = (w5.alloc (.cells #[ptr b] 82)).heap.size) →
     Bld W bt l wait lease net (k + 1) (.slice (some ⟨g2,0,none⟩) (k + 1) cap2) (pb ++ [b]) (qs ++ [q]) (w6.setCell ⟨bt,0,none⟩ (.slice (some ⟨g2,0,none⟩) (k + 1) cap2))):=fun w5 b q w6 g2 cap2 h5 hp hb hq hg ho hat => by
    have hal:=(Below.refl w5.heap.size w5).alloc (Nat.le_refl _) (.cells #[ptr b] 82)
    have hbX:=(unhide HQ w5 h5).trans (hal.mono (unhide HQ w5 h5).size)
    refine hB4.step hbX (by rw [← unhide HCD];exact hp.below hal) hb hq (by rw [hv];exact hg) ho ?_
    rw [hv]
    rcases hat with e | e
    ·exact .inl e
    ·exact .inr (by omega)
   have HV:=hide hv
   clear hB4 hbx4 hb4 hv
   go_region_law (first | (go_simp;go_at_call 39;refine (unhide HN).mono ?_;rintro o w5 ⟨b,q,rfl,hp5,hB5,hb5,hq5⟩;obtain ⟨e1,e2⟩:=unhide HT0 w5 hB5;have e3:=(unhide HBS w5 (.cells #[] 0) hB5).2;have HP5:=hide (And.intro hp5 (And.intro hB5 (And.intro hb5 hq5)));clear hp5 hB5 hb5 hq5) | (refine step_append_lies _ (by rfl) _ _ _ (by rfl) W.heap.size 82 i0 _ 1 8 Tryz.underlying79 hi0 hz0 hz1 hz2 rfl (by omega) (.slice va k vcap) k (pb.map ptr) (by rfl) (unhide HOWN w5 _ (unhide HP5).2.1) ⟨w5.heap.size,0,none⟩ 1 1 [ptr b] (by rfl) (by rfl) (unhide HNW w5 b) (unhide H1 b) (by omega) (by unfold maxLen;omega) (by omega) (unhide HBS w5 _ (unhide HP5).2.1).1 _ rfl ?_;intro g2 cap2 w6 hown hgrow hat hlt6;obtain ⟨z1,z2⟩:=unhide HFAR w5 _ w6 (unhide HP5).2.1 hgrow;have FIN:=hide (unhide HFIN w5 b q w6 g2 cap2 (unhide HP5).2.1 (unhide HP5).1 (unhide HP5).2.2.1 (unhide HP5).2.2.2 hgrow hown hat);clear hown hgrow hat))
   all_goals
    clear HN HT0 HOWN HNW H1 HBS HFAR HFIN HQ HB4 HP5 HV HCD HB e1 e2 e3 z1 z2 b0 b1 b2 b3 t0 m0 m1 m2 m3
    go_wp2
    go_roundw
    case rel => exact ⟨k + 1,_,_,_,hkl,by simp,unhide FIN⟩
    case measure => simp [RowKit.intOf];omega
end Go.Proofs.YtceappncglfciaaGreat
namespace Go.Proofs.YtceappncglfciaaGreat
open Go.RowKit
attribute [local go_sem ↓] Go.wp_at_zero Go.wp_at_succ
theorem within_false (n x y:Int) (W:World) (h:¬ (x ≤ n ∧ n ≤ y)):Calls Tryz.prog 41 #[.int .i64 n,.int .i64 x,.int .i64 y] W fun o w' => o = .returned (.bool false) ∧ w' = W:=by
 have:=within_any n x y W
 rwa [show (decide (x ≤ n) && decide (n ≤ y)) = false from by simp;omega] at this
set_option maxRecDepth 100000 in
set_option maxHeartbeats 1000000 in
theorem credNo (c:CredM) (n:Nat) (h:¬ c.may n) (h1:1 ≤ n) (hn:n ≤ 7) (W:World) :
  Calls Tryz.prog 69 #[.agg #[.int .i64 c.p,.int .i64 c.t,.int .i64 c.e,.int .i64 c.v],.int .i64 (n:Int)] W fun o w' => o = .returned (.bool false) ∧ Below W.heap.size W w':=by
 have hX:=(Below.refl W.heap.size W).alloc (Nat.le_refl _) (.cells #[.int .i64 c.p,.int .i64 c.t,.int .i64 c.e,.int .i64 c.v] 39)
 have HX:=hide hX
 have hno:¬ (0 ≤ c.p ∧ c.p ≤ 1000) ∨ ((0 ≤ c.p ∧ c.p ≤ 1000) ∧ ¬ (0 ≤ c.e ∧ c.e ≤ c.p)) ∨ ((0 ≤ c.p ∧ c.p ≤ 1000) ∧ (0 ≤ c.e ∧ c.e ≤ c.p) ∧ ¬ (0 ≤ c.t ∧ c.t ≤ (n:Int) - 1)) ∨ ((0 ≤ c.p ∧ c.p ≤ 1000) ∧ (0 ≤ c.e ∧ c.e ≤ c.p) ∧ (0 ≤ c.t ∧ c.t ≤ (n:Int) - 1) ∧ ¬ (0 ≤ c.v ∧ c.v ≤ 1000000000)):=by
  unfold CredM.may at h
  omega
 clear hX h
 rcases hno with a | ⟨a,b⟩ | ⟨a,b,d⟩ | ⟨a,b,d,e⟩
 all_goals
  go_enter Tryz.func69,Tryz.ntmps69
  go_wp2_with (go_at_call 41;first | (refine (within_true _ _ _ _ (by omega)).mono ?_;rintro o w1 ⟨rfl,rfl⟩) | (refine (within_false _ _ _ _ (by omega)).mono ?_;rintro o w1 ⟨rfl,rfl⟩))
  go_ret
  exact ⟨rfl,unhide HX⟩
set_option maxRecDepth 100000 in
set_option maxHeartbeats 2000000 in
theorem confNo1 (W:World) (a:Option Addr) (n cap:Nat) (wait lease net:Int) (hlen:n ≤ 100000000000000) (h:¬ ((1 ≤ n ∧ n ≤ 7) ∧ (1 ≤ wait ∧ wait ≤ 20) ∧ (4 ≤ lease ∧ lease ≤ 100) ∧ (1 ≤ net ∧ net ≤ 1000))) :
  Calls Tryz.prog 38 #[.agg #[.slice a n cap,.int .i64 wait,.int .i64 lease,.int .i64 net]] W fun o w' => o = .returned (.bool false) ∧ Below W.heap.size W w':=by
 have hX:=(Below.refl W.heap.size W).alloc (Nat.le_refl _) (.cells #[.slice a n cap,.int .i64 wait,.int .i64 lease,.int .i64 net] 24)
 have HX:=hide hX
 have hno:¬ (1 ≤ (n:Int) ∧ (n:Int) ≤ 7) ∨ ((1 ≤ (n:Int) ∧ (n:Int) ≤ 7) ∧ ¬ (1 ≤ wait ∧ wait ≤ 20)) ∨ ((1 ≤ (n:Int) ∧ (n:Int) ≤ 7) ∧ (1 ≤ wait ∧ wait ≤ 20) ∧ ¬ (4 ≤ lease ∧ lease ≤ 100)) ∨ ((1 ≤ (n:Int) ∧ (n:Int) ≤ 7) ∧ (1 ≤ wait ∧ wait ≤ 20) ∧ (4 ≤ lease ∧ lease ≤ 100) ∧ ¬ (1 ≤ net ∧ net ≤ 1000)):=by omega
 clear hX h
 rcases hno with a1 | ⟨a1,b1⟩ | ⟨a1,b1,d1⟩ | ⟨a1,b1,d1,e1⟩
 all_goals
  go_enter Tryz.func38,Tryz.ntmps38
  go_wp2_with (go_at_call 41;first | (refine (within_true _ _ _ _ (by omega)).mono ?_;rintro o w1 ⟨rfl,rfl⟩) | (refine (within_false _ _ _ _ (by omega)).mono ?_;rintro o w1 ⟨rfl,rfl⟩))
  go_ret
  exact ⟨rfl,unhide HX⟩
set_option maxRecDepth 100000 in
set_option maxHeartbeats 2000000 in
theorem confNo2 (W:World) (g cap:Nat) (l:List CredM) (wait lease net:Int) (h1:1 ≤ l.length) (h7:l.length ≤ 7) (hw:1 ≤ wait ∧ wait ≤ 20) (hle:4 ≤ lease ∧ lease ≤ 100) (hne:1 ≤ net ∧ net ≤ 1000) (hm:¬ ∀ c ∈ l,c.may l.length) (hc:ConfAt W g cap l) :
  Calls Tryz.prog 38 #[.agg #[.slice (some ⟨g,0,none⟩) l.length cap,.int .i64 wait,.int .i64 lease,.int .i64 net]] W fun o w' => o = .returned (.bool false) ∧ Below W.heap.size W w':=by
 have hX:=(Below.refl W.heap.size W).alloc (Nat.le_refl _) (.cells #[.slice (some ⟨g,0,none⟩) l.length cap,.int .i64 wait,.int .i64 lease,.int .i64 net] 24)
 have HX:=hide hX
 have HC:=hide hc
 have hcap:=hc.cap
 have hlg:=hc.lt
 have HM:=hide hm
 clear hX hc hm
 go_enter Tryz.func38,Tryz.ntmps38
 go_wp2_with (go_at_call 41;refine (within_true _ _ _ _ (by omega)).mono ?_;rintro o w1 ⟨rfl,rfl⟩)
 go_loopw [33] (fun c wr => ∃ k:Nat,k ≤ l.length ∧ c = .int .i64 (k:Int) ∧ Below W.heap.size W wr ∧ ∀ j,j < k → (l.getD j credZ).may l.length) (fun c _ => l.length - (RowKit.intOf c).toNat)
 case atStart => exact ⟨0,Nat.zero_le _,rfl,unhide HX,fun j hj => absurd hj (Nat.not_lt_zero _)⟩
 case round =>
  obtain ⟨k,hk,rfl,hB,hall⟩:=hrel
  have HB:=hide hB
  by_cases hkn:k = l.length
  ·exfalso
   apply unhide HM
   intro c hcl
   obtain ⟨j,hj,hje⟩:=List.getElem_of_mem hcl
   have:=hall j (by omega)
   rw [List.getD_eq_getElem?_getD,List.getElem?_eq_getElem hj] at this
   rw [← hje]
   exact this
  ·have hkl:k < l.length:=by omega
   have hcr:=(unhide HC).below hB
   obtain ⟨c,hcd⟩:∃ c,c = l.getD k credZ:=⟨_,rfl⟩
   have hcell:=fun j u => hcr.cell k j u hkl
   rw [← hcd] at hcell
   have m0:wr.cell? ⟨g,k * 4,none⟩ = some (.int .i64 c.p):=hcell 0 _ rfl
   have m1:wr.cell? ⟨g,k * 4 + 1,none⟩ = some (.int .i64 c.t):=hcell 1 _ rfl
   have m2:wr.cell? ⟨g,k * 4 + 2,none⟩ = some (.int .i64 c.e):=hcell 2 _ rfl
   have m3:wr.cell? ⟨g,k * 4 + 3,none⟩ = some (.int .i64 c.v):=hcell 3 _ rfl
   have hb2:=hB.alloc hB.size (.cells #[.int .i64 c.p,.int .i64 c.t,.int .i64 c.e,.int .i64 c.v] 39)
   have HB2:=hide hb2
   have HALL:=hide hall
   have HCD:=hide hcd
   by_cases hcm:c.may l.length
   ·have HCM:=hide (credMay c l.length hcm h7 (wr.alloc (.cells #[.int .i64 c.p,.int .i64 c.t,.int .i64 c.e,.int .i64 c.v] 39)))
    have HCY:=hide hcm
    clear hB hb2 hcr hcell hcd hkn hcm hall
    go_wp2_with (go_at_call 69;refine (unhide HCM).mono ?_;rintro o w3 ⟨rfl,hB3⟩)
    have hf:=(unhide HB2).trans (hB3.mono (unhide HB2).size)
    have HF:=hide hf
    clear hB3 hf
    go_wp2
    go_roundw
    case rel =>
     refine ⟨k + 1,hkl,by simp,unhide HF,fun j hj => ?_⟩
     by_cases e:j = k
     ·rw [e,← unhide HCD];exact unhide HCY
     ·exact unhide HALL j (by omega)
    case measure => simp [RowKit.intOf];omega
   ·have HCM:=hide (credNo c l.length hcm h1 h7 (wr.alloc (.cells #[.int .i64 c.p,.int .i64 c.t,.int .i64 c.e,.int .i64 c.v] 39)))
    clear hB hb2 hcr hcell hcd hkn hcm hall
    go_wp2_with (go_at_call 69;refine (unhide HCM).mono ?_;rintro o w3 ⟨rfl,hB3⟩)
    have hf:=(unhide HB2).trans (hB3.mono (unhide HB2).size)
    have HF:=hide hf
    clear hB3 hf
    go_wp2
    go_ret
    exact ⟨rfl,unhide HF⟩
set_option maxRecDepth 100000 in
set_option maxHeartbeats 1000000 in
theorem NewNo (W:World) (a:Option Addr) (n cap:Nat) (wait lease net:Int) (h:∀ w,Below W.heap.size W w → Calls Tryz.prog 38 #[.agg #[.slice a n cap,.int .i64 wait,.int .i64 lease,.int .i64 net]] w fun o w' => o = .returned (.bool false) ∧ Below w.heap.size w w') :
  Calls Tryz.prog 16 #[.agg #[.slice a n cap,.int .i64 wait,.int .i64 lease,.int .i64 net]] W fun o w' => o = .returned (.tuple #[.pointer none,.int .i64 1]) ∧ Below W.heap.size W w':=by
 have hX:=(Below.refl W.heap.size W).alloc (Nat.le_refl _) (.cells #[.slice a n cap,.int .i64 wait,.int .i64 lease,.int .i64 net] 24)
 have HX:=hide hX
 have HC:=hide (h _ hX)
 clear hX h
 go_enter Tryz.func16,Tryz.ntmps16
 go_wp2_with (go_at_call 38;refine (unhide HC).mono ?_;rintro o w3 ⟨rfl,hB3⟩)
 have HF:=hide ((unhide HX).trans (hB3.mono (unhide HX).size))
 clear hB3
 refine bodyPost_ret (v:=.tuple #[.pointer none,.int .i64 1]) (by simp [results,Tryz.results16,go_sem]) rfl ?_
 exact ⟨rfl,unhide HF⟩
end Go.Proofs.YtceappncglfciaaGreat
