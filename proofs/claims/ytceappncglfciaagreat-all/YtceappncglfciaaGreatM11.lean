import Derived.Test.YtceappncglfciaaGreatM07
import Derived.Test.YtceappncglfciaaGreatM03
set_option linter.unusedVariables false
set_option linter.unusedSimpArgs false
namespace Go.Proofs.YtceappncglfciaaGreat
open Go.RowKit
def PeerM.head (p:PeerM):List Value:=[.string (strOfNums p.disk),.bool p.up,.int .i64 p.armed,.int .i64 p.state,.int .i64 p.c.p,.int .i64 p.c.t,.int .i64 p.c.e,.int .i64 p.c.v,.int .i64 p.round,.int .i64 p.vote.e,.int .i64 p.vote.n,.int .i64 p.vote.p]
def PeerM.cells (p:PeerM):List Value:=p.head ++ (p.votes.flatMap KnownM.cells ++ (p.settled.flatMap KnownM.cells ++ ([.bool p.waits,.int .i64 p.since,.int .i64 p.epoch] ++ (p.mem.flatMap MemM.cells ++ [.bool p.stands]))))
def PeerM.fit (p:PeerM):Prop:=p.votes.length = 7 ∧ p.settled.length = 7 ∧ p.mem.length = 7
structure Lies where
 bt:Nat
 bp:Nat
 capP:Nat
 cv:Value
 way:Value
 ev:Value
structure Rep (W:World) (L:Lies) (T:TownM):Prop where
 town:W.heap[L.bt]? = some (.cells #[L.cv,.int .i64 T.wait,.int .i64 T.lease,.int .i64 T.net,.slice (some ⟨L.bp,0,none⟩) T.ps.length L.capP,.int .i64 T.now,L.way,L.ev] 131 (0,0))
 peers:∃ cur:Array Value,W.heap[L.bp]? = some (.cells cur 159 (0,0)) ∧ T.ps.length ≤ L.capP ∧ cur.size = L.capP * 121 ∧ cur.toList.take (T.ps.length * 121) = T.ps.flatMap PeerM.cells
 way:W.ownsRow 0 133 10 L.way T.way.length (T.way.flatMap MsgM.cells)
 events:W.ownsRow 0 49 2 L.ev T.events.length (evCells T.events)
 fit:∀ p ∈ T.ps,p.fit
def Lies.blocks (L:Lies):List Nat:=L.bt :: L.bp :: (L.way.ownBlock.toList ++ L.ev.ownBlock.toList)
end Go.Proofs.YtceappncglfciaaGreat
namespace Go.Proofs.YtceappncglfciaaGreat
open Go.RowKit
def encVote (v:VoteM):Value:=.agg #[.int .i64 v.e,.int .i64 v.n,.int .i64 v.p]
def encStand (s:VoteM × Int):Value:=.agg #[.int .i64 s.1.e,.int .i64 s.1.n,.int .i64 s.1.p,.int .i64 s.2]
def encInt (x:Int):Value:=.int .i64 x
def encUnit (_:Unit):Value:=.agg #[]
structure PL where
 cm:Nat
 ct:Nat
 co:Nat
 mv:Option Nat
 ms:Option Nat
 mh:Option Nat
 mj:Option Nat
 ma:Option Nat
def PL.blocks (q:PL):List Nat:=q.cm :: q.ct :: q.co :: (q.mv.toList ++ (q.ms.toList ++ (q.mh.toList ++ (q.mj.toList ++ q.ma.toList))))
def PeerP.tail (p:PeerP) (q:PL):List Value :=
 [.bool p.up,.chan (some q.cm),.chan (some q.ct),.chan (some q.co),.bool p.armed,.int .i64 p.bytes,.int .i64 p.c.p,.int .i64 p.c.t,.int .i64 p.c.e,.int .i64 p.c.v,.int .i64 p.state,.int .i64 p.round,.int .i64 p.vote.e,.int .i64 p.vote.n,.int .i64 p.vote.p,
  .map q.mv,.map q.ms,.bool p.waits,.int .i64 p.waitsFrom,.map q.mh,.int .i64 p.leadsFrom,.int .i64 p.epoch,.map q.mj,.map q.ma,.bool p.established]
def byteCells (d:List Int):List Value:=d.map (Value.int .u8)
def pcells (bt i:Nat) (d tl:List Value):List Value:=.pointer (some ⟨bt,0,none⟩) :: .int .i64 (i:Int) :: (d ++ tl)
def PBox (W:World) (b bt i:Nat) (d tl:List Value):Prop:=W.heap[b]? = some (.cells (pcells bt i d tl).toArray 114 (0,0)) ∧ d.length = 56
section
variable {W W':World} {b bt i:Nat} {d tl:List Value}
theorem pcells_tail (hd:d.length = 56) {k:Nat} (hk:58 ≤ k):(pcells bt i d tl)[k]? = tl[k - 58]?:=by
 unfold pcells
 rw [List.getElem?_cons,if_neg (by omega),List.getElem?_cons,if_neg (by omega),List.getElem?_append_right (by omega),hd]
 congr 1
theorem pcells_disk (hd:d.length = 56) {k:Nat} (hk:k < 56):(pcells bt i d tl)[k + 2]? = d[k]?:=by
 unfold pcells
 rw [List.getElem?_cons,if_neg (by omega),List.getElem?_cons,if_neg (by omega),List.getElem?_append_left (by omega)]
 congr 1
theorem PBox.cell (h:PBox W b bt i d tl) {k:Nat} (hk:58 ≤ k):W.cell? ⟨b,k,none⟩ = tl[k - 58]?:=by
 rw [cell_of_row W b k _ _ (0,0) h.1,List.getElem?_toArray,pcells_tail h.2 hk]
theorem PBox.town (h:PBox W b bt i d tl):W.cell? ⟨b,0,none⟩ = some (.pointer (some ⟨bt,0,none⟩)):=by
 rw [cell_of_row W b 0 _ _ (0,0) h.1];simp [pcells]
theorem PBox.num (h:PBox W b bt i d tl):W.cell? ⟨b,1,none⟩ = some (.int .i64 (i:Int)):=by
 rw [cell_of_row W b 1 _ _ (0,0) h.1];simp [pcells]
theorem PBox.frozen (h:PBox W b bt i d tl) (k:Nat):W.frozen? ⟨b,k,none⟩ = false:=frozen_of_row W b k _ _ h.1
theorem PBox.lt (h:PBox W b bt i d tl):b < W.heap.size:=(Array.getElem?_eq_some_iff.1 h.1).1
theorem PBox.same (h:PBox W b bt i d tl) (hs:W'.heap[b]? = W.heap[b]?):PBox W' b bt i d tl:=⟨hs.trans h.1,h.2⟩
theorem PBox.set (h:PBox W b bt i d tl) (k:Nat) (hk:58 ≤ k) (u:Value):PBox (W.setCell ⟨b,k,none⟩ u) b bt i d (tl.set (k - 58) u):=by
 refine ⟨?_,h.2⟩
 have hg:W.heap[b]? = some (.cells (pcells bt i d tl).toArray 114 (0,0)):=h.1
 have e:(pcells bt i d tl).set k u = pcells bt i d (tl.set (k - 58) u):=by
  obtain ⟨j,rfl⟩:∃ j,k = j + 58:=⟨k - 58,by omega⟩
  unfold pcells
  rw [show j + 58 = (j + 56) + 1 + 1 from by omega,List.set_cons_succ,List.set_cons_succ,List.set_append_right _ _ (by rw [h.2];omega),h.2]
  congr 3
 unfold World.setCell
 simp only [Array.getElem?_modify,if_true,hg,Option.map_some]
 rw [← e]
 simp
end
def ChanAt (W:World) (c:Nat):Prop:=∃ s r,W.heap[c]? = some (.chan 1 #[] false s r false)
def MapAt {α:Type} (enc:α → Value) (W:World):Option Nat → Option (List (Option α)) → Prop
 | some b,some l => MapIs Tryz.prog 3 enc W b l
 | none,none => True
 | _,_ => False
theorem MapAt.same {α:Type} {enc:α → Value} {W W':World}:∀ {o:Option Nat} {m:Option (List (Option α))},MapAt enc W o m → (∀ k ∈ o.toList,W'.heap[k]? = W.heap[k]?) → MapAt enc W' o m
 | some b,some l,h,hs => MapIs.same h (hs b (by simp))
 | none,none,_,_ => trivial
 | some _,none,h,_ => h.elim
 | none,some _,h,_ => h.elim
theorem MapAt.lt {α:Type} {enc:α → Value} {W:World}:∀ {o:Option Nat} {m:Option (List (Option α))},MapAt enc W o m → ∀ k ∈ o.toList,k < W.heap.size
 | some b,some l,h,k,hk => by
  have:k = b:=by simpa using hk
  subst this;exact MapIs.lt h
 | none,none,_,k,hk => by simp at hk
 | some _,none,h,_,_ => h.elim
 | none,some _,h,_,_ => h.elim
theorem MapAt.obj {α:Type} {enc:α → Value} {W:World}:∀ {o:Option Nat} {m:Option (List (Option α))},MapAt enc W o m → ∀ k ∈ o.toList,∃ es clock,W.heap[k]? = some (.map es clock)
 | some b,some l,h,k,hk => by
  have:k = b:=by simpa using hk
  subst this;exact MapIs.obj h
 | none,none,_,k,hk => by simp at hk
 | some _,none,h,_,_ => h.elim
 | none,some _,h,_,_ => h.elim
theorem MapAt.some {α:Type} {enc:α → Value} {W:World} {o:Option Nat} {l:List (Option α)} (h:MapAt enc W o (some l)):∃ b,o = some b ∧ MapIs Tryz.prog 3 enc W b l:=by
 cases o with
 | none => exact h.elim
 | some b => exact ⟨b,rfl,h⟩
structure PeerAt (W:World) (bt i b:Nat) (q:PL) (p:PeerP):Prop where
 box:PBox W b bt i (byteCells p.disk) (p.tail q)
 cm:ChanAt W q.cm
 ct:ChanAt W q.ct
 co:ChanAt W q.co
 mv:MapAt encVote W q.mv p.votes
 ms:MapAt encStand W q.ms p.settled
 mh:MapAt encInt W q.mh p.heard
 mj:MapAt encInt W q.mj p.joined
 ma:MapAt encUnit W q.ma p.acked
 nd:q.blocks.Nodup
section
variable {W W':World} {bt i b:Nat} {q q':PL} {p p':PeerP}
theorem PL.mem_blocks (q:PL) (k:Nat):k ∈ q.blocks ↔ k = q.cm ∨ k = q.ct ∨ k = q.co ∨ k ∈ q.mv.toList ∨ k ∈ q.ms.toList ∨ k ∈ q.mh.toList ∨ k ∈ q.mj.toList ∨ k ∈ q.ma.toList:=by
 simp only [PL.blocks,List.mem_cons,List.mem_append]
theorem PeerAt.same (h:PeerAt W bt i b q p) (hb:W'.heap[b]? = W.heap[b]?) (hs:∀ k ∈ q.blocks,W'.heap[k]? = W.heap[k]?):PeerAt W' bt i b q p:=by
 have hs':∀ k,_ → W'.heap[k]? = W.heap[k]?:=fun k hk => hs k ((PL.mem_blocks q k).2 hk)
 obtain ⟨s1,r1,c1⟩:=h.cm
 obtain ⟨s2,r2,c2⟩:=h.ct
 obtain ⟨s3,r3,c3⟩:=h.co
 exact ⟨h.box.same hb,⟨s1,r1,(hs' _ (by simp)).trans c1⟩,⟨s2,r2,(hs' _ (by simp)).trans c2⟩,⟨s3,r3,(hs' _ (by simp)).trans c3⟩,
  h.mv.same (fun k hk => hs' k (by simp [hk])),h.ms.same (fun k hk => hs' k (by simp [hk])),h.mh.same (fun k hk => hs' k (by simp [hk])),h.mj.same (fun k hk => hs' k (by simp [hk])),h.ma.same (fun k hk => hs' k (by simp [hk])),h.nd⟩
theorem PeerAt.lt (h:PeerAt W bt i b q p):∀ k ∈ q.blocks,k < W.heap.size:=by
 intro k hk
 obtain ⟨s1,r1,c1⟩:=h.cm
 obtain ⟨s2,r2,c2⟩:=h.ct
 obtain ⟨s3,r3,c3⟩:=h.co
 rcases (PL.mem_blocks q k).1 hk with rfl | rfl | rfl | hk | hk | hk | hk | hk
 ·exact (Array.getElem?_eq_some_iff.1 c1).1
 ·exact (Array.getElem?_eq_some_iff.1 c2).1
 ·exact (Array.getElem?_eq_some_iff.1 c3).1
 ·exact h.mv.lt k hk
 ·exact h.ms.lt k hk
 ·exact h.mh.lt k hk
 ·exact h.mj.lt k hk
 ·exact h.ma.lt k hk
theorem PeerAt.no_cells (h:PeerAt W bt i b q p):∀ k ∈ q.blocks,∀ cur t fr,W.heap[k]? ≠ some (.cells cur t fr):=by
 intro k hk cur t fr e
 obtain ⟨s1,r1,c1⟩:=h.cm
 obtain ⟨s2,r2,c2⟩:=h.ct
 obtain ⟨s3,r3,c3⟩:=h.co
 rcases (PL.mem_blocks q k).1 hk with rfl | rfl | rfl | hk | hk | hk | hk | hk
 ·rw [c1] at e;cases e
 ·rw [c2] at e;cases e
 ·rw [c3] at e;cases e
 ·obtain ⟨es,cl,h1⟩:=h.mv.obj k hk;rw [h1] at e;cases e
 ·obtain ⟨es,cl,h1⟩:=h.ms.obj k hk;rw [h1] at e;cases e
 ·obtain ⟨es,cl,h1⟩:=h.mh.obj k hk;rw [h1] at e;cases e
 ·obtain ⟨es,cl,h1⟩:=h.mj.obj k hk;rw [h1] at e;cases e
 ·obtain ⟨es,cl,h1⟩:=h.ma.obj k hk;rw [h1] at e;cases e
theorem PeerAt.b_notin (h:PeerAt W bt i b q p):b ∉ q.blocks:=fun hb => h.no_cells b hb _ _ _ h.box.1
end
structure PR (W:World) (bt:Nat) (pb bs:List Nat) (T:PTown):Prop where
 ex:∃ (bp capP:Nat) (way ev:Value) (qs:List PL) (cur:Array Value),
  W.heap[bt]? = some (.cells #[.slice (some ⟨bp,0,none⟩) T.ps.length capP,.int .i64 T.wait,.int .i64 T.lease,.int .i64 T.net,.int .i64 T.now,way,ev] 81 (0,0)) ∧
  (W.heap[bp]? = some (.cells cur 82 (0,0)) ∧ T.ps.length ≤ capP ∧ cur.size = capP ∧ cur.toList.take T.ps.length = pb.map (fun b => .pointer (some ⟨b,0,none⟩))) ∧
  W.ownsRow 0 133 10 way T.way.length (T.way.flatMap MsgM.cells) ∧
  W.ownsRow 0 49 2 ev T.events.length (evCells T.events) ∧
  pb.length = T.ps.length ∧ qs.length = T.ps.length ∧
  (∀ i b q p,pb[i]? = some b → qs[i]? = some q → T.ps[i]? = some p → PeerAt W bt i b q p) ∧
  pb.Nodup ∧ (qs.flatMap PL.blocks).Nodup ∧
  bs = bt :: bp :: (way.ownBlock.toList ++ (ev.ownBlock.toList ++ (pb ++ qs.flatMap PL.blocks)))
 row0:W.cell? ⟨bt,0,none⟩ = some (.slice (some ⟨T.rowB,0,none⟩) T.ps.length T.rowC)
def PDid (W:World) (bt:Nat) (pb bs:List Nat) (w':World) (T':PTown):Prop :=
 ∃ bs',PR w' bt pb bs' T' ∧ Keeps bs W w' ∧ ∀ x ∈ bs',x ∈ bs ∨ W.heap.size ≤ x
section
variable {W W' w1 w2:World} {bt:Nat} {pb bs bs':List Nat} {T T':PTown}
theorem PR.keep (h:PR W bt pb bs T) (hs:∀ k ∈ bs,W'.heap[k]? = W.heap[k]?):PR W' bt pb bs T:=by
 obtain ⟨bp,capP,way,ev,qs,cur,h1,⟨h2,h2b⟩,h3,h4,h5,h6,h7,h8,h9,rfl⟩:=h.ex
 refine ⟨⟨bp,capP,way,ev,qs,cur,(hs _ (by simp)).trans h1,⟨(hs _ (by simp)).trans h2,h2b⟩,own_same h3 (fun b hb => hs b (by simp [hb])),own_same h4 (fun b hb => hs b (by simp [hb])),h5,h6,?_,h8,h9,rfl⟩,(World.cell?_of_block (a:=⟨bt,0,none⟩) (hs bt (by simp))).trans h.row0⟩
 intro i b q p hb hq hp
 refine (h7 i b q p hb hq hp).same (hs b ?_) (fun k hk => hs k ?_)
 ·have:=List.mem_of_getElem? hb
  simp [this]
 ·have:k ∈ qs.flatMap PL.blocks:=List.mem_flatMap.2 ⟨q,List.mem_of_getElem? hq,hk⟩
  simp only [List.mem_cons,List.mem_append]
  simp [this]
theorem PR.lt (h:PR W bt pb bs T):∀ k ∈ bs,k < W.heap.size:=by
 obtain ⟨bp,capP,way,ev,qs,cur,h1,⟨h2,h2b⟩,h3,h4,h5,h6,h7,h8,h9,rfl⟩:=h.ex
 intro k hk
 simp only [List.mem_cons,List.mem_append,Option.mem_toList] at hk
 rcases hk with rfl | rfl | hk | hk | hk | hk
 ·exact (Array.getElem?_eq_some_iff.1 h1).1
 ·exact (Array.getElem?_eq_some_iff.1 h2).1
 ·exact (h3.lt k hk).2
 ·exact (h4.lt k hk).2
 ·obtain ⟨i,hi⟩:=List.mem_iff_getElem?.1 hk
  have hl:i < T.ps.length:=by rw [← h5];exact (List.getElem?_eq_some_iff.1 hi).1
  have hq:qs[i]? = some qs[i]:=List.getElem?_eq_getElem (by omega)
  exact (h7 i k _ _ hi hq (List.getElem?_eq_getElem hl)).box.lt
 ·obtain ⟨q,hq,hk2⟩:=List.mem_flatMap.1 hk
  obtain ⟨i,hi⟩:=List.mem_iff_getElem?.1 hq
  have hl:i < T.ps.length:=by rw [← h6];exact (List.getElem?_eq_some_iff.1 hi).1
  have hb:pb[i]? = some pb[i]:=List.getElem?_eq_getElem (by omega)
  exact (h7 i _ q _ hb hi (List.getElem?_eq_getElem hl)).lt k hk2
theorem PR.below (h:PR W bt pb bs T) (hb:Below W.heap.size W W'):PR W' bt pb bs T:=h.keep (fun k hk => hb.block k (h.lt k hk))
theorem PDid.rfl' (h:PR W bt pb bs T):PDid W bt pb bs W T:=⟨bs,h,Keeps.refl _ _,fun _ hx => .inl hx⟩
theorem PDid.of_below (h:PR W bt pb bs T) (hb:Below W.heap.size W w1):PDid W bt pb bs w1 T:=⟨bs,h.below hb,Keeps.of_below hb,fun _ hx => .inl hx⟩
theorem PDid.pre (h:PDid W' bt pb bs w2 T) (hb:Below W.heap.size W W'):PDid W bt pb bs w2 T:=by
 obtain ⟨b2,hr,hk,hbl⟩:=h
 refine ⟨b2,hr,(Keeps.of_below (fp:=bs) hb).trans hk (fun x hx => .inl hx),fun x hx => ?_⟩
 rcases hbl x hx with h1 | h1
 ·exact .inl h1
 ·exact .inr (Nat.le_trans hb.size h1)
theorem PDid.next (hk:Keeps bs W w1) (hbl:∀ x ∈ bs',x ∈ bs ∨ W.heap.size ≤ x) (h:PDid w1 bt pb bs' w2 T'):PDid W bt pb bs w2 T':=by
 obtain ⟨b2,hr2,hk2,hb2⟩:=h
 refine ⟨b2,hr2,hk.trans hk2 hbl,fun x hx => ?_⟩
 rcases hb2 x hx with h1 | h1
 ·exact hbl x h1
 ·exact .inr (Nat.le_trans hk.size h1)
theorem PDid.post (h:PDid W bt pb bs w1 T) (hb:Below w1.heap.size w1 w2):PDid W bt pb bs w2 T:=by
 obtain ⟨b2,hr,hk,hbl⟩:=h
 exact PDid.next hk hbl (PDid.of_below hr hb)
theorem PR.len (h:PR W bt pb bs T):pb.length = T.ps.length:=by
 obtain ⟨bp,capP,way,ev,qs,cur,h1,h2,h3,h4,h5,h6,h7,h8,h9,rfl⟩:=h.ex
 exact h5
theorem PR.town (h:PR W bt pb bs T):∃ (bp capP:Nat) (way ev:Value) (cur:Array Value),Box W bt #[.slice (some ⟨bp,0,none⟩) T.ps.length capP,.int .i64 T.wait,.int .i64 T.lease,.int .i64 T.net,.int .i64 T.now,way,ev] 81 ∧
  Box W bp cur 82 ∧ T.ps.length ≤ capP ∧ cur.size = capP ∧ cur.toList.take T.ps.length = pb.map (fun b => .pointer (some ⟨b,0,none⟩)) ∧ bt ∈ bs ∧ W.ownsRow 0 133 10 way T.way.length (T.way.flatMap MsgM.cells) ∧ W.ownsRow 0 49 2 ev T.events.length (evCells T.events):=by
 obtain ⟨bp,capP,way,ev,qs,cur,h1,⟨h2,h2b,h2c,h2d⟩,h3,h4,h5,h6,h7,h8,h9,rfl⟩:=h.ex
 exact ⟨bp,capP,way,ev,cur,h1,h2,h2b,h2c,h2d,by simp,h3,h4⟩
theorem PTown.peer_some {i:Nat} (hi:i < T.ps.length):T.ps[i]? = some (T.peer i):=by simp [PTown.peer,hi]
theorem PTown.setP_len (i:Nat) (p:PeerP):(T.setP i p).ps.length = T.ps.length:=by simp [PTown.setP]
theorem PTown.peer_set {i:Nat} (hi:i < T.ps.length) (p:PeerP):(T.setP i p).peer i = p:=by simp [PTown.peer,PTown.setP,hi]
theorem PTown.peer_set_ne {i j:Nat} (hij:i ≠ j) (p:PeerP):(T.setP i p).peer j = T.peer j:=by simp [PTown.peer,PTown.setP,List.getD_eq_getElem?_getD,List.getElem?_set_ne hij]
theorem PTown.set_set {i:Nat} (p p':PeerP):(T.setP i p).setP i p' = T.setP i p':=by simp [PTown.setP,List.set_set]
theorem flat_nodup_set {qs:List PL} {i:Nat} {q q':PL} {n:Nat}:∀ (_:qs[i]? = some q) (_:(qs.flatMap PL.blocks).Nodup) (_:∀ x ∈ qs.flatMap PL.blocks,x < n) (_:q'.blocks.Nodup) (_:∀ x ∈ q'.blocks,x ∈ q.blocks ∨ n ≤ x),((qs.set i q').flatMap PL.blocks).Nodup:=by
 induction qs generalizing i with
 | nil => intro h;simp at h
 | cons a r ih =>
  intro hq hn hlt hq' hsub
  rw [List.flatMap_cons,List.nodup_append] at hn
  cases i with
  | zero =>
   have e:a = q:=by simpa using hq
   subst e
   rw [List.set_cons_zero,List.flatMap_cons,List.nodup_append]
   refine ⟨hq',hn.2.1,fun x hx y hy e => ?_⟩
   subst e
   rcases hsub x hx with h1 | h1
   ·exact hn.2.2 x h1 x hy rfl
   ·have:=hlt x (by rw [List.flatMap_cons];simp [hy])
    omega
  | succ j =>
   have hq2:r[j]? = some q:=by simpa using hq
   rw [List.set_cons_succ,List.flatMap_cons,List.nodup_append]
   refine ⟨hn.1,ih hq2 hn.2.1 (fun x hx => hlt x (by rw [List.flatMap_cons];simp [hx])) hq' hsub,fun x hx y hy e => ?_⟩
   subst e
   obtain ⟨c,hc,hxc⟩:=List.mem_flatMap.1 hy
   rcases List.mem_or_eq_of_mem_set hc with h1 | h1
   ·exact hn.2.2 x hx x (List.mem_flatMap.2 ⟨c,h1,hxc⟩) rfl
   ·subst h1
    rcases hsub x hxc with h2 | h2
    ·exact hn.2.2 x hx x (List.mem_flatMap.2 ⟨q,List.mem_of_getElem? hq2,h2⟩) rfl
    ·have:=hlt x (by rw [List.flatMap_cons];simp [hx])
     omega
theorem flat_apart:∀ (qs:List PL),(qs.flatMap PL.blocks).Nodup → qs.Pairwise (fun a b => ∀ x ∈ a.blocks,∀ y ∈ b.blocks,x ≠ y)
 | [],_ => List.Pairwise.nil
 | a :: r,h => by
  rw [List.flatMap_cons,List.nodup_append] at h
  exact .cons (fun b hb x hx y hy e => h.2.2 x hx y (List.mem_flatMap.2 ⟨b,hb,hy⟩) e) (flat_apart r h.2.1)
theorem PR.at (h:PR W bt pb bs T) {i b:Nat} (hb:pb[i]? = some b):i < T.ps.length ∧ ∃ q,PeerAt W bt i b q (T.peer i) ∧ b ≠ bt ∧ b ∈ bs ∧ (∀ x ∈ q.blocks,x ∈ bs) ∧ bt ∉ q.blocks ∧
  ∀ W' q' p',PeerAt W' bt i b q' p' → (∀ x ∈ q'.blocks,x ∈ q.blocks ∨ W.heap.size ≤ x) → Keeps (b :: q.blocks) W W' → PDid W bt pb bs W' (T.setP i p'):=by
 have hlen:=h.len
 obtain ⟨bp,capP,way,ev,qs,cur,h1,⟨h2,h2b,h2c,h2d⟩,h3,h4,h5,h6,h7,h8,h9,hbs⟩:=h.ex
 have hi:i < T.ps.length:=by rw [← hlen];exact (List.getElem?_eq_some_iff.1 hb).1
 have hq:qs[i]? = some qs[i]:=List.getElem?_eq_getElem (by omega)
 have hp:=PTown.peer_some (T:=T) hi
 have hat:=h7 i b _ _ hb hq hp
 have hqb:∀ x ∈ qs[i].blocks,x ∈ qs.flatMap PL.blocks:=fun x hx => List.mem_flatMap.2 ⟨_,List.mem_of_getElem? hq,hx⟩
 have hbt:bt ∉ qs[i].blocks:=fun hm => hat.no_cells bt hm _ _ _ h1
 have hbbt:b ≠ bt:=by
  intro e
  have:=hat.box.1
  rw [e,h1] at this
  simp only [Option.some.injEq,Obj.cells.injEq] at this
  exact absurd this.2.1 (by decide)
 refine ⟨hi,qs[i],hat,hbbt,by rw [hbs];simp [List.mem_of_getElem? hb],fun x hx => by rw [hbs];simp only [List.mem_cons,List.mem_append];simp [hqb x hx],hbt,?_⟩
 intro W' q' p' hat' hsub hk
 have hall:∀ x ∈ qs.flatMap PL.blocks,x < W.heap.size:=fun x hx => h.lt x (by rw [hbs];simp only [List.mem_cons,List.mem_append];simp [hx])
 have hsame:∀ k,k < W.heap.size → k ≠ b → k ∉ qs[i].blocks → W'.heap[k]? = W.heap[k]?:=fun k hk1 hk2 hk3 => hk.block k hk1 (by simp [hk2,hk3])
 have hcell:∀ (k:Nat) (cs:Array Value) (t:TypeId) (fr:Nat × Nat),W.heap[k]? = some (.cells cs t fr) → t ≠ 114 → W'.heap[k]? = W.heap[k]?:=by
  intro k cs t fr hk1 ht
  refine hsame k (Array.getElem?_eq_some_iff.1 hk1).1 ?_ (fun hm => hat.no_cells k hm _ _ _ hk1)
  intro e
  have:=hat.box.1
  rw [← e,hk1] at this
  simp only [Option.some.injEq,Obj.cells.injEq] at this
  exact ht this.2.1
 have hrow:∀ {e:TypeId} {s n:Nat} {v:Value} {xs:List Value},W.ownsRow 0 e s v n xs → e ≠ 114 → W'.ownsRow 0 e s v n xs:=by
  intro e s n v xs hr he
  refine own_same hr (fun g hg => ?_)
  rcases hr.2 with ⟨rfl,_⟩ | ⟨g',cap,cur',rfl,_,hg',_⟩
  ·simp [Value.ownBlock] at hg
  ·have:g' = g:=by simpa [Value.ownBlock] using hg
   subst this
   exact hcell g' _ _ _ hg' he
 refine ⟨bt :: bp :: (way.ownBlock.toList ++ (ev.ownBlock.toList ++ (pb ++ (qs.set i q').flatMap PL.blocks))),⟨⟨bp,capP,way,ev,qs.set i q',cur,?_,⟨?_,?_,h2c,?_⟩,hrow h3 (by decide),hrow h4 (by decide),?_,?_,?_,h8,flat_nodup_set hq h9 hall hat'.nd hsub,rfl⟩,?_⟩,?_,?_⟩
 ·rw [hcell bt _ _ _ h1 (by decide),PTown.setP_len];exact h1
 ·rw [hcell bp _ _ _ h2 (by decide)];exact h2
 ·rw [PTown.setP_len];exact h2b
 ·rw [PTown.setP_len];exact h2d
 ·rw [PTown.setP_len];exact h5
 ·rw [PTown.setP_len,List.length_set];exact h6
 ·intro j b2 q2 p2 hj1 hj2 hj3
  by_cases hij:i = j
  ·subst hij
   rw [hb] at hj1
   rw [List.getElem?_set_self (by omega)] at hj2
   rw [show (T.setP i p').ps = T.ps.set i p' from rfl,List.getElem?_set_self hi] at hj3
   cases hj1;cases hj2;cases hj3
   exact hat'
  ·rw [List.getElem?_set_ne hij] at hj2
   rw [show (T.setP i p').ps = T.ps.set i p' from rfl,List.getElem?_set_ne hij] at hj3
   have hat2:=h7 j b2 q2 p2 hj1 hj2 hj3
   have nb:b2 ≠ b:=by
    intro e
    subst e
    have l1:i < pb.length:=by omega
    have l2:j < pb.length:=(List.getElem?_eq_some_iff.1 hj1).1
    have e1:pb[i] = b2:=(List.getElem?_eq_some_iff.1 hb).2
    have e2:pb[j] = b2:=(List.getElem?_eq_some_iff.1 hj1).2
    rcases Nat.lt_or_gt_of_ne hij with hlt | hlt
    ·exact List.pairwise_iff_getElem.1 h8 i j l1 l2 hlt (e1.trans e2.symm)
    ·exact List.pairwise_iff_getElem.1 h8 j i l2 l1 hlt (e2.trans e1.symm)
   refine hat2.same (hsame b2 hat2.box.lt nb (fun hm => hat.no_cells b2 hm _ _ _ hat2.box.1)) (fun k hk2 => hsame k (hat2.lt k hk2) ?_ ?_)
   ·intro e
    subst e
    exact hat2.no_cells k hk2 _ _ _ hat.box.1
   ·intro hm
    have l1:i < qs.length:=by omega
    have l2:j < qs.length:=(List.getElem?_eq_some_iff.1 hj2).1
    have e2:qs[j] = q2:=(List.getElem?_eq_some_iff.1 hj2).2
    have hpw:=flat_apart qs h9
    rcases Nat.lt_or_gt_of_ne hij with hlt | hlt
    ·exact List.pairwise_iff_getElem.1 hpw i j l1 l2 hlt k hm k (e2 ▸ hk2) rfl
    ·exact List.pairwise_iff_getElem.1 hpw j i l2 l1 hlt k (e2 ▸ hk2) k hm rfl
 ·rw [PTown.setP_len]
  exact (World.cell?_of_block (a:=⟨bt,0,none⟩) (hcell bt _ _ _ h1 (by decide))).trans h.row0
 ·refine (Keeps.refl bs W).trans hk (fun x hx => .inl ?_)
  rw [hbs]
  simp only [List.mem_cons,List.mem_append] at hx ⊢
  rcases hx with rfl | hx
  ·simp [List.mem_of_getElem? hb]
  ·simp [hqb x hx]
 ·intro x hx
  rw [hbs]
  simp only [List.mem_cons,List.mem_append] at hx ⊢
  rcases hx with hx | hx | hx | hx | hx | hx
  ·simp [hx]
  ·simp [hx]
  ·simp [hx]
  ·simp [hx]
  ·simp [hx]
  ·obtain ⟨c,hc,hxc⟩:=List.mem_flatMap.1 hx
   rcases List.mem_or_eq_of_mem_set hc with h10 | h10
   ·exact .inl (by simp [List.mem_flatMap.2 ⟨c,h10,hxc⟩])
   ·subst h10
    rcases hsub x hxc with h11 | h11
    ·exact .inl (by simp [hqb x h11])
    ·exact .inr h11
end
end Go.Proofs.YtceappncglfciaaGreat
namespace Go.Proofs.YtceappncglfciaaGreat
open Go.RowKit
attribute [local go_sem ↓] Go.wp_at_zero Go.wp_at_succ
theorem Tryz.infoMsg:(Tryz.prog.info? 133).map (fun i => (i.zero,i.size,i.bytes)) = some (some (.agg #[.int .i64 0,.int .i64 0,.int .i64 0,.int .i64 0,.int .i64 0,.int .i64 0,.int .i64 0,.int .i64 0,.int .i64 0,.int .i64 0]),10,80):=by kernel_rfl
theorem Tryz.infoEvent:(Tryz.prog.info? 49).map (fun i => (i.zero,i.size,i.bytes)) = some (some (.agg #[.int .i64 0,.int .i64 0]),2,16):=by kernel_rfl
section
variable {W W':World} {bt:Nat} {pb bs:List Nat} {T:PTown}
theorem row_block {e:TypeId} {s n g:Nat} {v:Value} {xs:List Value} (h:W.ownsRow 0 e s v n xs) (hg:v.ownBlock = some g):∃ cur fr,W.heap[g]? = some (.cells cur e fr):=by
 rcases h.2 with ⟨rfl,_⟩ | ⟨g',cap,cur',rfl,_,hg',_⟩
 ·simp [Value.ownBlock] at hg
 ·have:g' = g:=by simpa [Value.ownBlock] using hg
  subst this
  exact ⟨_,_,hg'⟩
theorem PR.turn (h:PR W bt pb bs T):∃ (bp capP:Nat) (way ev:Value),Box W bt #[.slice (some ⟨bp,0,none⟩) T.ps.length capP,.int .i64 T.wait,.int .i64 T.lease,.int .i64 T.net,.int .i64 T.now,way,ev] 81 ∧
  W.ownsRow 0 133 10 way T.way.length (T.way.flatMap MsgM.cells) ∧ W.ownsRow 0 49 2 ev T.events.length (evCells T.events) ∧
  ∀ (W':World) (now':Int) (v' e':Value) (way':List MsgM) (events':List (Int × Int)),Box W' bt #[.slice (some ⟨bp,0,none⟩) T.ps.length capP,.int .i64 T.wait,.int .i64 T.lease,.int .i64 T.net,.int .i64 now',v',e'] 81 →
   W'.ownsRow 0 133 10 v' way'.length (way'.flatMap MsgM.cells) → W'.ownsRow 0 49 2 e' events'.length (evCells events') → Keeps (bt :: (way.ownBlock.toList ++ ev.ownBlock.toList)) W W' →
   (∀ g,v'.ownBlock = some g → way.ownBlock = some g ∨ W.heap.size ≤ g) → (∀ g,e'.ownBlock = some g → ev.ownBlock = some g ∨ W.heap.size ≤ g) → PDid W bt pb bs W' { T with now:=now',way:=way',events:=events' }:=by
 have hltall:=h.lt
 obtain ⟨bp,capP,way,ev,qs,cur,h1,⟨h2,h2b,h2c,h2d⟩,h3,h4,h5,h6,h7,h8,h9,hbs⟩:=h.ex
 refine ⟨bp,capP,way,ev,h1,h3,h4,?_⟩
 intro W' now' v' e' way' events' t1 t2 t3 hk hv he
 have hcell:∀ (k:Nat) (cs:Array Value) (t:TypeId) (fr:Nat × Nat),W.heap[k]? = some (.cells cs t fr) → t ≠ 81 → t ≠ 133 → t ≠ 49 → W'.heap[k]? = W.heap[k]?:=by
  intro k cs t fr hk1 n1 n2 n3
  refine hk.block k (Array.getElem?_eq_some_iff.1 hk1).1 ?_
  simp only [List.mem_cons,List.mem_append,Option.mem_toList]
  rintro (rfl | hm | hm)
  ·rw [h1] at hk1;simp only [Option.some.injEq,Obj.cells.injEq] at hk1;exact n1 hk1.2.1.symm
  ·obtain ⟨c,fr2,hc⟩:=row_block h3 hm
   rw [hc] at hk1;simp only [Option.some.injEq,Obj.cells.injEq] at hk1;exact n2 hk1.2.1.symm
  ·obtain ⟨c,fr2,hc⟩:=row_block h4 hm
   rw [hc] at hk1;simp only [Option.some.injEq,Obj.cells.injEq] at hk1;exact n3 hk1.2.1.symm
 refine ⟨bt :: bp :: (v'.ownBlock.toList ++ (e'.ownBlock.toList ++ (pb ++ qs.flatMap PL.blocks))),⟨⟨bp,capP,v',e',qs,cur,t1,⟨?_,h2b,h2c,h2d⟩,t2,t3,h5,h6,?_,h8,h9,rfl⟩,(Box.cell t1 0).trans ((Box.cell (show Box W bt _ _ from h1) 0).symm.trans h.row0)⟩,?_,?_⟩
 ·rw [hcell bp _ _ _ h2 (by decide) (by decide) (by decide)];exact h2
 ·intro j b2 q2 p2 hj1 hj2 hj3
  have hat2:=h7 j b2 q2 p2 hj1 hj2 hj3
  refine hat2.same (hcell b2 _ _ _ hat2.box.1 (by decide) (by decide) (by decide)) (fun k hk2 => hk.block k (hat2.lt k hk2) ?_)
  simp only [List.mem_cons,List.mem_append,Option.mem_toList]
  rintro (rfl | hm | hm)
  ·exact hat2.no_cells _ hk2 _ _ _ h1
  ·obtain ⟨c,fr2,hc⟩:=row_block h3 hm
   exact hat2.no_cells _ hk2 _ _ _ hc
  ·obtain ⟨c,fr2,hc⟩:=row_block h4 hm
   exact hat2.no_cells _ hk2 _ _ _ hc
 ·refine (Keeps.refl bs W).trans hk (fun x hx => .inl ?_)
  rw [hbs]
  simp only [List.mem_cons,List.mem_append] at hx ⊢
  rcases hx with hx | hx | hx <;> simp [hx]
 ·intro x hx
  rw [hbs]
  simp only [List.mem_cons,List.mem_append,Option.mem_toList] at hx ⊢
  rcases hx with hx | hx | hx | hx | hx | hx
  ·simp [hx]
  ·simp [hx]
  ·rcases hv x hx with h10 | h10
   ·simp [h10]
   ·exact .inr h10
  ·rcases he x hx with h10 | h10
   ·simp [h10]
   ·exact .inr h10
  ·simp [hx]
  ·simp [hx]
end
set_option maxHeartbeats 400000 in
theorem most_any (n:Int) (W:World) (bt:Nat) (pb bs:List Nat) (T:PTown) (h:PR W bt pb bs T) (h0:0 ≤ n) (h1:n ≤ 1000) (hp:T.ps.length ≤ 7) :
  Calls Tryz.prog 112 #[.pointer (some ⟨bt,0,none⟩),.int .i64 n] W fun o w' => o = .returned (.bool (T.most n)) ∧ w' = W:=by
 obtain ⟨bp,capP,way,ev,cur,hb,_⟩:=h.town
 have c0:W.cell? ⟨bt,0,none⟩ = some (.slice (some ⟨bp,0,none⟩) T.ps.length capP):=hb.cell 0
 unfold PTown.most
 clear h hb
 go_enter Tryz.func112,Tryz.ntmps112
 go_wp2
 go_ret
 exact ⟨rfl,rfl⟩
set_option maxHeartbeats 1000000 in
theorem lay_full (m:MsgM) (W:World) (bt:Nat) (pb bs:List Nat) (T:PTown) (h:PR W bt pb bs T) (hf:¬ (T.way.length:Int) < T.net) :
  Calls Tryz.prog 67 #[.pointer (some ⟨bt,0,none⟩),m.val] W fun o w' => o = .returned (.int .i64 3) ∧ Below W.heap.size W w':=by
 obtain ⟨bp,capP,way,ev,hb,hw,he,_⟩:=h.turn
 obtain ⟨a,cap,hv⟩:=row_shape hw
 have c5:W.cell? ⟨bt,5,none⟩ = some way:=hb.cell 5
 have c3:W.cell? ⟨bt,3,none⟩ = some (.int .i64 T.net):=hb.cell 3
 have hlt:bt < W.heap.size:=hb.lt
 rw [hv] at c5
 have hd:decide (T.net ≤ (T.way.length:Int)) = true:=by simp;omega
 unfold MsgM.val
 clear h hv hb
 go_enter Tryz.func67,Tryz.ntmps67
 go_wp2
 go_quiet (fail)
 go_wp2
 go_ret
 exact ⟨rfl,below_drewN ((Below.refl _ _).alloc (Nat.le_refl _) _) _⟩
end Go.Proofs.YtceappncglfciaaGreat
namespace Go.Proofs.YtceappncglfciaaGreat
open Go.RowKit
attribute [local go_sem ↓] Go.wp_at_zero Go.wp_at_succ
section
variable {W W':World} {bt:Nat} {pb bs:List Nat} {T:PTown}
theorem PR.laid (h:PR W bt pb bs T):∃ (bp capP:Nat) (way ev:Value),Box W bt #[.slice (some ⟨bp,0,none⟩) T.ps.length capP,.int .i64 T.wait,.int .i64 T.lease,.int .i64 T.net,.int .i64 T.now,way,ev] 81 ∧
  W.ownsRow 0 133 10 way T.way.length (T.way.flatMap MsgM.cells) ∧ way.ownBlock ≠ some bt ∧
  ∀ (X w1:World) (g cap:Nat) (m:MsgM),Below W.heap.size W X → X.grownBy w1 way.ownBlock → w1.ownsRow 0 133 10 (.slice (some ⟨g,0,none⟩) (T.way.length + 1) cap) (T.way.length + 1) (T.way.flatMap MsgM.cells ++ m.cells) → (way.ownBlock = some g ∨ W.heap.size ≤ g) →
   PDid W bt pb bs (w1.setCell ⟨bt,5,none⟩ (.slice (some ⟨g,0,none⟩) (T.way.length + 1) cap)) { T with way:=T.way ++ [m] }:=by
 obtain ⟨bp,capP,way,ev,hb,hw,he,C⟩:=h.turn
 have n1:way.ownBlock ≠ some bt:=own_ne hw hb (by decide)
 refine ⟨bp,capP,way,ev,hb,hw,n1,?_⟩
 intro X w1 g cap m hX hgrow hown hat
 have keep:∀ k,k < W.heap.size → some k ≠ way.ownBlock → w1.heap[k]? = W.heap[k]?:=fun k hk hne => (hgrow.block k (Nat.lt_of_lt_of_le hk hX.size) hne).trans (hX.block k hk)
 have t1:Box w1 bt _ 81:=(keep bt hb.lt (fun e => n1 e.symm)).trans hb
 have other:∀ k,k ≠ bt → (w1.setCell ⟨bt,5,none⟩ (.slice (some ⟨g,0,none⟩) (T.way.length + 1) cap)).heap[k]? = w1.heap[k]?:=fun k hk => Below.heap_setCell w1 _ _ k hk
 have gne:g ≠ bt:=by
  rcases hat with h1 | h1
  ·intro e;exact n1 (by rw [h1,e])
  ·have:=hb.lt;omega
 refine C _ T.now (.slice (some ⟨g,0,none⟩) (T.way.length + 1) cap) ev (T.way ++ [m]) T.events ?_ ?_ ?_ ?_ ?_ (fun g hg => .inl hg)
 ·exact t1.set 5 _
 ·have:=own_same hown (W':=w1.setCell ⟨bt,5,none⟩ (.slice (some ⟨g,0,none⟩) (T.way.length + 1) cap)) (fun b hb => by
   have:g = b:=by simpa [Value.ownBlock] using hb
   subst this
   exact other g gne)
  simpa using this
 ·refine own_same he (fun b hb2 => ?_)
  have hlt:=(he.lt b hb2).2
  have e1:=own_ne2 hw he (by decide) b hb2
  have e2:b ≠ bt:=fun e => own_ne he hb (by decide) (by rw [hb2,e])
  exact (other b e2).trans (keep b hlt (fun e => e1 e.symm))
 ·refine ⟨hgrow.os.trans hX.os,hgrow.tape.trans hX.tape,hgrow.output.trans hX.output,Nat.le_trans hX.size (Nat.le_trans hgrow.size (by simp)),fun k hk hn => ?_⟩
  simp only [List.mem_cons,List.mem_append,not_or,Option.mem_toList] at hn
  exact (other k hn.1).trans (keep k hk (fun e => hn.2.1 e.symm))
 ·intro g' hg'
  have:g = g':=by simpa [Value.ownBlock] using hg'
  subst this
  exact hat
end
set_option maxHeartbeats 2000000 in
theorem lay_room (m:MsgM) (W:World) (bt:Nat) (pb bs:List Nat) (T:PTown) (h:PR W bt pb bs T) (hf:(T.way.length:Int) < T.net) (hn:T.net ≤ 1000) :
  Calls Tryz.prog 67 #[.pointer (some ⟨bt,0,none⟩),m.val] W fun o w' => o = .returned (.int .i64 0) ∧ PDid W bt pb bs w' { T with way:=T.way ++ [m] }:=by
 obtain ⟨i0,hi,hz0,hz1,hz2⟩:=info_parts Tryz.infoMsg
 obtain ⟨bp,capP,way,ev,hb,hw,hne,C⟩:=h.laid
 obtain ⟨a,cap,hv⟩:=row_shape hw
 have c5:W.cell? ⟨bt,5,none⟩ = some way:=hb.cell 5
 have c3:W.cell? ⟨bt,3,none⟩ = some (.int .i64 T.net):=hb.cell 3
 have f5:=hb.frozen 5
 have hlt:bt < W.heap.size:=hb.lt
 have hd:decide (T.net ≤ (T.way.length:Int)) = false:=by simp;omega
 rw [hv] at c5 hw hne C
 have HC:=hide C
 have HA:Hid (∀ k o1 o2,(((W.alloc o1).drewN k).alloc o2).ownsRow 0 133 10 (.slice a T.way.length cap) T.way.length (T.way.flatMap MsgM.cells)):=fun k o1 o2 => (show ((W.alloc o1).drewN k).ownsRow 0 133 10 (.slice a T.way.length cap) T.way.length (T.way.flatMap MsgM.cells) from hw.alloc o1).alloc o2
 have HNW:Hid (∀ k o1 j u,m.cells[j]? = some u → (((W.alloc o1).drewN k).alloc (.cells m.cells.toArray 133)).cell? ((⟨W.heap.size + 1,0,none⟩:Addr).add j) = some u):=fun k o1 j u hu => by
  have hb:(((W.alloc o1).drewN k).alloc (.cells m.cells.toArray 133)).heap[W.heap.size + 1]? = some (.cells m.cells.toArray 133 (0,0)):=by
   have:=heap_alloc_new ((W.alloc o1).drewN k) (.cells m.cells.toArray 133)
   rw [show ((W.alloc o1).drewN k).heap.size = W.heap.size + 1 from World.size_alloc W o1] at this
   exact this
  exact World.news_of_block hb j u (by simpa using hu)
 have HFAR:Hid (∀ k o1 o2 w1,(((W.alloc o1).drewN k).alloc o2).grownBy w1 (Value.slice a T.way.length cap).ownBlock → w1.cell? ⟨bt,5,none⟩ = some (.slice a T.way.length cap) ∧ w1.frozen? ⟨bt,5,none⟩ = false):=fun k o1 o2 w1 hg => by
  have hb:w1.heap[bt]? = W.heap[bt]?:=by
   have e1:=hg.block bt (by rw [World.size_alloc,show ((W.alloc o1).drewN k).heap.size = W.heap.size + 1 from World.size_alloc W o1];omega) (fun e => hne e.symm)
   rw [e1,Below.heap_alloc _ _ _ (by rw [show ((W.alloc o1).drewN k).heap.size = W.heap.size + 1 from World.size_alloc W o1];omega)]
   exact Below.heap_alloc _ _ _ hlt
  exact ⟨(World.cell?_of_block hb).trans c5,(World.frozen?_of_block hb).trans f5⟩
 have H1:Hid (∀ u ∈ m.cells,u.oneCell' = true):=fun u hu => by
  simp only [MsgM.cells,List.mem_cons,List.not_mem_nil,or_false] at hu
  rcases hu with rfl | rfl | rfl | rfl | rfl | rfl | rfl | rfl | rfl | rfl <;> rfl
 have HSZ:Hid (∀ k o1 o2,(((W.alloc o1).drewN k).alloc o2).heap.size = W.heap.size + 1 + 1):=fun k o1 o2 => by
  show (((W.alloc o1).drewN k).alloc o2).heap.size = _
  rw [World.size_alloc,show ((W.alloc o1).drewN k).heap.size = W.heap.size + 1 from World.size_alloc W o1]
 unfold MsgM.val
 clear h hw hv hne C hb
 go_enter Tryz.func67,Tryz.ntmps67
 go_wp2
 go_quiet (fail)
 go_wp2
 go_region_law ((refine step_append_lies _ (by rfl) _ _ _ (by rfl) 0 133 i0 _ 10 80 Tryz.underlying75 hi hz0 hz1 hz2 rfl (by omega) (.slice a T.way.length cap) T.way.length (T.way.flatMap MsgM.cells) (by rfl) (unhide HA _ _ _) ⟨W.heap.size + 1,0,none⟩ 1 1 m.cells (by rfl) (by rfl) (unhide HNW _ _) (unhide H1) (by omega) (by unfold maxLen;omega) (by omega) (Nat.zero_le _) (W.heap.size + 1 + 1) (unhide HSZ _ _ _) ?_;intro g cap2 w1 hown1 hgrow hat hlt1;obtain ⟨z1,z2⟩:=unhide HFAR _ _ _ _ hgrow))
 all_goals
  have hX:=(below_drewN ((Below.refl W.heap.size W).alloc (Nat.le_refl _) (.cells m.cells.toArray 133)) (nq + 1)).alloc (by simp) (.cells m.cells.toArray 133)
  have hfin:=hide (unhide HC _ _ g cap2 m hX hgrow hown1 (by
   rcases hat with e | e
   ·exact .inl e
   ·exact .inr (by omega)))
  go_wp2
  go_ret
  exact ⟨rfl,unhide hfin⟩
def PTown.layE (T:PTown):Int:=if (T.way.length:Int) < T.net then 0 else 3
theorem lay_any (m:MsgM) (W:World) (bt:Nat) (pb bs:List Nat) (T:PTown) (h:PR W bt pb bs T) (hn:T.net ≤ 1000) :
  Calls Tryz.prog 67 #[.pointer (some ⟨bt,0,none⟩),m.val] W fun o w' => o = .returned (.int .i64 T.layE) ∧ PDid W bt pb bs w' (T.lay m):=by
 unfold PTown.lay PTown.layE
 by_cases hf:(T.way.length:Int) < T.net
 ·rw [if_pos hf,if_pos hf];exact lay_room m W bt pb bs T h hf hn
 ·rw [if_neg hf,if_neg hf]
  exact (lay_full m W bt pb bs T h hf).mono (fun o w' hh => ⟨hh.1,PDid.of_below h hh.2⟩)
end Go.Proofs.YtceappncglfciaaGreat
