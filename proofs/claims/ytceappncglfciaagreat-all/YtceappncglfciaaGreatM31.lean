import Derived.Test.YtceappncglfciaaGreatM11
import Derived.Test.YtceappncglfciaaGreatM02
import Derived.Test.YtceappncglfciaaGreatM16
import Derived.Test.YtceappncglfciaaGreatM19
import Derived.ProofKit
import Derived.OpenShut
import Derived.ShutString
import Derived.ChangeOld
import Derived.Below
import Derived.Lib.SmallJoins
import Derived.SizedLaws
import Derived.Deep.Slices
set_option linter.unusedVariables false
set_option linter.unusedSimpArgs false
namespace Go.Proofs.YtceappncglfciaaGreat
open Go.RowKit
section
variable {p:PeerM}
theorem known_len (l:List KnownM) (h:l.length = 7):(l.flatMap KnownM.cells).length = 35:=by rw [flat_len KnownM.cells 5 l (fun _ _ => rfl),h]
theorem mem_len (l:List MemM) (h:l.length = 7):(l.flatMap MemM.cells).length = 35:=by rw [flat_len MemM.cells 5 l (fun _ _ => rfl),h]
theorem PeerM.len (h:p.fit):p.cells.length = 121:=by
 unfold PeerM.cells
 simp only [List.length_append,known_len _ h.1,known_len _ h.2.1,mem_len _ h.2.2]
 rfl
theorem PeerM.at_head (f:Nat) (hf:f < 12):p.cells[f]? = p.head[f]?:=List.getElem?_append_left (by show f < 12;exact hf)
theorem PeerM.at_rest {f:Nat} (hf:12 ≤ f):p.cells[f]? = (p.votes.flatMap KnownM.cells ++ (p.settled.flatMap KnownM.cells ++ ([.bool p.waits,.int .i64 p.since,.int .i64 p.epoch] ++ (p.mem.flatMap MemM.cells ++ [.bool p.stands]))))[f - 12]?:=List.getElem?_append_right (by show 12 ≤ f;exact hf)
theorem getD_some {α:Type} {l:List α} {k:Nat} (d:α) (h:k < l.length):l[k]? = some (l.getD k d):=by simp [h]
theorem PeerM.at_vote (h:p.fit) {k j:Nat} (hk:k < 7) (hj:j < 5):p.cells[12 + (k * 5 + j)]? = (p.votes.getD k knownZ).cells[j]?:=by
 rw [PeerM.at_rest (by omega),show 12 + (k * 5 + j) - 12 = k * 5 + j from by omega,List.getElem?_append_left (by rw [known_len _ h.1];omega)]
 exact flat_get KnownM.cells 5 p.votes k j _ (fun _ _ => rfl) (getD_some _ (by rw [h.1];exact hk)) hj
theorem PeerM.at_settled (h:p.fit) {k j:Nat} (hk:k < 7) (hj:j < 5):p.cells[47 + (k * 5 + j)]? = (p.settled.getD k knownZ).cells[j]?:=by
 rw [PeerM.at_rest (by omega),List.getElem?_append_right (by rw [known_len _ h.1];omega),known_len _ h.1,show 47 + (k * 5 + j) - 12 - 35 = k * 5 + j from by omega,List.getElem?_append_left (by rw [known_len _ h.2.1];omega)]
 exact flat_get KnownM.cells 5 p.settled k j _ (fun _ _ => rfl) (getD_some _ (by rw [h.2.1];exact hk)) hj
theorem PeerM.at_mid (h:p.fit) {j:Nat} (hj:j < 3):p.cells[82 + j]? = [Value.bool p.waits,.int .i64 p.since,.int .i64 p.epoch][j]?:=by
 rw [PeerM.at_rest (by omega),List.getElem?_append_right (by rw [known_len _ h.1];omega),known_len _ h.1,List.getElem?_append_right (by rw [known_len _ h.2.1];omega),known_len _ h.2.1,show 82 + j - 12 - 35 - 35 = j from by omega]
 exact List.getElem?_append_left (by simpa using hj)
theorem PeerM.at_mem (h:p.fit) {k j:Nat} (hk:k < 7) (hj:j < 5):p.cells[85 + (k * 5 + j)]? = (p.mem.getD k memZ).cells[j]?:=by
 rw [PeerM.at_rest (by omega),List.getElem?_append_right (by rw [known_len _ h.1];omega),known_len _ h.1,List.getElem?_append_right (by rw [known_len _ h.2.1];omega),known_len _ h.2.1,List.getElem?_append_right (by simp;omega),show 85 + (k * 5 + j) - 12 - 35 - 35 - [Value.bool p.waits,.int .i64 p.since,.int .i64 p.epoch].length = k * 5 + j from by simp;omega,List.getElem?_append_left (by rw [mem_len _ h.2.2];omega)]
 exact flat_get MemM.cells 5 p.mem k j _ (fun _ _ => rfl) (getD_some _ (by rw [h.2.2];exact hk)) hj
theorem PeerM.at_stands (h:p.fit):p.cells[120]? = some (.bool p.stands):=by
 rw [PeerM.at_rest (by omega),List.getElem?_append_right (by rw [known_len _ h.1];omega),known_len _ h.1,List.getElem?_append_right (by rw [known_len _ h.2.1];omega),known_len _ h.2.1,List.getElem?_append_right (by simp),List.getElem?_append_right (by rw [mem_len _ h.2.2];simp),mem_len _ h.2.2]
 rfl
theorem PeerM.set_head (f:Nat) (hf:f < 12) (u:Value) (p':PeerM) (h1:p'.head = p.head.set f u) (h2:p'.votes = p.votes) (h3:p'.settled = p.settled) (h4:p'.waits = p.waits) (h5:p'.since = p.since) (h6:p'.epoch = p.epoch) (h7:p'.mem = p.mem) (h8:p'.stands = p.stands):p'.cells = p.cells.set f u:=by
 unfold PeerM.cells
 rw [List.set_append_left _ _ (by show f < 12;exact hf),h1,h2,h3,h4,h5,h6,h7,h8]
set_option maxRecDepth 10000 in
theorem PeerM.set_mid (h:p.fit) (j:Nat) (hj:j < 3) (u:Value) (p':PeerM) (h0:[Value.bool p'.waits,.int .i64 p'.since,.int .i64 p'.epoch] = [Value.bool p.waits,.int .i64 p.since,.int .i64 p.epoch].set j u) (h1:p'.head = p.head) (h2:p'.votes = p.votes) (h3:p'.settled = p.settled) (h7:p'.mem = p.mem) (h8:p'.stands = p.stands):p'.cells = p.cells.set (82 + j) u:=by
 unfold PeerM.cells
 rw [List.set_append_right _ _ (by show 12 ≤ _;omega),List.set_append_right _ _ (by rw [known_len _ h.1];show 35 ≤ 82 + j - 12;omega),List.set_append_right _ _ (by rw [known_len _ h.1,known_len _ h.2.1];show 35 ≤ 82 + j - 12 - 35;omega),known_len _ h.1,known_len _ h.2.1,
  show 82 + j - p.head.length - 35 - 35 = j from by show 82 + j - 12 - 35 - 35 = j;omega,List.set_append_left _ _ (by simpa using hj),← h0,h1,h2,h3,h7,h8]
set_option maxRecDepth 10000 in
theorem PeerM.set_stands (h:p.fit) (b:Bool):({ p with stands:=b }:PeerM).cells = p.cells.set 120 (.bool b):=by
 unfold PeerM.cells
 rw [List.set_append_right _ _ (by show 12 ≤ _;omega),List.set_append_right _ _ (by rw [known_len _ h.1];show 35 ≤ 120 - 12;omega),List.set_append_right _ _ (by rw [known_len _ h.1,known_len _ h.2.1];show 35 ≤ 120 - 12 - 35;omega),known_len _ h.1,known_len _ h.2.1,
  List.set_append_right _ _ (by show 3 ≤ 120 - 12 - 35 - 35;omega),List.set_append_right _ _ (by rw [mem_len _ h.2.2];show 35 ≤ 120 - 12 - 35 - 35 - 3;omega),mem_len _ h.2.2]
 rfl
end
section
variable {p:PeerM}
theorem PeerM.lay_votes (h:p.fit) (l:List KnownM) (hl:l.length = 7):({ p with votes:=l }:PeerM).cells = splice p.cells 12 (l.flatMap KnownM.cells):=by
 unfold PeerM.cells
 rw [splice_right _ _ _ _ (by show 12 ≤ 12;omega),show 12 - p.head.length = 0 from rfl,splice_left _ _ _ _ (by rw [known_len _ h.1,known_len _ hl];omega),splice_all _ _ (by rw [known_len _ h.1,known_len _ hl])]
 rfl
theorem PeerM.lay_settled (h:p.fit) (l:List KnownM) (hl:l.length = 7):({ p with settled:=l }:PeerM).cells = splice p.cells 47 (l.flatMap KnownM.cells):=by
 unfold PeerM.cells
 rw [splice_right _ _ _ _ (by show 12 ≤ 47;omega),show 47 - p.head.length = 35 from rfl,splice_right _ _ _ _ (by rw [known_len _ h.1];omega),known_len _ h.1,splice_left _ _ _ _ (by rw [known_len _ h.2.1,known_len _ hl];omega),splice_all _ _ (by rw [known_len _ h.2.1,known_len _ hl])]
 rfl
theorem PeerM.lay_mem (h:p.fit) (l:List MemM) (hl:l.length = 7):({ p with mem:=l }:PeerM).cells = splice p.cells 85 (l.flatMap MemM.cells):=by
 unfold PeerM.cells
 rw [splice_right _ _ _ _ (by show 12 ≤ 85;omega),show 85 - p.head.length = 73 from rfl,splice_right _ _ _ _ (by rw [known_len _ h.1];omega),known_len _ h.1,splice_right _ _ _ _ (by rw [known_len _ h.2.1];omega),known_len _ h.2.1,
  splice_right _ _ _ _ (by simp),show 73 - 35 - 35 - [Value.bool p.waits,.int .i64 p.since,.int .i64 p.epoch].length = 0 from rfl,splice_left _ _ _ _ (by rw [mem_len _ h.2.2,mem_len _ hl];omega),splice_all _ _ (by rw [mem_len _ h.2.2,mem_len _ hl])]
 rfl
end
section
variable {W:World} {L:Lies} {T:TownM}
theorem Rep.pcell (h:Rep W L T) {i f:Nat} (hi:i < T.ps.length) (hf:f < 121):W.cell? ⟨L.bp,i * 121 + f,none⟩ = (T.peer i).cells[f]?:=by
 obtain ⟨cur,hp,hp2,hp3,hp4⟩:=h.peers
 rw [cell_of_row W L.bp _ cur _ (0,0) hp]
 have e:=flat_get PeerM.cells 121 T.ps i f (T.peer i) (fun q hq => PeerM.len (h.fit q hq)) (TownM.peer_some hi) hf
 rw [← hp4,List.getElem?_take_of_lt (by
  have:i * 121 + 121 ≤ T.ps.length * 121:=by
   have:=Nat.mul_le_mul_right 121 (Nat.succ_le_of_lt hi)
   rw [Nat.succ_mul] at this
   exact this
  omega),Array.getElem?_toList] at e
 exact e
theorem Rep.pfrozen (h:Rep W L T) (o:Nat):W.frozen? ⟨L.bp,o,none⟩ = false:=by
 obtain ⟨cur,hp,_⟩:=h.peers
 exact frozen_of_row W L.bp o cur _ hp
theorem Rep.town_ne (h:Rep W L T):L.bt ≠ L.bp:=by
 obtain ⟨cur,hp,_⟩:=h.peers
 intro e
 have h1:=h.town
 rw [e,hp] at h1
 exact absurd h1 (by simp)
theorem Rep.setP (h:Rep W L T) {i f:Nat} (hi:i < T.ps.length) (hf:f < 121) (u:Value) (p':PeerM) (hp':p'.cells = (T.peer i).cells.set f u) (hfit:p'.fit) :
  Rep (W.setCell ⟨L.bp,i * 121 + f,none⟩ u) L (T.setPeer i p'):=by
 obtain ⟨cur,hp,hp2,hp3,hp4⟩:=h.peers
 have other:∀ k,k ≠ L.bp → (W.setCell ⟨L.bp,i * 121 + f,none⟩ u).heap[k]? = W.heap[k]?:=fun k hk => Below.heap_setCell W _ _ k hk
 have hlt:i * 121 + f < T.ps.length * 121:=by
  have:=Nat.mul_le_mul_right 121 (Nat.succ_le_of_lt hi)
  rw [Nat.succ_mul] at this
  omega
 refine ⟨?_,⟨cur.setIfInBounds (i * 121 + f) u,?_,?_,?_,?_⟩,?_,?_,?_⟩
 ·rw [other L.bt h.town_ne]
  simpa [TownM.setPeer] using h.town
 ·unfold World.setCell
  simp only [Array.getElem?_modify,if_true,hp,Option.map_some]
  rfl
 ·rw [TownM.setPeer_len];exact hp2
 ·rw [Array.size_setIfInBounds];exact hp3
 ·rw [TownM.setPeer_len,Array.toList_setIfInBounds,List.take_set,hp4]
  exact flat_set PeerM.cells 121 T.ps i f (T.peer i) p' u (fun q hq => PeerM.len (h.fit q hq)) (TownM.peer_some hi) hf hp'
 ·refine own_same h.way (fun b hb => other b (fun e => own_ne h.way hp (by decide) (by rw [hb,e])))
 ·refine own_same h.events (fun b hb => other b (fun e => own_ne h.events hp (by decide) (by rw [hb,e])))
 ·intro q hq
  rcases List.mem_or_eq_of_mem_set hq with h1 | h1
  ·exact h.fit q h1
  ·rw [h1];exact hfit
theorem Rep.setR (h:Rep W L T) {i f:Nat} (hi:i < T.ps.length) (vs:List Value) (hf:f + vs.length ≤ 121) (p':PeerM) (hp':p'.cells = splice (T.peer i).cells f vs) (hfit:p'.fit) :
  Rep (W.setCells L.bp (i * 121 + f) vs) L (T.setPeer i p'):=by
 obtain ⟨cur,hp,hp2,hp3,hp4⟩:=h.peers
 have other:∀ k,k ≠ L.bp → (W.setCells L.bp (i * 121 + f) vs).heap[k]? = W.heap[k]?:=fun k hk => heap_setCells_other L.bp k hk vs _ W
 have hlt:i * 121 + 121 ≤ T.ps.length * 121:=by
  have:=Nat.mul_le_mul_right 121 (Nat.succ_le_of_lt hi)
  rw [Nat.succ_mul] at this
  omega
 have hle:T.ps.length * 121 ≤ L.capP * 121:=Nat.mul_le_mul_right 121 hp2
 refine ⟨?_,⟨(splice cur.toList (i * 121 + f) vs).toArray,?_,?_,?_,?_⟩,?_,?_,?_⟩
 ·rw [other L.bt h.town_ne]
  simpa [TownM.setPeer] using h.town
 ·exact heap_setCells L.bp _ vs _ W cur hp (by omega)
 ·rw [TownM.setPeer_len];exact hp2
 ·rw [List.size_toArray,splice_len _ _ _ (by simp;omega),Array.length_toList];exact hp3
 ·rw [TownM.setPeer_len]
  have e:cur.toList = T.ps.flatMap PeerM.cells ++ cur.toList.drop (T.ps.length * 121):=by rw [← hp4,List.take_append_drop]
  have hfl:(T.ps.flatMap PeerM.cells).length = T.ps.length * 121:=flat_len PeerM.cells 121 T.ps (fun q hq => PeerM.len (h.fit q hq))
  show (splice cur.toList (i * 121 + f) vs).take (T.ps.length * 121) = _
  rw [e,splice_left _ _ _ _ (by rw [hfl];omega)]
  rw [List.take_append_of_le_length (by rw [splice_len _ _ _ (by rw [hfl];omega),hfl];omega),List.take_of_length_le (by rw [splice_len _ _ _ (by rw [hfl];omega),hfl];omega)]
  exact flat_splice PeerM.cells 121 T.ps i f (T.peer i) p' vs (fun q hq => PeerM.len (h.fit q hq)) (TownM.peer_some hi) hf hp'
 ·refine own_same h.way (fun b hb => other b (fun e => own_ne h.way hp (by decide) (by rw [hb,e])))
 ·refine own_same h.events (fun b hb => other b (fun e => own_ne h.events hp (by decide) (by rw [hb,e])))
 ·intro q hq
  rcases List.mem_or_eq_of_mem_set hq with h1 | h1
  ·exact h.fit q h1
  ·rw [h1];exact hfit
theorem Rep.there (h:Rep W L T) {i:Nat} (hi:i < T.ps.length) (f n:Nat) (hf:f + n ≤ 121):W.there L.bp (i * 121 + f) n:=by
 intro j hj
 refine ⟨?_,h.pfrozen _⟩
 rw [show i * 121 + f + j = i * 121 + (f + j) from by omega,h.pcell hi (by omega)]
 have hl:(T.peer i).cells.length = 121:=PeerM.len (h.fit _ (TownM.peer_mem hi))
 simp [show f + j < (T.peer i).cells.length from by omega]
end
end Go.Proofs.YtceappncglfciaaGreat
namespace Go.Proofs.YtceappncglfciaaGreat
open Go.RowKit
structure RawAt (W:World) (v:Value) (l:List CredM):Prop where
 is:∃ a cap,v = .slice a l.length cap ∧ (0 < l.length → ∃ g o,a = some ⟨g,o,none⟩ ∧ g < W.heap.size ∧ ∀ i j,i < l.length → j < 4 → W.cell? ⟨g,o + i * 4 + j,none⟩ = (credCells (l.getD i credZ))[j]?)
 len:l.length ≤ 100000000000000
 i64:∀ c ∈ l,I64 c.p ∧ I64 c.t ∧ I64 c.e ∧ I64 c.v
theorem Tryz.infoCred:(Tryz.prog.info? 39).map (fun i => (i.zero,i.size,i.bytes)) = some (some (.agg #[.int .i64 0,.int .i64 0,.int .i64 0,.int .i64 0]),4,32):=by kernel_rfl
def listOf {α:Type} (f:Nat → α):Nat → List α
 | 0 => []
 | k + 1 => listOf f k ++ [f k]
theorem listOf_len {α:Type} (f:Nat → α):∀ k,(listOf f k).length = k
 | 0 => rfl
 | k + 1 => by rw [listOf,List.length_append,listOf_len f k];rfl
theorem listOf_get {α:Type} (f:Nat → α) (d:α):∀ k i,i < k → (listOf f k).getD i d = f i
 | k + 1,i,h => by
  rw [listOf,List.getD_eq_getElem?_getD]
  by_cases hi:i < k
  ·rw [List.getElem?_append_left (by rw [listOf_len];exact hi),← List.getD_eq_getElem?_getD]
   exact listOf_get f d k i hi
  ·have:i = k:=by omega
   subst this
   rw [List.getElem?_append_right (by rw [listOf_len];exact Nat.le_refl _),listOf_len]
   simp
theorem listOf_mem {α:Type} (f:Nat → α) {P:α → Prop}:∀ k,(∀ i,i < k → P (f i)) → ∀ x ∈ listOf f k,P x
 | 0,_,x,hx => absurd hx List.not_mem_nil
 | k + 1,h,x,hx => by
  rw [listOf] at hx
  rcases List.mem_append.1 hx with h1 | h1
  ·exact listOf_mem f k (fun i hi => h i (by omega)) x h1
  ·rw [List.mem_singleton.1 h1]
   exact h k (by omega)
end Go.Proofs.YtceappncglfciaaGreat
namespace Go.Proofs.YtceappncglfciaaGreat
open Go.ChangeShapes Go.WideShapes Go.ChangeAt Go.RowKit Go.Joins Go.Deep
theorem i64_of {x:Int} (h:(Lit.int .i64 x).wf = true):I64 x:=bounds_i64 h
theorem Tryz.cellsCred:Tryz.prog.cellsOf 39 = 4:=by kernel_rfl
theorem Tryz.cellsInt:Tryz.prog.cellsOf 3 = 1:=by kernel_rfl
section
variable {H:Type} {enc:TypeId × Value → H} {w:World} {base:Nat} {spare:Nat → Bool} {held:Bool}
theorem cell_int {n:Nat} {cs:List Value} {y:DataW H × List MemPlace} (h:DataW.trod enc Tryz.prog w base spare held n 3 cs = some y):∃ a:Int,cs = [.int .i64 a] ∧ I64 a:=by
 obtain ⟨a,e,-,wf⟩:=DataW.trod_int Tryz.underlying3 h
 exact ⟨a,e,i64_of wf⟩
theorem list_four {α:Type} {l:List α} (h:l.length = 4):∃ a b c d,l = [a,b,c,d]:=by
 match l,h with
 | [a,b,c,d],_ => exact ⟨a,b,c,d,rfl⟩
theorem fields_four {P:Program} {t:TypeId} {f0 f1 f2 f3:Field} {n:Nat} {cs:List Value} {y:DataW H × List MemPlace} (ht:P.underlying t = some (.struct #[f0,f1,f2,f3])) (ct:P.cellsOf t = 4) (c3:P.cellsOf 3 = 1)
  (o:f0.offset = 0 ∧ f1.offset = 1 ∧ f2.offset = 2 ∧ f3.offset = 3) (u:f0.type = 3 ∧ f1.type = 3 ∧ f2.type = 3 ∧ f3.type = 3) (h:DataW.trod enc P w base spare held n t cs = some y) :
  ∃ v0 v1 v2 v3 y0 y1 y2 y3 k,cs = [v0,v1,v2,v3] ∧ DataW.trod enc P w base spare held k 3 [v0] = some y0 ∧ DataW.trod enc P w base spare held k 3 [v1] = some y1 ∧ DataW.trod enc P w base spare held k 3 [v2] = some y2 ∧ DataW.trod enc P w base spare held k 3 [v3] = some y3:=by
 obtain ⟨xs,k,-,-,hl,hxl,hf⟩:=DataW.trod_struct ht h
 rw [ct] at hl
 obtain ⟨y0,y1,y2,y3,rfl⟩:=list_four (show xs.length = 4 from hxl)
 obtain ⟨v0,v1,v2,v3,rfl⟩:=list_four hl
 have g0:=hf 0 f0 rfl
 have g1:=hf 1 f1 rfl
 have g2:=hf 2 f2 rfl
 have g3:=hf 3 f3 rfl
 simp [o.1,o.2.1,o.2.2.1,o.2.2.2,u.1,u.2.1,u.2.2.1,u.2.2.2,c3] at g0 g1 g2 g3
 exact ⟨v0,v1,v2,v3,y0,y1,y2,y3,k,rfl,g0,g1,g2,g3⟩
theorem cells_cred {n:Nat} {cs:List Value} {y:DataW H × List MemPlace} (h:DataW.trod enc Tryz.prog w base spare held n 39 cs = some y):∃ c:CredM,cs = credCells c ∧ I64 c.p ∧ I64 c.t ∧ I64 c.e ∧ I64 c.v:=by
 obtain ⟨v0,v1,v2,v3,y0,y1,y2,y3,k,rfl,g0,g1,g2,g3⟩:=fields_four Tryz.underlying39 Tryz.cellsCred Tryz.cellsInt ⟨rfl,rfl,rfl,rfl⟩ ⟨rfl,rfl,rfl,rfl⟩ h
 obtain ⟨a0,e0,w0⟩:=cell_int g0
 obtain ⟨a1,e1,w1⟩:=cell_int g1
 obtain ⟨a2,e2,w2⟩:=cell_int g2
 obtain ⟨a3,e3,w3⟩:=cell_int g3
 simp at e0 e1 e2 e3
 subst e0 e1 e2 e3
 exact ⟨⟨a0,a1,a2,a3⟩,rfl,w0,w1,w2,w3⟩
theorem block_of_cell {a:Addr} {v:Value} (h:w.cell? a = some v):a.block < w.heap.size:=by
 unfold World.cell? at h
 cases hb:w.heap[a.block]? with
 | none => rw [hb] at h;exact absurd h (by simp)
 | some o => exact (Array.getElem?_eq_some_iff.1 hb).1
theorem open_creds {fuel:Nat} {v:Value} {x:DataW H × List MemPlace} (h:DataW.trod enc Tryz.prog w base spare held fuel 22 [v] = some x) (hlen:∀ a n cap,v = .slice a n cap → n ≤ 100000000000000):∃ l:List CredM,RawAt w v l:=by
 rcases open_slice Tryz.underlying22 h with ⟨h0,-⟩ | ⟨a,len,cap,m,n,D,Pl,h0,hb,hl,hm,hmm,-,hx⟩
 ·have:v = .slice none 0 0:=by simpa using h0
  subst this
  exact ⟨[],⟨none,0,rfl,fun h => absurd h (by simp)⟩,by simp,fun c hc => absurd hc List.not_mem_nil⟩
 ·have hv:v = .slice (some a) len cap:=by simpa using h0
  subst hv
  have hlm:len ≤ m:=by rw [hmm];split <;> omega
  rw [Tryz.cellsCred] at hx
  have each:∀ i,i < len → ∃ c:CredM,(∀ j,j < 4 → w.cell? (a.add (i * 4 + j)) = (credCells c)[j]?) ∧ I64 c.p ∧ I64 c.t ∧ I64 c.e ∧ I64 c.v:=by
   intro i hi
   obtain ⟨cs',h1,h2⟩:=hx i (by omega)
   obtain ⟨_,hl4,hcell⟩:=World.cells?_some h1
   obtain ⟨c,rfl,hc⟩:=cells_cred h2
   refine ⟨c,fun j hj => ?_,hc⟩
   have:=hcell j hj
   rw [add_add] at this
   exact this
  haveI:Inhabited CredM:=⟨credZ⟩
  obtain ⟨q,hq⟩:=choose_lt each
  refine ⟨listOf q len,⟨some a,cap,by rw [listOf_len],fun hpos => ?_⟩,by rw [listOf_len];exact hlen _ _ _ rfl,listOf_mem q len (fun i hi => (hq i hi).2)⟩
  rw [listOf_len] at hpos
  obtain ⟨g,o,spot⟩:=a
  have h00:=(hq 0 hpos).1 0 (by omega)
  have hsome:w.cell? ((⟨g,o,spot⟩:Addr).add (0 * 4 + 0)) = some (.int .i64 (q 0).p):=h00
  have hspot:spot = none:=by simpa [Addr.add] using World.cell?_spot hsome
  subst hspot
  refine ⟨g,o,rfl,block_of_cell (a:=⟨g,o,none⟩) (by simpa [Addr.add] using hsome),fun i j hi hj => ?_⟩
  rw [listOf_len] at hi
  rw [listOf_get q credZ len i hi,Nat.add_assoc,← add_plain]
  exact (hq i hi).1 j hj
end
end Go.Proofs.YtceappncglfciaaGreat
