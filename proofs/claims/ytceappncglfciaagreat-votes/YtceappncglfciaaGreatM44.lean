import Derived.Test.YtceappncglfciaaGreatM31
import Derived.Test.YtceappncglfciaaGreatM16
set_option linter.unusedVariables false
set_option linter.unusedSimpArgs false
namespace Go.Proofs.YtceappncglfciaaGreat
open Go.ChangeShapes Go.WideShapes Go.ChangeAt Go.RowKit Go.Joins Go.Deep
theorem Tryz.ownK:ownKnob Tryz.prog.godebug = none:=by kernel_rfl
theorem Tryz.laidOutK:laidOutB Tryz.prog = true:=by kernel_rfl
end Go.Proofs.YtceappncglfciaaGreat
namespace Go.Proofs.YtceappncglfciaaGreat
open Go.RowKit
section
variable {P:Program} (w:World)
theorem run_append_keep (t ty:TypeId) (base:Nat) (e:TypeId) (i:TypeInfo) (z:Value) (size bytes:Nat) (ht:P.underlying t = some (.slice e)) (hi:P.info? e = some i) (hz:i.zero = some z)
  (hsize:i.size = size) (hby:i.bytes = bytes) (hzs:z.cells.size = size) (hsz:0 < size)
  (v:Value) (n:Nat) (xs:List Value) (hown:w.ownsRow base e size v n xs)
  (ad:Addr) (m c:Nat) (news:List Value) (hl:news.length = m * size) (hnews:∀ j u,news[j]? = some u → w.cell? (ad.add j) = some u) (h1:∀ u ∈ news,u.oneCell' = true)
  (hm:0 < m) (h63:n + m ≤ maxLen) (hbytes:(n + m) * bytes ≤ 140737488355328) (hbase:base ≤ w.heap.size) (H:Nat) (hH:w.heap.size = H) :
  ∃ g cap w',(Builtin.append_ #[t,t] ty #[v,.slice (some ad) m c]).run P w = .ok (.slice (some ⟨g,0,none⟩) (n + m) cap) w' ∧
   w'.ownsRow base e size (.slice (some ⟨g,0,none⟩) (n + m) cap) (n + m) (xs ++ news) ∧ w.grownBy w' v.ownBlock ∧ (v.ownBlock = some g ∨ g = H) ∧ g < w'.heap.size ∧
   (∀ g0,v.ownBlock = some g0 → ∀ j,j < n * size → w'.cell? ⟨g0,j,none⟩ = w.cell? ⟨g0,j,none⟩):=by
 obtain ⟨g,cap,w',hr,h2,h3,h4,h5⟩:=run_append_lies (P:=P) w t ty base e i z size bytes ht hi hz hsize hby hzs hsz v n xs hown ad m c news hl hnews h1 hm h63 hbytes hbase H hH
 refine ⟨g,cap,w',hr,h2,h3,h4,h5,fun g0 hg0 j hj => ?_⟩
 have hsmall:n + m ≤ 9223372036854775807:=by simp only [maxLen] at h63;omega
 subst hsize
 subst hby
 rcases hown.2 with ⟨rfl,-⟩ | ⟨g1,cap1,cur,rfl,hbg,hg,hnc,hcm,hcs,htake⟩
 ·simp [Value.ownBlock] at hg0
 ·have e0:g1 = g0:=by simpa [Value.ownBlock] using hg0
  subst e0
  by_cases hroom:n + m ≤ cap1
  ·have hfit:n * i.size + news.length ≤ cur.size:=by rw [hl,hcs,← Nat.add_mul];exact Nat.mul_le_mul_right _ hroom
   have hr2:=run_append_room (P:=P) w t ty e i ht hi g1 n cap1 cur hg ad m c news hl hnews h1 hroom hfit
   rw [hr2] at hr
   injection hr with e1 e2
   have hw:=setRow_heap w g1 cur (cur.toList.take (n * i.size) ++ news ++ cur.toList.drop (n * i.size + news.length)).toArray e (0,0) hg
   rw [e2] at hw
   rw [cell_of_row w' g1 j _ e (0,0) hw,cell_of_row w g1 j cur e (0,0) hg]
   have hjc:j < cur.size:=by omega
   have:j < (cur.toList.take (n * i.size)).length:=by rw [List.length_take,Array.length_toList];omega
   rw [List.append_assoc,List.getElem?_toArray,List.getElem?_append_left this,List.getElem?_take_of_lt hj,Array.getElem?_toList]
  ·have holds:∀ j u,xs[j]? = some u → w.cell? ((⟨g1,0,none⟩:Addr).add j) = some u:=hown.cells (g:=g1) rfl
   have hr2:=run_append_grow (P:=P) w t ty e i z ht hi hz ⟨g1,0,none⟩ n cap1 xs hown.1 holds ad m c news hl hnews (by omega) (by omega) (growslice_fits (by omega) hbytes)
   rw [hr2] at hr
   injection hr with e1 e2
   have hlt:g1 < w.heap.size:=(Array.getElem?_eq_some_iff.1 hg).1
   refine World.cell?_of_block (a:=⟨g1,j,none⟩) ?_
   rw [← e2]
   exact Below.heap_alloc w.drew _ g1 hlt
theorem wp_append_keep {o:Oper} {a:Act} {K:Act → World → Prop} {Q:Exit → Act → World → Prop} (s x:Operand) (t:TypeId)
  (ho:o.op = .call { callee:=.builtin .append,args:=#[s,x],argTypes:=#[t,t] })
  (base:Nat) (e:TypeId) (i:TypeInfo) (z:Value) (size bytes:Nat) (ht:P.underlying t = some (.slice e)) (hi:P.info? e = some i) (hz:i.zero = some z)
  (hsize:i.size = size) (hby:i.bytes = bytes) (hzs:z.cells.size = size) (hsz:0 < size)
  (v:Value) (n:Nat) (xs:List Value) (hs:a.eval s = v) (hown:w.ownsRow base e size v n xs)
  (ad:Addr) (m c:Nat) (news:List Value) (hx:a.eval x = .slice (some ad) m c) (hl:news.length = m * size) (hnews:∀ j u,news[j]? = some u → w.cell? (ad.add j) = some u) (h1:∀ u ∈ news,u.oneCell' = true)
  (hm:0 < m) (h63:n + m ≤ maxLen) (hbytes:(n + m) * bytes ≤ 140737488355328) (hbase:base ≤ w.heap.size) (H:Nat) (hH:w.heap.size = H)
  (h:∀ g cap w',w'.ownsRow base e size (.slice (some ⟨g,0,none⟩) (n + m) cap) (n + m) (xs ++ news) → w.grownBy w' v.ownBlock → (v.ownBlock = some g ∨ g = H) → g < w'.heap.size → (∀ g0,v.ownBlock = some g0 → ∀ j,j < n * size → w'.cell? ⟨g0,j,none⟩ = w.cell? ⟨g0,j,none⟩) → K (a.put o.dst (.slice (some ⟨g,0,none⟩) (n + m) cap)) w'):o.wp P a w K Q:=by
 obtain ⟨g,cap,w',hr,h2,h3,h4,h5,h6⟩:=run_append_keep (P:=P) w t o.type base e i z size bytes ht hi hz hsize hby hzs hsz v n xs hown ad m c news hl hnews h1 hm h63 hbytes hbase H hH
 unfold Oper.wp execOp
 simp only [ho,resolve,invoke,builtin,Sem.run_bind,Sem.run_pure,Result.andThen_ok,List.map_toArray,List.map_cons,List.map_nil,hs,hx,hr]
 exact h g cap w' h2 h3 h4 h5 h6
theorem wpList_append_keep {ops:Array Oper} {rest:List Oper} {o:Oper} {a:Act} {Q:Exit → Act → World → Prop} (hgd:o.guard = none) (s x:Operand) (t:TypeId)
  (ho:o.op = .call { callee:=.builtin .append,args:=#[s,x],argTypes:=#[t,t] })
  (base:Nat) (e:TypeId) (i:TypeInfo) (z:Value) (size bytes:Nat) (ht:P.underlying t = some (.slice e)) (hi:P.info? e = some i) (hz:i.zero = some z)
  (hsize:i.size = size) (hby:i.bytes = bytes) (hzs:z.cells.size = size) (hsz:0 < size)
  (v:Value) (n:Nat) (xs:List Value) (hs:a.eval s = v) (hown:w.ownsRow base e size v n xs)
  (ad:Addr) (m c:Nat) (news:List Value) (hx:a.eval x = .slice (some ad) m c) (hl:news.length = m * size) (hnews:∀ j u,news[j]? = some u → w.cell? (ad.add j) = some u) (h1:∀ u ∈ news,u.oneCell' = true)
  (hm:0 < m) (h63:n + m ≤ maxLen) (hbytes:(n + m) * bytes ≤ 140737488355328) (hbase:base ≤ w.heap.size) (H:Nat) (hH:w.heap.size = H)
  (h:∀ g cap w',w'.ownsRow base e size (.slice (some ⟨g,0,none⟩) (n + m) cap) (n + m) (xs ++ news) → w.grownBy w' v.ownBlock → (v.ownBlock = some g ∨ g = H) → g < w'.heap.size → (∀ g0,v.ownBlock = some g0 → ∀ j,j < n * size → w'.cell? ⟨g0,j,none⟩ = w.cell? ⟨g0,j,none⟩) → wpList P ops Q rest (a.put o.dst (.slice (some ⟨g,0,none⟩) (n + m) cap)) w'):wpList P ops Q (o :: rest) a w :=
 wpList_plain hgd fun _ hK => wp_append_keep w s x t ho base e i z size bytes ht hi hz hsize hby hzs hsz v n xs hs hown ad m c news hx hl hnews h1 hm h63 hbytes hbase H hH fun g cap w' h2 h3 h4 h5 h6 => hK _ _ (h g cap w' h2 h3 h4 h5 h6)
end
def entC (e:Value × Int):List Value:=[e.1,.int .i64 e.2]
def sliceLen:Value → Nat
 | .slice _ n _ => n
 | _ => 0
def Full (W:World) (sz:Nat) (mk:List Value) (v:Value):Prop :=
 ∃ a n cap,v = .slice a n cap ∧ n ≤ 50000000000 ∧ (0 < n → ∃ g,a = some ⟨g,0,none⟩ ∧ ∀ i j u,i < n → mk[j]? = some u → W.cell? ⟨g,i * sz + j,none⟩ = some u)
section
variable {W w:World} {sz:Nat} {mk:List Value} {v:Value}
theorem Full.cells (h:Full W sz mk v) (hs:∀ g,v.ownBlock = some g → ∀ i j u,i < sliceLen v → mk[j]? = some u → W.cell? ⟨g,i * sz + j,none⟩ = some u → w.cell? ⟨g,i * sz + j,none⟩ = some u):Full w sz mk v:=by
 obtain ⟨a,n,cap,rfl,h2,h3⟩:=h
 refine ⟨a,n,cap,rfl,h2,fun hn => ?_⟩
 obtain ⟨g,rfl,hc⟩:=h3 hn
 exact ⟨g,rfl,fun i j u hi hu => hs g rfl i j u hi hu (hc i j u hi hu)⟩
theorem Full.same (h:Full W sz mk v) (hs:∀ g,v.ownBlock = some g → w.heap[g]? = W.heap[g]?):Full w sz mk v :=
 h.cells (fun g hg i j u _ _ hc => (World.cell?_of_block (a:=⟨g,i * sz + j,none⟩) (hs g hg)).trans hc)
theorem Full.of_row {α:Type} {f:α → List Value} {y:α} {base n:Nat} {t:TypeId} (hf:(f y).length = sz) (hn:n ≤ 50000000000) (h:W.ownsRow base t sz v n ((List.replicate n y).flatMap f)):Full W sz (f y) v:=by
 obtain ⟨a,cap,rfl⟩:=row_shape h
 refine ⟨a,n,cap,rfl,hn,fun h0 => ?_⟩
 rcases h.2 with ⟨_,h1⟩ | ⟨g,cap1,cur,hv,hb,hg,hnc,hcm,hcs,htake⟩
 ·omega
 ·have ha:a = some ⟨g,0,none⟩:=by cases hv;rfl
  refine ⟨g,ha,fun i j u hi hu => ?_⟩
  have hj:j < sz:=by rw [← hf];exact (List.getElem?_eq_some_iff.1 hu).1
  have h2:=flat_get f sz (List.replicate n y) i j y (fun z hz => by rw [List.eq_of_mem_replicate hz];exact hf) (by rw [List.getElem?_replicate,if_pos hi]) hj
  rw [hu,← htake] at h2
  rw [cell_of_row W g _ cur t (0,0) hg]
  rw [List.getElem?_take] at h2
  split at h2
  ·rw [Array.getElem?_toList] at h2;exact h2
  ·cases h2
end
theorem row_base {W:World} {base base':Nat} {e:TypeId} {size:Nat} {v:Value} {n:Nat} {xs:List Value} (h:W.ownsRow base e size v n xs) (hb:base' ≤ base):W.ownsRow base' e size v n xs:=by
 refine ⟨h.1,?_⟩
 rcases h.2 with h1 | ⟨g,cap,cur,h1,h2,h3⟩
 ·exact .inl h1
 ·exact .inr ⟨g,cap,cur,h1,Nat.le_trans hb h2,h3⟩
def over {α:Type} (y:α) (ms:List α) (i:Nat):List α:=List.replicate i y ++ ms.drop i
theorem over_zero {α:Type} (y:α) (ms:List α):over y ms 0 = ms:=rfl
theorem over_all {α:Type} (y:α) (ms:List α):over y ms ms.length = List.replicate ms.length y:=by simp [over]
theorem over_len {α:Type} (y:α) (ms:List α) (i:Nat) (h:i ≤ ms.length):(over y ms i).length = ms.length:=by simp [over];omega
theorem over_step {α:Type} (y:α) (ms:List α) (i:Nat) (h:i < ms.length):(over y ms i).set i y = over y ms (i + 1):=by
 unfold over
 rw [List.set_append_right _ _ (by simp),List.length_replicate,Nat.sub_self,List.drop_eq_getElem_cons h,List.set_cons_zero,List.replicate_succ',List.append_assoc]
 rfl
theorem row_store {α:Type} {f:α → List Value} {W:World} {base:Nat} {t:TypeId} {c n:Nat} {g cap:Nat} {l:List α} {i:Nat} {y:α} (hf:∀ z,(f z).length = c) (hi:i < l.length) (hn:l.length = n)
  (h:W.ownsRow base t c (.slice (some ⟨g,0,none⟩) n cap) n (l.flatMap f)):(W.setCells g (i * c) (f y)).ownsRow base t c (.slice (some ⟨g,0,none⟩) n cap) n ((l.set i y).flatMap f):=by
 subst hn
 rcases h.2 with ⟨h1,_⟩ | ⟨g1,cap1,cur,hv,hb,hg,hnc,hcm,hcs,htake⟩
 ·cases h1
 ·cases hv
  have hlen:(l.flatMap f).length = l.length * c:=flat_len f c l (fun z _ => hf z)
  have hm:i * c + c ≤ l.length * c:=by rw [← Nat.succ_mul];exact Nat.mul_le_mul_right c hi
  have hm2:l.length * c ≤ cur.size:=by rw [hcs];exact Nat.mul_le_mul_right c hnc
  have hs:=flat_splice f c l i 0 l[i] y (f y) (fun z _ => hf z) (List.getElem?_eq_getElem hi) (by rw [hf];omega) (by rw [splice_all _ _ (by rw [hf,hf])])
  rw [Nat.add_zero] at hs
  refine ⟨by rw [flat_len f c _ (fun z _ => hf z),List.length_set],.inr ⟨g,cap,_,rfl,hb,heap_setCells g t (f y) (i * c) W cur hg (by rw [hf];omega),hnc,hcm,?_,?_⟩⟩
  ·rw [List.size_toArray,splice_len _ _ _ (by rw [hf,Array.length_toList];omega),Array.length_toList,hcs]
  ·have e:cur.toList = l.flatMap f ++ cur.toList.drop (l.length * c):=by rw [← htake];exact (List.take_append_drop _ _).symm
   show (splice cur.toList (i * c) (f y)).take _ = _
   rw [e,splice_left _ _ _ _ (by rw [hlen,hf];omega),hs,List.take_left' (by rw [flat_len f c _ (fun z _ => hf z),List.length_set])]
def markM (x:Int):MsgM:=⟨x,0,0,0,0,⟨0,0,0⟩,0,0⟩
def evC (x:Int × Int):List Value:=[.int .i64 x.1,.int .i64 x.2]
theorem evCells_eq (l:List (Int × Int)):evCells l = l.flatMap evC:=rfl
def markE (x:Int):Int × Int:=(x,0)
structure BookAt (W:World) (base kb:Nat) (ls:List Nat) (c:Int) (E F:List (Value × Int)) (ve vf:Value):Prop where
 box:Box W kb #[.int .i64 c,ve,vf] 70
 rowE:W.ownsRow base 137 2 ve E.length (E.flatMap entC)
 rowF:W.ownsRow base 139 2 vf F.length (F.flatMap entC)
 fullE:∀ e ∈ E,Full W 10 (markM e.2).cells e.1 ∧ ∀ g,e.1.ownBlock = some g → g ∈ ls
 fullF:∀ e ∈ F,Full W 2 (evC (markE e.2)) e.1 ∧ ∀ g,e.1.ownBlock = some g → g ∈ ls
 apart:∀ x ∈ ls,x ≠ kb ∧ ve.ownBlock ≠ some x ∧ vf.ownBlock ≠ some x
 lt:∀ x ∈ ls,base ≤ x ∧ x < W.heap.size
 kb0:base ≤ kb
def bookFp (kb:Nat) (ls:List Nat) (ve vf:Value):List Nat:=kb :: (ls ++ (ve.ownBlock.toList ++ vf.ownBlock.toList))
theorem mem_bookFp {kb:Nat} {ls:List Nat} {ve vf:Value} {x:Nat}:x ∈ bookFp kb ls ve vf ↔ x = kb ∨ x ∈ ls ∨ ve.ownBlock = some x ∨ vf.ownBlock = some x:=by
 unfold bookFp
 simp only [List.mem_cons,List.mem_append,Option.mem_toList]
section
variable {W w w6 X:World} {base kb:Nat} {ls:List Nat} {c:Int} {E F:List (Value × Int)} {ve vf:Value}
theorem BookAt.fpLt (h:BookAt W base kb ls c E F ve vf):∀ x ∈ bookFp kb ls ve vf,base ≤ x ∧ x < W.heap.size:=fun x hx => by
 rcases mem_bookFp.1 hx with rfl | h1 | h1 | h1
 ·exact ⟨h.kb0,h.box.lt⟩
 ·exact h.lt x h1
 ·exact h.rowE.lt x h1
 ·exact h.rowF.lt x h1
theorem BookAt.same (h:BookAt W base kb ls c E F ve vf) (hs:∀ x ∈ bookFp kb ls ve vf,w.heap[x]? = W.heap[x]?) (hz:W.heap.size ≤ w.heap.size):BookAt w base kb ls c E F ve vf :=
 ⟨(hs kb (mem_bookFp.2 (.inl rfl))).trans h.box,own_same h.rowE (fun b hb => hs b (mem_bookFp.2 (.inr (.inr (.inl hb))))),own_same h.rowF (fun b hb => hs b (mem_bookFp.2 (.inr (.inr (.inr hb))))),
  fun e he => ⟨(h.fullE e he).1.same (fun g hg => hs g (mem_bookFp.2 (.inr (.inl ((h.fullE e he).2 g hg))))),(h.fullE e he).2⟩,
  fun e he => ⟨(h.fullF e he).1.same (fun g hg => hs g (mem_bookFp.2 (.inr (.inl ((h.fullF e he).2 g hg))))),(h.fullF e he).2⟩,
  h.apart,fun x hx => ⟨(h.lt x hx).1,Nat.lt_of_lt_of_le (h.lt x hx).2 hz⟩,h.kb0⟩
theorem BookAt.below (h:BookAt W base kb ls c E F ve vf) (hb:Below W.heap.size W w):BookAt w base kb ls c E F ve vf:=h.same (fun x hx => hb.block x (h.fpLt x hx).2) hb.size
theorem BookAt.join (h:BookAt W base kb ls c E F ve vf) {g:Nat} (hg:g ∉ bookFp kb ls ve vf) (h0:base ≤ g) (h1:g < W.heap.size):BookAt W base kb (g :: ls) c E F ve vf:=by
 refine ⟨h.box,h.rowE,h.rowF,fun e he => ⟨(h.fullE e he).1,fun x hx => List.mem_cons_of_mem _ ((h.fullE e he).2 x hx)⟩,fun e he => ⟨(h.fullF e he).1,fun x hx => List.mem_cons_of_mem _ ((h.fullF e he).2 x hx)⟩,fun x hx => ?_,fun x hx => ?_,h.kb0⟩
 ·rcases List.mem_cons.1 hx with rfl | hx
  ·exact ⟨fun e => hg (mem_bookFp.2 (.inl e)),fun e => hg (mem_bookFp.2 (.inr (.inr (.inl e)))),fun e => hg (mem_bookFp.2 (.inr (.inr (.inr e))))⟩
  ·exact h.apart x hx
 ·rcases List.mem_cons.1 hx with rfl | hx
  ·exact ⟨h0,h1⟩
  ·exact h.lt x hx
theorem BookAt.count (h:BookAt W base kb ls c E F ve vf) (c':Int):BookAt (W.setCell ⟨kb,0,none⟩ (.int .i64 c')) base kb ls c' E F ve vf:=by
 have nE:ve.ownBlock ≠ some kb:=own_ne h.rowE h.box (by decide)
 have nF:vf.ownBlock ≠ some kb:=own_ne h.rowF h.box (by decide)
 have ot:∀ b,b ≠ kb → (W.setCell ⟨kb,0,none⟩ (.int .i64 c')).heap[b]? = W.heap[b]?:=fun b hb => Below.heap_setCell W ⟨kb,0,none⟩ _ b hb
 exact ⟨h.box.set 0 _,own_same h.rowE (fun b hb => ot b (fun e => nE (by rw [hb,e]))),own_same h.rowF (fun b hb => ot b (fun e => nF (by rw [hb,e]))),
  fun e he => ⟨(h.fullE e he).1.same (fun g hg => ot g (h.apart g ((h.fullE e he).2 g hg)).1),(h.fullE e he).2⟩,fun e he => ⟨(h.fullF e he).1.same (fun g hg => ot g (h.apart g ((h.fullF e he).2 g hg)).1),(h.fullF e he).2⟩,
  h.apart,fun x hx => by simpa using h.lt x hx,h.kb0⟩
theorem BookAt.addE (h:BookAt W base kb ls c E F ve vf) {e:Value × Int} {g cap:Nat} (he:Full W 10 ((markM e.2).cells) e.1) (heb:∀ x,e.1.ownBlock = some x → x ∈ ls) (hX:Below W.heap.size W X) (hg:X.grownBy w6 ve.ownBlock)
  (ho:w6.ownsRow base 137 2 (.slice (some ⟨g,0,none⟩) (E.length + 1) cap) (E.length + 1) (E.flatMap entC ++ entC e)) (hat:ve.ownBlock = some g ∨ g = X.heap.size) :
  BookAt (w6.setCell ⟨kb,1,none⟩ (.slice (some ⟨g,0,none⟩) (E.length + 1) cap)) base kb ls c (E ++ [e]) F (.slice (some ⟨g,0,none⟩) (E.length + 1) cap) vf:=by
 have nV:ve.ownBlock ≠ some kb:=own_ne h.rowE h.box (by decide)
 have nO:vf.ownBlock ≠ some kb:=own_ne h.rowF h.box (by decide)
 have nVO:=own_ne2 h.rowE h.rowF (by decide)
 have hkl:=h.box.lt
 have keep:∀ b,b < W.heap.size → ve.ownBlock ≠ some b → w6.heap[b]? = W.heap[b]?:=fun b hb hn => (hg.block b (Nat.lt_of_lt_of_le hb hX.size) (fun e => hn e.symm)).trans (hX.block b hb)
 have b6:Box w6 kb #[.int .i64 c,ve,vf] 70:=(keep kb hkl nV).trans h.box
 have n6:(Value.slice (some ⟨g,0,none⟩) (E.length + 1) cap).ownBlock ≠ some kb:=own_ne ho b6 (by decide)
 have ot:∀ b,b ≠ kb → (w6.setCell ⟨kb,1,none⟩ (.slice (some ⟨g,0,none⟩) (E.length + 1) cap)).heap[b]? = w6.heap[b]?:=fun b hb => Below.heap_setCell w6 ⟨kb,1,none⟩ _ b hb
 have kl:∀ x ∈ ls,(w6.setCell ⟨kb,1,none⟩ (.slice (some ⟨g,0,none⟩) (E.length + 1) cap)).heap[x]? = W.heap[x]?:=fun x hx => (ot x (h.apart x hx).1).trans (keep x (h.lt x hx).2 (h.apart x hx).2.1)
 have rowV:(w6.setCell ⟨kb,1,none⟩ (.slice (some ⟨g,0,none⟩) (E.length + 1) cap)).ownsRow base 137 2 (.slice (some ⟨g,0,none⟩) (E.length + 1) cap) (E ++ [e]).length ((E ++ [e]).flatMap entC):=by
  rw [List.length_append,List.flatMap_append,List.flatMap_singleton]
  exact own_same ho (fun b hb => ot b (fun e => n6 (by rw [hb,e])))
 have rowO:=own_same (W':=w6.setCell ⟨kb,1,none⟩ (.slice (some ⟨g,0,none⟩) (E.length + 1) cap)) h.rowF (fun b hb => (ot b (fun e => nO (by rw [hb,e]))).trans (keep b (h.rowF.lt b hb).2 (nVO b hb)))
 have fV:∀ x ∈ E ++ [e],Full (w6.setCell ⟨kb,1,none⟩ (.slice (some ⟨g,0,none⟩) (E.length + 1) cap)) 10 ((markM x.2).cells) x.1 ∧ ∀ y,x.1.ownBlock = some y → y ∈ ls:=fun x hx => by
  rcases List.mem_append.1 hx with hx | hx
  ·exact ⟨(h.fullE x hx).1.same (fun y hy => kl y ((h.fullE x hx).2 y hy)),(h.fullE x hx).2⟩
  ·rw [List.mem_singleton.1 hx]
   exact ⟨he.same (fun y hy => kl y (heb y hy)),heb⟩
 have fO:∀ x ∈ F,Full (w6.setCell ⟨kb,1,none⟩ (.slice (some ⟨g,0,none⟩) (E.length + 1) cap)) 2 (evC (markE x.2)) x.1 ∧ ∀ y,x.1.ownBlock = some y → y ∈ ls:=fun x hx => ⟨(h.fullF x hx).1.same (fun y hy => kl y ((h.fullF x hx).2 y hy)),(h.fullF x hx).2⟩
 have hsz:W.heap.size ≤ (w6.setCell ⟨kb,1,none⟩ (.slice (some ⟨g,0,none⟩) (E.length + 1) cap)).heap.size:=Nat.le_trans hX.size (Nat.le_trans hg.size (by simp))
 have gn:∀ x ∈ ls,(Value.slice (some ⟨g,0,none⟩) (E.length + 1) cap).ownBlock ≠ some x:=fun x hx e => by
  have e1:g = x:=by simpa [Value.ownBlock] using e
  rcases hat with e2 | e2
  ·exact (h.apart x hx).2.1 (by rw [e2,e1])
  ·have:=(h.lt x hx).2
   have:=hX.size
   omega
 exact ⟨b6.set 1 _,rowV,rowO,fV,fO,fun x hx => ⟨(h.apart x hx).1,gn x hx,(h.apart x hx).2.2⟩,fun x hx => ⟨(h.lt x hx).1,Nat.lt_of_lt_of_le (h.lt x hx).2 hsz⟩,h.kb0⟩
theorem BookAt.addF (h:BookAt W base kb ls c E F ve vf) {e:Value × Int} {g cap:Nat} (he:Full W 2 (evC (markE e.2)) e.1) (heb:∀ x,e.1.ownBlock = some x → x ∈ ls) (hX:Below W.heap.size W X) (hg:X.grownBy w6 vf.ownBlock)
  (ho:w6.ownsRow base 139 2 (.slice (some ⟨g,0,none⟩) (F.length + 1) cap) (F.length + 1) (F.flatMap entC ++ entC e)) (hat:vf.ownBlock = some g ∨ g = X.heap.size) :
  BookAt (w6.setCell ⟨kb,2,none⟩ (.slice (some ⟨g,0,none⟩) (F.length + 1) cap)) base kb ls c E (F ++ [e]) ve (.slice (some ⟨g,0,none⟩) (F.length + 1) cap):=by
 have nV:vf.ownBlock ≠ some kb:=own_ne h.rowF h.box (by decide)
 have nO:ve.ownBlock ≠ some kb:=own_ne h.rowE h.box (by decide)
 have nVO:=own_ne2 h.rowF h.rowE (by decide)
 have hkl:=h.box.lt
 have keep:∀ b,b < W.heap.size → vf.ownBlock ≠ some b → w6.heap[b]? = W.heap[b]?:=fun b hb hn => (hg.block b (Nat.lt_of_lt_of_le hb hX.size) (fun e => hn e.symm)).trans (hX.block b hb)
 have b6:Box w6 kb #[.int .i64 c,ve,vf] 70:=(keep kb hkl nV).trans h.box
 have n6:(Value.slice (some ⟨g,0,none⟩) (F.length + 1) cap).ownBlock ≠ some kb:=own_ne ho b6 (by decide)
 have ot:∀ b,b ≠ kb → (w6.setCell ⟨kb,2,none⟩ (.slice (some ⟨g,0,none⟩) (F.length + 1) cap)).heap[b]? = w6.heap[b]?:=fun b hb => Below.heap_setCell w6 ⟨kb,2,none⟩ _ b hb
 have kl:∀ x ∈ ls,(w6.setCell ⟨kb,2,none⟩ (.slice (some ⟨g,0,none⟩) (F.length + 1) cap)).heap[x]? = W.heap[x]?:=fun x hx => (ot x (h.apart x hx).1).trans (keep x (h.lt x hx).2 (h.apart x hx).2.2)
 have rowV:(w6.setCell ⟨kb,2,none⟩ (.slice (some ⟨g,0,none⟩) (F.length + 1) cap)).ownsRow base 139 2 (.slice (some ⟨g,0,none⟩) (F.length + 1) cap) (F ++ [e]).length ((F ++ [e]).flatMap entC):=by
  rw [List.length_append,List.flatMap_append,List.flatMap_singleton]
  exact own_same ho (fun b hb => ot b (fun e => n6 (by rw [hb,e])))
 have rowO:=own_same (W':=w6.setCell ⟨kb,2,none⟩ (.slice (some ⟨g,0,none⟩) (F.length + 1) cap)) h.rowE (fun b hb => (ot b (fun e => nO (by rw [hb,e]))).trans (keep b (h.rowE.lt b hb).2 (nVO b hb)))
 have fV:∀ x ∈ F ++ [e],Full (w6.setCell ⟨kb,2,none⟩ (.slice (some ⟨g,0,none⟩) (F.length + 1) cap)) 2 (evC (markE x.2)) x.1 ∧ ∀ y,x.1.ownBlock = some y → y ∈ ls:=fun x hx => by
  rcases List.mem_append.1 hx with hx | hx
  ·exact ⟨(h.fullF x hx).1.same (fun y hy => kl y ((h.fullF x hx).2 y hy)),(h.fullF x hx).2⟩
  ·rw [List.mem_singleton.1 hx]
   exact ⟨he.same (fun y hy => kl y (heb y hy)),heb⟩
 have fO:∀ x ∈ E,Full (w6.setCell ⟨kb,2,none⟩ (.slice (some ⟨g,0,none⟩) (F.length + 1) cap)) 10 ((markM x.2).cells) x.1 ∧ ∀ y,x.1.ownBlock = some y → y ∈ ls:=fun x hx => ⟨(h.fullE x hx).1.same (fun y hy => kl y ((h.fullE x hx).2 y hy)),(h.fullE x hx).2⟩
 have hsz:W.heap.size ≤ (w6.setCell ⟨kb,2,none⟩ (.slice (some ⟨g,0,none⟩) (F.length + 1) cap)).heap.size:=Nat.le_trans hX.size (Nat.le_trans hg.size (by simp))
 have gn:∀ x ∈ ls,(Value.slice (some ⟨g,0,none⟩) (F.length + 1) cap).ownBlock ≠ some x:=fun x hx e => by
  have e1:g = x:=by simpa [Value.ownBlock] using e
  rcases hat with e2 | e2
  ·exact (h.apart x hx).2.2 (by rw [e2,e1])
  ·have:=(h.lt x hx).2
   have:=hX.size
   omega
 exact ⟨b6.set 2 _,rowO,rowV,fO,fV,fun x hx => ⟨(h.apart x hx).1,(h.apart x hx).2.1,gn x hx⟩,fun x hx => ⟨(h.lt x hx).1,Nat.lt_of_lt_of_le (h.lt x hx).2 hsz⟩,h.kb0⟩
theorem BookAt.grow (h:BookAt W base kb ls c E F ve vf) {vb:Option Nat} {g m:Nat} (hvb:∀ x,vb = some x → x ∈ ls) (hX:Below W.heap.size W X) (hg:X.grownBy w6 vb) (hat:vb = some g ∨ g = X.heap.size) (hgl:g < w6.heap.size)
  (hE:∀ e ∈ E,∀ x,vb = some x → e.1.ownBlock = some x → sliceLen e.1 * 10 ≤ m) (hF:∀ e ∈ F,∀ x,vb = some x → e.1.ownBlock = some x → sliceLen e.1 * 2 ≤ m)
  (hk:∀ x,vb = some x → ∀ j,j < m → w6.cell? ⟨x,j,none⟩ = X.cell? ⟨x,j,none⟩):BookAt w6 base kb (g :: ls) c E F ve vf ∧ (vb = some g ∨ (g ∉ bookFp kb ls ve vf ∧ W.heap.size ≤ g)):=by
 have keep:∀ b,b < W.heap.size → vb ≠ some b → w6.heap[b]? = W.heap[b]?:=fun b hb hn => (hg.block b (Nat.lt_of_lt_of_le hb hX.size) (fun e => hn e.symm)).trans (hX.block b hb)
 have nv:∀ b,b = kb ∨ ve.ownBlock = some b ∨ vf.ownBlock = some b → vb ≠ some b:=fun b hb e => by
  have:=h.apart b (hvb b e)
  rcases hb with hb | hb | hb
  ·exact this.1 hb
  ·exact this.2.1 hb
  ·exact this.2.2 hb
 have hsz:W.heap.size ≤ w6.heap.size:=Nat.le_trans hX.size hg.size
 have g0:vb = some g ∨ (g ∉ bookFp kb ls ve vf ∧ W.heap.size ≤ g):=by
  rcases hat with e | e
  ·exact .inl e
  ·have:=hX.size
   exact .inr ⟨fun hx => by have:=(h.fpLt g hx).2;omega,by omega⟩
 refine ⟨⟨(keep kb h.box.lt (nv kb (.inl rfl))).trans h.box,own_same h.rowE (fun b hb => keep b (h.rowE.lt b hb).2 (nv b (.inr (.inl hb)))),own_same h.rowF (fun b hb => keep b (h.rowF.lt b hb).2 (nv b (.inr (.inr hb)))),
  fun e he => ⟨?_,fun x hx => List.mem_cons_of_mem _ ((h.fullE e he).2 x hx)⟩,fun e he => ⟨?_,fun x hx => List.mem_cons_of_mem _ ((h.fullF e he).2 x hx)⟩,fun x hx => ?_,fun x hx => ?_,h.kb0⟩,g0⟩
 ·refine (h.fullE e he).1.cells (fun x hx i j u hi hu hc => ?_)
  have hxl:=(h.lt x ((h.fullE e he).2 x hx)).2
  by_cases hv:vb = some x
  ·have h1:=hE e he x hv hx
   have hj:j < 10:=(List.getElem?_eq_some_iff.1 hu).1
   exact (hk x hv _ (by omega)).trans ((World.cell?_of_block (a:=⟨x,i * 10 + j,none⟩) (hX.block x hxl)).trans hc)
  ·exact (World.cell?_of_block (a:=⟨x,i * 10 + j,none⟩) (keep x hxl hv)).trans hc
 ·refine (h.fullF e he).1.cells (fun x hx i j u hi hu hc => ?_)
  have hxl:=(h.lt x ((h.fullF e he).2 x hx)).2
  by_cases hv:vb = some x
  ·have h1:=hF e he x hv hx
   have hj:j < 2:=(List.getElem?_eq_some_iff.1 hu).1
   exact (hk x hv _ (by omega)).trans ((World.cell?_of_block (a:=⟨x,i * 2 + j,none⟩) (hX.block x hxl)).trans hc)
  ·exact (World.cell?_of_block (a:=⟨x,i * 2 + j,none⟩) (keep x hxl hv)).trans hc
 ·rcases List.mem_cons.1 hx with rfl | hx
  ·rcases g0 with e | ⟨e,_⟩
   ·exact h.apart x (hvb x e)
   ·exact ⟨fun e1 => e (mem_bookFp.2 (.inl e1)),fun e1 => e (mem_bookFp.2 (.inr (.inr (.inl e1)))),fun e1 => e (mem_bookFp.2 (.inr (.inr (.inr e1))))⟩
  ·exact h.apart x hx
 ·rcases List.mem_cons.1 hx with rfl | hx
  ·rcases g0 with e | ⟨_,e⟩
   ·exact ⟨(h.lt x (hvb x e)).1,hgl⟩
   ·have:=h.kb0
    have:=h.box.lt
    exact ⟨by omega,hgl⟩
  ·exact ⟨(h.lt x hx).1,Nat.lt_of_lt_of_le (h.lt x hx).2 hsz⟩
end
end Go.Proofs.YtceappncglfciaaGreat
