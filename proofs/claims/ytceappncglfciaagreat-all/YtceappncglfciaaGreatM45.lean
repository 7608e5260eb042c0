import Derived.Test.YtceappncglfciaaGreatM44
import Derived.WalkKit
set_option linter.unusedVariables false
set_option linter.unusedSimpArgs false
namespace Go.Proofs.YtceappncglfciaaGreat
open Go.RowKit
theorem Tryz.infoMess:(Tryz.prog.info? 137).map (fun i => (i.zero,i.size,i.bytes)) = some (some (.agg #[.slice none 0 0,.int .i64 0]),2,32):=by kernel_rfl
theorem Tryz.infoEvs:(Tryz.prog.info? 139).map (fun i => (i.zero,i.size,i.bytes)) = some (some (.agg #[.slice none 0 0,.int .i64 0]),2,32):=by kernel_rfl
theorem Tryz.linfoMsg:(Tryz.prog.info? 133).map (fun i => (i.zero,i.size,i.bytes)) = some (some (.agg #[.int .i64 0,.int .i64 0,.int .i64 0,.int .i64 0,.int .i64 0,.int .i64 0,.int .i64 0,.int .i64 0,.int .i64 0,.int .i64 0]),10,80):=by kernel_rfl
theorem Tryz.linfoEv:(Tryz.prog.info? 49).map (fun i => (i.zero,i.size,i.bytes)) = some (some (.agg #[.int .i64 0,.int .i64 0]),2,16):=by kernel_rfl
section
variable {wc:World} {base kb:Nat} {ls:List Nat} {c:Int} {E F:List (Value × Int)} {ve vf:Value}
structure RoomE (wc:World) (base kb:Nat) (ls:List Nat) (c:Int) (E F:List (Value × Int)) (ve vf:Value) (va:Option Addr) (vcap:Nat) (e:Value × Int):Prop where
 c1:wc.cell? ⟨kb,1,none⟩ = some (.slice va E.length vcap)
 c0:wc.cell? ⟨kb,0,none⟩ = some (.int .i64 c)
 fz:wc.frozen? ⟨kb,1,none⟩ = false
 own:Hid (∀ o,(wc.drew.alloc o).ownsRow base 137 2 (.slice va E.length vcap) E.length (E.flatMap entC))
 news:Hid (∀ j u,(entC e)[j]? = some u → (wc.drew.alloc (.cells (entC e).toArray 137)).cell? ((⟨wc.heap.size,0,none⟩:Addr).add j) = some u)
 one:Hid (∀ u ∈ entC e,u.oneCell' = true)
 size:Hid (∀ o,base ≤ (wc.drew.alloc o).heap.size ∧ (wc.drew.alloc o).heap.size = wc.heap.size + 1)
 far:Hid (∀ o w6,(wc.drew.alloc o).grownBy w6 (Value.slice va E.length vcap).ownBlock → w6.cell? ⟨kb,1,none⟩ = some (.slice va E.length vcap) ∧ w6.frozen? ⟨kb,1,none⟩ = false)
 fin:Hid (∀ g cap w6,w6.ownsRow base 137 2 (.slice (some ⟨g,0,none⟩) (E.length + 1) cap) (E.length + 1) (E.flatMap entC ++ entC e) → (wc.drew.alloc (.cells (entC e).toArray 137)).grownBy w6 (Value.slice va E.length vcap).ownBlock → ((Value.slice va E.length vcap).ownBlock = some g ∨ g = wc.heap.size + 1) →
  BookAt (w6.setCell ⟨kb,1,none⟩ (.slice (some ⟨g,0,none⟩) (E.length + 1) cap)) base kb ls c (E ++ [e]) F (.slice (some ⟨g,0,none⟩) (E.length + 1) cap) vf ∧ Keeps (bookFp kb ls ve vf) wc (w6.setCell ⟨kb,1,none⟩ (.slice (some ⟨g,0,none⟩) (E.length + 1) cap)) ∧
  ∀ x,x ∈ bookFp kb ls (.slice (some ⟨g,0,none⟩) (E.length + 1) cap) vf → x ∈ bookFp kb ls ve vf ∨ wc.heap.size ≤ x)
 same:Hid (∀ g cap w6,(wc.drew.alloc (.cells (entC e).toArray 137)).grownBy w6 (Value.slice va E.length vcap).ownBlock → ∀ x ∈ ls,(w6.setCell ⟨kb,1,none⟩ (.slice (some ⟨g,0,none⟩) (E.length + 1) cap)).heap[x]? = wc.heap[x]?)
theorem BookAt.roomE (h:BookAt wc base kb ls c E F ve vf) {va:Option Addr} {vcap:Nat} (hv:ve = .slice va E.length vcap) (e:Value × Int) (he1:e.1.oneCell' = true) (he:Full wc 10 ((markM e.2).cells) e.1) (heb:∀ x,e.1.ownBlock = some x → x ∈ ls):RoomE wc base kb ls c E F ve vf va vcap e:=by
 have hkl:=h.box.lt
 have hb0:base ≤ wc.heap.size:=Nat.le_trans h.kb0 (Nat.le_of_lt hkl)
 have c1:wc.cell? ⟨kb,1,none⟩ = some (.slice va E.length vcap):=by rw [← hv];exact h.box.cell 1
 have fz:=h.box.frozen 1
 have hrow:=h.rowE
 rw [hv] at hrow
 have nV:(Value.slice va E.length vcap).ownBlock ≠ some kb:=by rw [← hv];exact own_ne h.rowE h.box (by decide)
 have hX:∀ o,Below wc.heap.size wc (wc.drew.alloc o):=fun o => ((Below.refl wc.heap.size wc).drew).alloc (Nat.le_refl _) o
 have hsz:∀ o,(wc.drew.alloc o).heap.size = wc.heap.size + 1:=fun o => World.size_alloc wc.drew o
 refine ⟨c1,h.box.cell 0,fz,fun o => own_same hrow (fun b hb => (hX o).block b (hrow.lt b hb).2),fun j u hu => World.news_of_block (heap_alloc_new wc.drew _) j u (by simpa using hu),fun u hu => ?_,fun o => ⟨by rw [hsz];omega,hsz o⟩,fun o w6 hg => ?_,fun g cap w6 ho hg hat => ?_,fun g cap w6 hg x hx => ?_⟩
 ·simp only [entC,List.mem_cons,List.not_mem_nil,or_false] at hu
  rcases hu with rfl | rfl
  ·exact he1
  ·rfl
 ·have hb:w6.heap[kb]? = wc.heap[kb]?:=(hg.block kb (Nat.lt_of_lt_of_le hkl (hX o).size) (fun e => nV e.symm)).trans ((hX o).block kb hkl)
  exact ⟨(World.cell?_of_block hb).trans c1,(World.frozen?_of_block hb).trans fz⟩
 ·rw [← hv] at hg hat
  have hg':=hg
  have hb:=h.addE he heb (hX _) hg ho (by rw [hsz];exact hat)
  have hxs:=(hX (.cells (entC e).toArray 137)).size
  refine ⟨hb,⟨hg.os.trans (hX _).os,hg.tape.trans (hX _).tape,hg.output.trans (hX _).output,Nat.le_trans hxs (Nat.le_trans hg.size (by simp)),fun k hk hn => ?_⟩,fun x hx => ?_⟩
  ·have n1:k ≠ kb:=fun e => hn (mem_bookFp.2 (.inl e))
   exact (Below.heap_setCell w6 ⟨kb,1,none⟩ _ k n1).trans ((hg.block k (Nat.lt_of_lt_of_le hk hxs) (fun e => hn (mem_bookFp.2 (.inr <| .inr <| .inl e.symm)))).trans ((hX _).block k hk))
  ·rcases mem_bookFp.1 hx with e1 | e1 | e1 | e1
   ·exact .inl (mem_bookFp.2 (.inl e1))
   ·exact .inl (mem_bookFp.2 (.inr (.inl e1)))
   ·have e2:g = x:=by simpa [Value.ownBlock] using e1
    rcases hat with e3 | e3
    ·exact .inl (mem_bookFp.2 (.inr <| .inr <| .inl <| (by rw [e3,e2])))
    ·exact .inr (by omega)
   ·exact .inl (mem_bookFp.2 (.inr (.inr (.inr e1))))
 ·rw [← hv] at hg
  exact (Below.heap_setCell w6 ⟨kb,1,none⟩ _ x (h.apart x hx).1).trans ((hg.block x (Nat.lt_of_lt_of_le (h.lt x hx).2 (hX _).size) (fun e => (h.apart x hx).2.1 e.symm)).trans ((hX _).block x (h.lt x hx).2))
structure RoomF (wc:World) (base kb:Nat) (ls:List Nat) (c:Int) (E F:List (Value × Int)) (ve vf:Value) (va:Option Addr) (vcap:Nat) (e:Value × Int):Prop where
 c1:wc.cell? ⟨kb,2,none⟩ = some (.slice va F.length vcap)
 c0:wc.cell? ⟨kb,0,none⟩ = some (.int .i64 c)
 fz:wc.frozen? ⟨kb,2,none⟩ = false
 own:Hid (∀ o,(wc.drew.alloc o).ownsRow base 139 2 (.slice va F.length vcap) F.length (F.flatMap entC))
 news:Hid (∀ j u,(entC e)[j]? = some u → (wc.drew.alloc (.cells (entC e).toArray 139)).cell? ((⟨wc.heap.size,0,none⟩:Addr).add j) = some u)
 one:Hid (∀ u ∈ entC e,u.oneCell' = true)
 size:Hid (∀ o,base ≤ (wc.drew.alloc o).heap.size ∧ (wc.drew.alloc o).heap.size = wc.heap.size + 1)
 far:Hid (∀ o w6,(wc.drew.alloc o).grownBy w6 (Value.slice va F.length vcap).ownBlock → w6.cell? ⟨kb,2,none⟩ = some (.slice va F.length vcap) ∧ w6.frozen? ⟨kb,2,none⟩ = false)
 fin:Hid (∀ g cap w6,w6.ownsRow base 139 2 (.slice (some ⟨g,0,none⟩) (F.length + 1) cap) (F.length + 1) (F.flatMap entC ++ entC e) → (wc.drew.alloc (.cells (entC e).toArray 139)).grownBy w6 (Value.slice va F.length vcap).ownBlock → ((Value.slice va F.length vcap).ownBlock = some g ∨ g = wc.heap.size + 1) →
  BookAt (w6.setCell ⟨kb,2,none⟩ (.slice (some ⟨g,0,none⟩) (F.length + 1) cap)) base kb ls c E (F ++ [e]) ve (.slice (some ⟨g,0,none⟩) (F.length + 1) cap) ∧ Keeps (bookFp kb ls ve vf) wc (w6.setCell ⟨kb,2,none⟩ (.slice (some ⟨g,0,none⟩) (F.length + 1) cap)) ∧
  ∀ x,x ∈ bookFp kb ls ve (.slice (some ⟨g,0,none⟩) (F.length + 1) cap) → x ∈ bookFp kb ls ve vf ∨ wc.heap.size ≤ x)
 same:Hid (∀ g cap w6,(wc.drew.alloc (.cells (entC e).toArray 139)).grownBy w6 (Value.slice va F.length vcap).ownBlock → ∀ x ∈ ls,(w6.setCell ⟨kb,2,none⟩ (.slice (some ⟨g,0,none⟩) (F.length + 1) cap)).heap[x]? = wc.heap[x]?)
theorem BookAt.roomF (h:BookAt wc base kb ls c E F ve vf) {va:Option Addr} {vcap:Nat} (hv:vf = .slice va F.length vcap) (e:Value × Int) (he1:e.1.oneCell' = true) (he:Full wc 2 (evC (markE e.2)) e.1) (heb:∀ x,e.1.ownBlock = some x → x ∈ ls):RoomF wc base kb ls c E F ve vf va vcap e:=by
 have hkl:=h.box.lt
 have hb0:base ≤ wc.heap.size:=Nat.le_trans h.kb0 (Nat.le_of_lt hkl)
 have c1:wc.cell? ⟨kb,2,none⟩ = some (.slice va F.length vcap):=by rw [← hv];exact h.box.cell 2
 have fz:=h.box.frozen 2
 have hrow:=h.rowF
 rw [hv] at hrow
 have nV:(Value.slice va F.length vcap).ownBlock ≠ some kb:=by rw [← hv];exact own_ne h.rowF h.box (by decide)
 have hX:∀ o,Below wc.heap.size wc (wc.drew.alloc o):=fun o => ((Below.refl wc.heap.size wc).drew).alloc (Nat.le_refl _) o
 have hsz:∀ o,(wc.drew.alloc o).heap.size = wc.heap.size + 1:=fun o => World.size_alloc wc.drew o
 refine ⟨c1,h.box.cell 0,fz,fun o => own_same hrow (fun b hb => (hX o).block b (hrow.lt b hb).2),fun j u hu => World.news_of_block (heap_alloc_new wc.drew _) j u (by simpa using hu),fun u hu => ?_,fun o => ⟨by rw [hsz];omega,hsz o⟩,fun o w6 hg => ?_,fun g cap w6 ho hg hat => ?_,fun g cap w6 hg x hx => ?_⟩
 ·simp only [entC,List.mem_cons,List.not_mem_nil,or_false] at hu
  rcases hu with rfl | rfl
  ·exact he1
  ·rfl
 ·have hb:w6.heap[kb]? = wc.heap[kb]?:=(hg.block kb (Nat.lt_of_lt_of_le hkl (hX o).size) (fun e => nV e.symm)).trans ((hX o).block kb hkl)
  exact ⟨(World.cell?_of_block hb).trans c1,(World.frozen?_of_block hb).trans fz⟩
 ·rw [← hv] at hg hat
  have hg':=hg
  have hb:=h.addF he heb (hX _) hg ho (by rw [hsz];exact hat)
  have hxs:=(hX (.cells (entC e).toArray 139)).size
  refine ⟨hb,⟨hg.os.trans (hX _).os,hg.tape.trans (hX _).tape,hg.output.trans (hX _).output,Nat.le_trans hxs (Nat.le_trans hg.size (by simp)),fun k hk hn => ?_⟩,fun x hx => ?_⟩
  ·have n1:k ≠ kb:=fun e => hn (mem_bookFp.2 (.inl e))
   exact (Below.heap_setCell w6 ⟨kb,2,none⟩ _ k n1).trans ((hg.block k (Nat.lt_of_lt_of_le hk hxs) (fun e => hn (mem_bookFp.2 (.inr <| .inr <| .inr e.symm)))).trans ((hX _).block k hk))
  ·rcases mem_bookFp.1 hx with e1 | e1 | e1 | e1
   ·exact .inl (mem_bookFp.2 (.inl e1))
   ·exact .inl (mem_bookFp.2 (.inr (.inl e1)))
   ·exact .inl (mem_bookFp.2 (.inr (.inr (.inl e1))))
   ·have e2:g = x:=by simpa [Value.ownBlock] using e1
    rcases hat with e3 | e3
    ·exact .inl (mem_bookFp.2 (.inr <| .inr <| .inr <| (by rw [e3,e2])))
    ·exact .inr (by omega)
 ·rw [← hv] at hg
  exact (Below.heap_setCell w6 ⟨kb,2,none⟩ _ x (h.apart x hx).1).trans ((hg.block x (Nat.lt_of_lt_of_le (h.lt x hx).2 (hX _).size) (fun e => (h.apart x hx).2.2 e.symm)).trans ((hX _).block x (h.lt x hx).2))
end
end Go.Proofs.YtceappncglfciaaGreat
namespace Go.Proofs.YtceappncglfciaaGreat
open Go.RowKit
structure OvAt {α:Type} (f:α → List Value) (t:TypeId) (sz:Nat) (y:α) (ms:List α) (W:World) (base kb:Nat) (ls:List Nat) (c:Int) (E F:List (Value × Int)) (ve vf v:Value) (xb k:Nat) (wr:World):Prop where
 book:BookAt wr base kb ls c E F ve vf
 row:wr.ownsRow base t sz v ms.length ((over y ms k).flatMap f)
 x:Box wr xb (f y).toArray t
 keeps:Keeps (bookFp kb ls ve vf ++ v.ownBlock.toList) W wr
 xb0:W.heap.size ≤ xb
 vlt:∀ g,v.ownBlock = some g → g < W.heap.size ∧ g ∉ bookFp kb ls ve vf
 fpl:∀ x ∈ bookFp kb ls ve vf,x < W.heap.size
section
variable {α:Type} {f:α → List Value} {t:TypeId} {sz:Nat} {y:α} {ms:List α} {W wr w6 X:World} {base kb:Nat} {ls:List Nat} {c:Int} {E F:List (Value × Int)} {ve vf v:Value} {xb k g cap:Nat}
theorem OvAt.step (h:OvAt f t sz y ms W base kb ls c E F ve vf (.slice (some ⟨g,0,none⟩) ms.length cap) xb k wr) (hf:∀ z,(f z).length = sz) (hk:k < ms.length):OvAt f t sz y ms W base kb ls c E F ve vf (.slice (some ⟨g,0,none⟩) ms.length cap) xb (k + 1) (wr.setCells g (k * sz) (f y)):=by
 have hg:=h.vlt g rfl
 have hot:∀ b,b ≠ g → (wr.setCells g (k * sz) (f y)).heap[b]? = wr.heap[b]?:=fun b hb => heap_setCells_other g b hb (f y) (k * sz) wr
 have hfr:=setCells_frame g (f y) (k * sz) wr
 refine ⟨h.book.same (fun x hx => hot x (fun e => hg.2 (e ▸ hx))) (by rw [hfr.2.2.2];exact Nat.le_refl _),?_,?_,?_,h.xb0,h.vlt,h.fpl⟩
 ·have:=row_store (y:=y) hf (show k < (over y ms k).length by rw [over_len _ _ _ (by omega)];exact hk) (over_len _ _ _ (by omega)) h.row
  rw [over_step y ms k hk] at this
  exact this
 ·exact (hot xb (fun e => by have:=h.xb0;omega)).trans h.x
 ·refine h.keeps.trans (fp':=[g]) ⟨hfr.1,hfr.2.1,hfr.2.2.1,by rw [hfr.2.2.2];exact Nat.le_refl _,fun b _ hb => hot b (by simpa using hb)⟩ (fun x hx => .inl ?_)
  rw [List.mem_singleton.1 hx]
  exact List.mem_append.2 (.inr (by simp [Value.ownBlock]))
theorem BookAt.joinV (h:BookAt W base kb ls c E F ve vf) (hv:∀ g,v.ownBlock = some g → g ∉ bookFp kb ls ve vf ∧ base ≤ g ∧ g < W.heap.size):BookAt W base kb (v.ownBlock.toList ++ ls) c E F ve vf:=by
 cases hb:v.ownBlock with
 | none => exact h
 | some g =>
  obtain ⟨h1,h2,h3⟩:=hv g hb
  exact h.join h1 h2 h3
end
structure TkAt {α:Type} (f:α → List Value) (t:TypeId) (sz:Nat) (y:α) (W:World) (fp0:List Nat) (vo:Option Nat) (base kb:Nat) (c:Int) (E F:List (Value × Int)) (ve vf:Value) (xb n:Nat) (vg:Value) (ls:List Nat) (wr:World):Prop where
 book:BookAt wr base kb ls c E F ve vf
 own:∀ g,vg.ownBlock = some g → g ∈ ls
 row:wr.ownsRow base t sz vg n ((List.replicate n y).flatMap f)
 bE:∀ e ∈ E,∀ x,vg.ownBlock = some x → e.1.ownBlock = some x → sliceLen e.1 * 10 ≤ n * sz
 bF:∀ e ∈ F,∀ x,vg.ownBlock = some x → e.1.ownBlock = some x → sliceLen e.1 * 2 ≤ n * sz
 x:Box wr xb (f y).toArray t
 xb0:W.heap.size ≤ xb
 xbo:xb ∉ bookFp kb ls ve vf
 keeps:Keeps (fp0 ++ vo.toList) W wr
 new:∀ x ∈ bookFp kb ls ve vf,x ∈ fp0 ∨ vo = some x ∨ W.heap.size ≤ x
section
variable {α:Type} {f:α → List Value} {t:TypeId} {sz:Nat} {y:α} {ms:List α} {W wr w6 w7 X:World} {fp0:List Nat} {vo:Option Nat} {base kb:Nat} {ls:List Nat} {c:Int} {E F E' F':List (Value × Int)} {ve vf v ve' vf' vg:Value} {xb n k g cap:Nat}
theorem OvAt.take (h:OvAt f t sz y ms W base kb ls c E F ve vf v xb ms.length wr):TkAt f t sz y W (bookFp kb ls ve vf) v.ownBlock base kb c E F ve vf xb ms.length v (v.ownBlock.toList ++ ls) wr:=by
 have hrow:=h.row
 rw [over_all] at hrow
 have hv:∀ g,v.ownBlock = some g → g ∉ bookFp kb ls ve vf ∧ base ≤ g ∧ g < wr.heap.size:=fun g hg => ⟨(h.vlt g hg).2,hrow.lt g hg⟩
 have hmem:∀ x,x ∈ bookFp kb (v.ownBlock.toList ++ ls) ve vf → x ∈ bookFp kb ls ve vf ∨ v.ownBlock = some x:=fun x hx => by
  rcases mem_bookFp.1 hx with e | e | e | e
  ·exact .inl (mem_bookFp.2 (.inl e))
  ·rcases List.mem_append.1 e with e | e
   ·exact .inr (by simpa using e)
   ·exact .inl (mem_bookFp.2 (.inr (.inl e)))
  ·exact .inl (mem_bookFp.2 (.inr (.inr (.inl e))))
  ·exact .inl (mem_bookFp.2 (.inr (.inr (.inr e))))
 refine ⟨h.book.joinV hv,fun g hg => List.mem_append.2 (.inl (by simp [hg])),hrow,fun e he x hx he2 => ?_,fun e he x hx he2 => ?_,h.x,h.xb0,fun hx => ?_,h.keeps,fun x hx => ?_⟩
 ·exact absurd (mem_bookFp.2 (.inr (.inl ((h.book.fullE e he).2 x he2)))) (h.vlt x hx).2
 ·exact absurd (mem_bookFp.2 (.inr (.inl ((h.book.fullF e he).2 x he2)))) (h.vlt x hx).2
 ·rcases hmem xb hx with e | e
  ·have:=h.fpl xb e
   have:=h.xb0
   omega
  ·have:=(h.vlt xb e).1
   have:=h.xb0
   omega
 ·rcases hmem x hx with e | e
  ·exact .inl e
  ·exact .inr (.inl e)
theorem TkAt.grow (h:TkAt f t sz y W fp0 vo base kb c E F ve vf xb n vg ls wr) (hX:Below wr.heap.size wr X) (hg:X.grownBy w6 vg.ownBlock) (ho:w6.ownsRow base t sz (.slice (some ⟨g,0,none⟩) (n + 1) cap) (n + 1) ((List.replicate n y).flatMap f ++ f y))
  (hat:vg.ownBlock = some g ∨ g = X.heap.size) (hgl:g < w6.heap.size) (hk:∀ g0,vg.ownBlock = some g0 → ∀ j,j < n * sz → w6.cell? ⟨g0,j,none⟩ = X.cell? ⟨g0,j,none⟩):TkAt f t sz y W fp0 vo base kb c E F ve vf xb (n + 1) (.slice (some ⟨g,0,none⟩) (n + 1) cap) (g :: ls) w6:=by
 obtain ⟨hb,hg0⟩:=h.book.grow (m:=n * sz) h.own hX hg hat hgl h.bE h.bF hk
 have hm:n * sz ≤ (n + 1) * sz:=Nat.mul_le_mul_right sz (by omega)
 have hxl:=h.x.lt
 have hxv:some xb ≠ vg.ownBlock:=fun e => h.xbo (mem_bookFp.2 (.inr (.inl (h.own xb e.symm))))
 have hxg:xb ≠ g:=fun e => by
  rcases hat with e1 | e1
  ·exact hxv (by rw [e1,e])
  ·have:=hX.size;omega
 have hgx:∀ x,(Value.slice (some ⟨g,0,none⟩) (n + 1) cap).ownBlock = some x → g = x:=fun x hx => by simpa [Value.ownBlock] using hx
 refine ⟨hb,fun x hx => by rw [← hgx x hx];exact List.mem_cons_self,?_,fun e he x hx he2 => ?_,fun e he x hx he2 => ?_,?_,h.xb0,fun hx => ?_,?_,fun x hx => ?_⟩
 ·rw [List.replicate_succ',List.flatMap_append,List.flatMap_singleton]
  exact ho
 ·have e1:=hgx x hx
  subst e1
  rcases hg0 with e2 | ⟨e2,_⟩
  ·exact Nat.le_trans (h.bE e he g e2 he2) hm
  ·exact absurd (mem_bookFp.2 (.inr (.inl ((h.book.fullE e he).2 g he2)))) e2
 ·have e1:=hgx x hx
  subst e1
  rcases hg0 with e2 | ⟨e2,_⟩
  ·exact Nat.le_trans (h.bF e he g e2 he2) hm
  ·exact absurd (mem_bookFp.2 (.inr (.inl ((h.book.fullF e he).2 g he2)))) e2
 ·exact (hg.block xb (Nat.lt_of_lt_of_le hxl hX.size) hxv).trans ((hX.block xb hxl).trans h.x)
 ·rcases mem_bookFp.1 hx with e | e | e | e
  ·exact h.xbo (mem_bookFp.2 (.inl e))
  ·rcases List.mem_cons.1 e with e | e
   ·exact hxg e
   ·exact h.xbo (mem_bookFp.2 (.inr (.inl e)))
  ·exact h.xbo (mem_bookFp.2 (.inr (.inr (.inl e))))
  ·exact h.xbo (mem_bookFp.2 (.inr (.inr (.inr e))))
 ·refine h.keeps.trans (fp':=vg.ownBlock.toList) ⟨hg.os.trans hX.os,hg.tape.trans hX.tape,hg.output.trans hX.output,Nat.le_trans hX.size hg.size,fun b hb1 hb2 => (hg.block b (Nat.lt_of_lt_of_le hb1 hX.size) (fun e => hb2 (by simp [← e]))).trans (hX.block b hb1)⟩ (fun x hx => ?_)
  have hx1:vg.ownBlock = some x:=by simpa using hx
  rcases h.new x (mem_bookFp.2 (.inr (.inl (h.own x hx1)))) with e | e | e
  ·exact .inl (List.mem_append.2 (.inl e))
  ·exact .inl (List.mem_append.2 (.inr (by simp [e])))
  ·exact .inr e
 ·rcases mem_bookFp.1 hx with e | e | e | e
  ·exact h.new x (mem_bookFp.2 (.inl e))
  ·rcases List.mem_cons.1 e with e | e
   ·rcases hg0 with e2 | ⟨_,e2⟩
    ·exact h.new x (mem_bookFp.2 (.inr (.inl (h.own x (by rw [e2,e])))))
    ·exact .inr (.inr (by rw [e];exact Nat.le_trans h.keeps.size e2))
   ·exact h.new x (mem_bookFp.2 (.inr (.inl e)))
  ·exact h.new x (mem_bookFp.2 (.inr (.inr (.inl e))))
  ·exact h.new x (mem_bookFp.2 (.inr (.inr (.inr e))))
theorem TkAt.recE {d:Int} (h:TkAt f t 10 y W fp0 vo base kb c E F ve vf xb n vg ls wr) (hb:BookAt w7 base kb ls c (E ++ [(vg,d)]) F ve' vf) (hk:Keeps (bookFp kb ls ve vf) wr w7) (hn:∀ x,x ∈ bookFp kb ls ve' vf → x ∈ bookFp kb ls ve vf ∨ wr.heap.size ≤ x) (hs:∀ x ∈ ls,w7.heap[x]? = wr.heap[x]?) :
  TkAt f t 10 y W fp0 vo base kb c (E ++ [(vg,d)]) F ve' vf xb n vg ls w7:=by
 have hxl:=h.x.lt
 refine ⟨hb,h.own,own_same h.row (fun b hb => hs b (h.own b hb)),?_,h.bF,(hk.block xb hxl h.xbo).trans h.x,h.xb0,fun hx => ?_,h.keeps.trans hk (fun x hx => ?_),fun x hx => ?_⟩
 ·intro e he x hx he2
  rcases List.mem_append.1 he with he | he
  ·exact h.bE e he x hx he2
  ·obtain ⟨a,cap,e1⟩:=row_shape h.row
   rw [List.mem_singleton.1 he,e1]
   exact Nat.le_refl _
 ·rcases hn xb hx with e | e
  ·exact h.xbo e
  ·omega
 ·rcases h.new x hx with e | e | e
  ·exact .inl (List.mem_append.2 (.inl e))
  ·exact .inl (List.mem_append.2 (.inr (by simp [e])))
  ·exact .inr e
 ·rcases hn x hx with e | e
  ·exact h.new x e
  ·exact .inr (.inr (Nat.le_trans h.keeps.size e))
theorem TkAt.recF {d:Int} (h:TkAt f t 2 y W fp0 vo base kb c E F ve vf xb n vg ls wr) (hb:BookAt w7 base kb ls c E (F ++ [(vg,d)]) ve vf') (hk:Keeps (bookFp kb ls ve vf) wr w7) (hn:∀ x,x ∈ bookFp kb ls ve vf' → x ∈ bookFp kb ls ve vf ∨ wr.heap.size ≤ x) (hs:∀ x ∈ ls,w7.heap[x]? = wr.heap[x]?) :
  TkAt f t 2 y W fp0 vo base kb c E (F ++ [(vg,d)]) ve vf' xb n vg ls w7:=by
 have hxl:=h.x.lt
 refine ⟨hb,h.own,own_same h.row (fun b hb => hs b (h.own b hb)),h.bE,?_,(hk.block xb hxl h.xbo).trans h.x,h.xb0,fun hx => ?_,h.keeps.trans hk (fun x hx => ?_),fun x hx => ?_⟩
 ·intro e he x hx he2
  rcases List.mem_append.1 he with he | he
  ·exact h.bF e he x hx he2
  ·obtain ⟨a,cap,e1⟩:=row_shape h.row
   rw [List.mem_singleton.1 he,e1]
   exact Nat.le_refl _
 ·rcases hn xb hx with e | e
  ·exact h.xbo e
  ·omega
 ·rcases h.new x hx with e | e | e
  ·exact .inl (List.mem_append.2 (.inl e))
  ·exact .inl (List.mem_append.2 (.inr (by simp [e])))
  ·exact .inr e
 ·rcases hn x hx with e | e
  ·exact h.new x e
  ·exact .inr (.inr (Nat.le_trans h.keeps.size e))
end
end Go.Proofs.YtceappncglfciaaGreat
