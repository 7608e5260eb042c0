import Derived.Test.YtceappncglfciaaGreatM12
set_option linter.unusedVariables false
set_option linter.unusedSimpArgs false
namespace Go.Proofs.YtceappncglfciaaGreat
open Go.RowKit
section
variable {W w':World} {bt i b:Nat} {q:PL} {p:PeerP} {pb bs:List Nat} {T:PTown}
def Close (W:World) (bt i b:Nat) (q:PL) (pb bs:List Nat) (T:PTown):Prop:=∀ W' q' p',PeerAt W' bt i b q' p' → (∀ x ∈ q'.blocks,x ∈ q.blocks ∨ W.heap.size ≤ x) → Keeps (b :: q.blocks) W W' → PDid W bt pb bs W' (T.setP i p')
theorem nodup_insert {a c:List Nat} {x:Option Nat} {n:Nat} (h:(a ++ (x.toList ++ c)).Nodup) (h1:∀ y ∈ a ++ (x.toList ++ c),y < n):(a ++ ((some n).toList ++ c)).Nodup:=by
 rw [List.nodup_append] at h ⊢
 obtain ⟨h2,h3,h4⟩:=h
 rw [List.nodup_append] at h3
 refine ⟨h2,?_,?_⟩
 ·rw [List.nodup_append]
  refine ⟨by simp,h3.2.1,fun y hy z hz e => ?_⟩
  have e1:y = n:=by simpa using hy
  have:=h1 z (by simp [hz])
  omega
 ·intro y hy z hz e
  rcases List.mem_append.1 hz with h5 | h5
  ·have e1:z = n:=by simpa using h5
   have:=h1 y (by simp [hy])
   omega
  ·exact h4 y hy z (by simp [h5]) e
theorem fresh_mv (hat:PeerAt W bt i b q p) (C:Close W bt i b q pb bs T) :
  PDid W bt pb bs ((W.alloc (.map #[] 0)).setCell ⟨b,73,none⟩ (.map (some W.heap.size))) (T.setP i { p with votes:=some none7 }):=by
 have hlt:=hat.lt
 have hbl:=hat.box.lt
 have hbn:=hat.b_notin
 have ne:W.heap.size ≠ b:=by omega
 have far:∀ k,k < W.heap.size → k ≠ b → ((W.alloc (.map #[] 0)).setCell ⟨b,73,none⟩ (.map (some W.heap.size))).heap[k]? = W.heap[k]?:=fun k hk hkb => (Below.heap_setCell _ _ _ _ hkb).trans (Below.heap_alloc _ _ _ hk)
 have fq:∀ k ∈ q.blocks,((W.alloc (.map #[] 0)).setCell ⟨b,73,none⟩ (.map (some W.heap.size))).heap[k]? = W.heap[k]?:=fun k hk => far k (hlt k hk) (fun e => hbn (e ▸ hk))
 have hs':∀ k,_ → ((W.alloc (.map #[] 0)).setCell ⟨b,73,none⟩ (.map (some W.heap.size))).heap[k]? = W.heap[k]?:=fun k hk => fq k ((PL.mem_blocks q k).2 hk)
 obtain ⟨s1,r1,c1⟩:=hat.cm
 obtain ⟨s2,r2,c2⟩:=hat.ct
 obtain ⟨s3,r3,c3⟩:=hat.co
 have e1:q.blocks = [q.cm,q.ct,q.co] ++ (q.mv.toList ++ (q.ms.toList ++ (q.mh.toList ++ (q.mj.toList ++ q.ma.toList)))):=by simp [PL.blocks]
 have e2:({ q with mv:=some W.heap.size }:PL).blocks = [q.cm,q.ct,q.co] ++ ((some W.heap.size).toList ++ (q.ms.toList ++ (q.mh.toList ++ (q.mj.toList ++ q.ma.toList)))):=by simp [PL.blocks]
 refine C _ { q with mv:=some W.heap.size } _ (PeerAt.mk ?_ ⟨s1,r1,(hs' _ (by simp)).trans c1⟩ ⟨s2,r2,(hs' _ (by simp)).trans c2⟩ ⟨s3,r3,(hs' _ (by simp)).trans c3⟩ ?_ ?_ ?_ ?_ ?_ ?_) ?_ ?_
 ·exact (hat.box.same (Below.heap_alloc W (.map #[] 0) b hbl)).set 73 (by omega) _
 ·exact MapIs.same (MapIs.made W) (Below.heap_setCell _ _ _ _ ne)
 ·exact hat.ms.same (fun k hk => hs' k (by simp [hk]))
 ·exact hat.mh.same (fun k hk => hs' k (by simp [hk]))
 ·exact hat.mj.same (fun k hk => hs' k (by simp [hk]))
 ·exact hat.ma.same (fun k hk => hs' k (by simp [hk]))
 ·rw [e2];exact nodup_insert (e1 ▸ hat.nd) (fun y hy => hlt y (by rw [e1];exact hy))
 ·intro x hx
  rw [e2] at hx
  rw [e1]
  simp only [List.mem_append] at hx ⊢
  rcases hx with hx | hx | hx
  ·exact .inl (.inl hx)
  ·right
   have:x = W.heap.size:=by simpa using hx
   omega
  ·exact .inl (.inr (.inr hx))
 ·exact ((Keeps.refl _ W).alloc _).own _ _
theorem turn_mv {g:Nat} {l':List (Option VoteM)} (hat:PeerAt W bt i b q p) (C:Close W bt i b q pb bs T) (hq:q.mv = some g) (hm:MapIs Tryz.prog 3 encVote w' g l') (hg:W.grownBy w' (some g)) :
  PDid W bt pb bs w' (T.setP i { p with votes:=some l' }):=by
 have hlt:=hat.lt
 have hbn:=hat.b_notin
 have hgq:g ∈ q.blocks:=(PL.mem_blocks q g).2 (by simp [hq])
 have far:∀ k,k < W.heap.size → k ≠ g → w'.heap[k]? = W.heap[k]?:=fun k hk hkg => hg.block k hk (by simpa using hkg)
 have e1:q.blocks = [q.cm,q.ct,q.co] ++ (q.mv.toList ++ (q.ms.toList ++ (q.mh.toList ++ (q.mj.toList ++ q.ma.toList)))):=by simp [PL.blocks]
 have nd:=hat.nd
 rw [e1,hq,List.nodup_append] at nd
 obtain ⟨_,n2,n3⟩:=nd
 rw [List.nodup_append] at n2
 have ap:∀ k ∈ [q.cm,q.ct,q.co],w'.heap[k]? = W.heap[k]?:=fun k hk => far k (hlt k (by rw [e1];exact List.mem_append_left _ hk)) (fun e => n3 k hk g (by simp) e)
 have po:∀ k ∈ ((q.ms.toList ++ (q.mh.toList ++ (q.mj.toList ++ q.ma.toList))):List Nat),w'.heap[k]? = W.heap[k]?:=fun k hk => far k (hlt k (by rw [e1];exact List.mem_append_right _ (List.mem_append_right _ hk))) (fun e => n2.2.2 g (by simp) k hk e.symm)
 have hs':∀ k,(k ∈ [q.cm,q.ct,q.co] ∨ k ∈ ((q.ms.toList ++ (q.mh.toList ++ (q.mj.toList ++ q.ma.toList))):List Nat)) → w'.heap[k]? = W.heap[k]?:=fun k hk => hk.elim (ap k) (po k)
 obtain ⟨s1,r1,c1⟩:=hat.cm
 obtain ⟨s2,r2,c2⟩:=hat.ct
 obtain ⟨s3,r3,c3⟩:=hat.co
 refine C _ q _ (PeerAt.mk ?_ ⟨s1,r1,(hs' _ (by simp)).trans c1⟩ ⟨s2,r2,(hs' _ (by simp)).trans c2⟩ ⟨s3,r3,(hs' _ (by simp)).trans c3⟩ ?_ ?_ ?_ ?_ ?_ hat.nd) (fun x hx => .inl hx) ?_
 ·exact hat.box.same (far b hat.box.lt (fun e => hbn (e ▸ hgq)))
 ·rw [hq];exact hm
 ·exact hat.ms.same (fun k hk => hs' k (by simp at hk ⊢;simp [hk]))
 ·exact hat.mh.same (fun k hk => hs' k (by simp at hk ⊢;simp [hk]))
 ·exact hat.mj.same (fun k hk => hs' k (by simp at hk ⊢;simp [hk]))
 ·exact hat.ma.same (fun k hk => hs' k (by simp at hk ⊢;simp [hk]))
 ·exact ⟨hg.os,hg.tape,hg.output,hg.size,fun k hk hn => far k hk (fun e => hn (by rw [e];simp [hgq]))⟩
theorem fresh_ms (hat:PeerAt W bt i b q p) (C:Close W bt i b q pb bs T) :
  PDid W bt pb bs ((W.alloc (.map #[] 0)).setCell ⟨b,74,none⟩ (.map (some W.heap.size))) (T.setP i { p with settled:=some none7 }):=by
 have hlt:=hat.lt
 have hbl:=hat.box.lt
 have hbn:=hat.b_notin
 have ne:W.heap.size ≠ b:=by omega
 have far:∀ k,k < W.heap.size → k ≠ b → ((W.alloc (.map #[] 0)).setCell ⟨b,74,none⟩ (.map (some W.heap.size))).heap[k]? = W.heap[k]?:=fun k hk hkb => (Below.heap_setCell _ _ _ _ hkb).trans (Below.heap_alloc _ _ _ hk)
 have fq:∀ k ∈ q.blocks,((W.alloc (.map #[] 0)).setCell ⟨b,74,none⟩ (.map (some W.heap.size))).heap[k]? = W.heap[k]?:=fun k hk => far k (hlt k hk) (fun e => hbn (e ▸ hk))
 have hs':∀ k,_ → ((W.alloc (.map #[] 0)).setCell ⟨b,74,none⟩ (.map (some W.heap.size))).heap[k]? = W.heap[k]?:=fun k hk => fq k ((PL.mem_blocks q k).2 hk)
 obtain ⟨s1,r1,c1⟩:=hat.cm
 obtain ⟨s2,r2,c2⟩:=hat.ct
 obtain ⟨s3,r3,c3⟩:=hat.co
 have e1:q.blocks = ([q.cm,q.ct,q.co] ++ q.mv.toList) ++ (q.ms.toList ++ (q.mh.toList ++ (q.mj.toList ++ q.ma.toList))):=by simp [PL.blocks]
 have e2:({ q with ms:=some W.heap.size }:PL).blocks = ([q.cm,q.ct,q.co] ++ q.mv.toList) ++ ((some W.heap.size).toList ++ (q.mh.toList ++ (q.mj.toList ++ q.ma.toList))):=by simp [PL.blocks]
 refine C _ { q with ms:=some W.heap.size } _ (PeerAt.mk ?_ ⟨s1,r1,(hs' _ (by simp)).trans c1⟩ ⟨s2,r2,(hs' _ (by simp)).trans c2⟩ ⟨s3,r3,(hs' _ (by simp)).trans c3⟩ ?_ ?_ ?_ ?_ ?_ ?_) ?_ ?_
 ·exact (hat.box.same (Below.heap_alloc W (.map #[] 0) b hbl)).set 74 (by omega) _
 ·exact hat.mv.same (fun k hk => hs' k (by simp [hk]))
 ·exact MapIs.same (MapIs.made W) (Below.heap_setCell _ _ _ _ ne)
 ·exact hat.mh.same (fun k hk => hs' k (by simp [hk]))
 ·exact hat.mj.same (fun k hk => hs' k (by simp [hk]))
 ·exact hat.ma.same (fun k hk => hs' k (by simp [hk]))
 ·rw [e2];exact nodup_insert (e1 ▸ hat.nd) (fun y hy => hlt y (by rw [e1];exact hy))
 ·intro x hx
  rw [e2] at hx
  rw [e1]
  simp only [List.mem_append] at hx ⊢
  rcases hx with hx | hx | hx
  ·exact .inl (.inl hx)
  ·right
   have:x = W.heap.size:=by simpa using hx
   omega
  ·exact .inl (.inr (.inr hx))
 ·exact ((Keeps.refl _ W).alloc _).own _ _
theorem turn_ms {g:Nat} {l':List (Option (VoteM × Int))} (hat:PeerAt W bt i b q p) (C:Close W bt i b q pb bs T) (hq:q.ms = some g) (hm:MapIs Tryz.prog 3 encStand w' g l') (hg:W.grownBy w' (some g)) :
  PDid W bt pb bs w' (T.setP i { p with settled:=some l' }):=by
 have hlt:=hat.lt
 have hbn:=hat.b_notin
 have hgq:g ∈ q.blocks:=(PL.mem_blocks q g).2 (by simp [hq])
 have far:∀ k,k < W.heap.size → k ≠ g → w'.heap[k]? = W.heap[k]?:=fun k hk hkg => hg.block k hk (by simpa using hkg)
 have e1:q.blocks = ([q.cm,q.ct,q.co] ++ q.mv.toList) ++ (q.ms.toList ++ (q.mh.toList ++ (q.mj.toList ++ q.ma.toList))):=by simp [PL.blocks]
 have nd:=hat.nd
 rw [e1,hq,List.nodup_append] at nd
 obtain ⟨_,n2,n3⟩:=nd
 rw [List.nodup_append] at n2
 have ap:∀ k ∈ ([q.cm,q.ct,q.co] ++ q.mv.toList),w'.heap[k]? = W.heap[k]?:=fun k hk => far k (hlt k (by rw [e1];exact List.mem_append_left _ hk)) (fun e => n3 k hk g (by simp) e)
 have po:∀ k ∈ ((q.mh.toList ++ (q.mj.toList ++ q.ma.toList)):List Nat),w'.heap[k]? = W.heap[k]?:=fun k hk => far k (hlt k (by rw [e1];exact List.mem_append_right _ (List.mem_append_right _ hk))) (fun e => n2.2.2 g (by simp) k hk e.symm)
 have hs':∀ k,(k ∈ ([q.cm,q.ct,q.co] ++ q.mv.toList) ∨ k ∈ ((q.mh.toList ++ (q.mj.toList ++ q.ma.toList)):List Nat)) → w'.heap[k]? = W.heap[k]?:=fun k hk => hk.elim (ap k) (po k)
 obtain ⟨s1,r1,c1⟩:=hat.cm
 obtain ⟨s2,r2,c2⟩:=hat.ct
 obtain ⟨s3,r3,c3⟩:=hat.co
 refine C _ q _ (PeerAt.mk ?_ ⟨s1,r1,(hs' _ (by simp)).trans c1⟩ ⟨s2,r2,(hs' _ (by simp)).trans c2⟩ ⟨s3,r3,(hs' _ (by simp)).trans c3⟩ ?_ ?_ ?_ ?_ ?_ hat.nd) (fun x hx => .inl hx) ?_
 ·exact hat.box.same (far b hat.box.lt (fun e => hbn (e ▸ hgq)))
 ·exact hat.mv.same (fun k hk => hs' k (by simp at hk ⊢;simp [hk]))
 ·rw [hq];exact hm
 ·exact hat.mh.same (fun k hk => hs' k (by simp at hk ⊢;simp [hk]))
 ·exact hat.mj.same (fun k hk => hs' k (by simp at hk ⊢;simp [hk]))
 ·exact hat.ma.same (fun k hk => hs' k (by simp at hk ⊢;simp [hk]))
 ·exact ⟨hg.os,hg.tape,hg.output,hg.size,fun k hk hn => far k hk (fun e => hn (by rw [e];simp [hgq]))⟩
theorem fresh_mh (hat:PeerAt W bt i b q p) (C:Close W bt i b q pb bs T) :
  PDid W bt pb bs ((W.alloc (.map #[] 0)).setCell ⟨b,77,none⟩ (.map (some W.heap.size))) (T.setP i { p with heard:=some none7 }):=by
 have hlt:=hat.lt
 have hbl:=hat.box.lt
 have hbn:=hat.b_notin
 have ne:W.heap.size ≠ b:=by omega
 have far:∀ k,k < W.heap.size → k ≠ b → ((W.alloc (.map #[] 0)).setCell ⟨b,77,none⟩ (.map (some W.heap.size))).heap[k]? = W.heap[k]?:=fun k hk hkb => (Below.heap_setCell _ _ _ _ hkb).trans (Below.heap_alloc _ _ _ hk)
 have fq:∀ k ∈ q.blocks,((W.alloc (.map #[] 0)).setCell ⟨b,77,none⟩ (.map (some W.heap.size))).heap[k]? = W.heap[k]?:=fun k hk => far k (hlt k hk) (fun e => hbn (e ▸ hk))
 have hs':∀ k,_ → ((W.alloc (.map #[] 0)).setCell ⟨b,77,none⟩ (.map (some W.heap.size))).heap[k]? = W.heap[k]?:=fun k hk => fq k ((PL.mem_blocks q k).2 hk)
 obtain ⟨s1,r1,c1⟩:=hat.cm
 obtain ⟨s2,r2,c2⟩:=hat.ct
 obtain ⟨s3,r3,c3⟩:=hat.co
 have e1:q.blocks = (([q.cm,q.ct,q.co] ++ q.mv.toList) ++ q.ms.toList) ++ (q.mh.toList ++ (q.mj.toList ++ q.ma.toList)):=by simp [PL.blocks]
 have e2:({ q with mh:=some W.heap.size }:PL).blocks = (([q.cm,q.ct,q.co] ++ q.mv.toList) ++ q.ms.toList) ++ ((some W.heap.size).toList ++ (q.mj.toList ++ q.ma.toList)):=by simp [PL.blocks]
 refine C _ { q with mh:=some W.heap.size } _ (PeerAt.mk ?_ ⟨s1,r1,(hs' _ (by simp)).trans c1⟩ ⟨s2,r2,(hs' _ (by simp)).trans c2⟩ ⟨s3,r3,(hs' _ (by simp)).trans c3⟩ ?_ ?_ ?_ ?_ ?_ ?_) ?_ ?_
 ·exact (hat.box.same (Below.heap_alloc W (.map #[] 0) b hbl)).set 77 (by omega) _
 ·exact hat.mv.same (fun k hk => hs' k (by simp [hk]))
 ·exact hat.ms.same (fun k hk => hs' k (by simp [hk]))
 ·exact MapIs.same (MapIs.made W) (Below.heap_setCell _ _ _ _ ne)
 ·exact hat.mj.same (fun k hk => hs' k (by simp [hk]))
 ·exact hat.ma.same (fun k hk => hs' k (by simp [hk]))
 ·rw [e2];exact nodup_insert (e1 ▸ hat.nd) (fun y hy => hlt y (by rw [e1];exact hy))
 ·intro x hx
  rw [e2] at hx
  rw [e1]
  simp only [List.mem_append] at hx ⊢
  rcases hx with hx | hx | hx
  ·exact .inl (.inl hx)
  ·right
   have:x = W.heap.size:=by simpa using hx
   omega
  ·exact .inl (.inr (.inr hx))
 ·exact ((Keeps.refl _ W).alloc _).own _ _
theorem turn_mh {g:Nat} {l':List (Option Int)} (hat:PeerAt W bt i b q p) (C:Close W bt i b q pb bs T) (hq:q.mh = some g) (hm:MapIs Tryz.prog 3 encInt w' g l') (hg:W.grownBy w' (some g)) :
  PDid W bt pb bs w' (T.setP i { p with heard:=some l' }):=by
 have hlt:=hat.lt
 have hbn:=hat.b_notin
 have hgq:g ∈ q.blocks:=(PL.mem_blocks q g).2 (by simp [hq])
 have far:∀ k,k < W.heap.size → k ≠ g → w'.heap[k]? = W.heap[k]?:=fun k hk hkg => hg.block k hk (by simpa using hkg)
 have e1:q.blocks = (([q.cm,q.ct,q.co] ++ q.mv.toList) ++ q.ms.toList) ++ (q.mh.toList ++ (q.mj.toList ++ q.ma.toList)):=by simp [PL.blocks]
 have nd:=hat.nd
 rw [e1,hq,List.nodup_append] at nd
 obtain ⟨_,n2,n3⟩:=nd
 rw [List.nodup_append] at n2
 have ap:∀ k ∈ (([q.cm,q.ct,q.co] ++ q.mv.toList) ++ q.ms.toList),w'.heap[k]? = W.heap[k]?:=fun k hk => far k (hlt k (by rw [e1];exact List.mem_append_left _ hk)) (fun e => n3 k hk g (by simp) e)
 have po:∀ k ∈ ((q.mj.toList ++ q.ma.toList):List Nat),w'.heap[k]? = W.heap[k]?:=fun k hk => far k (hlt k (by rw [e1];exact List.mem_append_right _ (List.mem_append_right _ hk))) (fun e => n2.2.2 g (by simp) k hk e.symm)
 have hs':∀ k,(k ∈ (([q.cm,q.ct,q.co] ++ q.mv.toList) ++ q.ms.toList) ∨ k ∈ ((q.mj.toList ++ q.ma.toList):List Nat)) → w'.heap[k]? = W.heap[k]?:=fun k hk => hk.elim (ap k) (po k)
 obtain ⟨s1,r1,c1⟩:=hat.cm
 obtain ⟨s2,r2,c2⟩:=hat.ct
 obtain ⟨s3,r3,c3⟩:=hat.co
 refine C _ q _ (PeerAt.mk ?_ ⟨s1,r1,(hs' _ (by simp)).trans c1⟩ ⟨s2,r2,(hs' _ (by simp)).trans c2⟩ ⟨s3,r3,(hs' _ (by simp)).trans c3⟩ ?_ ?_ ?_ ?_ ?_ hat.nd) (fun x hx => .inl hx) ?_
 ·exact hat.box.same (far b hat.box.lt (fun e => hbn (e ▸ hgq)))
 ·exact hat.mv.same (fun k hk => hs' k (by simp at hk ⊢;simp [hk]))
 ·exact hat.ms.same (fun k hk => hs' k (by simp at hk ⊢;simp [hk]))
 ·rw [hq];exact hm
 ·exact hat.mj.same (fun k hk => hs' k (by simp at hk ⊢;simp [hk]))
 ·exact hat.ma.same (fun k hk => hs' k (by simp at hk ⊢;simp [hk]))
 ·exact ⟨hg.os,hg.tape,hg.output,hg.size,fun k hk hn => far k hk (fun e => hn (by rw [e];simp [hgq]))⟩
theorem turn_mj {g:Nat} {l':List (Option Int)} (hat:PeerAt W bt i b q p) (C:Close W bt i b q pb bs T) (hq:q.mj = some g) (hm:MapIs Tryz.prog 3 encInt w' g l') (hg:W.grownBy w' (some g)) :
  PDid W bt pb bs w' (T.setP i { p with joined:=some l' }):=by
 have hlt:=hat.lt
 have hbn:=hat.b_notin
 have hgq:g ∈ q.blocks:=(PL.mem_blocks q g).2 (by simp [hq])
 have far:∀ k,k < W.heap.size → k ≠ g → w'.heap[k]? = W.heap[k]?:=fun k hk hkg => hg.block k hk (by simpa using hkg)
 have e1:q.blocks = ((([q.cm,q.ct,q.co] ++ q.mv.toList) ++ q.ms.toList) ++ q.mh.toList) ++ (q.mj.toList ++ q.ma.toList):=by simp [PL.blocks]
 have nd:=hat.nd
 rw [e1,hq,List.nodup_append] at nd
 obtain ⟨_,n2,n3⟩:=nd
 rw [List.nodup_append] at n2
 have ap:∀ k ∈ ((([q.cm,q.ct,q.co] ++ q.mv.toList) ++ q.ms.toList) ++ q.mh.toList),w'.heap[k]? = W.heap[k]?:=fun k hk => far k (hlt k (by rw [e1];exact List.mem_append_left _ hk)) (fun e => n3 k hk g (by simp) e)
 have po:∀ k ∈ (q.ma.toList:List Nat),w'.heap[k]? = W.heap[k]?:=fun k hk => far k (hlt k (by rw [e1];exact List.mem_append_right _ (List.mem_append_right _ hk))) (fun e => n2.2.2 g (by simp) k hk e.symm)
 have hs':∀ k,(k ∈ ((([q.cm,q.ct,q.co] ++ q.mv.toList) ++ q.ms.toList) ++ q.mh.toList) ∨ k ∈ (q.ma.toList:List Nat)) → w'.heap[k]? = W.heap[k]?:=fun k hk => hk.elim (ap k) (po k)
 obtain ⟨s1,r1,c1⟩:=hat.cm
 obtain ⟨s2,r2,c2⟩:=hat.ct
 obtain ⟨s3,r3,c3⟩:=hat.co
 refine C _ q _ (PeerAt.mk ?_ ⟨s1,r1,(hs' _ (by simp)).trans c1⟩ ⟨s2,r2,(hs' _ (by simp)).trans c2⟩ ⟨s3,r3,(hs' _ (by simp)).trans c3⟩ ?_ ?_ ?_ ?_ ?_ hat.nd) (fun x hx => .inl hx) ?_
 ·exact hat.box.same (far b hat.box.lt (fun e => hbn (e ▸ hgq)))
 ·exact hat.mv.same (fun k hk => hs' k (by simp at hk ⊢;simp [hk]))
 ·exact hat.ms.same (fun k hk => hs' k (by simp at hk ⊢;simp [hk]))
 ·exact hat.mh.same (fun k hk => hs' k (by simp at hk ⊢;simp [hk]))
 ·rw [hq];exact hm
 ·exact hat.ma.same (fun k hk => hs' k (by simp at hk ⊢;simp [hk]))
 ·exact ⟨hg.os,hg.tape,hg.output,hg.size,fun k hk hn => far k hk (fun e => hn (by rw [e];simp [hgq]))⟩
theorem turn_ma {g:Nat} {l':List (Option Unit)} (hat:PeerAt W bt i b q p) (C:Close W bt i b q pb bs T) (hq:q.ma = some g) (hm:MapIs Tryz.prog 3 encUnit w' g l') (hg:W.grownBy w' (some g)) :
  PDid W bt pb bs w' (T.setP i { p with acked:=some l' }):=by
 have hlt:=hat.lt
 have hbn:=hat.b_notin
 have hgq:g ∈ q.blocks:=(PL.mem_blocks q g).2 (by simp [hq])
 have far:∀ k,k < W.heap.size → k ≠ g → w'.heap[k]? = W.heap[k]?:=fun k hk hkg => hg.block k hk (by simpa using hkg)
 have e1:q.blocks = (((([q.cm,q.ct,q.co] ++ q.mv.toList) ++ q.ms.toList) ++ q.mh.toList) ++ q.mj.toList) ++ (q.ma.toList ++ []):=by simp [PL.blocks]
 have nd:=hat.nd
 rw [e1,hq,List.nodup_append] at nd
 obtain ⟨_,n2,n3⟩:=nd
 rw [List.nodup_append] at n2
 have ap:∀ k ∈ (((([q.cm,q.ct,q.co] ++ q.mv.toList) ++ q.ms.toList) ++ q.mh.toList) ++ q.mj.toList),w'.heap[k]? = W.heap[k]?:=fun k hk => far k (hlt k (by rw [e1];exact List.mem_append_left _ hk)) (fun e => n3 k hk g (by simp) e)
 have po:∀ k ∈ ([]:List Nat),w'.heap[k]? = W.heap[k]?:=fun k hk => far k (hlt k (by rw [e1];exact List.mem_append_right _ (List.mem_append_right _ hk))) (fun e => n2.2.2 g (by simp) k hk e.symm)
 have hs':∀ k,(k ∈ (((([q.cm,q.ct,q.co] ++ q.mv.toList) ++ q.ms.toList) ++ q.mh.toList) ++ q.mj.toList) ∨ k ∈ ([]:List Nat)) → w'.heap[k]? = W.heap[k]?:=fun k hk => hk.elim (ap k) (po k)
 obtain ⟨s1,r1,c1⟩:=hat.cm
 obtain ⟨s2,r2,c2⟩:=hat.ct
 obtain ⟨s3,r3,c3⟩:=hat.co
 refine C _ q _ (PeerAt.mk ?_ ⟨s1,r1,(hs' _ (by simp)).trans c1⟩ ⟨s2,r2,(hs' _ (by simp)).trans c2⟩ ⟨s3,r3,(hs' _ (by simp)).trans c3⟩ ?_ ?_ ?_ ?_ ?_ hat.nd) (fun x hx => .inl hx) ?_
 ·exact hat.box.same (far b hat.box.lt (fun e => hbn (e ▸ hgq)))
 ·exact hat.mv.same (fun k hk => hs' k (by simp at hk ⊢;simp [hk]))
 ·exact hat.ms.same (fun k hk => hs' k (by simp at hk ⊢;simp [hk]))
 ·exact hat.mh.same (fun k hk => hs' k (by simp at hk ⊢;simp [hk]))
 ·exact hat.mj.same (fun k hk => hs' k (by simp at hk ⊢;simp [hk]))
 ·rw [hq];exact hm
 ·exact ⟨hg.os,hg.tape,hg.output,hg.size,fun k hk hn => far k hk (fun e => hn (by rw [e];simp [hgq]))⟩
end
end Go.Proofs.YtceappncglfciaaGreat
namespace Go.Proofs.YtceappncglfciaaGreat
open Go.RowKit
attribute [local go_sem ↓] Go.wp_at_zero Go.wp_at_succ
set_option maxRecDepth 100000 in
set_option maxHeartbeats 1000000 in
theorem become_any (i b:Nat) (s:Int) (W:World) (bt:Nat) (pb bs:List Nat) (T:PTown) (h:PR W bt pb bs T) (hb:pb[i]? = some b) :
  Calls Tryz.prog 136 #[.pointer (some ⟨b,0,none⟩),.int .i64 s] W fun o w' => o = .returned (.tuple #[]) ∧ PDid W bt pb bs w' (T.setP i ((T.peer i).become s)):=by
 obtain ⟨hi,q,hat,hbt,hbb,hqb,hbq,C⟩:=h.at hb
 have c68:=hat.f68
 have c73:=hat.f73
 have c74:=hat.f74
 have c75:=hat.f75
 have c76:=hat.f76
 have c77:=hat.f77
 have c78:=hat.f78
 have c79:=hat.f79
 have c80:=hat.f80
 have c81:=hat.f81
 have c82:=hat.f82
 have z68:=hat.fz 68
 have z73:=hat.fz 73
 have z74:=hat.fz 74
 have z75:=hat.fz 75
 have z76:=hat.fz 76
 have z77:=hat.fz 77
 have z78:=hat.fz 78
 have z79:=hat.fz 79
 have z80:=hat.fz 80
 have z81:=hat.fz 81
 have z82:=hat.fz 82
 have HC:=hide C
 have HAT:=hide hat
 clear h hat C
 go_enter Tryz.func136,Tryz.ntmps136
 go_wp2
 go_end0
 refine ⟨rfl,?_⟩
 exact stores_close (unhide HAT) (unhide HC) [(68,.int .i64 s),(73,.map none),(74,.map none),(75,.bool false),(76,.int .i64 0),(77,.map none),(78,.int .i64 0),(79,.int .i64 0),(80,.map none),(81,.map none),(82,.bool false)] { q with mv:=none,ms:=none,mh:=none,mj:=none,ma:=none } ((T.peer i).become s) (by simp) rfl
end Go.Proofs.YtceappncglfciaaGreat
namespace Go.Proofs.YtceappncglfciaaGreat
open Go.RowKit Go.Maps
attribute [local go_sem ↓] Go.wp_at_zero Go.wp_at_succ
section
variable {α:Type} {enc:α → Value} {W:World} {g:Nat} {l:List (Option α)}
theorem i64_wf {x:Int} (h:I64 x):(Lit.int .i64 x).wf = true:=by
 show (decide ((-9223372036854775808:Int) ≤ x) && decide (x ≤ (9223372036854775807:Int))) = true
 simp only [Bool.and_eq_true,decide_eq_true_eq]
 exact h
theorem key_int (k:Nat) (hk:k < 7):keyOf Tryz.prog 3 (.int .i64 (k:Int)) = some (.int .i64 (k:Int)):=keyOf_int_mk Tryz.underlying3 (i64_wf ⟨by omega,by omega⟩)
theorem MapIs.put (h:MapIs Tryz.prog 3 enc W g l) {t e:TypeId} (ht:Tryz.prog.underlying t = some (.map 3 e)) (k:Nat) (hk:k < 7) (v:α) :
  ∃ w',(Instr.mapUpdate t (.map (some g)) (.int .i64 (k:Int)) (enc v)).run Tryz.prog W = .ok () w' ∧ MapIs Tryz.prog 3 enc w' g (l.set k (some v)) ∧ W.grownBy w' (some g):=by
 obtain ⟨w',hrun,hown,hg⟩:=h.1.update (int_keyed Tryz.underlying3) ht (by unfold maxLen;omega) (key_int k hk) (show rawElem (enc v) = some (.held (enc v),[]) from rfl)
 refine ⟨w',hrun,MapIs.of (n:=8) ?_ (by rw [List.length_set];exact h.2),hg⟩
 rw [data_put enc l k v (by rw [h.2];exact hk)] at hown
 exact hown
end
set_option maxRecDepth 100000 in
set_option maxHeartbeats 1000000 in
theorem noteHeard_any (i b k:Nat) (W:World) (bt:Nat) (pb bs:List Nat) (T:PTown) (h:PR W bt pb bs T) (hb:pb[i]? = some b) (hk:k < 7) (l:List (Option Int)) (hl:(T.peer i).heard = some l) :
  Calls Tryz.prog 131 #[.pointer (some ⟨b,0,none⟩),.int .i64 (k:Int)] W fun o w' => o = .returned (.tuple #[]) ∧ PDid W bt pb bs w' (T.noteHeard i (k:Int)):=by
 obtain ⟨hi,q,hat,hbt,hbb,hqb,hbq,C⟩:=h.at hb
 obtain ⟨bp,capP,way,ev,hbx,_⟩:=h.turn
 have t4:W.cell? ⟨bt,4,none⟩ = some (.int .i64 T.now):=hbx.cell 4
 have hmh:=hat.mh
 rw [hl] at hmh
 obtain ⟨g,hg,hm⟩:=hmh.some
 have c0:=hat.town
 have c77:=hat.f77
 rw [hg] at c77
 obtain ⟨w',hrun,hm',hgr⟩:=MapIs.put (W:=W.drew) (enc:=encInt) (hm.same rfl) Tryz.underlying105 k hk T.now
 have HF:Hid (PDid W bt pb bs w' (T.noteHeard i (k:Int))):=by
  have:=turn_mh hat C hg hm' (show W.grownBy w' (some g) from ⟨hgr.os,hgr.tape,hgr.output,hgr.size,hgr.block⟩)
  have e:T.noteHeard i (k:Int) = T.setP i { T.peer i with heard:=some (l.set k (some T.now)) }:=by
   simp [PTown.noteHeard,PTown.hearOf,mapL,hl]
  show PDid _ _ _ _ _ _
  rw [e];exact this
 simp only [encInt] at hrun
 clear h hat C hm hm' hgr hmh hbx
 go_enter Tryz.func131,Tryz.ntmps131
 go_region_with (fail)
 all_goals
  go_wp2
  go_end0
  exact ⟨rfl,unhide HF⟩
end Go.Proofs.YtceappncglfciaaGreat
namespace Go.Proofs.YtceappncglfciaaGreat
open Go.RowKit
attribute [local go_sem ↓] Go.wp_at_zero Go.wp_at_succ
theorem Tryz.infoInt:(Tryz.prog.info? 3).map (fun i => (i.zero,i.size,i.bytes)) = some (some (.int .i64 0),1,8):=by kernel_rfl
theorem others_len (i:Nat):∀ k,(PTown.othersTo i k).length ≤ k
 | 0 => Nat.le_refl _
 | k + 1 => by
  have:=others_len i k
  rw [PTown.othersTo]
  split
  ·omega
  ·simp;omega
set_option maxRecDepth 100000 in
set_option maxHeartbeats 1000000 in
theorem others_any (i b:Nat) (W:World) (bt:Nat) (pb bs:List Nat) (T:PTown) (h:PR W bt pb bs T) (hb:pb[i]? = some b) (hp:T.ps.length ≤ 7) :
  Calls Tryz.prog 158 #[.pointer (some ⟨b,0,none⟩)] W fun o w' => ∃ v,o = .returned v ∧ w'.ownsRow W.heap.size 3 1 v (PTown.othersTo i T.ps.length).length ((PTown.othersTo i T.ps.length).map (Value.int .i64)) ∧ Below W.heap.size W w':=by
 obtain ⟨i0,hi0,hz0,hz1,hz2⟩:=info_parts Tryz.infoInt
 obtain ⟨hi,q,hat,hbt,hbb,hqb,hbq,C⟩:=h.at hb
 obtain ⟨bp,capP,way,ev,hbx,_⟩:=h.turn
 have t0:W.cell? ⟨bt,0,none⟩ = some (.slice (some ⟨bp,0,none⟩) T.ps.length capP):=hbx.cell 0
 have hbl:b < W.heap.size:=hat.box.lt
 have c0:=hat.town
 have c1:=hat.num
 clear h hat C hbx hqb
 go_enter Tryz.func158,Tryz.ntmps158
 go_wp2
 go_loopw [3,13] (fun v c wr => ∃ k:Nat,k ≤ T.ps.length ∧ c = .int .i64 k ∧ wr.ownsRow W.heap.size 3 1 v (PTown.othersTo i k).length ((PTown.othersTo i k).map (Value.int .i64)) ∧ Below W.heap.size W wr) (fun _ c _ => T.ps.length - (RowKit.intOf c).toNat)
 case atStart => exact ⟨0,Nat.zero_le _,rfl,World.ownsRow_nil _ _ _ _,Below.refl _ _⟩
 case round =>
  obtain ⟨k,hk,rfl,hown,hB⟩:=hrel
  have d1:=(hB.cell (p:=⟨b,1,none⟩) hbl).trans c1
  by_cases hlt:k < T.ps.length
  ·by_cases hki:k = i
   ·have hq:((k:Int) == (i:Int)) = true:=by simp [hki]
    have fin:Hid (wr.ownsRow W.heap.size 3 1 u3 (PTown.othersTo i (k + 1)).length ((PTown.othersTo i (k + 1)).map (Value.int .i64)) ∧ Below W.heap.size W wr):=by
     have:PTown.othersTo i (k + 1) = PTown.othersTo i k:=by simp [PTown.othersTo,hki]
     rw [this]
     exact ⟨hown,hB⟩
    clear hki hown hB
    go_wp2
    go_roundw
    case rel => exact ⟨k + 1,by omega,by go_num,(unhide fin).1,(unhide fin).2⟩
    case measure => simp [RowKit.intOf];omega
   ·have hq:((k:Int) == (i:Int)) = false:=beq_eq_false_iff_ne.2 (by omega)
    have hst:Hid (PTown.othersTo i (k + 1) = PTown.othersTo i k ++ [(k:Int)]):=by simp [PTown.othersTo,hki,Hid]
    have hol:=others_len i k
    clear hki
    have HB:=hide hB
    have hsz:=hB.size
    clear hB
    go_wp2_with (at_builtin;refine wpList_append_own _ rfl _ _ 165 rfl W.heap.size 3 i0 (.int .i64 0) 1 8 Tryz.underlying165 hi0 hz0 hz1 hz2 rfl (by decide) _ _ _ rfl (hown.alloc _) ⟨wr.heap.size,0,none⟩ 1 1 [.int .i64 (k:Int)] rfl rfl ?c1 ?c2 ?c3 ?c4 ?c5 ?_)
    case c1 =>
     intro j u hj
     rw [show (⟨wr.heap.size,0,none⟩:Addr).add j = ⟨wr.heap.size,j,none⟩ from by unfold Addr.add;split <;> simp_all]
     rw [World.cell?_alloc_at _ _ _ _ rfl]
     simpa using hj
    case c2 =>
     intro u hu
     have:u = .int .i64 (k:Int):=by simpa using hu
     subst this;rfl
    case c3 => unfold maxLen;omega
    case c4 => omega
    case c5 => simp;omega
    intro v' w1 hown' hgrow _
    have fin:Hid (w1.ownsRow W.heap.size 3 1 v' (PTown.othersTo i (k + 1)).length ((PTown.othersTo i (k + 1)).map (Value.int .i64)) ∧ Below W.heap.size W w1):=by
     refine ⟨?_,((unhide HB).alloc hsz _).grown hgrow (by simp;omega) (fun k hk => (hown.lt k hk).1)⟩
     rw [unhide hst]
     simpa using hown'
    clear hown hown' hgrow HB hst
    go_wp2
    go_roundw
    case rel => exact ⟨k + 1,by omega,by go_num,(unhide fin).1,(unhide fin).2⟩
    case measure => simp [RowKit.intOf];omega
  ·have hke:k = T.ps.length:=by omega
   have fin:Hid (wr.ownsRow W.heap.size 3 1 u3 (PTown.othersTo i T.ps.length).length ((PTown.othersTo i T.ps.length).map (Value.int .i64)) ∧ Below W.heap.size W wr):=by rw [← hke];exact ⟨hown,hB⟩
   clear hown hB hke
   go_wp2
   go_ret
   exact ⟨_,rfl,(unhide fin).1,(unhide fin).2⟩
set_option maxRecDepth 100000 in
set_option maxHeartbeats 1000000 in
theorem forItself_any (i b:Nat) (W:World) (bt:Nat) (pb bs:List Nat) (T:PTown) (h:PR W bt pb bs T) (hb:pb[i]? = some b) :
  Calls Tryz.prog 138 #[.pointer (some ⟨b,0,none⟩)] W fun o w' => o = .returned (.agg #[.int .i64 (T.peer i).c.e,.int .i64 (T.peer i).c.v,.int .i64 (i:Int)]) ∧ Below W.heap.size W w':=by
 obtain ⟨hi,q,hat,hbt,hbb,hqb,hbq,C⟩:=h.at hb
 have hbl:b < W.heap.size:=hat.box.lt
 have c1:=hat.num
 have c66:=hat.f66
 have c67:=hat.f67
 clear h hat C hqb
 go_enter Tryz.func138,Tryz.ntmps138
 go_wp2
 go_region_held3 (fun w' => w'.cell? ⟨b,1,none⟩ = some (.int .i64 (i:Int)) ∧ w'.cell? ⟨b,66,none⟩ = some (.int .i64 (T.peer i).c.e) ∧ w'.cell? ⟨b,67,none⟩ = some (.int .i64 (T.peer i).c.v)) (go_keep) (fail)
 go_wp2
 exact bodyPost_ret (v:=.agg #[.int .i64 (T.peer i).c.e,.int .i64 (T.peer i).c.v,.int .i64 (i:Int)]) (by simp [results,Tryz.results138,go_sem]) rfl ⟨rfl,((Below.refl _ _).alloc (Nat.le_refl _) _).drew⟩
set_option maxRecDepth 100000 in
set_option maxHeartbeats 1000000 in
theorem tell_any (i b:Nat) (W:World) (bt:Nat) (pb bs:List Nat) (T:PTown) (h:PR W bt pb bs T) (hb:pb[i]? = some b) (hn:T.net ≤ 1000) (dl:List Int) (v:Value) (hv:ToRow W v dl) (hl:dl.length ≤ 7) :
  Calls Tryz.prog 142 #[.pointer (some ⟨b,0,none⟩),v] W fun o w' => o = .returned (.tuple #[]) ∧ PDid W bt pb bs w' (T.tell i dl):=by
 obtain ⟨hi,q,hat,hbt,hbb,hqb,hbq,C⟩:=h.at hb
 have c68:=hat.f68
 have c69:=hat.f69
 have c70:=hat.f70
 have c71:=hat.f71
 have c72:=hat.f72
 have hb1:=(Below.refl W.heap.size W).drew
 have HC:Hid (Calls Tryz.prog 114 #[.pointer (some ⟨b,0,none⟩),(T.noticeM i).val,v] W.drew fun o w' => o = .returned (.tuple #[]) ∧ PDid W bt pb bs w' (T.tell i dl)) :=
  (send_any i b (T.noticeM i) W.drew bt pb bs T (h.below hb1) hb hn dl v hv hl).mono (fun o w' hh => ⟨hh.1,hh.2.pre hb1⟩)
 simp only [MsgM.val,PTown.noticeM] at HC
 clear h hat C hqb hb1 hv
 go_enter Tryz.func142,Tryz.ntmps142
 go_region_with ((go_at_call 114;refine (unhide HC).mono ?_;rintro o w1 ⟨rfl,hd⟩))
 all_goals
  have HD:=hide hd
  clear hd
  go_wp2
  go_end0
  exact ⟨rfl,unhide HD⟩
end Go.Proofs.YtceappncglfciaaGreat
