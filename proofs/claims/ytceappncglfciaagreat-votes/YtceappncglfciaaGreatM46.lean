import Derived.Test.YtceappncglfciaaGreatM45
import Derived.Deep.LoopGhost
import Derived.Deep.CutBlock
import Derived.Deep.DeepCutAuto
set_option linter.unusedVariables false
set_option linter.unusedSimpArgs false
namespace Go.Proofs.YtceappncglfciaaGreat
open Go.RowKit
attribute [local go_sem ↓] Go.wp_at_zero Go.wp_at_succ
theorem row_cell {α:Type} {f:α → List Value} {W:World} {base:Nat} {t:TypeId} {c:Nat} {v:Value} {n:Nat} {l:List α} (hf:∀ z,(f z).length = c) (h:W.ownsRow base t c v n (l.flatMap f)) {k:Nat} (hk:k < l.length) (hn:0 < n) (d:α) :
  ∃ g cap,v = .slice (some ⟨g,0,none⟩) n cap ∧ g < W.heap.size ∧ ∀ j u,(f (l.getD k d))[j]? = some u → W.cell? ⟨g,k * c + j,none⟩ = some u:=by
 rcases h.2 with ⟨_,h1⟩ | ⟨g,cap,cur,hv,hb,hg,hnc,hcm,hcs,htake⟩
 ·omega
 ·refine ⟨g,cap,hv,(Array.getElem?_eq_some_iff.1 hg).1,fun j u hu => ?_⟩
  have hj:j < c:=by rw [← hf (l.getD k d)];exact (List.getElem?_eq_some_iff.1 hu).1
  have h2:=flat_get f c l k j (l.getD k d) (fun z _ => hf z) (by rw [List.getD_eq_getElem?_getD,List.getElem?_eq_getElem hk];rfl) hj
  rw [hu,← htake,List.getElem?_take] at h2
  split at h2
  ·rw [Array.getElem?_toList] at h2
   exact (cell_of_row W g _ cur t (0,0) hg).trans h2
  ·cases h2
theorem msgLen (m:MsgM):m.cells.length = 10:=rfl
theorem evcLen (m:Int × Int):(evC m).length = 2:=rfl
set_option maxRecDepth 100000 in
set_option maxHeartbeats 4000000 in
theorem takeM_any (W:World) (base kb:Nat) (ls:List Nat) (c:Int) (E F:List (Value × Int)) (ve vf:Value) (ms:List MsgM) (v m:Value)
  (hB:BookAt W base kb ls c E F ve vf) (hv:W.ownsRow base 133 10 v ms.length (ms.flatMap MsgM.cells)) (hm:W.ownsRow 0 133 10 m ms.length (ms.flatMap MsgM.cells)) (hn:ms.length ≤ 1000)
  (hvn:∀ g,v.ownBlock = some g → g ∉ bookFp kb ls ve vf) (hc:0 ≤ c ∧ c ≤ 1000000) (hE:E.length ≤ 4000000) :
  Calls Tryz.prog 60 #[.pointer (some ⟨kb,0,none⟩),v,m] W fun o w' => o = .returned (.bool true) ∧ ∃ ls' E' ve',BookAt w' base kb ls' (c + 1) E' F ve' vf ∧ E'.length ≤ E.length + 4 ∧ Keeps (bookFp kb ls ve vf ++ v.ownBlock.toList) W w' ∧
   ∀ x ∈ bookFp kb ls' ve' vf,x ∈ bookFp kb ls ve vf ∨ v.ownBlock = some x ∨ W.heap.size ≤ x:=by
 obtain ⟨va,vcap,rfl⟩:=row_shape hv
 obtain ⟨ma,mcap,rfl⟩:=row_shape hm
 have HB:=hide hB
 have HV:=hide hv
 have HM:=hide hm
 have HVN:=hide hvn
 clear hB hv hm hvn
 go_enter Tryz.func60,Tryz.ntmps60
 go_wp2_with fail
 go_loopw [7,8] (fun ok i wr => ∃ (k nq:Nat),k ≤ ms.length ∧ ok = .bool true ∧ i = .int .i64 (k:Int) ∧ wr = W.drewN nq) (fun _ i _ => ms.length - (RowKit.intOf i).toNat)
 case atStart => exact ⟨0,0,Nat.zero_le _,by simp,rfl,rfl⟩
 case round =>
  obtain ⟨k,nq,hk,rfl,rfl,rfl⟩:=hrel
  by_cases hkn:k = ms.length
  ·subst hkn
   have hb0:=below_drewN (Below.refl W.heap.size W) nq
   have hB1:=(unhide HB).below hb0
   have hv1:(W.drewN nq).ownsRow base 133 10 (.slice va ms.length vcap) ms.length (ms.flatMap MsgM.cells):=unhide HV
   have HK1:Hid (Keeps (bookFp kb ls ve vf ++ (Value.slice va ms.length vcap).ownBlock.toList) W (W.drewN nq)):=Keeps.of_below hb0
   have HS1:Hid ((W.drewN nq).heap.size = W.heap.size):=rfl
   generalize W.drewN nq = W1 at *
   have c0:W1.cell? ⟨kb,0,none⟩ = some (.int .i64 c):=hB1.box.cell 0
   have y0:=hB1.box.frozen 0
   have hkl:=hB1.box.lt
   have HB1:=hide hB1
   have HV1:=hide hv1
   have HO:Hid (∀ d,d = c + 1 → OvAt MsgM.cells 133 10 (markM (-d)) ms W base kb ls d E F ve vf (.slice va ms.length vcap) W1.heap.size 0 ((W1.setCell ⟨kb,0,none⟩ (.int .i64 d)).alloc (.cells #[.int .i64 (-d),.int .i64 0,.int .i64 0,.int .i64 0,.int .i64 0,.int .i64 0,.int .i64 0,.int .i64 0,.int .i64 0,.int .i64 0] 133))):=fun d hd => by
    have h1:=hB1.count d
    have hsz:(W1.setCell ⟨kb,0,none⟩ (.int .i64 d)).heap.size = W1.heap.size:=by simp
    have hal:=(Below.refl (W1.setCell ⟨kb,0,none⟩ (.int .i64 d)).heap.size (W1.setCell ⟨kb,0,none⟩ (.int .i64 d))).alloc (Nat.le_refl _) (.cells #[.int .i64 (-d),.int .i64 0,.int .i64 0,.int .i64 0,.int .i64 0,.int .i64 0,.int .i64 0,.int .i64 0,.int .i64 0,.int .i64 0] 133)
    have hkv:(Value.slice va ms.length vcap).ownBlock ≠ some kb:=fun e => unhide HVN kb e (mem_bookFp.2 (.inl rfl))
    refine ⟨h1.below hal,?_,?_,?_,Nat.le_of_eq (unhide HS1).symm,fun g hg => ⟨by rw [← unhide HS1];exact (hv1.lt g hg).2,unhide HVN g hg⟩,fun x hx => by rw [← unhide HS1];exact (hB1.fpLt x hx).2⟩
    ·rw [over_zero]
     refine own_same hv1 (fun b hb => (hal.block b (by rw [hsz];exact (hv1.lt b hb).2)).trans (Below.heap_setCell W1 ⟨kb,0,none⟩ _ b (fun e => hkv (by rw [hb];exact congrArg some e))))
    ·have:=Box.new (W1.setCell ⟨kb,0,none⟩ (.int .i64 d)) #[.int .i64 (-d),.int .i64 0,.int .i64 0,.int .i64 0,.int .i64 0,.int .i64 0,.int .i64 0,.int .i64 0,.int .i64 0,.int .i64 0] 133
     rw [hsz] at this
     exact this
    ·exact ((unhide HK1).setCell (p:=⟨kb,0,none⟩) (.inl (List.mem_append.2 (.inl (mem_bookFp.2 (.inl rfl))))) _).alloc _
   clear hB1 hv1 hb0 HB HV HM HB1 HV1 HK1
   go_upto_region 9 with fail
   have hO:=unhide HO _ rfl
   obtain ⟨xb,hxb⟩:∃ xb,xb = W1.heap.size:=⟨_,rfl⟩
   rw [← hxb] at hO ⊢
   generalize ((W1.setCell ⟨kb,0,none⟩ (.int .i64 (c + 1))).alloc (.cells #[.int .i64 (-(c + 1)),.int .i64 0,.int .i64 0,.int .i64 0,.int .i64 0,.int .i64 0,.int .i64 0,.int .i64 0,.int .i64 0,.int .i64 0] 133)) = w2 at *
   obtain ⟨d,hd⟩:∃ d,d = c + 1:=⟨_,rfl⟩
   have hdb:1 ≤ d ∧ d ≤ 1000001:=by omega
   rw [← hd] at hO ⊢
   have HO2:=hide hO
   have HDE:=hide hd
   clear HO hxb hO hd c0 y0 HS1 hkl
   go_loopw [10] (fun i wr => ∃ k:Nat,k ≤ ms.length ∧ i = .int .i64 (k:Int) ∧ OvAt MsgM.cells 133 10 (markM (-d)) ms W base kb ls d E F ve vf (.slice va ms.length vcap) xb k wr) (fun i _ => ms.length - (RowKit.intOf i).toNat)
   case atStart => exact ⟨0,Nat.zero_le _,rfl,unhide HO2⟩
   case round =>
    obtain ⟨k,hk2,rfl,hO⟩:=hrel
    clear HO2
    by_cases hkn:k = ms.length
    ·subst hkn
     have hT:=hO.take
     have hn5:ms.length ≤ 50000000000:=by omega
     obtain ⟨ea,ecap,hve⟩:=row_shape hT.book.rowE
     have hR:=hT.book.roomE hve ((Value.slice va ms.length vcap),-d) rfl (Full.of_row (f:=MsgM.cells) (y:=markM (-d)) rfl hn5 hT.row) hT.own
     have r1:=hR.c1
     have r0:=hR.c0
     have r2:=hR.fz
     have RO:=hR.own
     have RN:=hR.news
     have R1:=hR.one
     have RS:=hR.size
     have RF:=hR.far
     have HFIN:Hid (∀ g cap w6,w6.ownsRow base 137 2 (.slice (some ⟨g,0,none⟩) (E.length + 1) cap) (E.length + 1) (E.flatMap entC ++ entC (.slice va ms.length vcap,-d)) → (wr.drew.alloc (.cells (entC (.slice va ms.length vcap,-d)).toArray 137)).grownBy w6 (Value.slice ea E.length ecap).ownBlock → ((Value.slice ea E.length ecap).ownBlock = some g ∨ g = wr.heap.size + 1) →
       TkAt MsgM.cells 133 10 (markM (-d)) W (bookFp kb ls ve vf) (Value.slice va ms.length vcap).ownBlock base kb d (E ++ [(.slice va ms.length vcap,-d)]) F (.slice (some ⟨g,0,none⟩) (E.length + 1) cap) vf xb ms.length (.slice va ms.length vcap) ((Value.slice va ms.length vcap).ownBlock.toList ++ ls) (w6.setCell ⟨kb,1,none⟩ (.slice (some ⟨g,0,none⟩) (E.length + 1) cap))):=fun g cap w6 ho hg hat => by
      obtain ⟨q1,q2,q3⟩:=unhide hR.fin g cap w6 ho hg hat
      exact hT.recE q1 q2 q3 (unhide hR.same g cap w6 hg)
     obtain ⟨i0,hi0,hz0,hz1,hz2⟩:=info_parts Tryz.infoMess
     have hkb:=hT.book.box.lt
     have rA:∀ o,(wr.alloc o).cell? ⟨kb,1,none⟩ = some (.slice ea E.length ecap):=fun o => (World.cell?_of_block (a:=⟨kb,1,none⟩) (Below.heap_alloc wr o kb hkb)).trans r1
     have hwr:IntKind.i64.wrap (-d) = -d:=by rw [IntKind.wrap_i64];omega
     obtain ⟨hd1,hd2⟩:=hdb
     clear hO hT hR hve hkb
     go_upto_region 12 with fail
     go_cut [] (fun wc => ∃ ls' E' ve',E'.length ≤ E.length + 1 ∧ TkAt MsgM.cells 133 10 (markM (-d)) W (bookFp kb ls ve vf) (Value.slice va ms.length vcap).ownBlock base kb d E' F ve' vf xb ms.length (.slice va ms.length vcap) ls' wc)
     case first =>
      go_region_law (refine step_append_lies _ (by rfl) _ _ _ (by rfl) base 137 i0 _ 2 32 Tryz.underlying67 hi0 hz0 hz1 hz2 rfl (by omega) (.slice ea E.length ecap) E.length (E.flatMap entC) (by rfl) (unhide RO _) ⟨wr.heap.size,0,none⟩ 1 1 (entC (.slice va ms.length vcap,-d)) (by rfl) (by rfl) (unhide RN) (unhide R1) (by omega) (by unfold maxLen;omega) (by omega) (unhide RS _).1 (wr.heap.size + 1) (unhide RS _).2 ?_;intro g cap2 w6 hown1 hgrow hat hlt6;obtain ⟨z1,z2⟩:=unhide RF _ _ hgrow;have HT:=hide (unhide HFIN _ _ _ hown1 hgrow hat);clear hown1 hgrow hat hlt6)
      all_goals
       clear RO RN R1 RS RF HFIN r0 r1 r2 rA z1 z2 hi0 hz0 hz1 hz2
       go_wp2
       go_meet
       case rel => exact ⟨_,_,_,by simp,unhide HT⟩
     case rest =>
      obtain ⟨ls1,E1,ve1,hE1,hT1⟩:=hcut
      have HT1:=hide hT1
      clear hT1 RO RN R1 RS RF HFIN r0 r1 r2 rA
      go_upto_region 15 with fail
      go_loopw [11,12] (fun vg kk wx => ∃ (k:Nat) (ls':List Nat) (E':List (Value × Int)) (ve':Value),k ≤ 3 ∧ kk = .int .i64 (k:Int) ∧ E'.length ≤ E.length + 1 + k ∧ TkAt MsgM.cells 133 10 (markM (-d)) W (bookFp kb ls ve vf) (Value.slice va ms.length vcap).ownBlock base kb d E' F ve' vf xb (ms.length + k) vg ls' wx) (fun _ kk _ => 3 - (RowKit.intOf kk).toNat)
      case atStart => exact ⟨0,ls1,E1,ve1,by omega,rfl,by omega,unhide HT1⟩
      case round =>
       obtain ⟨k,ls2,E2,ve2,hk3,rfl,hE2,hT2⟩:=hrel
       clear HT1
       obtain ⟨ga,gcap,rfl⟩:=row_shape hT2.row
       by_cases hk33:k = 3
       ·subst hk33
        have HFX:=hide hT2.book
        have HFY:=hide hT2.keeps
        have HFZ:=hide hT2.new
        clear hT2
        go_wp2
        go_ret
        have hde:=unhide HDE
        subst hde
        exact ⟨rfl,ls2,E2,ve2,unhide HFX,by omega,unhide HFY,unhide HFZ⟩
       ·have hkl:k < 3:=by omega
        have kl:(k:Int) < 3:=by omega
        have x0:wr.cell? ⟨xb,0,none⟩ = some (.int .i64 (-d)):=hT2.x.cell 0
        have x1:wr.cell? ⟨xb,1,none⟩ = some (.int .i64 0):=hT2.x.cell 1
        have x2:wr.cell? ⟨xb,2,none⟩ = some (.int .i64 0):=hT2.x.cell 2
        have x3:wr.cell? ⟨xb,3,none⟩ = some (.int .i64 0):=hT2.x.cell 3
        have x4:wr.cell? ⟨xb,4,none⟩ = some (.int .i64 0):=hT2.x.cell 4
        have x5:wr.cell? ⟨xb,5,none⟩ = some (.int .i64 0):=hT2.x.cell 5
        have x6:wr.cell? ⟨xb,6,none⟩ = some (.int .i64 0):=hT2.x.cell 6
        have x7:wr.cell? ⟨xb,7,none⟩ = some (.int .i64 0):=hT2.x.cell 7
        have x8:wr.cell? ⟨xb,8,none⟩ = some (.int .i64 0):=hT2.x.cell 8
        have x9:wr.cell? ⟨xb,9,none⟩ = some (.int .i64 0):=hT2.x.cell 9
        obtain ⟨i1,hi1,hy0,hy1,hy2⟩:=info_parts Tryz.linfoMsg
        have hX:=(Below.refl wr.heap.size wr).alloc (Nat.le_refl _) (.cells (markM (-d)).cells.toArray 133)
        have HA:Hid ((wr.alloc (.cells (markM (-d)).cells.toArray 133)).ownsRow base 133 10 (.slice ga (ms.length + k) gcap) (ms.length + k) ((List.replicate (ms.length + k) (markM (-d))).flatMap MsgM.cells)):=own_same hT2.row (fun b hb => hX.block b (hT2.row.lt b hb).2)
        have HNW:Hid (∀ j u,(markM (-d)).cells[j]? = some u → (wr.alloc (.cells (markM (-d)).cells.toArray 133)).cell? ((⟨wr.heap.size,0,none⟩:Addr).add j) = some u):=fun j u hu => World.news_of_block (heap_alloc_new wr _) j u (by simpa using hu)
        have H1:Hid (∀ u ∈ (markM (-d)).cells,u.oneCell' = true):=fun u hu => by
         simp only [MsgM.cells,List.mem_cons,List.not_mem_nil,or_false] at hu
         rcases hu with rfl | rfl | rfl | rfl | rfl | rfl | rfl | rfl | rfl | rfl <;> rfl
        have HBS:Hid (base ≤ (wr.alloc (.cells (markM (-d)).cells.toArray 133)).heap.size):=by
         have h1:=hT2.book.kb0
         have h2:=hT2.book.box.lt
         have h3:=hX.size
         show base ≤ _
         omega
        have HGR:=hide (fun g cap w6 hg ho hat hgl hk => hT2.grow (X:=wr.alloc (.cells (markM (-d)).cells.toArray 133)) (w6:=w6) (g:=g) (cap:=cap) hX hg ho hat hgl hk)
        clear hT2 hX hk33
        go_upto_region 17 with fail
        go_cut [11] (fun vx wc => ∃ g cap,vx = .slice (some ⟨g,0,none⟩) (ms.length + k + 1) cap ∧ TkAt MsgM.cells 133 10 (markM (-d)) W (bookFp kb ls ve vf) (Value.slice va ms.length vcap).ownBlock base kb d E2 F ve2 vf xb (ms.length + k + 1) (.slice (some ⟨g,0,none⟩) (ms.length + k + 1) cap) (g :: ls2) wc)
        case first =>
         go_wp2_with (at_builtin;refine wpList_append_keep _ rfl _ _ _ rfl base 133 i1 _ 10 80 Tryz.underlying75 hi1 hy0 hy1 hy2 rfl (by omega) (.slice ga (ms.length + k) gcap) (ms.length + k) ((List.replicate (ms.length + k) (markM (-d))).flatMap MsgM.cells) rfl (unhide HA) ⟨wr.heap.size,0,none⟩ 1 1 (markM (-d)).cells rfl rfl (unhide HNW) (unhide H1) (by omega) (by unfold maxLen;omega) (by omega) (unhide HBS) _ rfl ?_;intro g3 cap3 w6 ho hg hat hlt6 hkp;have HD:=hide (unhide HGR g3 cap3 w6 hg ho hat hlt6 hkp);clear ho hg hat hlt6 hkp)
         go_meet
         case rel => exact ⟨g3,cap3,rfl,unhide HD⟩
        case rest =>
         obtain ⟨g3,cap3,rfl,hT3⟩:=hcut
         clear HGR HBS H1 HNW HA x0 x1 x2 x3 x4 x5 x6 x7 x8 x9 hi1 hy0 hy1 hy2
         have hn5:ms.length + k + 1 ≤ 50000000000:=by omega
         obtain ⟨eb,ecap2,hve2⟩:=row_shape hT3.book.rowE
         have hR:=hT3.book.roomE hve2 ((Value.slice (some ⟨g3,0,none⟩) (ms.length + k + 1) cap3),-d) rfl (Full.of_row (f:=MsgM.cells) (y:=markM (-d)) rfl hn5 hT3.row) hT3.own
         have r1:=hR.c1
         have r0:=hR.c0
         have r2:=hR.fz
         have RO:=hR.own
         have RN:=hR.news
         have R1:=hR.one
         have RS:=hR.size
         have RF:=hR.far
         have HFIN:Hid (∀ g cap w6,w6.ownsRow base 137 2 (.slice (some ⟨g,0,none⟩) (E2.length + 1) cap) (E2.length + 1) (E2.flatMap entC ++ entC (.slice (some ⟨g3,0,none⟩) (ms.length + k + 1) cap3,-d)) → (wc.drew.alloc (.cells (entC (.slice (some ⟨g3,0,none⟩) (ms.length + k + 1) cap3,-d)).toArray 137)).grownBy w6 (Value.slice eb E2.length ecap2).ownBlock → ((Value.slice eb E2.length ecap2).ownBlock = some g ∨ g = wc.heap.size + 1) →
           TkAt MsgM.cells 133 10 (markM (-d)) W (bookFp kb ls ve vf) (Value.slice va ms.length vcap).ownBlock base kb d (E2 ++ [(.slice (some ⟨g3,0,none⟩) (ms.length + k + 1) cap3,-d)]) F (.slice (some ⟨g,0,none⟩) (E2.length + 1) cap) vf xb (ms.length + k + 1) (.slice (some ⟨g3,0,none⟩) (ms.length + k + 1) cap3) (g3 :: ls2) (w6.setCell ⟨kb,1,none⟩ (.slice (some ⟨g,0,none⟩) (E2.length + 1) cap))):=fun g cap w6 ho hg hat => by
          obtain ⟨q1,q2,q3⟩:=unhide hR.fin g cap w6 ho hg hat
          exact hT3.recE q1 q2 q3 (unhide hR.same g cap w6 hg)
         have hkb:=hT3.book.box.lt
         have rA:∀ o,(wc.alloc o).cell? ⟨kb,1,none⟩ = some (.slice eb E2.length ecap2):=fun o => (World.cell?_of_block (a:=⟨kb,1,none⟩) (Below.heap_alloc wc o kb hkb)).trans r1
         clear hT3 hR hve2 hkb
         go_upto_region 18 with fail
         go_region_law (refine step_append_lies _ (by rfl) _ _ _ (by rfl) base 137 i0 _ 2 32 Tryz.underlying67 hi0 hz0 hz1 hz2 rfl (by omega) (.slice eb E2.length ecap2) E2.length (E2.flatMap entC) (by rfl) (unhide RO _) ⟨wc.heap.size,0,none⟩ 1 1 (entC (.slice (some ⟨g3,0,none⟩) (ms.length + k + 1) cap3,-d)) (by rfl) (by rfl) (unhide RN) (unhide R1) (by omega) (by unfold maxLen;omega) (by omega) (unhide RS _).1 (wc.heap.size + 1) (unhide RS _).2 ?_;intro g cap2 w6 hown1 hgrow hat hlt6;obtain ⟨z1,z2⟩:=unhide RF _ _ hgrow;have HT:=hide (unhide HFIN _ _ _ hown1 hgrow hat);clear hown1 hgrow hat hlt6)
         all_goals
          clear RO RN R1 RS RF HFIN r0 r1 r2 rA z1 z2
          go_wp2
          go_roundw
          case rel => exact ⟨k + 1,_,_,_,by omega,by go_num,by rw [List.length_append];simp;omega,unhide HT⟩
          case measure => simp [RowKit.intOf];omega
    ·have hkl:k < ms.length:=by omega
     obtain ⟨g,cap,h1,hgl,hcel⟩:=row_cell msgLen hO.row (show k < (over (markM (-d)) ms k).length by rw [over_len _ _ _ hk2];exact hkl) (by omega) msgZ
     cases h1
     have hrow:=hO.row
     obtain ⟨cur,hgc⟩:∃ cur,Box wr g cur 133:=by
      rcases hrow.2 with ⟨h1,_⟩ | ⟨g1,cap1,cur,h1,_,h3,_⟩
      ·cases h1
      ·cases h1;exact ⟨cur,h3⟩
     generalize (over (markM (-d)) ms k).getD k msgZ = z at hcel
     have a0:wr.cell? ⟨g,k * 10,none⟩ = some (.int .i64 z.kind):=hcel 0 _ rfl
     have a1:wr.cell? ⟨g,k * 10 + 1,none⟩ = some (.int .i64 z.src):=hcel 1 _ rfl
     have a2:wr.cell? ⟨g,k * 10 + 2,none⟩ = some (.int .i64 z.dst):=hcel 2 _ rfl
     have a3:wr.cell? ⟨g,k * 10 + 3,none⟩ = some (.int .i64 z.round):=hcel 3 _ rfl
     have a4:wr.cell? ⟨g,k * 10 + 4,none⟩ = some (.int .i64 z.state):=hcel 4 _ rfl
     have a5:wr.cell? ⟨g,k * 10 + 5,none⟩ = some (.int .i64 z.vote.e):=hcel 5 _ rfl
     have a6:wr.cell? ⟨g,k * 10 + 6,none⟩ = some (.int .i64 z.vote.n):=hcel 6 _ rfl
     have a7:wr.cell? ⟨g,k * 10 + 7,none⟩ = some (.int .i64 z.vote.p):=hcel 7 _ rfl
     have a8:wr.cell? ⟨g,k * 10 + 8,none⟩ = some (.int .i64 z.epoch):=hcel 8 _ rfl
     have a9:wr.cell? ⟨g,k * 10 + 9,none⟩ = some (.int .i64 z.news):=hcel 9 _ rfl
     have y0:=hgc.frozen (k * 10)
     have y1:=hgc.frozen (k * 10 + 1)
     have y2:=hgc.frozen (k * 10 + 2)
     have y3:=hgc.frozen (k * 10 + 3)
     have y4:=hgc.frozen (k * 10 + 4)
     have y5:=hgc.frozen (k * 10 + 5)
     have y6:=hgc.frozen (k * 10 + 6)
     have y7:=hgc.frozen (k * 10 + 7)
     have y8:=hgc.frozen (k * 10 + 8)
     have y9:=hgc.frozen (k * 10 + 9)
     have x0:wr.cell? ⟨xb,0,none⟩ = some (.int .i64 (-d)):=hO.x.cell 0
     have x1:wr.cell? ⟨xb,1,none⟩ = some (.int .i64 0):=hO.x.cell 1
     have x2:wr.cell? ⟨xb,2,none⟩ = some (.int .i64 0):=hO.x.cell 2
     have x3:wr.cell? ⟨xb,3,none⟩ = some (.int .i64 0):=hO.x.cell 3
     have x4:wr.cell? ⟨xb,4,none⟩ = some (.int .i64 0):=hO.x.cell 4
     have x5:wr.cell? ⟨xb,5,none⟩ = some (.int .i64 0):=hO.x.cell 5
     have x6:wr.cell? ⟨xb,6,none⟩ = some (.int .i64 0):=hO.x.cell 6
     have x7:wr.cell? ⟨xb,7,none⟩ = some (.int .i64 0):=hO.x.cell 7
     have x8:wr.cell? ⟨xb,8,none⟩ = some (.int .i64 0):=hO.x.cell 8
     have x9:wr.cell? ⟨xb,9,none⟩ = some (.int .i64 0):=hO.x.cell 9
     have HN:=hide (hO.step msgLen hkl)
     have k0:(0:Int) ≤ (k:Int):=by omega
     have kl:(k:Int) < (ms.length:Int):=by omega
     simp only [MsgM.cells,markM,World.setCells,Nat.add_assoc,Nat.reduceAdd] at HN
     clear hcel hkn hO hrow hgc
     go_wp2
     go_roundw
     case rel => exact ⟨k + 1,hkl,by go_num,unhide HN⟩
     case measure => simp [RowKit.intOf];omega
  ·have hkl:k < ms.length:=by omega
   obtain ⟨g,cap,h1,hgl,hcel⟩:=row_cell msgLen (unhide HV) hkl (by omega) msgZ
   obtain ⟨g2,cap2,h2,hgl2,hcel2⟩:=row_cell msgLen (unhide HM) hkl (by omega) msgZ
   cases h1
   cases h2
   generalize ms.getD k msgZ = y at hcel hcel2
   have a0:W.cell? ⟨g,k * 10,none⟩ = some (.int .i64 y.kind):=hcel 0 _ rfl
   have a1:W.cell? ⟨g,k * 10 + 1,none⟩ = some (.int .i64 y.src):=hcel 1 _ rfl
   have a2:W.cell? ⟨g,k * 10 + 2,none⟩ = some (.int .i64 y.dst):=hcel 2 _ rfl
   have a3:W.cell? ⟨g,k * 10 + 3,none⟩ = some (.int .i64 y.round):=hcel 3 _ rfl
   have a4:W.cell? ⟨g,k * 10 + 4,none⟩ = some (.int .i64 y.state):=hcel 4 _ rfl
   have a5:W.cell? ⟨g,k * 10 + 5,none⟩ = some (.int .i64 y.vote.e):=hcel 5 _ rfl
   have a6:W.cell? ⟨g,k * 10 + 6,none⟩ = some (.int .i64 y.vote.n):=hcel 6 _ rfl
   have a7:W.cell? ⟨g,k * 10 + 7,none⟩ = some (.int .i64 y.vote.p):=hcel 7 _ rfl
   have a8:W.cell? ⟨g,k * 10 + 8,none⟩ = some (.int .i64 y.epoch):=hcel 8 _ rfl
   have a9:W.cell? ⟨g,k * 10 + 9,none⟩ = some (.int .i64 y.news):=hcel 9 _ rfl
   have b0:W.cell? ⟨g2,k * 10,none⟩ = some (.int .i64 y.kind):=hcel2 0 _ rfl
   have b1:W.cell? ⟨g2,k * 10 + 1,none⟩ = some (.int .i64 y.src):=hcel2 1 _ rfl
   have b2:W.cell? ⟨g2,k * 10 + 2,none⟩ = some (.int .i64 y.dst):=hcel2 2 _ rfl
   have b3:W.cell? ⟨g2,k * 10 + 3,none⟩ = some (.int .i64 y.round):=hcel2 3 _ rfl
   have b4:W.cell? ⟨g2,k * 10 + 4,none⟩ = some (.int .i64 y.state):=hcel2 4 _ rfl
   have b5:W.cell? ⟨g2,k * 10 + 5,none⟩ = some (.int .i64 y.vote.e):=hcel2 5 _ rfl
   have b6:W.cell? ⟨g2,k * 10 + 6,none⟩ = some (.int .i64 y.vote.n):=hcel2 6 _ rfl
   have b7:W.cell? ⟨g2,k * 10 + 7,none⟩ = some (.int .i64 y.vote.p):=hcel2 7 _ rfl
   have b8:W.cell? ⟨g2,k * 10 + 8,none⟩ = some (.int .i64 y.epoch):=hcel2 8 _ rfl
   have b9:W.cell? ⟨g2,k * 10 + 9,none⟩ = some (.int .i64 y.news):=hcel2 9 _ rfl
   have k0:(0:Int) ≤ (k:Int):=by omega
   have kl:(k:Int) < (ms.length:Int):=by omega
   clear hcel hcel2 hkn
   go_upto_region 5 with fail
   go_quiet (fail)
   go_wp2
   go_roundw
   case rel => exact ⟨k + 1,_,hkl,by simp,by go_num,rfl⟩
   case measure => simp [RowKit.intOf];omega
end Go.Proofs.YtceappncglfciaaGreat
