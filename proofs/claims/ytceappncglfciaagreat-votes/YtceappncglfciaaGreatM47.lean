import Derived.Test.YtceappncglfciaaGreatM46
set_option linter.unusedVariables false
set_option linter.unusedSimpArgs false
namespace Go.Proofs.YtceappncglfciaaGreat
open Go.RowKit
attribute [local go_sem ↓] Go.wp_at_zero Go.wp_at_succ
set_option maxRecDepth 100000 in
set_option maxHeartbeats 4000000 in
theorem takeE_any (W:World) (base kb:Nat) (ls:List Nat) (c:Int) (E F:List (Value × Int)) (ve vf:Value) (ms:List (Int × Int)) (v m:Value)
  (hB:BookAt W base kb ls c E F ve vf) (hv:W.ownsRow base 49 2 v ms.length (ms.flatMap evC)) (hm:W.ownsRow 0 49 2 m ms.length (ms.flatMap evC)) (hn:ms.length ≤ 40000000000)
  (hvn:∀ g,v.ownBlock = some g → g ∉ bookFp kb ls ve vf) (hc:0 ≤ c ∧ c ≤ 1000000) (hE:F.length ≤ 4000000) :
  Calls Tryz.prog 63 #[.pointer (some ⟨kb,0,none⟩),v,m] W fun o w' => o = .returned (.bool true) ∧ ∃ ls' F' vf',BookAt w' base kb ls' (c + 1) E F' ve vf' ∧ F'.length ≤ F.length + 4 ∧ Keeps (bookFp kb ls ve vf ++ v.ownBlock.toList) W w' ∧
   ∀ x ∈ bookFp kb ls' ve vf',x ∈ bookFp kb ls ve vf ∨ v.ownBlock = some x ∨ W.heap.size ≤ x:=by
 obtain ⟨va,vcap,rfl⟩:=row_shape hv
 obtain ⟨ma,mcap,rfl⟩:=row_shape hm
 have HB:=hide hB
 have HV:=hide hv
 have HM:=hide hm
 have HVN:=hide hvn
 clear hB hv hm hvn
 go_enter Tryz.func63,Tryz.ntmps63
 go_wp2_with fail
 go_loopw [7,8] (fun ok i wr => ∃ (k nq:Nat),k ≤ ms.length ∧ ok = .bool true ∧ i = .int .i64 (k:Int) ∧ wr = W.drewN nq) (fun _ i _ => ms.length - (RowKit.intOf i).toNat)
 case atStart => exact ⟨0,0,Nat.zero_le _,by simp,rfl,rfl⟩
 case round =>
  obtain ⟨k,nq,hk,rfl,rfl,rfl⟩:=hrel
  by_cases hkn:k = ms.length
  ·subst hkn
   have hb0:=below_drewN (Below.refl W.heap.size W) nq
   have hB1:=(unhide HB).below hb0
   have hv1:(W.drewN nq).ownsRow base 49 2 (.slice va ms.length vcap) ms.length (ms.flatMap evC):=unhide HV
   have HK1:Hid (Keeps (bookFp kb ls ve vf ++ (Value.slice va ms.length vcap).ownBlock.toList) W (W.drewN nq)):=Keeps.of_below hb0
   have HS1:Hid ((W.drewN nq).heap.size = W.heap.size):=rfl
   generalize W.drewN nq = W1 at *
   have c0:W1.cell? ⟨kb,0,none⟩ = some (.int .i64 c):=hB1.box.cell 0
   have y0:=hB1.box.frozen 0
   have hkl:=hB1.box.lt
   have HB1:=hide hB1
   have HV1:=hide hv1
   have HO:Hid (∀ d,d = c + 1 → OvAt evC 49 2 (markE (-d)) ms W base kb ls d E F ve vf (.slice va ms.length vcap) W1.heap.size 0 ((W1.setCell ⟨kb,0,none⟩ (.int .i64 d)).alloc (.cells #[.int .i64 (-d),.int .i64 0] 49))):=fun d hd => by
    have h1:=hB1.count d
    have hsz:(W1.setCell ⟨kb,0,none⟩ (.int .i64 d)).heap.size = W1.heap.size:=by simp
    have hal:=(Below.refl (W1.setCell ⟨kb,0,none⟩ (.int .i64 d)).heap.size (W1.setCell ⟨kb,0,none⟩ (.int .i64 d))).alloc (Nat.le_refl _) (.cells #[.int .i64 (-d),.int .i64 0] 49)
    have hkv:(Value.slice va ms.length vcap).ownBlock ≠ some kb:=fun e => unhide HVN kb e (mem_bookFp.2 (.inl rfl))
    refine ⟨h1.below hal,?_,?_,?_,Nat.le_of_eq (unhide HS1).symm,fun g hg => ⟨by rw [← unhide HS1];exact (hv1.lt g hg).2,unhide HVN g hg⟩,fun x hx => by rw [← unhide HS1];exact (hB1.fpLt x hx).2⟩
    ·rw [over_zero]
     refine own_same hv1 (fun b hb => (hal.block b (by rw [hsz];exact (hv1.lt b hb).2)).trans (Below.heap_setCell W1 ⟨kb,0,none⟩ _ b (fun e => hkv (by rw [hb];exact congrArg some e))))
    ·have:=Box.new (W1.setCell ⟨kb,0,none⟩ (.int .i64 d)) #[.int .i64 (-d),.int .i64 0] 49
     rw [hsz] at this
     exact this
    ·exact ((unhide HK1).setCell (p:=⟨kb,0,none⟩) (.inl (List.mem_append.2 (.inl (mem_bookFp.2 (.inl rfl))))) _).alloc _
   clear hB1 hv1 hb0 HB HV HM HB1 HV1 HK1
   go_upto_region 9 with fail
   have hO:=unhide HO _ rfl
   obtain ⟨xb,hxb⟩:∃ xb,xb = W1.heap.size:=⟨_,rfl⟩
   rw [← hxb] at hO ⊢
   generalize ((W1.setCell ⟨kb,0,none⟩ (.int .i64 (c + 1))).alloc (.cells #[.int .i64 (-(c + 1)),.int .i64 0] 49)) = w2 at *
   obtain ⟨d,hd⟩:∃ d,d = c + 1:=⟨_,rfl⟩
   have hdb:1 ≤ d ∧ d ≤ 1000001:=by omega
   rw [← hd] at hO ⊢
   have HO2:=hide hO
   have HDE:=hide hd
   clear HO hxb hO hd c0 y0 HS1 hkl
   go_loopw [10] (fun i wr => ∃ k:Nat,k ≤ ms.length ∧ i = .int .i64 (k:Int) ∧ OvAt evC 49 2 (markE (-d)) ms W base kb ls d E F ve vf (.slice va ms.length vcap) xb k wr) (fun i _ => ms.length - (RowKit.intOf i).toNat)
   case atStart => exact ⟨0,Nat.zero_le _,rfl,unhide HO2⟩
   case round =>
    obtain ⟨k,hk2,rfl,hO⟩:=hrel
    clear HO2
    by_cases hkn:k = ms.length
    ·subst hkn
     have hT:=hO.take
     have hn5:ms.length ≤ 50000000000:=by omega
     obtain ⟨ea,ecap,hve⟩:=row_shape hT.book.rowF
     have hR:=hT.book.roomF hve ((Value.slice va ms.length vcap),-d) rfl (Full.of_row (f:=evC) (y:=markE (-d)) rfl hn5 hT.row) hT.own
     have r1:=hR.c1
     have r0:=hR.c0
     have r2:=hR.fz
     have RO:=hR.own
     have RN:=hR.news
     have R1:=hR.one
     have RS:=hR.size
     have RF:=hR.far
     have HFIN:Hid (∀ g cap w6,w6.ownsRow base 139 2 (.slice (some ⟨g,0,none⟩) (F.length + 1) cap) (F.length + 1) (F.flatMap entC ++ entC (.slice va ms.length vcap,-d)) → (wr.drew.alloc (.cells (entC (.slice va ms.length vcap,-d)).toArray 139)).grownBy w6 (Value.slice ea F.length ecap).ownBlock → ((Value.slice ea F.length ecap).ownBlock = some g ∨ g = wr.heap.size + 1) →
       TkAt evC 49 2 (markE (-d)) W (bookFp kb ls ve vf) (Value.slice va ms.length vcap).ownBlock base kb d E (F ++ [(.slice va ms.length vcap,-d)]) ve (.slice (some ⟨g,0,none⟩) (F.length + 1) cap) xb ms.length (.slice va ms.length vcap) ((Value.slice va ms.length vcap).ownBlock.toList ++ ls) (w6.setCell ⟨kb,2,none⟩ (.slice (some ⟨g,0,none⟩) (F.length + 1) cap))):=fun g cap w6 ho hg hat => by
      obtain ⟨q1,q2,q3⟩:=unhide hR.fin g cap w6 ho hg hat
      exact hT.recF q1 q2 q3 (unhide hR.same g cap w6 hg)
     obtain ⟨i0,hi0,hz0,hz1,hz2⟩:=info_parts Tryz.infoEvs
     have hkb:=hT.book.box.lt
     have rA:∀ o,(wr.alloc o).cell? ⟨kb,2,none⟩ = some (.slice ea F.length ecap):=fun o => (World.cell?_of_block (a:=⟨kb,2,none⟩) (Below.heap_alloc wr o kb hkb)).trans r1
     have hwr:IntKind.i64.wrap (-d) = -d:=by rw [IntKind.wrap_i64];omega
     obtain ⟨hd1,hd2⟩:=hdb
     clear hO hT hR hve hkb
     go_upto_region 12 with fail
     go_cut [] (fun wc => ∃ ls' F' vf',F'.length ≤ F.length + 1 ∧ TkAt evC 49 2 (markE (-d)) W (bookFp kb ls ve vf) (Value.slice va ms.length vcap).ownBlock base kb d E F' ve vf' xb ms.length (.slice va ms.length vcap) ls' wc)
     case first =>
      go_region_law (refine step_append_lies _ (by rfl) _ _ _ (by rfl) base 139 i0 _ 2 32 Tryz.underlying68 hi0 hz0 hz1 hz2 rfl (by omega) (.slice ea F.length ecap) F.length (F.flatMap entC) (by rfl) (unhide RO _) ⟨wr.heap.size,0,none⟩ 1 1 (entC (.slice va ms.length vcap,-d)) (by rfl) (by rfl) (unhide RN) (unhide R1) (by omega) (by unfold maxLen;omega) (by omega) (unhide RS _).1 (wr.heap.size + 1) (unhide RS _).2 ?_;intro g cap2 w6 hown1 hgrow hat hlt6;obtain ⟨z1,z2⟩:=unhide RF _ _ hgrow;have HT:=hide (unhide HFIN _ _ _ hown1 hgrow hat);clear hown1 hgrow hat hlt6)
      all_goals
       clear RO RN R1 RS RF HFIN r0 r1 r2 rA z1 z2 hi0 hz0 hz1 hz2
       go_wp2
       go_meet
       case rel => exact ⟨_,_,_,by simp,unhide HT⟩
     case rest =>
      obtain ⟨ls1,F1,vf1,hE1,hT1⟩:=hcut
      have HT1:=hide hT1
      clear hT1 RO RN R1 RS RF HFIN r0 r1 r2 rA
      go_upto_region 15 with fail
      go_loopw [11,12] (fun vg kk wx => ∃ (k:Nat) (ls':List Nat) (F':List (Value × Int)) (vf':Value),k ≤ 3 ∧ kk = .int .i64 (k:Int) ∧ F'.length ≤ F.length + 1 + k ∧ TkAt evC 49 2 (markE (-d)) W (bookFp kb ls ve vf) (Value.slice va ms.length vcap).ownBlock base kb d E F' ve vf' xb (ms.length + k) vg ls' wx) (fun _ kk _ => 3 - (RowKit.intOf kk).toNat)
      case atStart => exact ⟨0,ls1,F1,vf1,by omega,rfl,by omega,unhide HT1⟩
      case round =>
       obtain ⟨k,ls2,F2,vf2,hk3,rfl,hF2,hT2⟩:=hrel
       clear HT1
       obtain ⟨ga,gcap,rfl⟩:=row_shape hT2.row
       by_cases hk33:k = 3
       ·subst hk33
        have HFX:=hide hT2.book
        have HFY:=hide hT2.keeps
        have HFZ:=hide hT2.new
        clear hT2
        go_wp2
        go_ret
        have hde:=unhide HDE
        subst hde
        exact ⟨rfl,ls2,F2,vf2,unhide HFX,by omega,unhide HFY,unhide HFZ⟩
       ·have hkl:k < 3:=by omega
        have kl:(k:Int) < 3:=by omega
        have x0:wr.cell? ⟨xb,0,none⟩ = some (.int .i64 (-d)):=hT2.x.cell 0
        have x1:wr.cell? ⟨xb,1,none⟩ = some (.int .i64 0):=hT2.x.cell 1
        obtain ⟨i1,hi1,hy0,hy1,hy2⟩:=info_parts Tryz.linfoEv
        have hX:=(Below.refl wr.heap.size wr).alloc (Nat.le_refl _) (.cells (evC (markE (-d))).toArray 49)
        have HA:Hid ((wr.alloc (.cells (evC (markE (-d))).toArray 49)).ownsRow base 49 2 (.slice ga (ms.length + k) gcap) (ms.length + k) ((List.replicate (ms.length + k) (markE (-d))).flatMap evC)):=own_same hT2.row (fun b hb => hX.block b (hT2.row.lt b hb).2)
        have HNW:Hid (∀ j u,(evC (markE (-d)))[j]? = some u → (wr.alloc (.cells (evC (markE (-d))).toArray 49)).cell? ((⟨wr.heap.size,0,none⟩:Addr).add j) = some u):=fun j u hu => World.news_of_block (heap_alloc_new wr _) j u (by simpa using hu)
        have H1:Hid (∀ u ∈ (evC (markE (-d))),u.oneCell' = true):=fun u hu => by
         simp only [evC,List.mem_cons,List.not_mem_nil,or_false] at hu
         rcases hu with rfl | rfl <;> rfl
        have HBS:Hid (base ≤ (wr.alloc (.cells (evC (markE (-d))).toArray 49)).heap.size):=by
         have h1:=hT2.book.kb0
         have h2:=hT2.book.box.lt
         have h3:=hX.size
         show base ≤ _
         omega
        have HGR:=hide (fun g cap w6 hg ho hat hgl hk => hT2.grow (X:=wr.alloc (.cells (evC (markE (-d))).toArray 49)) (w6:=w6) (g:=g) (cap:=cap) hX hg ho hat hgl hk)
        clear hT2 hX hk33
        go_upto_region 17 with fail
        go_cut [11] (fun vx wc => ∃ g cap,vx = .slice (some ⟨g,0,none⟩) (ms.length + k + 1) cap ∧ TkAt evC 49 2 (markE (-d)) W (bookFp kb ls ve vf) (Value.slice va ms.length vcap).ownBlock base kb d E F2 ve vf2 xb (ms.length + k + 1) (.slice (some ⟨g,0,none⟩) (ms.length + k + 1) cap) (g :: ls2) wc)
        case first =>
         go_wp2_with (at_builtin;refine wpList_append_keep _ rfl _ _ _ rfl base 49 i1 _ 2 16 Tryz.underlying46 hi1 hy0 hy1 hy2 rfl (by omega) (.slice ga (ms.length + k) gcap) (ms.length + k) ((List.replicate (ms.length + k) (markE (-d))).flatMap evC) rfl (unhide HA) ⟨wr.heap.size,0,none⟩ 1 1 (evC (markE (-d))) rfl rfl (unhide HNW) (unhide H1) (by omega) (by unfold maxLen;omega) (by omega) (unhide HBS) _ rfl ?_;intro g3 cap3 w6 ho hg hat hlt6 hkp;have HD:=hide (unhide HGR g3 cap3 w6 hg ho hat hlt6 hkp);clear ho hg hat hlt6 hkp)
         go_meet
         case rel => exact ⟨g3,cap3,rfl,unhide HD⟩
        case rest =>
         obtain ⟨g3,cap3,rfl,hT3⟩:=hcut
         clear HGR HBS H1 HNW HA x0 x1 hi1 hy0 hy1 hy2
         have hn5:ms.length + k + 1 ≤ 50000000000:=by omega
         obtain ⟨eb,ecap2,hve2⟩:=row_shape hT3.book.rowF
         have hR:=hT3.book.roomF hve2 ((Value.slice (some ⟨g3,0,none⟩) (ms.length + k + 1) cap3),-d) rfl (Full.of_row (f:=evC) (y:=markE (-d)) rfl hn5 hT3.row) hT3.own
         have r1:=hR.c1
         have r0:=hR.c0
         have r2:=hR.fz
         have RO:=hR.own
         have RN:=hR.news
         have R1:=hR.one
         have RS:=hR.size
         have RF:=hR.far
         have HFIN:Hid (∀ g cap w6,w6.ownsRow base 139 2 (.slice (some ⟨g,0,none⟩) (F2.length + 1) cap) (F2.length + 1) (F2.flatMap entC ++ entC (.slice (some ⟨g3,0,none⟩) (ms.length + k + 1) cap3,-d)) → (wc.drew.alloc (.cells (entC (.slice (some ⟨g3,0,none⟩) (ms.length + k + 1) cap3,-d)).toArray 139)).grownBy w6 (Value.slice eb F2.length ecap2).ownBlock → ((Value.slice eb F2.length ecap2).ownBlock = some g ∨ g = wc.heap.size + 1) →
           TkAt evC 49 2 (markE (-d)) W (bookFp kb ls ve vf) (Value.slice va ms.length vcap).ownBlock base kb d E (F2 ++ [(.slice (some ⟨g3,0,none⟩) (ms.length + k + 1) cap3,-d)]) ve (.slice (some ⟨g,0,none⟩) (F2.length + 1) cap) xb (ms.length + k + 1) (.slice (some ⟨g3,0,none⟩) (ms.length + k + 1) cap3) (g3 :: ls2) (w6.setCell ⟨kb,2,none⟩ (.slice (some ⟨g,0,none⟩) (F2.length + 1) cap))):=fun g cap w6 ho hg hat => by
          obtain ⟨q1,q2,q3⟩:=unhide hR.fin g cap w6 ho hg hat
          exact hT3.recF q1 q2 q3 (unhide hR.same g cap w6 hg)
         have hkb:=hT3.book.box.lt
         have rA:∀ o,(wc.alloc o).cell? ⟨kb,2,none⟩ = some (.slice eb F2.length ecap2):=fun o => (World.cell?_of_block (a:=⟨kb,2,none⟩) (Below.heap_alloc wc o kb hkb)).trans r1
         clear hT3 hR hve2 hkb
         go_upto_region 18 with fail
         go_region_law (refine step_append_lies _ (by rfl) _ _ _ (by rfl) base 139 i0 _ 2 32 Tryz.underlying68 hi0 hz0 hz1 hz2 rfl (by omega) (.slice eb F2.length ecap2) F2.length (F2.flatMap entC) (by rfl) (unhide RO _) ⟨wc.heap.size,0,none⟩ 1 1 (entC (.slice (some ⟨g3,0,none⟩) (ms.length + k + 1) cap3,-d)) (by rfl) (by rfl) (unhide RN) (unhide R1) (by omega) (by unfold maxLen;omega) (by omega) (unhide RS _).1 (wc.heap.size + 1) (unhide RS _).2 ?_;intro g cap2 w6 hown1 hgrow hat hlt6;obtain ⟨z1,z2⟩:=unhide RF _ _ hgrow;have HT:=hide (unhide HFIN _ _ _ hown1 hgrow hat);clear hown1 hgrow hat hlt6)
         all_goals
          clear RO RN R1 RS RF HFIN r0 r1 r2 rA z1 z2
          go_wp2
          go_roundw
          case rel => exact ⟨k + 1,_,_,_,by omega,by go_num,by rw [List.length_append];simp;omega,unhide HT⟩
          case measure => simp [RowKit.intOf];omega
    ·have hkl:k < ms.length:=by omega
     obtain ⟨g,cap,h1,hgl,hcel⟩:=row_cell evcLen hO.row (show k < (over (markE (-d)) ms k).length by rw [over_len _ _ _ hk2];exact hkl) (by omega) ((0,0):Int × Int)
     cases h1
     have hrow:=hO.row
     obtain ⟨cur,hgc⟩:∃ cur,Box wr g cur 49:=by
      rcases hrow.2 with ⟨h1,_⟩ | ⟨g1,cap1,cur,h1,_,h3,_⟩
      ·cases h1
      ·cases h1;exact ⟨cur,h3⟩
     generalize (over (markE (-d)) ms k).getD k ((0,0):Int × Int) = z at hcel
     have a0:wr.cell? ⟨g,k * 2,none⟩ = some (.int .i64 z.1):=hcel 0 _ rfl
     have a1:wr.cell? ⟨g,k * 2 + 1,none⟩ = some (.int .i64 z.2):=hcel 1 _ rfl
     have y0:=hgc.frozen (k * 2)
     have y1:=hgc.frozen (k * 2 + 1)
     have x0:wr.cell? ⟨xb,0,none⟩ = some (.int .i64 (-d)):=hO.x.cell 0
     have x1:wr.cell? ⟨xb,1,none⟩ = some (.int .i64 0):=hO.x.cell 1
     have HN:=hide (hO.step evcLen hkl)
     have k0:(0:Int) ≤ (k:Int):=by omega
     have kl:(k:Int) < (ms.length:Int):=by omega
     simp only [evC,markE,World.setCells,Nat.add_assoc,Nat.reduceAdd] at HN
     clear hcel hkn hO hrow hgc
     go_wp2
     go_roundw
     case rel => exact ⟨k + 1,hkl,by go_num,unhide HN⟩
     case measure => simp [RowKit.intOf];omega
  ·have hkl:k < ms.length:=by omega
   obtain ⟨g,cap,h1,hgl,hcel⟩:=row_cell evcLen (unhide HV) hkl (by omega) ((0,0):Int × Int)
   obtain ⟨g2,cap2,h2,hgl2,hcel2⟩:=row_cell evcLen (unhide HM) hkl (by omega) ((0,0):Int × Int)
   cases h1
   cases h2
   generalize ms.getD k ((0,0):Int × Int) = y at hcel hcel2
   have a0:W.cell? ⟨g,k * 2,none⟩ = some (.int .i64 y.1):=hcel 0 _ rfl
   have a1:W.cell? ⟨g,k * 2 + 1,none⟩ = some (.int .i64 y.2):=hcel 1 _ rfl
   have b0:W.cell? ⟨g2,k * 2,none⟩ = some (.int .i64 y.1):=hcel2 0 _ rfl
   have b1:W.cell? ⟨g2,k * 2 + 1,none⟩ = some (.int .i64 y.2):=hcel2 1 _ rfl
   have k0:(0:Int) ≤ (k:Int):=by omega
   have kl:(k:Int) < (ms.length:Int):=by omega
   clear hcel hcel2 hkn
   go_upto_region 5 with fail
   go_quiet (fail)
   go_wp2
   go_roundw
   case rel => exact ⟨k + 1,_,hkl,by simp,by go_num,rfl⟩
   case measure => simp [RowKit.intOf];omega
end Go.Proofs.YtceappncglfciaaGreat
namespace Go.Proofs.YtceappncglfciaaGreat
open Go.RowKit
attribute [local go_sem ↓] Go.wp_at_zero Go.wp_at_succ
theorem entLen (e:Value × Int):(entC e).length = 2:=rfl
set_option maxRecDepth 100000 in
set_option maxHeartbeats 4000000 in
theorem looks_any (W:World) (base kb:Nat) (ls:List Nat) (c:Int) (E F:List (Value × Int)) (ve vf:Value) (hB:BookAt W base kb ls c E F ve vf) (hE:E.length ≤ 4000000) (hF:F.length ≤ 4000000) :
  Calls Tryz.prog 30 #[.pointer (some ⟨kb,0,none⟩)] W fun o w' => o = .returned (.bool true) ∧ Below W.heap.size W w':=by
 have HE:=hide hB.rowE
 have HF:=hide hB.rowF
 have HFE:=hide hB.fullE
 have HFF:=hide hB.fullF
 have hbx:=hB.box
 obtain ⟨ea,ecap,rfl⟩:=row_shape hB.rowE
 obtain ⟨fa,fcap,rfl⟩:=row_shape hB.rowF
 have c1:W.cell? ⟨kb,1,none⟩ = some (.slice ea E.length ecap):=hbx.cell 1
 have c2:W.cell? ⟨kb,2,none⟩ = some (.slice fa F.length fcap):=hbx.cell 2
 clear hbx hB
 go_enter Tryz.func30,Tryz.ntmps30
 go_wp2_with fail
 go_loopw [3] (fun kk wr => ∃ (j nq:Nat),j ≤ E.length ∧ kk = .int .i64 (j:Int) ∧ wr = W.drewN nq) (fun kk _ => E.length - (RowKit.intOf kk).toNat)
 case atStart => exact ⟨0,0,Nat.zero_le _,rfl,rfl⟩
 case round =>
  obtain ⟨j,nq,hj,rfl,rfl⟩:=hrel
  by_cases hjn:j = E.length
  ·subst hjn
   obtain ⟨nqE,hnqE⟩:∃ nqE,nqE = nq:=⟨_,rfl⟩
   rw [← hnqE]
   clear hnqE
   go_upto_region 10 with fail
   go_loopw [5] (fun kk wr => ∃ (j nq:Nat),j ≤ F.length ∧ kk = .int .i64 (j:Int) ∧ wr = W.drewN nq) (fun kk _ => F.length - (RowKit.intOf kk).toNat)
   case atStart => exact ⟨0,nqE,Nat.zero_le _,rfl,rfl⟩
   case round =>
    obtain ⟨j,nq,hj,rfl,rfl⟩:=hrel
    by_cases hjn:j = F.length
    ·subst hjn
     have HQ:Hid (Below W.heap.size W (W.drewN nq)):=below_drewN (Below.refl _ _) nq
     go_wp2
     go_ret
     exact ⟨rfl,unhide HQ⟩
    ·have hjl:j < F.length:=by omega
     obtain ⟨ge,ecap1,h1,hgel,hcel⟩:=row_cell entLen (unhide HF) hjl (by omega) ((.bool false,0):Value × Int)
     cases h1
     have hmem:F.getD j (.bool false,0) ∈ F:=by rw [List.getD_eq_getElem?_getD,List.getElem?_eq_getElem hjl];exact List.getElem_mem hjl
     obtain ⟨a,n,cap,hv,hn5,hful⟩:=(unhide HFF _ hmem).1
     have e0:W.cell? ⟨ge,j * 2,none⟩ = some (F.getD j (.bool false,0)).1:=hcel 0 _ rfl
     have e1:W.cell? ⟨ge,j * 2 + 1,none⟩ = some (.int .i64 (F.getD j (.bool false,0)).2):=hcel 1 _ rfl
     rw [hv] at e0
     have HFUL:=hide hful
     generalize (F.getD j (.bool false,0)).2 = x at *
     have j0:(0:Int) ≤ (j:Int):=by omega
     have jl:(j:Int) < (F.length:Int):=by omega
     clear hcel hful hmem hv hjn
     go_upto_region 13 with fail
     go_loopw [6] (fun ii wr => ∃ (i nq:Nat),i ≤ n ∧ ii = .int .i64 (i:Int) ∧ wr = W.drewN nq) (fun ii _ => n - (RowKit.intOf ii).toNat)
     case atStart => exact ⟨0,nq,Nat.zero_le _,rfl,rfl⟩
     case round =>
      obtain ⟨i,nq2,hi,rfl,rfl⟩:=hrel
      by_cases hin:i = n
      ·subst hin
       go_wp2
       go_roundw
       case rel => exact ⟨j + 1,_,hjl,by go_num,rfl⟩
       case measure => simp [RowKit.intOf];omega
      ·have hil:i < n:=by omega
       obtain ⟨g,rfl,hc⟩:=unhide HFUL (by omega)
       have m0:W.cell? ⟨g,i * 2,none⟩ = some (.int .i64 x):=hc i 0 _ hil rfl
       have m1:W.cell? ⟨g,i * 2 + 1,none⟩ = some (.int .i64 0):=hc i 1 _ hil rfl
       have i0:(0:Int) ≤ (i:Int):=by omega
       have il:(i:Int) < (n:Int):=by omega
       clear hc HFUL hin
       go_upto_region 15 with fail
       go_quiet (fail)
       go_wp2
       go_roundw
       case rel => exact ⟨i + 1,_,hil,by go_num,rfl⟩
       case measure => simp [RowKit.intOf];omega
  ·have hjl:j < E.length:=by omega
   obtain ⟨ge,ecap1,h1,hgel,hcel⟩:=row_cell entLen (unhide HE) hjl (by omega) ((.bool false,0):Value × Int)
   cases h1
   have hmem:E.getD j (.bool false,0) ∈ E:=by rw [List.getD_eq_getElem?_getD,List.getElem?_eq_getElem hjl];exact List.getElem_mem hjl
   obtain ⟨a,n,cap,hv,hn5,hful⟩:=(unhide HFE _ hmem).1
   have e0:W.cell? ⟨ge,j * 2,none⟩ = some (E.getD j (.bool false,0)).1:=hcel 0 _ rfl
   have e1:W.cell? ⟨ge,j * 2 + 1,none⟩ = some (.int .i64 (E.getD j (.bool false,0)).2):=hcel 1 _ rfl
   rw [hv] at e0
   have HFUL:=hide hful
   generalize (E.getD j (.bool false,0)).2 = x at *
   have j0:(0:Int) ≤ (j:Int):=by omega
   have jl:(j:Int) < (E.length:Int):=by omega
   clear hcel hful hmem hv hjn
   go_upto_region 5 with fail
   go_loopw [4] (fun ii wr => ∃ (i nq:Nat),i ≤ n ∧ ii = .int .i64 (i:Int) ∧ wr = W.drewN nq) (fun ii _ => n - (RowKit.intOf ii).toNat)
   case atStart => exact ⟨0,nq,Nat.zero_le _,rfl,rfl⟩
   case round =>
    obtain ⟨i,nq2,hi,rfl,rfl⟩:=hrel
    by_cases hin:i = n
    ·subst hin
     go_wp2
     go_roundw
     case rel => exact ⟨j + 1,_,hjl,by go_num,rfl⟩
     case measure => simp [RowKit.intOf];omega
    ·have hil:i < n:=by omega
     obtain ⟨g,rfl,hc⟩:=unhide HFUL (by omega)
     have m0:W.cell? ⟨g,i * 10,none⟩ = some (.int .i64 x):=hc i 0 _ hil rfl
     have m1:W.cell? ⟨g,i * 10 + 1,none⟩ = some (.int .i64 0):=hc i 1 _ hil rfl
     have m2:W.cell? ⟨g,i * 10 + 2,none⟩ = some (.int .i64 0):=hc i 2 _ hil rfl
     have m3:W.cell? ⟨g,i * 10 + 3,none⟩ = some (.int .i64 0):=hc i 3 _ hil rfl
     have m4:W.cell? ⟨g,i * 10 + 4,none⟩ = some (.int .i64 0):=hc i 4 _ hil rfl
     have m5:W.cell? ⟨g,i * 10 + 5,none⟩ = some (.int .i64 0):=hc i 5 _ hil rfl
     have m6:W.cell? ⟨g,i * 10 + 6,none⟩ = some (.int .i64 0):=hc i 6 _ hil rfl
     have m7:W.cell? ⟨g,i * 10 + 7,none⟩ = some (.int .i64 0):=hc i 7 _ hil rfl
     have m8:W.cell? ⟨g,i * 10 + 8,none⟩ = some (.int .i64 0):=hc i 8 _ hil rfl
     have m9:W.cell? ⟨g,i * 10 + 9,none⟩ = some (.int .i64 0):=hc i 9 _ hil rfl
     have i0:(0:Int) ≤ (i:Int):=by omega
     have il:(i:Int) < (n:Int):=by omega
     clear hc HFUL hin
     go_upto_region 7 with fail
     go_quiet (fail)
     go_wp2
     go_roundw
     case rel => exact ⟨i + 1,_,hil,by go_num,rfl⟩
     case measure => simp [RowKit.intOf];omega
end Go.Proofs.YtceappncglfciaaGreat
