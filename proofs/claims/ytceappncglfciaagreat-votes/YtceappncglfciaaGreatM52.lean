import Derived.Test.YtceappncglfciaaGreatM51
import Derived.OwnWalk
import Derived.Test.YtceappncglfciaaGreatM31
import Derived.Test.YtceappncglfciaaGreatM44
import Derived.Test.YtceappncglfciaaGreatM50
import Derived.Test.YtceappncglfciaaGreatRows
set_option linter.unusedVariables false
set_option linter.unusedSimpArgs false
namespace Go.Proofs.YtceappncglfciaaGreat
open Go.RowKit
attribute [local go_sem ↓] Go.wp_at_zero Go.wp_at_succ
def AnsA (w:World) (l:List CredM) (wait lease net:Int) (av ev:Value) (wc:World):Prop :=
 (ConfMay l wait lease net ∧ ∃ bt bs,av = .pointer (some ⟨bt,0,none⟩) ∧ ev = .int .i64 0 ∧ townRep.R wc bt bs (TownM.new wait lease net l) ∧ Below w.heap.size w wc ∧ ∀ x ∈ bs,w.heap.size ≤ x) ∨
 (¬ ConfMay l wait lease net ∧ av = .pointer none ∧ ev = .int .i64 1 ∧ Below w.heap.size w wc)
def AnsB (w:World) (l:List CredM) (wait lease net:Int) (av ev bv fv:Value) (wc:World):Prop :=
 (ConfMay l wait lease net ∧ ∃ bt bs L,av = .pointer (some ⟨bt,0,none⟩) ∧ ev = .int .i64 0 ∧ bv = .pointer (some ⟨L.bt,0,none⟩) ∧ fv = .int .i64 0 ∧ PairAt wc bt bs L (TownM.new wait lease net l) ∧ Below w.heap.size w wc ∧ ∀ x ∈ bs ++ L.blocks,w.heap.size ≤ x) ∨
 (¬ ConfMay l wait lease net ∧ av = .pointer none ∧ ev = .int .i64 1 ∧ bv = .pointer none ∧ fv = .int .i64 1 ∧ Below w.heap.size w wc)
section
variable {w w1 w2:World} {l:List CredM} {wait lease net:Int} {av ev bv fv:Value}
theorem AnsA.below (h:AnsA w l wait lease net av ev w1):Below w.heap.size w w1:=by
 rcases h with ⟨_,bt,bs,_,_,_,h,_⟩ | ⟨_,_,_,h⟩
 ·exact h
 ·exact h
theorem AnsB.below (h:AnsB w l wait lease net av ev bv fv w1):Below w.heap.size w w1:=by
 rcases h with ⟨_,bt,bs,L,_,_,_,_,_,h,_⟩ | ⟨_,_,_,_,_,h⟩
 ·exact h
 ·exact h
end
theorem Keeps.low {n ob:Nat} {W w w':World} (h:Below n W w) (k:Keeps [ob] w w') (hn:n ≤ ob) (hs:n ≤ w.heap.size):Below n W w' :=
 h.trans ⟨k.os,k.tape,k.output,k.size,fun x hx => k.block x (by omega) (by simp;omega)⟩
theorem Row.conf {X wr:World} {base ob:Nat} {l:List CredM} (h:Row X base ob (l.length + 8) (handed l) wr):∃ cur,wr.heap[ob]? = some (.cells cur 39 (0,0)) ∧ cur.toList.take (l.length * 4) = l.flatMap credCells:=by
 obtain ⟨cur,hb,ht⟩:=h.block
 refine ⟨cur,hb,?_⟩
 have e:(cur.toList.take ((l.length + 8) * 4)).take (l.length * 4) = cur.toList.take (l.length * 4):=by rw [List.take_take,Nat.min_eq_left (by omega)]
 rw [← e,ht]
 unfold handed
 rw [List.flatMap_append,List.take_left' (flat_len credCells 4 l (fun z _ => credLen z))]
theorem Row.new {X wr:World} {base ob:Nat} {l:List CredM} {wait lease net:Int} (h:Row X base ob (l.length + 8) (handed l) wr) (hl:l.length ≤ 1048576) :
  Calls Tryz.prog 16 #[.agg #[.slice (some ⟨ob,0,none⟩) l.length (l.length + 8),.int .i64 wait,.int .i64 lease,.int .i64 net]] wr fun o wc => ∃ av ev,o = .returned (.tuple #[av,ev]) ∧ AnsA wr l wait lease net av ev wc:=by
 obtain ⟨cur,hb,ht⟩:=h.conf
 by_cases hm:ConfMay l wait lease net
 ·obtain ⟨h1,h2⟩:=hm
  refine (new_does wr ob (l.length + 8) l wait lease net cur _ h1.1.1 h1.1.2 h1.2.1 h1.2.2.1 h1.2.2.2 h2 hb ht (by omega)).mono ?_
  rintro o wc ⟨bt,bs,rfl,q1,q2,q3⟩
  exact ⟨_,_,rfl,.inl ⟨⟨h1,h2⟩,bt,bs,rfl,rfl,q1,q2,q3⟩⟩
 ·refine (newNo_any wr ob (l.length + 8) l wait lease net cur _ (by omega) hm hb ht (by omega)).mono ?_
  rintro o wc ⟨rfl,q1⟩
  exact ⟨_,_,rfl,.inr ⟨hm,rfl,rfl,q1⟩⟩
theorem AnsA.both {w w1:World} {l:List CredM} {wait lease net:Int} {av ev:Value} {a:Option Addr} {cap:Nat} (h:AnsA w l wait lease net av ev w1) (hr:RawC w1 (.slice a l.length cap) l) :
  Calls Tryz.prog 50 #[.agg #[.slice a l.length cap,.int .i64 wait,.int .i64 lease,.int .i64 net]] w1 fun o wc => ∃ bv fv,o = .returned (.tuple #[bv,fv]) ∧ AnsB w l wait lease net av ev bv fv wc:=by
 rcases h with ⟨hm,bt,bs,rfl,rfl,h1,h2,h3⟩ | ⟨hm,rfl,rfl,h1⟩
 ·refine (dnewOk_any w1 a cap l wait lease net hm hr).mono ?_
  rintro o wc ⟨L,rfl,q1,q2,q3⟩
  refine ⟨_,_,rfl,.inl ⟨hm,bt,bs,L,rfl,rfl,rfl,rfl,⟨TownRep.below h1 q2,q1,fun x hx hx2 => ?_⟩,h2.trans (q2.mono h2.size),fun x hx => ?_⟩⟩
  ·have:=townRep.lt h1 x hx
   have:=q3 x hx2
   omega
  ·rcases List.mem_append.1 hx with e | e
   ·exact h3 x e
   ·exact Nat.le_trans h2.size (q3 x e)
 ·refine (dnewNo_any w1 a cap l wait lease net hm hr).mono ?_
  rintro o wc ⟨rfl,q1⟩
  exact ⟨_,_,rfl,.inr ⟨hm,rfl,rfl,rfl,rfl,h1.trans (q1.mono h1.size)⟩⟩
set_option maxRecDepth 100000 in
set_option maxHeartbeats 4000000 in
theorem made_any (W:World) (a:Option Addr) (cap:Nat) (l:List CredM) (wait lease net:Int) (hr:RawC W (.slice a l.length cap) l) :
  Calls Tryz.prog 26 #[.agg #[.slice a l.length cap,.int .i64 wait,.int .i64 lease,.int .i64 net]] W fun o w' => ∃ pv fp,o = .returned (.tuple #[pv,.bool true]) ∧ PairOr w' pv fp 8 ∧ (∀ x ∈ fp,W.heap.size ≤ x) ∧ Below W.heap.size W w' ∧ (ConfMay l wait lease net → pv ≠ .pointer none):=by
 have hlen:=hr.len
 have hX:=(Below.refl W.heap.size W).alloc (Nat.le_refl _) (.cells #[.slice a l.length cap,.int .i64 wait,.int .i64 lease,.int .i64 net] 24)
 have hC:=Box.new W #[.slice a l.length cap,.int .i64 wait,.int .i64 lease,.int .i64 net] 24
 have hr1:=hr.below hX
 have hsz:=World.size_alloc W (.cells #[.slice a l.length cap,.int .i64 wait,.int .i64 lease,.int .i64 net] 24)
 generalize hW1:W.alloc (.cells #[.slice a l.length cap,.int .i64 wait,.int .i64 lease,.int .i64 net] 24) = W1 at *
 have HW1:=hide hW1
 obtain ⟨cb,hcb⟩:∃ cb,cb = W.heap.size:=⟨_,rfl⟩
 obtain ⟨ob,hob⟩:∃ ob,ob = W1.heap.size:=⟨_,rfl⟩
 have k0:W1.cell? ⟨cb,0,none⟩ = some (.slice a l.length cap):=by rw [hcb];exact hC.cell 0
 obtain ⟨i0,hi0,hz0,hz1,hz2⟩:=info_parts Tryz.infoCred
 have hbb:W.heap.size ≤ W1.heap.size:=hX.size
 have hroom:i0.bytes * (l.length + 8) ≤ 281474976710656:=by rw [hz2];omega
 have HSTART:Hid (∀ w',w'.ownsRow W.heap.size 39 4 (.slice (some ⟨W1.heap.size,0,none⟩) (l.length + 8) (l.length + 8)) (l.length + 8) (madeCells (Value.agg #[.int .i64 0,.int .i64 0,.int .i64 0,.int .i64 0]).cells ((l.length + 8) * 4)).toList → W1.grownBy w' none →
   Row w' W.heap.size ob (l.length + 8) (mixed (handed l) (List.replicate (l.length + 8) credZ) 0) w' ∧ Below W.heap.size W w' ∧ Box w' cb #[.slice a l.length cap,.int .i64 wait,.int .i64 lease,.int .i64 net] 24 ∧ RawC w' (.slice a l.length cap) l ∧ ob < w'.heap.size):=fun w' hrow hg => by
  have hb1:Below W1.heap.size W1 w':=⟨hg.os,hg.tape,hg.output,hg.size,fun k hk => hg.block k hk (by simp)⟩
  have e:(madeCells (Value.agg #[.int .i64 0,.int .i64 0,.int .i64 0,.int .i64 0]).cells ((l.length + 8) * 4)).toList = (List.replicate (l.length + 8) credZ).flatMap credCells:=made_zero _
  rw [e,← hob] at hrow
  refine ⟨⟨by rw [mixed_zero];exact hrow,by rw [mixed_zero,List.length_replicate],Keeps.refl _ _⟩,hX.trans (hb1.mono hX.size),?_,hr1.below hb1,(hrow.lt ob rfl).2⟩
  rw [hcb]
  exact (hb1.block W.heap.size hC.lt).trans hC
 have hne:cb ≠ ob:=by omega
 have hlt:cb < ob:=by omega
 have HRAW:=hide hr
 have HCB:=hide hcb
 have HOB:=hide hob
 clear hr1 hC hr hX hW1 hcb hob hsz
 go_enter Tryz.func26,Tryz.ntmps26
 go_upto_region 1 with fail
 rw [unhide HW1,← unhide HCB]
 go_wp2_with (refine wpList_make_full _ rfl _ _ _ rfl W.heap.size 39 i0 _ 4 Tryz.underlying22 hi0 hz0 hz1 .i64 .i64 _ _ (l.length + 8) rfl rfl (by omega) (by omega) hroom (by unfold maxLen;omega) hbb ?_;intro w2 hrow hgr;obtain ⟨hR0,hB0,hC0,hr0,hol⟩:=unhide HSTART w2 hrow hgr;have HR0:=hide hR0;have HB0:=hide hB0;have HC0:=hide hC0;have HRW:=hide hr0;clear hrow hgr hR0 hB0 hC0 hr0 HSTART k0)
 rw [← unhide HOB]
 generalize w2 = X at *
 go_loopw [6] (fun i wr => ∃ k:Nat,k ≤ l.length + 8 ∧ i = .int .i64 (k:Int) ∧ Row X W.heap.size ob (l.length + 8) (mixed (handed l) (List.replicate (l.length + 8) credZ) k) wr) (fun i _ => l.length + 8 - (RowKit.intOf i).toNat)
 case atStart => exact ⟨0,Nat.zero_le _,rfl,unhide HR0⟩
 case round =>
  obtain ⟨k,hk,rfl,hR⟩:=hrel
  clear HR0
  by_cases hkn:k = l.length + 8
  ·subst hkn
   rw [show mixed (handed l) (List.replicate (l.length + 8) credZ) (l.length + 8) = handed l by have:=mixed_all (a:=handed l) (b:=List.replicate (l.length + 8) credZ) (by rw [handed_len,List.length_replicate]);rwa [List.length_replicate] at this] at hR
   have hbx:Box wr cb #[.slice a l.length cap,.int .i64 wait,.int .i64 lease,.int .i64 net] 24:=(hR.keeps.block cb (unhide HC0).lt (by simpa using hne)).trans (unhide HC0)
   have hrw:RawC wr (.slice a l.length cap) l:=by
    have hb1:Below W.heap.size W wr:=(unhide HB0).trans ⟨hR.keeps.os,hR.keeps.tape,hR.keeps.output,hR.keeps.size,fun x hx => hR.keeps.block x (Nat.lt_of_lt_of_le hx (unhide HB0).size) (by have:=unhide HCB;simp;omega)⟩
    exact (unhide HRAW).below hb1
   have c0:wr.cell? ⟨cb,0,none⟩ = some (.slice a l.length cap):=hbx.cell 0
   have c1:wr.cell? ⟨cb,1,none⟩ = some (.int .i64 wait):=hbx.cell 1
   have c2:wr.cell? ⟨cb,2,none⟩ = some (.int .i64 lease):=hbx.cell 2
   have c3:wr.cell? ⟨cb,3,none⟩ = some (.int .i64 net):=hbx.cell 3
   have HR:=hide hR
   have HBX:=hide hbx
   have HRAW2:=hide hrw
   clear hR hbx hrw
   have HLOW:Hid (Below W.heap.size W wr):=Keeps.low (unhide HB0) (unhide HR).keeps (by have:=unhide HCB;omega) (unhide HB0).size
   clear HC0 HRW HB0
   go_upto_region 11 with fail
   have hal:=(Below.refl wr.heap.size wr).alloc (Nat.le_refl _) (.cells #[.slice (some ⟨ob,0,none⟩) l.length (l.length + 8),.int .i64 wait,.int .i64 lease,.int .i64 net] 24)
   have hD:=Box.new wr #[.slice (some ⟨ob,0,none⟩) l.length (l.length + 8),.int .i64 wait,.int .i64 lease,.int .i64 net] 24
   have hR3:=(unhide HR).below hal
   have hC3:=(unhide HBX).keep hal
   have hr3:=(unhide HRAW2).below hal
   have hl3:=(unhide HLOW).trans (hal.mono (unhide HLOW).size)
   obtain ⟨db,hdb⟩:∃ db,db = wr.heap.size:=⟨_,rfl⟩
   rw [← hdb] at hD ⊢
   clear HR HBX HRAW2 HLOW hal hdb c0 c1 c2 c3
   generalize wr.alloc (.cells #[.slice (some ⟨ob,0,none⟩) l.length (l.length + 8),.int .i64 wait,.int .i64 lease,.int .i64 net] 24) = w3 at *
   have d0:w3.cell? ⟨db,0,none⟩ = some (.slice (some ⟨ob,0,none⟩) l.length (l.length + 8)):=hD.cell 0
   have d1:w3.cell? ⟨db,1,none⟩ = some (.int .i64 wait):=hD.cell 1
   have d2:w3.cell? ⟨db,2,none⟩ = some (.int .i64 lease):=hD.cell 2
   have d3:w3.cell? ⟨db,3,none⟩ = some (.int .i64 net):=hD.cell 3
   have HA:=hide (hR3.new (wait:=wait) (lease:=lease) (net:=net) hlen)
   have HR3:=hide hR3
   have HOB3:=hide ((hR3.row.lt ob rfl).2)
   have HC3:=hide hC3
   have HRW3:=hide hr3
   have HL3:=hide hl3
   clear hD hR3 hC3 hr3 hl3
   go_cut [8,9] (fun av ev wc => AnsA w3 l wait lease net av ev wc)
   case first =>
    go_wp2_with (go_at_call 16;refine (unhide HA).mono ?_;rintro o wc ⟨av,ev,rfl,h⟩;have HD:=hide h;clear h)
    go_meet
    case rel => exact unhide HD
   case rest =>
    have hb3:=hcut.below
    have hR4:=(unhide HR3).below hb3
    have hC4:=(unhide HC3).keep hb3
    have hr4:=(unhide HRW3).below hb3
    have HB:=hide (hcut.both hr4)
    have e0:wc.cell? ⟨cb,0,none⟩ = some (.slice a l.length cap):=hC4.cell 0
    have e1:wc.cell? ⟨cb,1,none⟩ = some (.int .i64 wait):=hC4.cell 1
    have e2:wc.cell? ⟨cb,2,none⟩ = some (.int .i64 lease):=hC4.cell 2
    have e3:wc.cell? ⟨cb,3,none⟩ = some (.int .i64 net):=hC4.cell 3
    clear hb3 hR4 hC4 hr4 hcut HA d0 d1 d2 d3
    generalize wc = w4 at *
    go_upto_region 12 with fail
    go_cut [10,11] (fun bv fv wc => AnsB w3 l wait lease net u8 u9 bv fv wc)
    case first =>
     go_wp2_with (go_at_call 50;refine (unhide HB).mono ?_;rintro o wc ⟨bv,fv,rfl,h⟩;have HD:=hide h;clear h)
     go_meet
     case rel => exact unhide HD
    case rest =>
     clear HB e0 e1 e2 e3
     have hb3:=hcut.below
     have hR5:Row wc W.heap.size ob (l.length + 8) (mixed (List.replicate (l.length + 8) c999) (handed l) 0) wc:=by
      have:=(unhide HR3).below hb3
      rw [mixed_zero]
      exact ⟨this.row,this.len,Keeps.refl _ _⟩
     have HR5:=hide hR5
     have HC5:=hide ((unhide HC3).keep hb3)
     have HRW5:=hide ((unhide HRW3).below hb3)
     have HL5:=hide ((unhide HL3).trans (hb3.mono (unhide HL3).size))
     have HANS:=hide hcut
     have HNUM:=hide (fun e w => num_any e w)
     clear hb3 hR5 hcut HR3 HC3 HRW3 HL3
     generalize wc = w5 at *
     go_upto_region 13 with fail
     go_cut [12] (fun ok wc => ok = .bool true ∧ wc = w5)
     case first =>
      rcases unhide HANS with ⟨hm,bt,bs,L,rfl,rfl,rfl,rfl,_⟩ | ⟨hm,rfl,rfl,rfl,rfl,_⟩
      all_goals
       go_wp2_with (go_at_call 51;refine (unhide HNUM _ _).mono ?_;rintro o w6 ⟨rfl,rfl⟩)
       go_meet
       case rel => exact ⟨by simp,rfl⟩
     case rest =>
      obtain ⟨rfl,rfl⟩:=hcut
      clear HNUM
      go_upto_region 14 with fail
      go_wp2_with fail
      go_loopw [12,13] (fun ok i wr => ∃ k:Nat,k ≤ l.length + 8 ∧ ok = .bool true ∧ i = .int .i64 (k:Int) ∧ Row wc W.heap.size ob (l.length + 8) (mixed (List.replicate (l.length + 8) c999) (handed l) k) wr) (fun _ i _ => l.length + 8 - (RowKit.intOf i).toNat)
      case atStart => exact ⟨0,Nat.zero_le _,rfl,rfl,unhide HR5⟩
      case round =>
       obtain ⟨k,hk,rfl,rfl,hR⟩:=hrel
       clear HR5
       by_cases hkn:k = l.length + 8
       ·subst hkn
        have hlow:Below W.heap.size W wr:=Keeps.low (unhide HL5) hR.keeps (by have:=unhide HCB;omega) (unhide HL5).size
        have HKE:=hide hR.keeps
        have hob3:=unhide HOB3
        rcases unhide HANS with ⟨hm,bt,bs,L,rfl,rfl,rfl,rfl,hpa,hbe,hbl⟩ | ⟨hm,rfl,rfl,rfl,rfl,hbe⟩
        ·have hps:PairAt wr bt bs L (TownM.new wait lease net l):=hpa.same (fun x hx => (unhide HKE).block x (hpa.lt x hx) (by have:=hbl x hx;simp;omega))
         have hal:=(Below.refl wr.heap.size wr).alloc (Nat.le_refl _) (.cells #[.pointer (some ⟨bt,0,none⟩),.pointer (some ⟨L.bt,0,none⟩)] 128)
         have hfit:Fits 8 (TownM.new wait lease net l):=Fits.new hm.1.1 hm.1.2.1 hm.1.2.2.1 hm.1.2.2.2 (fun c hc => CredM.may_ok hm.1.1.2 (hm.2 c hc))
         have HFIN:Hid (PairOr (wr.alloc (.cells #[.pointer (some ⟨bt,0,none⟩),.pointer (some ⟨L.bt,0,none⟩)] 128)) (.pointer (some ⟨wr.heap.size,0,none⟩)) (wr.heap.size :: (bs ++ L.blocks)) 8 ∧ (∀ x ∈ wr.heap.size :: (bs ++ L.blocks),W.heap.size ≤ x) ∧ Below W.heap.size W (wr.alloc (.cells #[.pointer (some ⟨bt,0,none⟩),.pointer (some ⟨L.bt,0,none⟩)] 128))):=by
          refine ⟨.inr ⟨_,bt,bs,L,_,rfl,rfl,Box.new _ _ _,hps.below hal,hfit,fun hx => ?_⟩,fun x hx => ?_,hlow.trans (hal.mono hlow.size)⟩
          ·have:=hps.lt _ hx
           omega
          ·rcases List.mem_cons.1 hx with e | e
           ·rw [e];exact hlow.size
           ·have h1:=hbl x e
            have h2:=(unhide HCB)
            omega
         clear hps hal hfit hpa hbe hbl hR HKE hlow
         go_wp2
         refine bodyPost_ret (v:=.tuple #[.pointer (some ⟨wr.heap.size,0,none⟩),.bool true]) (by simp [results,Tryz.results26,go_sem]) rfl ?_
         exact ⟨_,_,rfl,(unhide HFIN).1,(unhide HFIN).2.1,(unhide HFIN).2.2,fun _ => by simp⟩
        ·have HLOW:=hide hlow
         have HM:=hide hm
         clear hR HKE hlow hbe hm
         go_wp2
         refine bodyPost_ret (v:=.tuple #[.pointer none,.bool true]) (by simp [results,Tryz.results26,go_sem]) rfl ?_
         exact ⟨_,[],rfl,.inl ⟨rfl,rfl⟩,fun x hx => absurd hx List.not_mem_nil,unhide HLOW,fun hm => absurd hm (unhide HM)⟩
       ·have hkl:k < l.length + 8:=by omega
        have k0:(0:Int) ≤ (k:Int):=by omega
        have kl:(k:Int) < ((l.length + 8:Nat):Int):=by omega
        have hwx:wc.heap.size ≤ wr.heap.size:=hR.keeps.size
        have hal:=(Below.refl wr.heap.size wr).alloc (Nat.le_refl _) (.cells #[.int .i64 77,.int .i64 78,.int .i64 79,.int .i64 80] 39)
        have hR6:=hR.below hal
        have hxo:wr.heap.size ≠ ob:=by have:=(hR.row.lt ob rfl).2;omega
        have hC6:Box (wr.alloc (.cells #[.int .i64 77,.int .i64 78,.int .i64 79,.int .i64 80] 39)) cb #[.slice a l.length cap,.int .i64 wait,.int .i64 lease,.int .i64 net] 24:=(hR6.keeps.block cb (unhide HC5).lt (by simpa using hne)).trans (unhide HC5)
        have hX6:=Box.new wr #[.int .i64 77,.int .i64 78,.int .i64 79,.int .i64 80] 39
        obtain ⟨xb,hxb⟩:∃ xb,xb = wr.heap.size:=⟨_,rfl⟩
        rw [← hxb] at hX6 hxo hwx
        by_cases hin:k < l.length
        ·obtain ⟨a',cap',ea,_,hraw⟩:=(unhide HRAW).is
         cases ea
         obtain ⟨g,ro,rfl,hg,hcel⟩:=hraw (by omega)
         have hgo:g ≠ ob:=by have:=unhide HCB;omega
         have hgx:g ≠ xb:=by have:=(unhide HL5).size;omega
         have hX3:(wr.alloc (.cells #[.int .i64 77,.int .i64 78,.int .i64 79,.int .i64 80] 39)).heap[g]? = W.heap[g]?:=(hR6.keeps.block g (Nat.lt_of_lt_of_le hg (unhide HL5).size) (by simpa using hgo)).trans ((unhide HL5).block g hg)
         have hcr:∀ j,j < 4 → (wr.alloc (.cells #[.int .i64 77,.int .i64 78,.int .i64 79,.int .i64 80] 39)).cell? ⟨g,ro + k * 4 + j,none⟩ = (credCells (l.getD k credZ))[j]?:=fun j hj => (World.cell?_of_block (a:=⟨g,ro + k * 4 + j,none⟩) hX3).trans (hcel k j hin hj)
         have hhand:=handed_lt l hin
         clear hR hal hcel hraw hX3
         go_upto_region 18 with fail
         rw [← hxb]
         have HXB:=hide hxb
         clear hxb
         generalize wr.alloc (.cells #[.int .i64 77,.int .i64 78,.int .i64 79,.int .i64 80] 39) = w6 at *
         have HR7:=hide (hR6.setX hxo hwx 0 (credCells (l.getD k credZ)))
         obtain ⟨y,hy⟩:∃ y,y = l.getD k credZ:=⟨_,rfl⟩
         rw [← hy] at hcr hhand HR7
         have m0:w6.cell? ⟨g,ro + k * 4,none⟩ = some (.int .i64 y.p):=hcr 0 (by omega)
         have m1:w6.cell? ⟨g,ro + k * 4 + 1,none⟩ = some (.int .i64 y.t):=hcr 1 (by omega)
         have m2:w6.cell? ⟨g,ro + k * 4 + 2,none⟩ = some (.int .i64 y.e):=hcr 2 (by omega)
         have m3:w6.cell? ⟨g,ro + k * 4 + 3,none⟩ = some (.int .i64 y.v):=hcr 3 (by omega)
         have c0:w6.cell? ⟨cb,0,none⟩ = some (.slice (some ⟨g,ro,none⟩) l.length cap):=hC6.cell 0
         have x0:w6.cell? ⟨xb,0,none⟩ = some (.int .i64 77):=hX6.cell 0
         have x1:w6.cell? ⟨xb,1,none⟩ = some (.int .i64 78):=hX6.cell 1
         have x2:w6.cell? ⟨xb,2,none⟩ = some (.int .i64 79):=hX6.cell 2
         have x3:w6.cell? ⟨xb,3,none⟩ = some (.int .i64 80):=hX6.cell 3
         have f0:=hX6.frozen 0
         have f1:=hX6.frozen 1
         have f2:=hX6.frozen 2
         have f3:=hX6.frozen 3
         have HX7:Hid (Box ((((w6.setCell ⟨xb,0,none⟩ (.int .i64 y.p)).setCell ⟨xb,1,none⟩ (.int .i64 y.t)).setCell ⟨xb,2,none⟩ (.int .i64 y.e)).setCell ⟨xb,3,none⟩ (.int .i64 y.v)) xb #[.int .i64 y.p,.int .i64 y.t,.int .i64 y.e,.int .i64 y.v] 39):=(((hX6.set 0 _).set 1 _).set 2 _).set 3 _
         simp only [credCells,World.setCells,Nat.reduceAdd] at HR7
         have kl2:(k:Int) < (l.length:Int):=by omega
         have HHAND:=hide hhand
         have HY:=hide hy
         clear hR6 hC6 hX6 hcr hhand hy
         go_upto_region 20 with fail
         have hR7:=unhide HR7
         have hX7:=unhide HX7
         generalize ((((w6.setCell ⟨xb,0,none⟩ (.int .i64 y.p)).setCell ⟨xb,1,none⟩ (.int .i64 y.t)).setCell ⟨xb,2,none⟩ (.int .i64 y.e)).setCell ⟨xb,3,none⟩ (.int .i64 y.v)) = w7 at *
         clear HR7 HX7 m0 m1 m2 m3 c0 x0 x1 x2 x3 f0 f1 f2 f3
         have hcell:=hR7.last_cell hkl
         rw [unhide HHAND] at hcell
         have a0:w7.cell? ⟨ob,k * 4,none⟩ = some (.int .i64 y.p):=hcell 0 _ rfl
         have a1:w7.cell? ⟨ob,k * 4 + 1,none⟩ = some (.int .i64 y.t):=hcell 1 _ rfl
         have a2:w7.cell? ⟨ob,k * 4 + 2,none⟩ = some (.int .i64 y.e):=hcell 2 _ rfl
         have a3:w7.cell? ⟨ob,k * 4 + 3,none⟩ = some (.int .i64 y.v):=hcell 3 _ rfl
         have x0:w7.cell? ⟨xb,0,none⟩ = some (.int .i64 y.p):=hX7.cell 0
         have x1:w7.cell? ⟨xb,1,none⟩ = some (.int .i64 y.t):=hX7.cell 1
         have x2:w7.cell? ⟨xb,2,none⟩ = some (.int .i64 y.e):=hX7.cell 2
         have x3:w7.cell? ⟨xb,3,none⟩ = some (.int .i64 y.v):=hX7.cell 3
         have y0:=hR7.frozen (k * 4)
         have y1:=hR7.frozen (k * 4 + 1)
         have y2:=hR7.frozen (k * 4 + 2)
         have y3:=hR7.frozen (k * 4 + 3)
         have HN:Hid (∀ nq,Row wc W.heap.size ob (l.length + 8) (mixed (List.replicate (l.length + 8) c999) (handed l) (k + 1)) ((w7.drewN nq).setCells ob (k * 4) (credCells c999))):=fun nq => (hR7.below (below_drewN (Below.refl _ _) nq)).last hkl
         simp only [credCells,World.setCells,Nat.add_assoc,Nat.reduceAdd] at HN
         clear hR7 hX7 hcell hkn
         go_quiet (fail)
         go_wp2
         go_roundw
         case rel => exact ⟨k + 1,by omega,by simp,by go_num,unhide HN _⟩
         case measure => simp [RowKit.intOf];omega
        ·have hhand:=handed_ge l (Nat.le_of_not_lt hin) hkl
         have dn:decide (k < l.length) = false:=by simp;omega
         clear hR hal hin
         go_upto_region 18 with fail
         rw [← hxb]
         have HXB:=hide hxb
         clear hxb
         generalize wr.alloc (.cells #[.int .i64 77,.int .i64 78,.int .i64 79,.int .i64 80] 39) = w7 at *
         have hcell:=hR6.last_cell hkl
         rw [hhand] at hcell
         have a0:w7.cell? ⟨ob,k * 4,none⟩ = some (.int .i64 77):=hcell 0 _ rfl
         have a1:w7.cell? ⟨ob,k * 4 + 1,none⟩ = some (.int .i64 78):=hcell 1 _ rfl
         have a2:w7.cell? ⟨ob,k * 4 + 2,none⟩ = some (.int .i64 79):=hcell 2 _ rfl
         have a3:w7.cell? ⟨ob,k * 4 + 3,none⟩ = some (.int .i64 80):=hcell 3 _ rfl
         have x0:w7.cell? ⟨xb,0,none⟩ = some (.int .i64 77):=hX6.cell 0
         have x1:w7.cell? ⟨xb,1,none⟩ = some (.int .i64 78):=hX6.cell 1
         have x2:w7.cell? ⟨xb,2,none⟩ = some (.int .i64 79):=hX6.cell 2
         have x3:w7.cell? ⟨xb,3,none⟩ = some (.int .i64 80):=hX6.cell 3
         have y0:=hR6.frozen (k * 4)
         have y1:=hR6.frozen (k * 4 + 1)
         have y2:=hR6.frozen (k * 4 + 2)
         have y3:=hR6.frozen (k * 4 + 3)
         have HN:Hid (∀ nq,Row wc W.heap.size ob (l.length + 8) (mixed (List.replicate (l.length + 8) c999) (handed l) (k + 1)) ((w7.drewN nq).setCells ob (k * 4) (credCells c999))):=fun nq => (hR6.below (below_drewN (Below.refl _ _) nq)).last hkl
         simp only [credCells,World.setCells,Nat.add_assoc,Nat.reduceAdd] at HN
         clear hR6 hC6 hX6 hcell hkn hhand
         go_upto_region 20 with fail
         go_quiet (fail)
         go_wp2
         go_roundw
         case rel => exact ⟨k + 1,by omega,by simp,by go_num,unhide HN _⟩
         case measure => simp [RowKit.intOf];omega
  ·have hkl:k < l.length + 8:=by omega
   have hcell:=hR.cell hkl
   generalize (mixed (handed l) (List.replicate (l.length + 8) credZ) k).getD k credZ = z at hcell
   have a0:wr.cell? ⟨ob,k * 4,none⟩ = some (.int .i64 z.p):=hcell 0 _ rfl
   have a1:wr.cell? ⟨ob,k * 4 + 1,none⟩ = some (.int .i64 z.t):=hcell 1 _ rfl
   have a2:wr.cell? ⟨ob,k * 4 + 2,none⟩ = some (.int .i64 z.e):=hcell 2 _ rfl
   have a3:wr.cell? ⟨ob,k * 4 + 3,none⟩ = some (.int .i64 z.v):=hcell 3 _ rfl
   have y0:=hR.frozen (k * 4)
   have y1:=hR.frozen (k * 4 + 1)
   have y2:=hR.frozen (k * 4 + 2)
   have y3:=hR.frozen (k * 4 + 3)
   have k0:(0:Int) ≤ (k:Int):=by omega
   have kl:(k:Int) < ((l.length + 8:Nat):Int):=by omega
   by_cases hin:k < l.length
   ·have HN:=hide (hR.set hkl c77)
    simp only [credCells,c77,World.setCells,Nat.add_assoc,Nat.reduceAdd] at HN
    clear hR hcell hkn
    go_upto_region 7 with fail
    have hR2:Row X W.heap.size ob (l.length + 8) ((mixed (handed l) (List.replicate (l.length + 8) credZ) k).set k c77) _:=unhide HN
    generalize ((((wr.setCell ⟨ob,k * 4,none⟩ (.int .i64 77)).setCell ⟨ob,k * 4 + 1,none⟩ (.int .i64 78)).setCell ⟨ob,k * 4 + 2,none⟩ (.int .i64 79)).setCell ⟨ob,k * 4 + 3,none⟩ (.int .i64 80)) = w3 at *
    clear HN a0 a1 a2 a3 y0 y1 y2 y3
    have hbx:Box w3 cb #[.slice a l.length cap,.int .i64 wait,.int .i64 lease,.int .i64 net] 24:=(hR2.keeps.block cb (unhide HC0).lt (by simpa using hne)).trans (unhide HC0)
    obtain ⟨a',cap',ea,_,hraw⟩:=(unhide HRAW).is
    cases ea
    obtain ⟨g,ro,rfl,hg,hcel⟩:=hraw (by omega)
    have hgo:g ≠ ob:=by have:=unhide HCB;omega
    have hX3:w3.heap[g]? = W.heap[g]?:=(hR2.keeps.block g (Nat.lt_of_lt_of_le hg (unhide HB0).size) (by simpa using hgo)).trans ((unhide HB0).block g hg)
    have hcr:∀ j,j < 4 → w3.cell? ⟨g,ro + k * 4 + j,none⟩ = (credCells (l.getD k credZ))[j]?:=fun j hj => (World.cell?_of_block (a:=⟨g,ro + k * 4 + j,none⟩) hX3).trans (hcel k j hin hj)
    have HN2:=hide (hR2.first_lt hin)
    have hcell2:=hR2.cell hkl
    generalize ((mixed (handed l) (List.replicate (l.length + 8) credZ) k).set k c77).getD k credZ = z2 at hcell2
    generalize l.getD k credZ = y at *
    have m0:w3.cell? ⟨g,ro + k * 4,none⟩ = some (.int .i64 y.p):=hcr 0 (by omega)
    have m1:w3.cell? ⟨g,ro + k * 4 + 1,none⟩ = some (.int .i64 y.t):=hcr 1 (by omega)
    have m2:w3.cell? ⟨g,ro + k * 4 + 2,none⟩ = some (.int .i64 y.e):=hcr 2 (by omega)
    have m3:w3.cell? ⟨g,ro + k * 4 + 3,none⟩ = some (.int .i64 y.v):=hcr 3 (by omega)
    have a0:w3.cell? ⟨ob,k * 4,none⟩ = some (.int .i64 z2.p):=hcell2 0 _ rfl
    have a1:w3.cell? ⟨ob,k * 4 + 1,none⟩ = some (.int .i64 z2.t):=hcell2 1 _ rfl
    have a2:w3.cell? ⟨ob,k * 4 + 2,none⟩ = some (.int .i64 z2.e):=hcell2 2 _ rfl
    have a3:w3.cell? ⟨ob,k * 4 + 3,none⟩ = some (.int .i64 z2.v):=hcell2 3 _ rfl
    have y0:=hR2.frozen (k * 4)
    have y1:=hR2.frozen (k * 4 + 1)
    have y2:=hR2.frozen (k * 4 + 2)
    have y3:=hR2.frozen (k * 4 + 3)
    have c0:w3.cell? ⟨cb,0,none⟩ = some (.slice (some ⟨g,ro,none⟩) l.length cap):=hbx.cell 0
    have kl2:(k:Int) < (l.length:Int):=by omega
    simp only [credCells,World.setCells,Nat.add_assoc,Nat.reduceAdd] at HN2
    clear hR2 hcell2 hcr hX3 hbx hcel hraw
    go_wp2
    go_roundw
    case rel => exact ⟨k + 1,by omega,by go_num,unhide HN2⟩
    case measure => simp [RowKit.intOf];omega
   ·have HN:=hide (hR.first_ge (by omega) hkl)
    have dn:decide (k < l.length) = false:=by simp;omega
    simp only [credCells,c77,World.setCells,Nat.add_assoc,Nat.reduceAdd] at HN
    clear hR hcell hkn hin
    go_wp2
    go_roundw
    case rel => exact ⟨k + 1,by omega,by go_num,unhide HN⟩
    case measure => simp [RowKit.intOf];omega
end Go.Proofs.YtceappncglfciaaGreat
namespace Go.Proofs.YtceappncglfciaaGreat
open Go.ChangeShapes Go.WideShapes Go.ChangeAt Go.RowKit Go.Joins Go.Deep
section
variable {H:Type}
theorem bulk_len (l:List (DataW H)) {c:Nat} (h:∀ d ∈ l,c ≤ Rows.uptoBulk d):c * l.length ≤ Rows.uptoBulkAll l:=by
 induction l with
 | nil => simp
 | cons x r ih =>
  have h1:=h x List.mem_cons_self
  have h2:=ih (fun d hd => h d (List.mem_cons_of_mem _ hd))
  simp only [Rows.uptoBulkAll,List.length_cons,Nat.mul_add]
  omega
theorem bulk_one (d:DataW H):1 ≤ Rows.uptoBulk d:=by
 cases d with
 | lit l => cases l <;> simp [Rows.uptoBulk]
 | _ => simp [Rows.uptoBulk]
theorem bulk_slice (elems spare:List (DataW H)) {c:Nat} (h:∀ d ∈ elems,c ≤ Rows.uptoBulk d):c * elems.length + 1 ≤ Rows.uptoBulk (.slice elems spare):=by
 have:=bulk_len elems h
 simp only [Rows.uptoBulk]
 omega
variable {enc:TypeId × Value → H} {w:World} {base:Nat} {spare:Nat → Bool} {held:Bool}
theorem slice_room {fuel:Nat} {t e:TypeId} {v:Value} {x:DataW H × List MemPlace} (ht:Tryz.prog.underlying t = some (.slice e)) (h:DataW.trod enc Tryz.prog w base spare held fuel t [v] = some x):∀ a n cap,v = .slice a n cap → n ≤ cap ∧ n + 1 ≤ Rows.uptoBulk x.1:=by
 intro a n cap hv
 subst hv
 rcases open_slice ht h with ⟨h0,hx⟩ | ⟨a',len,cap',m,k,D,Pl,h0,-,hl,-,hmm,hx,-⟩
 ·simp at h0
  rw [hx]
  have:=bulk_one (H:=H) .nil
  exact ⟨by omega,by show n + 1 ≤ Rows.uptoBulk .nil;omega⟩
 ·simp at h0
  obtain ⟨rfl,rfl,rfl⟩:=h0
  have:=bulk_slice (H:=H) ((List.range n).map D) ((List.range (m - n)).map fun j => D (n + j)) (c:=1) (fun d _ => bulk_one d)
  rw [hx]
  refine ⟨hl,?_⟩
  simpa using this
theorem open_credsC {fuel:Nat} {v:Value} {x:DataW H × List MemPlace} (h:DataW.trod enc Tryz.prog w base spare held fuel 22 [v] = some x) (hk:Rows.uptoBulk x.1 ≤ 1048576):∃ l:List CredM,RawC w v l:=by
 have hs:=slice_room Tryz.underlying22 h
 obtain ⟨l,hl⟩:=open_creds h (fun a n cap hv => by have:=(hs a n cap hv).2;omega)
 obtain ⟨a,cap,hv,hc⟩:=hl.is
 have:=hs a _ cap hv
 exact ⟨l,⟨a,cap,hv,this.1,hc⟩,by omega⟩
end
structure StepL where
 k:Int
 h:Int
 a:Int
 b:Int
def stepY:StepL:=⟨0,0,0,0⟩
def stepCells (s:StepL):List Value:=[.int .i64 s.k,.int .i64 s.h,.int .i64 s.a,.int .i64 s.b]
structure ScriptAt (W:World) (v:Value) (l:List StepL):Prop where
 is:∃ a cap,v = .slice a l.length cap ∧ (0 < l.length → ∃ g o,a = some ⟨g,o,none⟩ ∧ g < W.heap.size ∧ ∀ i j,i < l.length → j < 4 → W.cell? ⟨g,o + i * 4 + j,none⟩ = (stepCells (l.getD i stepY))[j]?)
 len:l.length ≤ 209715
theorem ScriptAt.below {W w:World} {v:Value} {l:List StepL} (h:ScriptAt W v l) (hb:Below W.heap.size W w):ScriptAt w v l:=by
 obtain ⟨a,cap,h1,h3⟩:=h.is
 refine ⟨⟨a,cap,h1,fun hp => ?_⟩,h.len⟩
 obtain ⟨g,o,h4,h5,h6⟩:=h3 hp
 exact ⟨g,o,h4,Nat.lt_of_lt_of_le h5 hb.size,fun i j hi hj => (World.cell?_of_block (a:=⟨g,o + i * 4 + j,none⟩) (hb.block g h5)).trans (h6 i j hi hj)⟩
theorem Tryz.cellsStepL:Tryz.prog.cellsOf 72 = 4:=by kernel_rfl
section
variable {H:Type} {enc:TypeId × Value → H} {w:World} {base:Nat} {spare:Nat → Bool} {held:Bool}
theorem cells_stepL {n:Nat} {cs:List Value} {y:DataW H × List MemPlace} (h:DataW.trod enc Tryz.prog w base spare held n 72 cs = some y):(∃ c:StepL,cs = stepCells c) ∧ 5 ≤ Rows.uptoBulk y.1:=by
 constructor
 ·obtain ⟨v0,v1,v2,v3,y0,y1,y2,y3,k,rfl,g0,g1,g2,g3⟩:=fields_four Tryz.underlying72 Tryz.cellsStepL Tryz.cellsInt ⟨rfl,rfl,rfl,rfl⟩ ⟨rfl,rfl,rfl,rfl⟩ h
  obtain ⟨a0,e0,w0⟩:=cell_int g0
  obtain ⟨a1,e1,w1⟩:=cell_int g1
  obtain ⟨a2,e2,w2⟩:=cell_int g2
  obtain ⟨a3,e3,w3⟩:=cell_int g3
  simp at e0 e1 e2 e3
  subst e0 e1 e2 e3
  exact ⟨⟨a0,a1,a2,a3⟩,rfl⟩
 ·obtain ⟨xs,k,-,rfl,hl,hxl,hf⟩:=DataW.trod_struct Tryz.underlying72 h
  have h1:=bulk_len (H:=H) (xs.map (·.1)) (c:=1) (fun d _ => bulk_one d)
  have h4:(xs.map (·.1)).length = 4:=by rw [List.length_map];exact hxl
  rw [h4] at h1
  show 5 ≤ Rows.uptoBulk (.agg (xs.map (·.1)))
  simp only [Rows.uptoBulk]
  omega
theorem open_script {fuel:Nat} {v:Value} {x:DataW H × List MemPlace} (h:DataW.trod enc Tryz.prog w base spare held fuel 25 [v] = some x) (hk:Rows.uptoBulk x.1 ≤ 1048576):∃ l:List StepL,ScriptAt w v l:=by
 rcases open_slice Tryz.underlying25 h with ⟨h0,-⟩ | ⟨a,len,cap,m,n,D,Pl,h0,hb,hl,hm,hmm,hxx,hx⟩
 ·have:v = .slice none 0 0:=by simpa using h0
  subst this
  exact ⟨[],⟨none,0,rfl,fun h => absurd h (by simp)⟩,by simp⟩
 ·have hv:v = .slice (some a) len cap:=by simpa using h0
  subst hv
  have hlm:len ≤ m:=by rw [hmm];split <;> omega
  rw [Tryz.cellsStepL] at hx
  have h5:∀ i,i < len → 5 ≤ Rows.uptoBulk (D i):=fun i hi => by
   obtain ⟨cs',h1,h2⟩:=hx i (by omega)
   exact (cells_stepL h2).2
  have hlen:len ≤ 209715:=by
   have:=bulk_slice (H:=H) ((List.range len).map D) ((List.range (m - len)).map fun j => D (len + j)) (c:=5) (fun d hd => by
    obtain ⟨i,hi,rfl⟩:=List.mem_map.1 hd
    exact h5 i (List.mem_range.1 hi))
   rw [hxx] at hk
   rw [List.length_map,List.length_range] at this
   have hk':Rows.uptoBulk (.slice ((List.range len).map D) ((List.range (m - len)).map fun j => D (len + j))) ≤ 1048576:=hk
   omega
  have each:∀ i,i < len → ∃ c:StepL,∀ j,j < 4 → w.cell? (a.add (i * 4 + j)) = (stepCells c)[j]?:=by
   intro i hi
   obtain ⟨cs',h1,h2⟩:=hx i (by omega)
   obtain ⟨_,hl4,hcell⟩:=World.cells?_some h1
   obtain ⟨⟨c,rfl⟩,-⟩:=cells_stepL h2
   refine ⟨c,fun j hj => ?_⟩
   have:=hcell j hj
   rw [add_add] at this
   exact this
  haveI:Inhabited StepL:=⟨stepY⟩
  obtain ⟨q,hq⟩:=choose_lt each
  refine ⟨listOf q len,⟨some a,cap,by rw [listOf_len],fun hpos => ?_⟩,by rw [listOf_len];exact hlen⟩
  rw [listOf_len] at hpos
  obtain ⟨g,o,spot⟩:=a
  have h00:=(hq 0 hpos) 0 (by omega)
  have hsome:w.cell? ((⟨g,o,spot⟩:Addr).add (0 * 4 + 0)) = some (.int .i64 (q 0).k):=h00
  have hspot:spot = none:=by simpa [Addr.add] using World.cell?_spot hsome
  subst hspot
  refine ⟨g,o,rfl,block_of_cell (a:=⟨g,o,none⟩) (by simpa [Addr.add] using hsome),fun i j hi hj => ?_⟩
  rw [listOf_len] at hi
  rw [listOf_get q stepY len i hi,Nat.add_assoc,← add_plain]
  exact (hq i hi) j hj
end
end Go.Proofs.YtceappncglfciaaGreat
