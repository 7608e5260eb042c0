import Derived.Test.YtceappncglfciaaGreatM52
import Derived.Test.YtceappncglfciaaGreatM51
import Derived.Test.YtceappncglfciaaGreatM50
import Derived.Great.BuildSlice
set_option linter.unusedVariables false
set_option linter.unusedSimpArgs false
namespace Go.Proofs.YtceappncglfciaaGreat
open Go.RowKit
attribute [local go_sem ↓] Go.wp_at_zero Go.wp_at_succ
theorem first_raw (w:World):RawC (w.alloc (.cells #[.int .i64 0,.int .i64 0,.int .i64 0,.int .i64 0,.int .i64 0,.int .i64 0,.int .i64 0,.int .i64 0] 39)) (.slice (some ⟨w.heap.size,0,none⟩) [credZ,credZ].length 2) [credZ,credZ]:=by
 refine ⟨⟨_,2,rfl,Nat.le_refl _,fun _ => ⟨w.heap.size,0,rfl,by rw [World.size_alloc];omega,fun i j hi hj => ?_⟩⟩,by decide⟩
 have hB:=Box.new w #[.int .i64 0,.int .i64 0,.int .i64 0,.int .i64 0,.int .i64 0,.int .i64 0,.int .i64 0,.int .i64 0] 39
 have hi2:i = 0 ∨ i = 1:=by simp at hi;omega
 have hj4:j = 0 ∨ j = 1 ∨ j = 2 ∨ j = 3:=by omega
 rcases hi2 with rfl | rfl <;> rcases hj4 with rfl | rfl | rfl | rfl <;> exact hB.cell _
theorem first_may:ConfMay [credZ,credZ] 1 4 9:=by
 refine ⟨by decide,fun c hc => ?_⟩
 have:c = credZ:=by simpa using hc
 subst this
 unfold CredM.may
 decide
theorem Tryz.mk2 (w:World):(Instr.makeSlice 22 (.int .i64 2) (.int .i64 2)).run Tryz.prog w = .ok (.slice (some ⟨w.heap.size,0,none⟩) 2 2) (w.alloc (.cells #[.int .i64 0,.int .i64 0,.int .i64 0,.int .i64 0,.int .i64 0,.int .i64 0,.int .i64 0,.int .i64 0] 39)):=by kernel_rfl
theorem first_made (w:World):Calls Tryz.prog 26 #[.agg #[.slice (some ⟨w.heap.size,0,none⟩) 2 2,.int .i64 1,.int .i64 4,.int .i64 9]] (w.alloc (.cells #[.int .i64 0,.int .i64 0,.int .i64 0,.int .i64 0,.int .i64 0,.int .i64 0,.int .i64 0,.int .i64 0] 39)) fun o w' => ∃ pb,o = .returned (.tuple #[.pointer (some ⟨pb,0,none⟩),.bool true]) ∧ Below w.heap.size w w':=by
 have hb:=(Below.refl w.heap.size w).alloc (Nat.le_refl _) (.cells #[.int .i64 0,.int .i64 0,.int .i64 0,.int .i64 0,.int .i64 0,.int .i64 0,.int .i64 0,.int .i64 0] 39)
 refine (made_any _ _ 2 [credZ,credZ] 1 4 9 (first_raw w)).mono ?_
 rintro o w' ⟨pv,fp,rfl,h1,h2,h3,h4⟩
 rcases h1 with ⟨e,_⟩ | ⟨pb,bt,bs,L,T,rfl,_,_⟩
 ·exact absurd e (h4 first_may)
 ·exact ⟨pb,rfl,hb.trans (h3.mono hb.size)⟩
theorem Inv.start {W w:World} {pv qv:Value} {fp fq:List Nat} (hb:Below W.heap.size W w) (hp:PairOr w pv fp 8) (hq:PairOr w qv fq 8) (h0:∀ x ∈ fp,W.heap.size ≤ x) (h1:∀ x ∈ fq,W.heap.size ≤ x) (ha:∀ x ∈ fp,x ∉ fq) :
  Inv W w.heap.size pv qv 8 0 (w.alloc (.cells #[.int .i64 0,.slice none 0 0,.slice none 0 0] 70)):=by
 have hX:=(Below.refl w.heap.size w).alloc (Nat.le_refl _) (.cells #[.int .i64 0,.slice none 0 0,.slice none 0 0] 70)
 have hm:∀ x ∈ bookFp w.heap.size [] (.slice none 0 0) (.slice none 0 0),x = w.heap.size:=fun x hx => by
  rcases mem_bookFp.1 hx with e | e | e | e
  ·exact e
  ·exact absurd e List.not_mem_nil
  ·simp [Value.ownBlock] at e
  ·simp [Value.ownBlock] at e
 refine ⟨⟨fp,fq,[],0,[],[],.slice none 0 0,.slice none 0 0,hp.below hX,hq.below hX,⟨Box.new _ _ _,World.ownsRow_nil _ _ _ _,World.ownsRow_nil _ _ _ _,fun e he => absurd he List.not_mem_nil,fun e he => absurd he List.not_mem_nil,fun e he => absurd he List.not_mem_nil,fun e he => absurd he List.not_mem_nil,hb.size⟩,by simp,fun x hx => ⟨ha x hx,fun e => ?_,h0 x hx⟩,fun x hx => ⟨fun e => ha x e hx,fun e => ?_,h1 x hx⟩⟩,hb.trans (hX.mono hb.size)⟩
 ·have:=hp.lt x hx
  have:=hm x e
  omega
 ·have:=hq.lt x hx
  have:=hm x e
  omega
theorem ScriptAt.cells {W:World} {sa:Option Addr} {scap:Nat} {sl:List StepL} (h:ScriptAt W (.slice sa sl.length scap) sl) {k:Nat} (hk:k < sl.length):∃ g o,sa = some ⟨g,o,none⟩ ∧ ∀ w,Below W.heap.size W w →
  (w.cell? ⟨g,o + k * 4,none⟩ = some (.int .i64 (sl.getD k stepY).k) ∧ w.cell? ⟨g,o + k * 4 + 1,none⟩ = some (.int .i64 (sl.getD k stepY).h) ∧ w.cell? ⟨g,o + k * 4 + 2,none⟩ = some (.int .i64 (sl.getD k stepY).a) ∧ w.cell? ⟨g,o + k * 4 + 3,none⟩ = some (.int .i64 (sl.getD k stepY).b)):=by
 obtain ⟨a,cap,h1,h3⟩:=h.is
 cases h1
 obtain ⟨g,o,rfl,hg,hc⟩:=h3 (by omega)
 refine ⟨g,o,rfl,fun w hb => ?_⟩
 have hs:=fun j => World.cell?_of_block (a:=⟨g,o + k * 4 + j,none⟩) (hb.block g hg)
 exact ⟨(hs 0).trans (hc k 0 hk (by omega)),(hs 1).trans (hc k 1 hk (by omega)),(hs 2).trans (hc k 2 hk (by omega)),(hs 3).trans (hc k 3 hk (by omega))⟩
theorem Inv.does {W0 wr:World} {kb pb:Nat} {qv:Value} {K:Int} {n:Nat} (h:Inv W0 kb (.pointer (some ⟨pb,0,none⟩)) qv K n wr) (hK:K + 15000 ≤ 4294967294) (s:StepL) :
  Calls Tryz.prog 28 #[.pointer (some ⟨pb,0,none⟩),.agg #[.int .i64 s.k,.int .i64 s.h,.int .i64 s.a,.int .i64 s.b]] wr fun o w' => o = .returned (.bool true) ∧ Inv W0 kb (.pointer (some ⟨pb,0,none⟩)) qv (K + 15000) n w':=by
 obtain ⟨bt,bs,L,T,hP,hn⟩:=h.pair
 refine (does_any s.k s.h s.a s.b K wr pb bt bs L T hP hK).mono ?_
 rintro o w' ⟨rfl,bs',L',T',h1,h2,h3⟩
 exact ⟨rfl,hn w' bs' L' T' h1 h2 h3⟩
theorem Inv.asks {W0 wr:World} {kb pb:Nat} {qv:Value} {K:Int} {n:Nat} (h:Inv W0 kb (.pointer (some ⟨pb,0,none⟩)) qv K n wr) (hn:n ≤ 209715) (s:StepL) :
  Calls Tryz.prog 29 #[.pointer (some ⟨kb,0,none⟩),.pointer (some ⟨pb,0,none⟩),.agg #[.int .i64 s.k,.int .i64 s.h,.int .i64 s.a,.int .i64 s.b]] wr fun o w' => o = .returned (.bool true) ∧ Inv W0 kb (.pointer (some ⟨pb,0,none⟩)) qv K (n + 1) w':=by
 obtain ⟨bt,bs,L,T,ls,c,E,F,ve,vf,hP,hB,h4,_,hx⟩:=h.book
 refine (asks_any s.k s.h s.a s.b K wr pb bt bs L T _ kb ls c E F ve vf hP hB (by omega) (by omega) (by omega)).mono ?_
 rintro o w' ⟨rfl,h1⟩
 exact ⟨rfl,hx w' h1⟩
theorem Inv.looks {W0 wr:World} {kb:Nat} {pv qv:Value} {K:Int} {n:Nat} (h:Inv W0 kb pv qv K n wr) (hn:n ≤ 209716) :
  Calls Tryz.prog 30 #[.pointer (some ⟨kb,0,none⟩)] wr fun o w' => o = .returned (.bool true) ∧ Inv W0 kb pv qv K n w':=by
 obtain ⟨ls,c,E,F,ve,vf,hB,hE,hF⟩:=h.books
 refine (looks_any wr _ kb ls c E F ve vf hB (by omega) (by omega)).mono ?_
 rintro o w' ⟨rfl,h1⟩
 exact ⟨rfl,h.later h1⟩
theorem Inv.early {W0 wr:World} {kb pb:Nat} {qv:Value} {K:Int} {n:Nat} (h:Inv W0 kb (.pointer (some ⟨pb,0,none⟩)) qv K n wr) (s:StepL) :
  Calls Tryz.prog 27 #[.pointer (some ⟨pb,0,none⟩),.agg #[.int .i64 s.k,.int .i64 s.h,.int .i64 s.a,.int .i64 s.b]] wr fun o w' => ∃ r,o = .returned (.bool r) ∧ Inv W0 kb (.pointer (some ⟨pb,0,none⟩)) qv K n w':=by
 obtain ⟨bt,bs,L,T,hP,_⟩:=h.pair
 refine (early_any s.k s.h s.a s.b K wr pb bt bs L T hP).mono ?_
 rintro o w' ⟨⟨r,rfl⟩,h1⟩
 exact ⟨r,rfl,h.later h1⟩
set_option maxRecDepth 100000 in
set_option maxHeartbeats 4000000 in
theorem plays_any (W:World) (ca da:Option Addr) (cc dc:Nat) (lc ld:List CredM) (cw cl cn dw dl dn:Int) (sa:Option Addr) (scap:Nat) (sl:List StepL) (vt:Bool)
  (hrc:RawC W (.slice ca lc.length cc) lc) (hrd:RawC W (.slice da ld.length dc) ld) (hs:ScriptAt W (.slice sa sl.length scap) sl) :
  Calls Tryz.prog 9 #[.agg #[.slice ca lc.length cc,.int .i64 cw,.int .i64 cl,.int .i64 cn],.agg #[.slice da ld.length dc,.int .i64 dw,.int .i64 dl,.int .i64 dn],.slice sa sl.length scap,.bool vt] W fun o w' => o = .returned (.bool true) ∧ Below W.heap.size W w':=by
 have hsl:=hs.len
 have hX1:=(Below.refl W.heap.size W).alloc (Nat.le_refl _) (.cells #[.slice ca lc.length cc,.int .i64 cw,.int .i64 cl,.int .i64 cn] 24)
 have hC1:=Box.new W #[.slice ca lc.length cc,.int .i64 cw,.int .i64 cl,.int .i64 cn] 24
 have hX2:=(Below.refl (W.alloc (.cells #[.slice ca lc.length cc,.int .i64 cw,.int .i64 cl,.int .i64 cn] 24)).heap.size (W.alloc (.cells #[.slice ca lc.length cc,.int .i64 cw,.int .i64 cl,.int .i64 cn] 24))).alloc (Nat.le_refl _) (.cells #[.slice da ld.length dc,.int .i64 dw,.int .i64 dl,.int .i64 dn] 24)
 have hD2:=Box.new (W.alloc (.cells #[.slice ca lc.length cc,.int .i64 cw,.int .i64 cl,.int .i64 cn] 24)) #[.slice da ld.length dc,.int .i64 dw,.int .i64 dl,.int .i64 dn] 24
 have hC2:=hC1.keep hX2
 have hX:=hX1.trans (hX2.mono hX1.size)
 have hds:(W.alloc (.cells #[.slice ca lc.length cc,.int .i64 cw,.int .i64 cl,.int .i64 cn] 24)).heap.size = W.heap.size + 1:=World.size_alloc _ _
 rw [hds] at hD2
 generalize hW2:(W.alloc (.cells #[.slice ca lc.length cc,.int .i64 cw,.int .i64 cl,.int .i64 cn] 24)).alloc (.cells #[.slice da ld.length dc,.int .i64 dw,.int .i64 dl,.int .i64 dn] 24) = W2 at *
 have HW2:=hide hW2
 have HBX:Hid (∀ w,Below W2.heap.size W2 w → Below W.heap.size W w ∧ Box w W.heap.size #[.slice ca lc.length cc,.int .i64 cw,.int .i64 cl,.int .i64 cn] 24 ∧ Box w (W.heap.size + 1) #[.slice da ld.length dc,.int .i64 dw,.int .i64 dl,.int .i64 dn] 24 ∧ RawC w (.slice ca lc.length cc) lc ∧ RawC w (.slice da ld.length dc) ld):=fun w hb =>
  ⟨hX.trans (hb.mono hX.size),hC2.keep hb,hD2.keep hb,hrc.below (hX.trans (hb.mono hX.size)),hrd.below (hX.trans (hb.mono hX.size))⟩
 have HS:=hide hs
 have hmk:=Tryz.mk2
 clear hX1 hC1 hX2 hD2 hC2 hX hds hW2 hrc hrd hs
 go_enter Tryz.func9,Tryz.ntmps9
 go_upto_region 1 with fail
 rw [unhide HW2]
 go_wp2_with fail
 refine (shown_any W2).mono ?_
 rintro o w1 ⟨rfl,hb1⟩
 have HB1:=hide hb1
 clear hb1
 go_upto_region 3 with (go_at_call 26;refine (first_made w1).mono ?_;rintro o w2 ⟨pf,rfl,hb2⟩;have HB2:=hide ((unhide HB1).trans (hb2.mono (unhide HB1).size));clear hb2)
 obtain ⟨hl2,hc2,hd2,hrc2,hrd2⟩:=unhide HBX w2 (unhide HB2)
 have m0:w2.cell? ⟨W.heap.size,0,none⟩ = some (.slice ca lc.length cc):=hc2.cell 0
 have m1:w2.cell? ⟨W.heap.size,1,none⟩ = some (.int .i64 cw):=hc2.cell 1
 have m2:w2.cell? ⟨W.heap.size,2,none⟩ = some (.int .i64 cl):=hc2.cell 2
 have m3:w2.cell? ⟨W.heap.size,3,none⟩ = some (.int .i64 cn):=hc2.cell 3
 have HMC:=hide (made_any w2 ca cc lc cw cl cn hrc2)
 clear hl2 hc2 hd2 hrc2 hrd2 hmk
 go_upto_region 4 with (go_at_call 26;refine (unhide HMC).mono ?_;rintro o w3 ⟨pv,fp,rfl,hp,hfp,hb3,_⟩;have HP3:=hide hp;have HFP:=hide hfp;have HB23:=hide hb3;clear hp hfp hb3)
 have HB3:Hid (Below W2.heap.size W2 w3):=(unhide HB2).trans ((unhide HB23).mono (unhide HB2).size)
 clear m0 m1 m2 m3 HMC
 obtain ⟨hl3,hc3,hd3,hrc3,hrd3⟩:=unhide HBX w3 (unhide HB3)
 have m0:w3.cell? ⟨W.heap.size + 1,0,none⟩ = some (.slice da ld.length dc):=hd3.cell 0
 have m1:w3.cell? ⟨W.heap.size + 1,1,none⟩ = some (.int .i64 dw):=hd3.cell 1
 have m2:w3.cell? ⟨W.heap.size + 1,2,none⟩ = some (.int .i64 dl):=hd3.cell 2
 have m3:w3.cell? ⟨W.heap.size + 1,3,none⟩ = some (.int .i64 dn):=hd3.cell 3
 have HMD:=hide (made_any w3 da dc ld dw dl dn hrd3)
 clear hl3 hc3 hd3 hrc3 hrd3
 go_upto_region 5 with (go_at_call 26;refine (unhide HMD).mono ?_;rintro o w4 ⟨qv,fq,rfl,hq,hfq,hb4,_⟩;have HQ4:=hide hq;have HFQ:=hide hfq;have HB34:=hide hb4;clear hq hfq hb4)
 have HST:Hid (Inv W w4.heap.size pv qv 8 0 (w4.alloc (.cells #[.int .i64 0,.slice none 0 0,.slice none 0 0] 70))):=by
  have hl2:=(unhide HBX w2 (unhide HB2)).1
  have hl3:=(unhide HBX w3 (unhide HB3)).1
  have hb34:=unhide HB34
  refine Inv.start (hl3.trans (hb34.mono hl3.size)) ((unhide HP3).below hb34) (unhide HQ4) (fun x hx => Nat.le_trans hl2.size (unhide HFP x hx)) (fun x hx => Nat.le_trans hl3.size (unhide HFQ x hx)) (fun x hx hx2 => ?_)
  have h1:=(unhide HP3).lt x hx
  have h2:=unhide HFQ x hx2
  omega
 clear m0 m1 m2 m3 HMD HP3 HFP HB23 HB3 HQ4 HFQ HB34 HB1 HB2 HBX HW2
 go_upto_region 8 with fail
 obtain ⟨kb,hkb⟩:∃ kb,kb = w4.heap.size:=⟨_,rfl⟩
 rw [← hkb] at HST ⊢
 clear hkb
 generalize w4.alloc (.cells #[.int .i64 0,.slice none 0 0,.slice none 0 0] 70) = w5 at *
 go_wp2_with fail
 go_loopw [17] (fun i wr => ∃ k:Nat,k ≤ sl.length ∧ i = .int .i64 (k:Int) ∧ Inv W kb pv qv (8 + 15000 * (k:Int)) k wr) (fun i _ => sl.length - (RowKit.intOf i).toNat)
 case atStart => exact ⟨0,Nat.zero_le _,rfl,unhide HST⟩
 case round =>
  obtain ⟨k,hk,rfl,hI⟩:=hrel
  clear HST
  by_cases hkn:k = sl.length
  ·subst hkn
   have HQ:=hide hI.below
   clear hI
   go_wp2
   go_ret
   exact ⟨rfl,unhide HQ⟩
  ·have hkl:k < sl.length:=by omega
   obtain ⟨g,so,rfl,hcel⟩:=(unhide HS).cells hkl
   have HCEL:=hide hcel
   obtain ⟨s0,s1,s2,s3⟩:=hcel wr hI.below
   generalize sl.getD k stepY = s at *
   have k0:(0:Int) ≤ (k:Int):=by omega
   have kl:(k:Int) < (sl.length:Int):=by omega
   have HI:=hide hI
   clear hI hcel hkn
   go_upto_if 73 with fail
   go_cut [18] (fun ofv wc => wc = wr ∧ (ofv = pv ∨ ofv = qv))
   case first =>
    go_wp2
    all_goals
     go_meet
     case rel => exact ⟨rfl,by first | exact .inl rfl | exact .inr rfl⟩
   case rest =>
    obtain ⟨rfl,hof⟩:=hcut
    have hI:=unhide HI
    obtain ⟨xv,hJ,hback⟩:∃ xv,Inv W kb u18 xv (8 + 15000 * (k:Int)) k wc ∧ ∀ K n w,Inv W kb u18 xv K n w → Inv W kb pv qv K n w:=by
     rcases hof with rfl | rfl
     ·exact ⟨qv,hI,fun _ _ _ h => h⟩
     ·exact ⟨pv,hI.swap,fun _ _ _ h => h.swap⟩
    have hkK:8 + 15000 * (k:Int) ≤ 8 + 15000 * ((k + 1:Nat):Int):=by omega
    rcases hJ.cases with rfl | ⟨pb,rfl⟩
    ·have HF:=hide (hback _ _ _ (hJ.mono hkK (Nat.le_succ k)))
     clear hI hJ hback hof hkK HI
     go_wp2
     go_roundw
     case rel => exact ⟨k + 1,hkl,by go_num,unhide HF⟩
     case measure => simp [RowKit.intOf];omega
    ·have HE:=hide (hJ.early s)
     have HBACK:=hide hback
     have hKK:8 + 15000 * (k:Int) + 15000 ≤ 4294967294:=by omega
     have HKK:=hide hKK
     have HKE:Hid (8 + 15000 * (k:Int) + 15000 = 8 + 15000 * ((k + 1:Nat):Int)):=show _ = _ by omega
     have HK1:=hide hkK
     clear hI hJ hback hof hkK HI hKK
     go_upto_region 16 with (go_at_call 27;refine (unhide HE).mono ?_;rintro o w6 ⟨r,rfl,h6⟩;have HJ6:=hide h6;clear h6)
     clear HE s0 s1 s2 s3
     have hvr:(vt = true ∧ r = false) ∨ vt = false ∨ (vt = true ∧ r = true):=by cases vt <;> cases r <;> simp
     rcases hvr with ⟨rfl,rfl⟩ | rfl | ⟨rfl,rfl⟩
     ·have HF:=hide (unhide HBACK _ _ _ ((unhide HJ6).mono (unhide HK1) (Nat.le_succ k)))
      go_wp2
      go_roundw
      case rel => exact ⟨k + 1,hkl,by go_num,unhide HF⟩
      case measure => simp [RowKit.intOf];omega
     all_goals
      have HD:=hide ((unhide HJ6).does (unhide HKK) s)
      obtain ⟨s0,s1,s2,s3⟩:=unhide HCEL w6 (unhide HJ6).below
      clear HJ6
      go_upto_region 18 with (go_at_call 28;refine (unhide HD).mono ?_;rintro o w7 ⟨rfl,h7⟩;have HJ7:=hide h7;clear h7)
      clear HD s0 s1 s2 s3
      have HA:=hide ((unhide HJ7).asks (by omega) s)
      obtain ⟨s0,s1,s2,s3⟩:=unhide HCEL w7 (unhide HJ7).below
      clear HJ7
      go_upto_region 19 with (go_at_call 29;refine (unhide HA).mono ?_;rintro o w8 ⟨rfl,h8⟩;have HJ8:=hide h8;clear h8)
      clear HA s0 s1 s2 s3
      have HL:=hide ((unhide HJ8).looks (by omega))
      clear HJ8
      go_upto_region 20 with (go_at_call 30;refine (unhide HL).mono ?_;rintro o w9 ⟨rfl,h9⟩;have HJ9:=hide h9;clear h9)
      have HF:Hid (Inv W kb pv qv (8 + 15000 * ((k + 1:Nat):Int)) (k + 1) w9):=by
       have h9:=unhide HBACK _ _ _ (unhide HJ9)
       rw [unhide HKE] at h9
       exact h9
      clear HL HJ9
      go_wp2
      go_roundw
      case rel => exact ⟨k + 1,hkl,by go_num,unhide HF⟩
      case measure => simp [RowKit.intOf];omega
end Go.Proofs.YtceappncglfciaaGreat
namespace Go.Proofs.YtceappncglfciaaGreat
open Go.RowKit
attribute [local go_sem ↓] Go.wp_at_zero Go.wp_at_succ
theorem Tryz.bsC (w:World) (p t e v p2 t2 e2 v2:Int):(Instr.buildSlice 22 2 #[(0,.agg #[.int .i64 p,.int .i64 t,.int .i64 e,.int .i64 v]),(1,.agg #[.int .i64 p2,.int .i64 t2,.int .i64 e2,.int .i64 v2])]).run Tryz.prog w = .ok (.slice (some ⟨w.heap.size,0,none⟩) 2 2) (w.alloc (.cells #[.int .i64 p,.int .i64 t,.int .i64 e,.int .i64 v,.int .i64 p2,.int .i64 t2,.int .i64 e2,.int .i64 v2] 39)):=by kernel_rfl
theorem twice_raw (w:World) (c:CredM):RawC (w.alloc (.cells #[.int .i64 c.p,.int .i64 c.t,.int .i64 c.e,.int .i64 c.v,.int .i64 c.p,.int .i64 c.t,.int .i64 c.e,.int .i64 c.v] 39)) (.slice (some ⟨w.heap.size,0,none⟩) [c,c].length 2) [c,c]:=by
 refine ⟨⟨_,2,rfl,Nat.le_refl _,fun _ => ⟨w.heap.size,0,rfl,by rw [World.size_alloc];omega,fun i j hi hj => ?_⟩⟩,by simp⟩
 have hB:=Box.new w #[.int .i64 c.p,.int .i64 c.t,.int .i64 c.e,.int .i64 c.v,.int .i64 c.p,.int .i64 c.t,.int .i64 c.e,.int .i64 c.v] 39
 have hi2:i = 0 ∨ i = 1:=by simp at hi;omega
 have hj4:j = 0 ∨ j = 1 ∨ j = 2 ∨ j = 3:=by omega
 rcases hi2 with rfl | rfl <;> rcases hj4 with rfl | rfl | rfl | rfl <;> exact hB.cell _
def Several (W:World) (wait lease net:Int) (o:Ending) (w':World):Prop :=
 ∃ a cap,∃ l:List CredM,o = .returned (.agg #[.slice a l.length cap,.int .i64 wait,.int .i64 lease,.int .i64 net]) ∧ RawC w' (.slice a l.length cap) l ∧ Below W.heap.size W w'
set_option maxRecDepth 100000 in
set_option maxHeartbeats 4000000 in
theorem several_any (W:World) (a:Option Addr) (cap:Nat) (l:List CredM) (wait lease net:Int) (hr:RawC W (.slice a l.length cap) l) :
  Calls Tryz.prog 10 #[.agg #[.slice a l.length cap,.int .i64 wait,.int .i64 lease,.int .i64 net]] W fun o w' => Several W wait lease net o w':=by
 have hlen:=hr.len
 by_cases h1:l.length = 1
 ·obtain ⟨c,rfl⟩:∃ c,l = [c]:=by
   match l,h1 with
   | [c],_ => exact ⟨c,rfl⟩
  obtain ⟨a',cap',ea,_,hraw⟩:=hr.is
  cases ea
  obtain ⟨g,ro,rfl,hg,hcel⟩:=hraw (by simp)
  have hX1:=(Below.refl W.heap.size W).alloc (Nat.le_refl _) (.cells #[.slice (some ⟨g,ro,none⟩) 1 cap,.int .i64 wait,.int .i64 lease,.int .i64 net] 24)
  have hC1:=Box.new W #[.slice (some ⟨g,ro,none⟩) 1 cap,.int .i64 wait,.int .i64 lease,.int .i64 net] 24
  have hX2:=(Below.refl (W.alloc (.cells #[.slice (some ⟨g,ro,none⟩) 1 cap,.int .i64 wait,.int .i64 lease,.int .i64 net] 24)).heap.size (W.alloc (.cells #[.slice (some ⟨g,ro,none⟩) 1 cap,.int .i64 wait,.int .i64 lease,.int .i64 net] 24))).alloc (Nat.le_refl _) (.cells #[.slice none 0 0,.int .i64 0,.int .i64 0,.int .i64 0] 24)
  have hC2:=hC1.keep hX2
  have hX:=hX1.trans (hX2.mono hX1.size)
  have hD2:=Box.new (W.alloc (.cells #[.slice (some ⟨g,ro,none⟩) 1 cap,.int .i64 wait,.int .i64 lease,.int .i64 net] 24)) #[.slice none 0 0,.int .i64 0,.int .i64 0,.int .i64 0] 24
  have hds:(W.alloc (.cells #[.slice (some ⟨g,ro,none⟩) 1 cap,.int .i64 wait,.int .i64 lease,.int .i64 net] 24)).heap.size = W.heap.size + 1:=World.size_alloc _ _
  rw [hds] at hD2
  generalize hW2:(W.alloc (.cells #[.slice (some ⟨g,ro,none⟩) 1 cap,.int .i64 wait,.int .i64 lease,.int .i64 net] 24)).alloc (.cells #[.slice none 0 0,.int .i64 0,.int .i64 0,.int .i64 0] 24) = W2 at *
  have HW2:=hide hW2
  have hcr:∀ j,j < 4 → W2.cell? ⟨g,ro + j,none⟩ = (credCells c)[j]?:=fun j hj => (World.cell?_of_block (a:=⟨g,ro + j,none⟩) (hX.block g hg)).trans (by have:=hcel 0 j (by simp) hj;simpa using this)
  have m0:W2.cell? ⟨g,ro,none⟩ = some (.int .i64 c.p):=hcr 0 (by omega)
  have m1:W2.cell? ⟨g,ro + 1,none⟩ = some (.int .i64 c.t):=hcr 1 (by omega)
  have m2:W2.cell? ⟨g,ro + 2,none⟩ = some (.int .i64 c.e):=hcr 2 (by omega)
  have m3:W2.cell? ⟨g,ro + 3,none⟩ = some (.int .i64 c.v):=hcr 3 (by omega)
  have c0:W2.cell? ⟨W.heap.size,0,none⟩ = some (.slice (some ⟨g,ro,none⟩) 1 cap):=hC2.cell 0
  have f0:=hC2.frozen 0
  have hlt2:=hC2.lt
  have HS3:Hid (RawC ((W2.setCell ⟨W.heap.size,0,none⟩ (.slice (some ⟨W2.heap.size,0,none⟩) 2 2)).alloc (.cells #[.int .i64 c.p,.int .i64 c.t,.int .i64 c.e,.int .i64 c.v,.int .i64 c.p,.int .i64 c.t,.int .i64 c.e,.int .i64 c.v] 39)).drew (.slice (some ⟨W2.heap.size,0,none⟩) 2 2) [c,c] ∧ Below W.heap.size W ((W2.setCell ⟨W.heap.size,0,none⟩ (.slice (some ⟨W2.heap.size,0,none⟩) 2 2)).alloc (.cells #[.int .i64 c.p,.int .i64 c.t,.int .i64 c.e,.int .i64 c.v,.int .i64 c.p,.int .i64 c.t,.int .i64 c.e,.int .i64 c.v] 39)).drew ∧
    Box ((W2.setCell ⟨W.heap.size,0,none⟩ (.slice (some ⟨W2.heap.size,0,none⟩) 2 2)).alloc (.cells #[.int .i64 c.p,.int .i64 c.t,.int .i64 c.e,.int .i64 c.v,.int .i64 c.p,.int .i64 c.t,.int .i64 c.e,.int .i64 c.v] 39)).drew W.heap.size #[.slice (some ⟨W2.heap.size,0,none⟩) 2 2,.int .i64 wait,.int .i64 lease,.int .i64 net] 24 ∧
    Box ((W2.setCell ⟨W.heap.size,0,none⟩ (.slice (some ⟨W2.heap.size,0,none⟩) 2 2)).alloc (.cells #[.int .i64 c.p,.int .i64 c.t,.int .i64 c.e,.int .i64 c.v,.int .i64 c.p,.int .i64 c.t,.int .i64 c.e,.int .i64 c.v] 39)).drew (W.heap.size + 1) #[.slice none 0 0,.int .i64 0,.int .i64 0,.int .i64 0] 24 ∧ W.heap.size + 1 < W2.heap.size):=by
   have h1:=hC2.set 0 (.slice (some ⟨W2.heap.size,0,none⟩) 2 2)
   have h2:=hD2.setOther (a:=⟨W.heap.size,0,none⟩) (by show W.heap.size + 1 ≠ W.heap.size;omega) (.slice (some ⟨W2.heap.size,0,none⟩) 2 2)
   have h3:=hX.setCell (p:=⟨W.heap.size,0,none⟩) (Nat.le_refl _) (.slice (some ⟨W2.heap.size,0,none⟩) 2 2)
   have hs:(W2.setCell ⟨W.heap.size,0,none⟩ (.slice (some ⟨W2.heap.size,0,none⟩) 2 2)).heap.size = W2.heap.size:=by simp
   have h4:=twice_raw (W2.setCell ⟨W.heap.size,0,none⟩ (.slice (some ⟨W2.heap.size,0,none⟩) 2 2)) c
   rw [hs] at h4
   have h5:=(Below.refl (W2.setCell ⟨W.heap.size,0,none⟩ (.slice (some ⟨W2.heap.size,0,none⟩) 2 2)).heap.size (W2.setCell ⟨W.heap.size,0,none⟩ (.slice (some ⟨W2.heap.size,0,none⟩) 2 2))).alloc (Nat.le_refl _) (.cells #[.int .i64 c.p,.int .i64 c.t,.int .i64 c.e,.int .i64 c.v,.int .i64 c.p,.int .i64 c.t,.int .i64 c.e,.int .i64 c.v] 39)
   exact ⟨h4.below (Below.refl _ _).drew,(h3.trans (h5.mono h3.size)).drew,h1.keep h5.drew,h2.keep h5.drew,hD2.lt⟩
  have c0a:∀ o,(W2.alloc o).cell? ⟨W.heap.size,0,none⟩ = some (.slice (some ⟨g,ro,none⟩) 1 cap):=fun o => (World.cell?_of_block (a:=⟨W.heap.size,0,none⟩) (Below.heap_alloc W2 o _ hlt2)).trans c0
  have f0a:∀ o,(W2.alloc o).frozen? ⟨W.heap.size,0,none⟩ = false:=fun o => (World.frozen?_of_block (a:=⟨W.heap.size,0,none⟩) (Below.heap_alloc W2 o _ hlt2)).trans f0
  have hbs:=fun w => Tryz.bsC w c.p c.t c.e c.v c.p c.t c.e c.v
  clear hX1 hC1 hX2 hD2 hC2 hX hds hW2 hr hcr hcel hraw h1
  go_enter Tryz.func10,Tryz.ntmps10
  go_upto_region 2 with fail
  simp only [unhide HW2]
  go_region
  obtain ⟨h4,h5,h6,h7,hlt3⟩:=unhide HS3
  obtain ⟨gs,hgs⟩:∃ gs,gs = W2.heap.size:=⟨_,rfl⟩
  rw [← hgs] at h4 h5 h6 h7 hlt3 ⊢
  generalize ((W2.setCell ⟨W.heap.size,0,none⟩ (.slice (some ⟨gs,0,none⟩) 2 2)).alloc (.cells #[.int .i64 c.p,.int .i64 c.t,.int .i64 c.e,.int .i64 c.v,.int .i64 c.p,.int .i64 c.t,.int .i64 c.e,.int .i64 c.v] 39)).drew = W3 at *
  have n0:W3.cell? ⟨W.heap.size,0,none⟩ = some (.slice (some ⟨gs,0,none⟩) 2 2):=h6.cell 0
  have n1:W3.cell? ⟨W.heap.size,1,none⟩ = some (.int .i64 wait):=h6.cell 1
  have n2:W3.cell? ⟨W.heap.size,2,none⟩ = some (.int .i64 lease):=h6.cell 2
  have n3:W3.cell? ⟨W.heap.size,3,none⟩ = some (.int .i64 net):=h6.cell 3
  have r0:W3.cell? ⟨W.heap.size + 1,0,none⟩ = some (.slice none 0 0):=h7.cell 0
  have r1:W3.cell? ⟨W.heap.size + 1,1,none⟩ = some (.int .i64 0):=h7.cell 1
  have r2:W3.cell? ⟨W.heap.size + 1,2,none⟩ = some (.int .i64 0):=h7.cell 2
  have r3:W3.cell? ⟨W.heap.size + 1,3,none⟩ = some (.int .i64 0):=h7.cell 3
  have z0:=h7.frozen 0
  have z1:=h7.frozen 1
  have z2:=h7.frozen 2
  have z3:=h7.frozen 3
  have HFIN:Hid (RawC ((((W3.setCell ⟨W.heap.size + 1,0,none⟩ (.slice (some ⟨gs,0,none⟩) 2 2)).setCell ⟨W.heap.size + 1,1,none⟩ (.int .i64 wait)).setCell ⟨W.heap.size + 1,2,none⟩ (.int .i64 lease)).setCell ⟨W.heap.size + 1,3,none⟩ (.int .i64 net)) (.slice (some ⟨gs,0,none⟩) 2 2) [c,c] ∧ Below W.heap.size W ((((W3.setCell ⟨W.heap.size + 1,0,none⟩ (.slice (some ⟨gs,0,none⟩) 2 2)).setCell ⟨W.heap.size + 1,1,none⟩ (.int .i64 wait)).setCell ⟨W.heap.size + 1,2,none⟩ (.int .i64 lease)).setCell ⟨W.heap.size + 1,3,none⟩ (.int .i64 net))):=by
   have hle:W.heap.size ≤ W.heap.size + 1:=by omega
   refine ⟨?_,(((h5.setCell hle _).setCell hle _).setCell hle _).setCell hle _⟩
   obtain ⟨a',cap',ea,e2,e3⟩:=h4.is
   refine ⟨⟨a',cap',ea,e2,fun hp => ?_⟩,h4.len⟩
   obtain ⟨g',o',e4,e5,e6⟩:=e3 hp
   have e7:g' = gs:=by
    rw [e4] at ea
    cases ea
    rfl
   refine ⟨g',o',e4,by simpa using e5,fun i j hi hj => ?_⟩
   rw [← e6 i j hi hj]
   have hne:g' ≠ W.heap.size + 1:=by omega
   refine World.cell?_of_block (a:=⟨g',o' + i * 4 + j,none⟩) ?_
   exact (Below.heap_setCell _ _ _ g' hne).trans ((Below.heap_setCell _ _ _ g' hne).trans ((Below.heap_setCell _ _ _ g' hne).trans (Below.heap_setCell _ _ _ g' hne)))
  have HB4:Hid (Box ((((W3.setCell ⟨W.heap.size + 1,0,none⟩ (.slice (some ⟨gs,0,none⟩) 2 2)).setCell ⟨W.heap.size + 1,1,none⟩ (.int .i64 wait)).setCell ⟨W.heap.size + 1,2,none⟩ (.int .i64 lease)).setCell ⟨W.heap.size + 1,3,none⟩ (.int .i64 net)) (W.heap.size + 1) #[.slice (some ⟨gs,0,none⟩) 2 2,.int .i64 wait,.int .i64 lease,.int .i64 net] 24):=(((h7.set 0 _).set 1 _).set 2 _).set 3 _
  clear h4 h5 h6 h7 hgs HS3 c0a f0a m0 m1 m2 m3 c0 f0 hbs hlt3
  go_wp2
  have hF:=unhide HFIN
  have hB4:=unhide HB4
  generalize ((((W3.setCell ⟨W.heap.size + 1,0,none⟩ (.slice (some ⟨gs,0,none⟩) 2 2)).setCell ⟨W.heap.size + 1,1,none⟩ (.int .i64 wait)).setCell ⟨W.heap.size + 1,2,none⟩ (.int .i64 lease)).setCell ⟨W.heap.size + 1,3,none⟩ (.int .i64 net)) = W4 at *
  have x0:W4.cell? ⟨W.heap.size + 1,0,none⟩ = some (.slice (some ⟨gs,0,none⟩) 2 2):=hB4.cell 0
  have x1:W4.cell? ⟨W.heap.size + 1,1,none⟩ = some (.int .i64 wait):=hB4.cell 1
  have x2:W4.cell? ⟨W.heap.size + 1,2,none⟩ = some (.int .i64 lease):=hB4.cell 2
  have x3:W4.cell? ⟨W.heap.size + 1,3,none⟩ = some (.int .i64 net):=hB4.cell 3
  refine bodyPost_ret (v:=.agg #[.slice (some ⟨gs,0,none⟩) 2 2,.int .i64 wait,.int .i64 lease,.int .i64 net]) (by simp [results,Tryz.results10,go_sem,x0,x1,x2,x3]) rfl ?_
  exact ⟨some ⟨gs,0,none⟩,2,[c,c],rfl,hF.1,hF.2⟩
 ·have hX1:=(Below.refl W.heap.size W).alloc (Nat.le_refl _) (.cells #[.slice a l.length cap,.int .i64 wait,.int .i64 lease,.int .i64 net] 24)
  have hX2:=(Below.refl (W.alloc (.cells #[.slice a l.length cap,.int .i64 wait,.int .i64 lease,.int .i64 net] 24)).heap.size (W.alloc (.cells #[.slice a l.length cap,.int .i64 wait,.int .i64 lease,.int .i64 net] 24))).alloc (Nat.le_refl _) (.cells #[.slice a l.length cap,.int .i64 wait,.int .i64 lease,.int .i64 net] 24)
  have hX:=hX1.trans (hX2.mono hX1.size)
  have HX:=hide hX
  have HR:=hide (hr.below hX)
  have d1:((l.length:Int) == 1) = false:=by simp;omega
  clear hX1 hX2 hX hr
  go_enter Tryz.func10,Tryz.ntmps10
  go_wp2
  refine bodyPost_ret (v:=.agg #[.slice a l.length cap,.int .i64 wait,.int .i64 lease,.int .i64 net]) (by simp [results,Tryz.results10,go_sem]) rfl ?_
  exact ⟨a,cap,l,rfl,unhide HR,unhide HX⟩
end Go.Proofs.YtceappncglfciaaGreat
namespace Go.Proofs.YtceappncglfciaaGreat
open Go.RowKit
attribute [local go_sem ↓] Go.wp_at_zero Go.wp_at_succ
set_option maxRecDepth 100000 in
set_option maxHeartbeats 4000000 in
theorem all_any (W:World) (ca da:Option Addr) (cc dc:Nat) (lc ld:List CredM) (cw cl cn dw dl dn:Int) (sa:Option Addr) (scap:Nat) (sl:List StepL)
  (hrc:RawC W (.slice ca lc.length cc) lc) (hrd:RawC W (.slice da ld.length dc) ld) (hs:ScriptAt W (.slice sa sl.length scap) sl) :
  Calls Tryz.prog 4 #[.agg #[.slice ca lc.length cc,.int .i64 cw,.int .i64 cl,.int .i64 cn],.agg #[.slice da ld.length dc,.int .i64 dw,.int .i64 dl,.int .i64 dn],.slice sa sl.length scap] W fun o w' => o = .returned (.bool true) ∧ Below W.heap.size W w':=by
 have hX1:=(Below.refl W.heap.size W).alloc (Nat.le_refl _) (.cells #[.slice ca lc.length cc,.int .i64 cw,.int .i64 cl,.int .i64 cn] 24)
 have hX2:=(Below.refl (W.alloc (.cells #[.slice ca lc.length cc,.int .i64 cw,.int .i64 cl,.int .i64 cn] 24)).heap.size (W.alloc (.cells #[.slice ca lc.length cc,.int .i64 cw,.int .i64 cl,.int .i64 cn] 24))).alloc (Nat.le_refl _) (.cells #[.slice da ld.length dc,.int .i64 dw,.int .i64 dl,.int .i64 dn] 24)
 have hX:=hX1.trans (hX2.mono hX1.size)
 have HX:=hide hX
 have HP:=hide (plays_any _ ca da cc dc lc ld cw cl cn dw dl dn sa scap sl false (hrc.below hX) (hrd.below hX) (hs.below hX))
 clear hX1 hX2 hX hrc hrd hs
 go_enter Tryz.func4,Tryz.ntmps4
 go_wp2_with (go_at_call 9;refine (unhide HP).mono ?_;rintro o w1 ⟨rfl,hb⟩;have HF:=hide ((unhide HX).trans (hb.mono (unhide HX).size));clear hb HP)
 go_ret
 exact ⟨rfl,unhide HF⟩
set_option maxRecDepth 100000 in
set_option maxHeartbeats 4000000 in
theorem votes_any (W:World) (ca da:Option Addr) (cc dc:Nat) (lc ld:List CredM) (cw cl cn dw dl dn:Int) (sa:Option Addr) (scap:Nat) (sl:List StepL)
  (hrc:RawC W (.slice ca lc.length cc) lc) (hrd:RawC W (.slice da ld.length dc) ld) (hs:ScriptAt W (.slice sa sl.length scap) sl) :
  Calls Tryz.prog 3 #[.agg #[.slice ca lc.length cc,.int .i64 cw,.int .i64 cl,.int .i64 cn],.agg #[.slice da ld.length dc,.int .i64 dw,.int .i64 dl,.int .i64 dn],.slice sa sl.length scap] W fun o w' => o = .returned (.bool true) ∧ Below W.heap.size W w':=by
 have hX1:=(Below.refl W.heap.size W).alloc (Nat.le_refl _) (.cells #[.slice ca lc.length cc,.int .i64 cw,.int .i64 cl,.int .i64 cn] 24)
 have hC1:=Box.new W #[.slice ca lc.length cc,.int .i64 cw,.int .i64 cl,.int .i64 cn] 24
 have hX2:=(Below.refl (W.alloc (.cells #[.slice ca lc.length cc,.int .i64 cw,.int .i64 cl,.int .i64 cn] 24)).heap.size (W.alloc (.cells #[.slice ca lc.length cc,.int .i64 cw,.int .i64 cl,.int .i64 cn] 24))).alloc (Nat.le_refl _) (.cells #[.slice da ld.length dc,.int .i64 dw,.int .i64 dl,.int .i64 dn] 24)
 have hD2:=Box.new (W.alloc (.cells #[.slice ca lc.length cc,.int .i64 cw,.int .i64 cl,.int .i64 cn] 24)) #[.slice da ld.length dc,.int .i64 dw,.int .i64 dl,.int .i64 dn] 24
 have hC2:=hC1.keep hX2
 have hX:=hX1.trans (hX2.mono hX1.size)
 have hds:(W.alloc (.cells #[.slice ca lc.length cc,.int .i64 cw,.int .i64 cl,.int .i64 cn] 24)).heap.size = W.heap.size + 1:=World.size_alloc _ _
 rw [hds] at hD2
 generalize hW2:(W.alloc (.cells #[.slice ca lc.length cc,.int .i64 cw,.int .i64 cl,.int .i64 cn] 24)).alloc (.cells #[.slice da ld.length dc,.int .i64 dw,.int .i64 dl,.int .i64 dn] 24) = W2 at *
 have HW2:=hide hW2
 have b0:W2.cell? ⟨W.heap.size,0,none⟩ = some (.slice ca lc.length cc):=hC2.cell 0
 have b1:W2.cell? ⟨W.heap.size,1,none⟩ = some (.int .i64 cw):=hC2.cell 1
 have b2:W2.cell? ⟨W.heap.size,2,none⟩ = some (.int .i64 cl):=hC2.cell 2
 have b3:W2.cell? ⟨W.heap.size,3,none⟩ = some (.int .i64 cn):=hC2.cell 3
 have e0:W2.cell? ⟨W.heap.size + 1,0,none⟩ = some (.slice da ld.length dc):=hD2.cell 0
 have e1:W2.cell? ⟨W.heap.size + 1,1,none⟩ = some (.int .i64 dw):=hD2.cell 1
 have e2:W2.cell? ⟨W.heap.size + 1,2,none⟩ = some (.int .i64 dl):=hD2.cell 2
 have e3:W2.cell? ⟨W.heap.size + 1,3,none⟩ = some (.int .i64 dn):=hD2.cell 3
 have HC:Hid (Calls Tryz.prog 10 #[.agg #[.slice ca lc.length cc,.int .i64 cw,.int .i64 cl,.int .i64 cn]] W2.drew fun o w1 => ∃ a1 cap1,∃ l1:List CredM,o = .returned (.agg #[.slice a1 l1.length cap1,.int .i64 cw,.int .i64 cl,.int .i64 cn]) ∧
   (w1.cell? ⟨W.heap.size + 1,0,none⟩ = some (.slice da ld.length dc) ∧ w1.cell? ⟨W.heap.size + 1,1,none⟩ = some (.int .i64 dw) ∧ w1.cell? ⟨W.heap.size + 1,2,none⟩ = some (.int .i64 dl) ∧ w1.cell? ⟨W.heap.size + 1,3,none⟩ = some (.int .i64 dn)) ∧
   Calls Tryz.prog 10 #[.agg #[.slice da ld.length dc,.int .i64 dw,.int .i64 dl,.int .i64 dn]] w1 fun o w2 => ∃ a2 cap2,∃ l2:List CredM,o = .returned (.agg #[.slice a2 l2.length cap2,.int .i64 dw,.int .i64 dl,.int .i64 dn]) ∧
    Calls Tryz.prog 9 #[.agg #[.slice a1 l1.length cap1,.int .i64 cw,.int .i64 cl,.int .i64 cn],.agg #[.slice a2 l2.length cap2,.int .i64 dw,.int .i64 dl,.int .i64 dn],.slice sa sl.length scap,.bool true] w2 fun o w3 => o = .returned (.bool true) ∧ Below W.heap.size W w3):=by
  have hXd:=hX.drew
  refine (several_any W2.drew ca cc lc cw cl cn (hrc.below hXd)).mono ?_
  rintro o w1 ⟨a1,cap1,l1,rfl,h1,h2⟩
  have hb1:=hXd.trans (h2.mono hXd.size)
  have hd1:Box w1 (W.heap.size + 1) _ 24:=(hD2.keep (Below.refl W2.heap.size W2).drew).keep h2
  refine ⟨a1,cap1,l1,rfl,⟨hd1.cell 0,hd1.cell 1,hd1.cell 2,hd1.cell 3⟩,?_⟩
  refine (several_any w1 da dc ld dw dl dn (hrd.below hb1)).mono ?_
  rintro o w2 ⟨a2,cap2,l2,rfl,h3,h4⟩
  have hb2:=hb1.trans (h4.mono hb1.size)
  refine ⟨a2,cap2,l2,rfl,?_⟩
  refine (plays_any w2 a1 a2 cap1 cap2 l1 l2 cw cl cn dw dl dn sa scap sl true (h1.below h4) h3 (hs.below hb2)).mono ?_
  rintro o w3 ⟨rfl,h5⟩
  exact ⟨rfl,hb2.trans (h5.mono hb2.size)⟩
 clear hX1 hC1 hX2 hD2 hC2 hX hds hW2 hrc hrd hs
 go_enter Tryz.func3,Tryz.ntmps3
 go_upto_region 1 with fail
 simp only [unhide HW2]
 go_region_law (go_simp;first
  | (go_at_call 10;refine (unhide HC).mono ?_;rintro o w1 ⟨a1,cap1,l1,rfl,⟨d0,d1,d2,d3⟩,hnext⟩;have HDX:=hide hnext;clear hnext HC)
  | (go_at_call 10;refine (unhide HDX).mono ?_;rintro o w2 ⟨a2,cap2,l2,rfl,hnext⟩;have HPL:=hide hnext;clear hnext HDX)
  | (go_at_call 9;refine (unhide HPL).mono ?_;rintro o w3 ⟨rfl,hb⟩;have HF:=hide hb;clear hb))
 all_goals
  go_wp2
  go_ret
  exact ⟨rfl,unhide HF⟩
end Go.Proofs.YtceappncglfciaaGreat
namespace Go.Proofs.YtceappncglfciaaGreat
open Go.ChangeShapes Go.WideShapes Go.ChangeAt Go.RowKit Go.Joins Go.Deep
theorem Tryz.cellsConf:Tryz.prog.cellsOf 24 = 4:=by kernel_rfl
set_option maxRecDepth 100000 in
theorem open_conf {H:Type} {enc:TypeId × Value → H} {w:World} {base b0:Nat} {spare:Nat → Bool} {held:Bool} {r:Reach} {v:Value} {d:DataW H} {p:List MemPlace} (hv:Value.okWide Tryz.prog w r b0 24 v) (h:DataW.Trod enc Tryz.prog w base spare held 24 v d p) (hk:Rows.uptoBulk d ≤ 1048576) :
  ∃ a cap,∃ l:List CredM,∃ wait lease net,v = .agg #[.slice a l.length cap,.int .i64 wait,.int .i64 lease,.int .i64 net] ∧ RawC w (.slice a l.length cap) l:=by
 obtain ⟨c0,c1,c2,c3,y0,y1,y2,y3,m,rfl,hd,-,hy0,hy1,hy2,hy3⟩:=open_agg4 Tryz.underlying24 (by kernel_rfl) Tryz.cellsConf hv h
 have hk0:Rows.uptoBulk y0.1 ≤ 1048576:=by
  rw [hd] at hk
  simp only [Rows.uptoBulk,Rows.uptoBulkAll] at hk
  omega
 obtain ⟨b1,e1,-⟩:=cell_int hy1
 obtain ⟨b2,e2,-⟩:=cell_int hy2
 obtain ⟨b3,e3,-⟩:=cell_int hy3
 simp at e1 e2 e3
 subst e1 e2 e3
 obtain ⟨l,hl⟩:=open_credsC hy0 hk0
 obtain ⟨a,cap,hv,_⟩:=hl.is
 subst hv
 exact ⟨a,cap,l,b1,b2,b3,rfl,hl⟩
end Go.Proofs.YtceappncglfciaaGreat
