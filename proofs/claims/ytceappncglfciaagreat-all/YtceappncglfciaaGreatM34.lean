import Derived.Test.YtceappncglfciaaGreatM33
set_option linter.unusedVariables false
set_option linter.unusedSimpArgs false
namespace Go.Proofs.YtceappncglfciaaGreat
open Go.RowKit
attribute [local go_sem ↓] Go.wp_at_zero Go.wp_at_succ
theorem Rep.setStands {W:World} {L:Lies} {T:TownM} (h:Rep W L T) {i:Nat} (hi:i < T.ps.length) (b:Bool):Rep (W.setCell ⟨L.bp,i * 121 + 120,none⟩ (.bool b)) L (T.setPeer i { T.peer i with stands:=b }) :=
 h.setP hi (by omega) _ _ (PeerM.set_stands (h.fit _ (TownM.peer_mem hi)) b) (h.fit (T.peer i) (TownM.peer_mem hi))
theorem Rep.setE {W:World} {L:Lies} {T:TownM} (h:Rep W L T) {i:Nat} (hi:i < T.ps.length) (x:Int):Rep (W.setCell ⟨L.bp,i * 121 + 6,none⟩ (.int .i64 x)) L (T.setPeer i { T.peer i with c:={ (T.peer i).c with e:=x } }) :=
 h.setP hi (by omega) _ _ (PeerM.set_head 6 (by omega) _ _ rfl rfl rfl rfl rfl rfl rfl rfl) (h.fit (T.peer i) (TownM.peer_mem hi))
theorem TownM.welcomes_ps (T:TownM) (i:Nat):∀ k,(T.welcomesTo i k).ps = T.ps
 | 0 => rfl
 | k + 1 => by
  unfold TownM.welcomesTo
  split
  ·exact (TownM.send_ps _ _).trans (TownM.welcomes_ps T i k)
  ·exact TownM.welcomes_ps T i k
theorem TownM.welcomes_net (T:TownM) (i:Nat):∀ k,(T.welcomesTo i k).net = T.net
 | 0 => rfl
 | k + 1 => by
  unfold TownM.welcomesTo
  split
  ·exact (TownM.send_net _ _).trans (TownM.welcomes_net T i k)
  ·exact TownM.welcomes_net T i k
theorem TownM.peer_ps {T T':TownM} (h:T'.ps = T.ps) (i:Nat):T'.peer i = T.peer i:=by unfold TownM.peer;rw [h]
theorem TownM.stand_peer {T:TownM} {i:Nat} (hi:i < T.ps.length):(T.stand i).peer i = { T.peer i with stands:=true,c:={ (T.peer i).c with e:=(T.peer i).epoch } }:=by
 simp [TownM.stand,TownM.peer,TownM.setPeer,hi]
theorem TownM.write_mem {T:TownM} {i:Nat} (hi:i < T.ps.length):((T.write i).peer i).mem = (T.peer i).mem:=by
 unfold TownM.write
 rw [TownM.peer_set hi]
 split <;> rfl
theorem TownM.stand_of {T:TownM} {i:Nat} (hi:i < T.ps.length):TownM.setPeer { T.setPeer i { T.peer i with stands:=true } with events:=(T.setPeer i { T.peer i with stands:=true }).events ++ [((i:Int),(T.peer i).epoch)] } i { (T.setPeer i { T.peer i with stands:=true }).peer i with c:={ ((T.setPeer i { T.peer i with stands:=true }).peer i).c with e:=(T.peer i).epoch } } = T.stand i:=by
 rw [TownM.peer_set hi]
 simp [TownM.stand,TownM.setPeer]
set_option maxRecDepth 100000 in
set_option maxHeartbeats 4000000 in
theorem dcheck_any (i:Nat) (n:Int) (c:CredM) (W:World) (L:Lies) (T:TownM) (h:Rep W L T) (hi:i < T.ps.length) (hp:T.ps.length ≤ 7) (hnet:T.net ≤ 1000) (hev:T.events.length ≤ 40000000000) (hd:DiskOK n c (T.peer i).disk) (hn:n + 1 ≤ 4294967294) (hc:(T.peer i).c.ok) (hep:0 ≤ (T.peer i).epoch ∧ (T.peer i).epoch ≤ 4294967295) (ha0:-1 ≤ (T.peer i).armed) (ha1:(T.peer i).armed ≤ 28) :
  Calls Tryz.prog 126 #[.pointer (some ⟨L.bt,0,none⟩),.int .i64 i] W fun o w' => o = .returned (.tuple #[]) ∧ Did W L w' (T.check i):=by
 have c4:=h.cell 4
 have q0:(0:Int) ≤ (i:Int):=by omega
 have q1:(i:Int) < (T.ps.length:Int):=by omega
 have HH:=hide h
 have HD:=hide hd
 have HCK:=hide hc
 have HEP:=hide hep
 clear h hd hc hep
 go_enter Tryz.func126,Tryz.ntmps126
 go_wp2
 go_loopw [5,6] (fun n c wr => ∃ k:Nat,k ≤ T.ps.length ∧ c = .int .i64 k ∧ n = .int .i64 (T.ackedTo i k) ∧ wr = W) (fun _ c _ => T.ps.length - (RowKit.intOf c).toNat)
 case atStart => exact ⟨0,Nat.zero_le _,rfl,rfl,rfl⟩
 case round =>
  obtain ⟨k,hk,rfl,rfl,rfl⟩:=hrel
  obtain ⟨r0,r1⟩:=T.ackedTo_range i k
  by_cases hlt:k < T.ps.length
  ·have w0:=(unhide HH).pmem hi (k:=k) (j:=1) (by omega) (by omega)
   simp only [MemM.cells] at w0
   have HST:Hid (T.ackedTo i (k + 1) = if ((T.peer i).mem.getD k memZ).acked = true then T.ackedTo i k + 1 else T.ackedTo i k):=rfl
   generalize (T.peer i).mem.getD k memZ = kn at *
   have k0:(0:Int) ≤ (k:Int):=by omega
   have k7:(k:Int) < 7:=by omega
   cases hj:kn.acked with
   | false =>
    have fin:Hid (T.ackedTo i (k + 1) = T.ackedTo i k):=by
     show _ = _
     rw [unhide HST];simp [hj]
    rw [hj] at w0
    clear hj HST
    go_wp2
    go_roundw
    case rel => exact ⟨k + 1,by omega,by go_num,by rw [unhide fin],trivial⟩
    case measure => simp [RowKit.intOf];omega
   | true =>
    have fin:Hid (T.ackedTo i (k + 1) = T.ackedTo i k + 1):=by
     show _ = _
     rw [unhide HST];simp [hj]
    rw [hj] at w0
    clear hj HST
    go_wp2
    go_roundw
    case rel => exact ⟨k + 1,by omega,by go_num,by rw [unhide fin],trivial⟩
    case measure => simp [RowKit.intOf];omega
  ·have hke:k = T.ps.length:=by omega
   rw [hke]
   rw [hke] at r0 r1
   have HMO:=hide (dmost_any (T.ackedTo i T.ps.length) wr L T (unhide HH) (by omega) (by omega))
   have HC:Hid (T.check i = if ((T.peer i).stands || !T.most (T.ackedTo i T.ps.length)) = true then T else if (T.peer i).armed < 0 then ((T.stand i).write i).welcomesTo i T.ps.length else (T.stand i).write i):=rfl
   clear hke hk hlt
   generalize T.ackedTo i T.ps.length = cn at *
   clear r0 r1
   have v120:=(unhide HH).pstands hi
   have y120:=(unhide HH).pfrozen (i * 121 + 120)
   have HDR:=hide (Did.rfl' (unhide HH))
   cases hs:(T.peer i).stands with
   | true =>
    rw [hs] at v120 HC
    rw [Bool.true_or,if_pos rfl] at HC
    clear hs HH HD HCK HEP
    go_wp2_with fail
    refine (unhide HMO).mono ?_
    rintro o w1 ⟨rfl,rfl⟩
    go_wp2
    exact bodyPost_ret (v:=.tuple #[]) (by simp [results,Tryz.results126,go_sem]) rfl ⟨rfl,by rw [unhide HC];exact unhide HDR⟩
   | false =>
    rw [hs] at v120 HC
    rw [Bool.false_or] at HC
    cases hb:T.most cn with
    | false =>
     rw [hb] at HC HMO
     rw [Bool.not_false,if_pos rfl] at HC
     clear hs hb HH HD HCK HEP
     go_wp2_with fail
     refine (unhide HMO).mono ?_
     rintro o w1 ⟨rfl,rfl⟩
     go_wp2
     exact bodyPost_ret (v:=.tuple #[]) (by simp [results,Tryz.results126,go_sem]) rfl ⟨rfl,by rw [unhide HC];exact unhide HDR⟩
    | true =>
     rw [hb] at HC HMO
     rw [Bool.not_true,if_neg (by decide)] at HC
     go_wp2_with fail
     refine (unhide HMO).mono ?_
     rintro o w1 ⟨rfl,rfl⟩
     go_upto_region 10 with fail
     obtain ⟨T1,hT1⟩:∃ T1,T1 = T.setPeer i { T.peer i with stands:=true }:=⟨_,rfl⟩
     have s1:Rep (w1.setCell ⟨L.bp,i * 121 + 120,none⟩ (.bool true)) L T1:=by rw [hT1];exact (unhide HH).setStands hi true
     have HK1:=hide ((Keeps.refl L.blocks w1).peer (i * 121 + 120) (.bool true))
     have hi1:i < T1.ps.length:=by rw [hT1,TownM.setPeer_len];exact hi
     have hev1:T1.events.length ≤ 40000000000:=by rw [hT1];exact hev
     have pe:(T1.peer i).epoch = (T.peer i).epoch:=by rw [hT1,TownM.peer_set hi]
     have HT1:=hide hT1
     clear hT1 c4 v120 y120 HH HDR HMO
     generalize w1.setCell ⟨L.bp,i * 121 + 120,none⟩ (.bool true) = w2 at *
     obtain ⟨i0,hi0,hz0,hz1,hz2⟩:=info_parts Tryz.dinfoEvent
     obtain ⟨a,cap,hv⟩:=row_shape s1.events
     have c7:=s1.cell 7
     have f7:=s1.frozen 7
     have v84:=s1.pmid hi1 2 (by omega)
     simp only [Nat.reduceAdd] at v84
     rw [pe] at v84
     rw [hv] at c7
     have hlt:L.bt < w2.heap.size:=(Array.getElem?_eq_some_iff.1 s1.town).1
     have hown:=s1.events
     have hne:(Value.slice a T1.events.length cap).ownBlock ≠ some L.bt:=by rw [← hv];exact own_ne s1.events s1.town (by decide)
     rw [hv] at hown
     have HPE:Hid (∃ ep,ep = (T.peer i).epoch):=⟨_,rfl⟩
     obtain ⟨ep,hpe⟩:=unhide HPE
     rw [← hpe] at v84
     have HEE:=hide hpe
     clear hpe HPE
     have HA:Hid (∀ o2,(w2.drew.alloc o2).ownsRow 0 49 2 (.slice a T1.events.length cap) T1.events.length (evCells T1.events)):=fun o2 => (show w2.drew.ownsRow 0 49 2 (.slice a T1.events.length cap) T1.events.length (evCells T1.events) from hown).alloc o2
     have HNW:Hid (∀ j u,[Value.int .i64 i,.int .i64 ep][j]? = some u → (w2.drew.alloc (.cells #[.int .i64 i,.int .i64 ep] 49)).cell? ((⟨w2.heap.size,0,none⟩:Addr).add j) = some u):=fun j u hu => World.news_of_block (heap_alloc_new w2.drew _) j u (by simpa using hu)
     have HFAR:Hid (∀ o2 w3,(w2.drew.alloc o2).grownBy w3 (Value.slice a T1.events.length cap).ownBlock → w3.cell? ⟨L.bt,7,none⟩ = some (.slice a T1.events.length cap) ∧ w3.frozen? ⟨L.bt,7,none⟩ = false):=fun o2 w3 hg => by
      have hb:w3.heap[L.bt]? = w2.heap[L.bt]?:=by
       have e1:=hg.block L.bt (by rw [World.size_alloc];exact Nat.lt_succ_of_lt hlt) (fun e => hne e.symm)
       rw [e1]
       exact Below.heap_alloc _ _ _ hlt
      exact ⟨(World.cell?_of_block hb).trans c7,(World.frozen?_of_block hb).trans f7⟩
     have H1:Hid (∀ u ∈ [Value.int .i64 i,.int .i64 ep],u.oneCell' = true):=fun u hu => by
      simp only [List.mem_cons,List.not_mem_nil,or_false] at hu
      rcases hu with rfl | rfl <;> rfl
     have HSZ:Hid (∀ o2,(w2.drew.alloc o2).heap.size = w2.heap.size + 1):=fun o2 => World.size_alloc _ _
     have HS1:=hide s1
     have HV:=hide hv
     clear s1 hown hv hne hs hb
     have HPP:=hide pe
     clear pe
     go_region_law ((refine step_append_lies _ (by rfl) _ _ _ (by rfl) 0 49 i0 _ 2 16 Tryz.underlying46 hi0 hz0 hz1 hz2 rfl (by omega) (.slice a T1.events.length cap) T1.events.length (evCells T1.events) (by rfl) (unhide HA _) ⟨w2.heap.size,0,none⟩ 1 1 [Value.int .i64 i,.int .i64 ep] (by rfl) (by rfl) (unhide HNW) (unhide H1) (by omega) (by unfold maxLen;omega) (by omega) (Nat.zero_le _) (w2.heap.size + 1) (unhide HSZ _) ?_;intro g cap2 w3 hown1 hgrow hat hlt1;obtain ⟨z1,z2⟩:=unhide HFAR _ _ hgrow))
     all_goals
      have hst:=Rep.stood (x:=((i:Int),ep)) (unhide HS1) ((Below.refl w2.heap.size w2).drew.alloc (Nat.le_refl _) (.cells #[.int .i64 i,.int .i64 ep] 49)) (by rw [unhide HV];exact hgrow) hown1 (by
       rw [unhide HV]
       rcases hat with e | e
       ·exact .inl e
       ·exact .inr (by omega))
      clear hown1 hgrow z1 z2 HA HNW HFAR H1 HSZ c7 f7 v84
      generalize w3.setCell ⟨L.bt,7,none⟩ (.slice (some ⟨g,0,none⟩) (T1.events.length + 1) cap2) = w4 at *
      obtain ⟨L4,hL4⟩:∃ L4:Lies,L4 = { L with ev:=.slice (some ⟨g,0,none⟩) (T1.events.length + 1) cap2 }:=⟨_,rfl⟩
      rw [← hL4] at hst
      obtain ⟨r4,k4⟩:=hst
      have v6:=r4.phead (i:=i) hi1 6 (by omega)
      have v84:=r4.pmid (i:=i) hi1 2 (by omega)
      have y6:=r4.pfrozen (i * 121 + 6)
      rw [show L4.bp = L.bp from by rw [hL4]] at v6 v84 y6
      rw [show (TownM.peer { T1 with events:=T1.events ++ [((i:Int),ep)] } i) = T1.peer i from rfl] at v6 v84
      simp only [PeerM.head,Nat.reduceAdd] at v6 v84
      rw [unhide HPP,← unhide HEE] at v84
      have HR4:=hide r4
      have HK4:=hide k4
      have HL4:=hide hL4
      clear r4 k4 hL4
      go_upto_region 12 with fail
      have r5:Rep (w4.setCell ⟨L.bp,i * 121 + 4 + 2,none⟩ (.int .i64 ep)) L4 (T.stand i):=by
       have t:=(unhide HR4).setE (i:=i) hi1 ep
       rw [show L4.bp = L.bp from by rw [unhide HL4],unhide HEE,show (TownM.peer { T1 with events:=T1.events ++ [((i:Int),(T.peer i).epoch)] } i) = T1.peer i from rfl,unhide HT1,TownM.stand_of hi] at t
       rw [unhide HEE]
       exact t
      have HK5:=hide (((unhide HK1).trans (unhide HK4) (fun x hx => .inl hx)).peer (i * 121 + 4 + 2) (.int .i64 ep))
      have HBL:Hid (∀ x ∈ L4.blocks,x ∈ L.blocks ∨ w1.heap.size ≤ x):=fun x hx => by
       rw [unhide HL4,mem_blocks] at hx
       rcases hx with h1 | h1 | h1 | h1
       ·exact .inl (mem_blocks.2 (.inl h1))
       ·exact .inl (mem_blocks.2 (.inr (.inl h1)))
       ·exact .inl (mem_blocks.2 (.inr (.inr (.inl h1))))
       ·have hx':g = x:=by simpa [Value.ownBlock] using h1
        rcases hat with e | e
        ·exact .inl (mem_blocks.2 (.inr (.inr (.inr (by rw [unhide HV,e,hx'])))))
        ·exact .inr (Nat.le_trans (unhide HK1).size (by omega))
      have hi5:i < (T.stand i).ps.length:=by rw [show (T.stand i).ps.length = T.ps.length from TownM.setPeer_len _ _ _];exact hi
      have pk:=TownM.stand_peer (T:=T) hi
      have HWC:=twrite_any i n c _ L4 (T.stand i) r5 hi5 (by rw [pk];exact unhide HD) hn (by rw [pk];exact ⟨(unhide HCK).1,(unhide HCK).2.1,unhide HEP,(unhide HCK).2.2.2⟩) (by rw [pk];exact ha0) (by rw [pk];exact ha1)
      rw [show ((T.stand i).peer i).armed = (T.peer i).armed from by rw [pk],show L4.bt = L.bt from by rw [unhide HL4]] at HWC
      have hm6:(((T.stand i).write i).peer i).mem = (T.peer i).mem:=by rw [TownM.write_mem hi5,pk]
      have hl6:((T.stand i).write i).ps.length = T.ps.length:=by
       rw [show ((T.stand i).write i).ps.length = (T.stand i).ps.length from TownM.setPeer_len _ _ _]
       exact TownM.setPeer_len _ _ _
      have hn6:((T.stand i).write i).net = T.net:=rfl
      have HWH:=hide HWC
      clear HWC r5 pk HR4 HK1 HK4 v6 v84 y6
      go_wp2_with fail
      refine (unhide HWH).mono ?_
      rintro o w6 ⟨rfl,hd6⟩
      have HD6:Hid (Did w1 L w6 ((T.stand i).write i)):=Did.next (v:=L.way) (e:=L4.ev) (unhide HK5) (by
       rw [show ({ L with way:=L.way,ev:=L4.ev }:Lies) = L4 from by rw [unhide HL4]]
       exact unhide HBL) (by
       rw [show ({ L with way:=L.way,ev:=L4.ev }:Lies) = L4 from by rw [unhide HL4]]
       exact hd6)
      clear hd6 HWH HK5 HBL HL4 HEE HPP HT1 HS1 HV HD HCK HEP hat hlt1
      generalize (T.stand i).write i = T6 at *
      by_cases hA:(T.peer i).armed < 0
      ·rw [if_pos hA] at HC
       go_wp2
       go_loopw [9] (fun cc wr => ∃ k:Nat,k ≤ T.ps.length ∧ cc = .int .i64 k ∧ Did w1 L wr (T6.welcomesTo i k)) (fun cc _ => T.ps.length - (RowKit.intOf cc).toNat)
       case atStart => exact ⟨0,Nat.zero_le _,rfl,unhide HD6⟩
       case round =>
        obtain ⟨k,hk,rfl,v,e,hr,hkp,hbl⟩:=hrel
        have hps:(T6.welcomesTo i k).ps = T6.ps:=TownM.welcomes_ps T6 i k
        have c4:=hr.cell 4
        rw [hps,hl6] at c4
        by_cases hlt:k < T.ps.length
        ·have w0:=hr.pmem (i:=i) (by rw [hps];omega) (k:=k) (j:=1) (by omega) (by omega)
         rw [TownM.peer_ps hps,hm6] at w0
         simp only [MemM.cells] at w0
         have HST:Hid (T6.welcomesTo i (k + 1) = if ((T.peer i).mem.getD k memZ).acked = true then (T6.welcomesTo i k).welcome i k else T6.welcomesTo i k):=by
          show _ = _
          rw [← hm6];rfl
         generalize (T.peer i).mem.getD k memZ = kn at *
         have k0:(0:Int) ≤ (k:Int):=by omega
         have k7:(k:Int) < 7:=by omega
         have HR:=hide hr
         have HK:=hide hkp
         have HB:=hide hbl
         have HPS:=hide hps
         clear hr hkp hbl hps HD6
         cases hj:kn.acked with
         | false =>
          have fin:Hid (Did w1 L wr (T6.welcomesTo i (k + 1))):=by
           rw [unhide HST,hj,if_neg (by decide)]
           exact ⟨v,e,unhide HR,unhide HK,unhide HB⟩
          rw [hj] at w0
          clear hj HST HR HK HB HPS
          go_wp2
          go_roundw
          case rel => exact ⟨k + 1,by omega,by go_num,unhide fin⟩
          case measure => simp [RowKit.intOf];omega
         | true =>
          have HWE:=hide (dwelcome_any i k wr { L with way:=v,ev:=e } (T6.welcomesTo i k) (unhide HR) (by rw [unhide HPS];omega) (by rw [TownM.welcomes_net];omega))
          have HST2:Hid (T6.welcomesTo i (k + 1) = (T6.welcomesTo i k).welcome i k):=by
           show _ = _
           rw [unhide HST,hj,if_pos rfl]
          rw [hj] at w0
          clear hj HST HR HPS
          go_wp2_with fail
          refine (unhide HWE).mono ?_
          rintro o w7 ⟨rfl,hd7⟩
          have fin:Hid (Did w1 L w7 (T6.welcomesTo i (k + 1))):=by
           rw [unhide HST2]
           exact Did.next (unhide HK) (unhide HB) hd7
          clear hd7 HST2 HWE HK HB w0 c4
          go_wp2
          go_roundw
          case rel => exact ⟨k + 1,by omega,by go_num,unhide fin⟩
          case measure => simp [RowKit.intOf];omega
        ·have hke:k = T.ps.length:=by omega
         have fin:Hid (Did w1 L wr (T.check i)):=by
          rw [unhide HC,← hke]
          exact ⟨v,e,hr,hkp,hbl⟩
         clear hr hkp hbl hps HD6 hke
         go_wp2
         go_end0
         exact ⟨rfl,unhide fin⟩
      ·rw [if_neg hA] at HC
       have c4:w6.cell? ⟨L.bt,4,none⟩ = some (.slice (some ⟨L.bp,0,none⟩) T.ps.length L.capP):=by
        obtain ⟨v,e,hr,_,_⟩:=unhide HD6
        have:=hr.cell 4
        rw [hl6] at this
        exact this
       rw [← unhide HC] at HD6
       have hAf:decide ((T.peer i).armed < 0) = false:=by simpa using hA
       go_wp2
       go_loopw [9] (fun cc wr => cc = .int .i64 0 ∧ wr = w6) (fun cc _ => 0)
       case atStart => exact ⟨rfl,rfl⟩
       case round =>
        obtain ⟨rfl,rfl⟩:=hrel
        go_wp2
        go_end0
        exact ⟨rfl,unhide HD6⟩
end Go.Proofs.YtceappncglfciaaGreat
namespace Go.Proofs.YtceappncglfciaaGreat
open Go.RowKit
attribute [local go_sem ↓] Go.wp_at_zero Go.wp_at_succ
theorem Rep.setP1 {W:World} {L:Lies} {T:TownM} (h:Rep W L T) {i:Nat} (hi:i < T.ps.length) (x:Int):Rep (W.setCell ⟨L.bp,i * 121 + 4,none⟩ (.int .i64 x)) L (T.setPeer i { T.peer i with c:={ (T.peer i).c with p:=x } }) :=
 h.setP hi (by omega) _ _ (PeerM.set_head 4 (by omega) _ _ rfl rfl rfl rfl rfl rfl rfl rfl) (h.fit (T.peer i) (TownM.peer_mem hi))
theorem Rep.setT1 {W:World} {L:Lies} {T:TownM} (h:Rep W L T) {i:Nat} (hi:i < T.ps.length) (x:Int):Rep (W.setCell ⟨L.bp,i * 121 + 5,none⟩ (.int .i64 x)) L (T.setPeer i { T.peer i with c:={ (T.peer i).c with t:=x } }) :=
 h.setP hi (by omega) _ _ (PeerM.set_head 5 (by omega) _ _ rfl rfl rfl rfl rfl rfl rfl rfl) (h.fit (T.peer i) (TownM.peer_mem hi))
theorem TownM.proposes_ps (T:TownM) (i:Nat) (e:Int):∀ k,(T.proposesTo i e k).ps = T.ps
 | 0 => rfl
 | k + 1 => by
  unfold TownM.proposesTo
  split
  ·exact (TownM.send_ps _ _).trans (TownM.proposes_ps T i e k)
  ·exact TownM.proposes_ps T i e k
theorem TownM.proposes_net (T:TownM) (i:Nat) (e:Int):∀ k,(T.proposesTo i e k).net = T.net
 | 0 => rfl
 | k + 1 => by
  unfold TownM.proposesTo
  split
  ·exact (TownM.send_net _ _).trans (TownM.proposes_net T i e k)
  ·exact TownM.proposes_net T i e k
theorem TownM.send_events (T:TownM) (m:MsgM):(T.send m).events = T.events:=by unfold TownM.send;split <;> rfl
theorem TownM.proposes_events (T:TownM) (i:Nat) (e:Int):∀ k,(T.proposesTo i e k).events = T.events
 | 0 => rfl
 | k + 1 => by
  unfold TownM.proposesTo
  split
  ·exact (TownM.send_events _ _).trans (TownM.proposes_events T i e k)
  ·exact TownM.proposes_events T i e k
set_option maxRecDepth 100000 in
set_option maxHeartbeats 4000000 in
theorem dpropose_any (i:Nat) (n:Int) (c:CredM) (W:World) (L:Lies) (T:TownM) (h:Rep W L T) (hi:i < T.ps.length) (hp:T.ps.length ≤ 7) (hnet:T.net ≤ 1000) (hev:T.events.length ≤ 40000000000) (hd:DiskOK n c (T.peer i).disk) (hn:n + 2 ≤ 4294967294) (hc:(T.peer i).c.ok) (hr0:0 ≤ (T.peer i).round) (hr1:(T.peer i).round ≤ 1000000000000) (hbest:∀ k,0 ≤ T.bestTo i k ∧ T.bestTo i k ≤ 4294967295) (ha0:-1 ≤ (T.peer i).armed) (ha1:(T.peer i).armed ≤ 28) :
  Calls Tryz.prog 124 #[.pointer (some ⟨L.bt,0,none⟩),.int .i64 i] W fun o w' => o = .returned (.tuple #[]) ∧ Did W L w' (T.propose i):=by
 have c4:=h.cell 4
 have q0:(0:Int) ≤ (i:Int):=by omega
 have q1:(i:Int) < (T.ps.length:Int):=by omega
 have v4:=h.phead hi 4 (by omega)
 simp only [PeerM.head] at v4
 have HH:=hide h
 have HD:=hide hd
 have HCK:=hide hc
 have HBE:=hide hbest
 clear h hd hc hbest
 go_enter Tryz.func124,Tryz.ntmps124
 go_wp2
 go_loopw [5,6] (fun n c wr => ∃ k:Nat,k ≤ T.ps.length ∧ c = .int .i64 k ∧ n = .int .i64 (T.bestTo i k) ∧ wr = W) (fun _ c _ => T.ps.length - (RowKit.intOf c).toNat)
 case atStart => exact ⟨0,Nat.zero_le _,rfl,rfl,rfl⟩
 case round =>
  obtain ⟨k,hk,rfl,rfl,hwr⟩:=hrel
  have hwr':=hwr.symm
  clear hwr
  subst hwr'
  obtain ⟨r0,r1⟩:=unhide HBE k
  by_cases hlt:k < T.ps.length
  ·have w0:=(unhide HH).pmem hi (k:=k) (j:=0) (by omega) (by omega)
   have w3:=(unhide HH).pmem hi (k:=k) (j:=3) (by omega) (by omega)
   simp only [MemM.cells,Nat.add_zero] at w0 w3
   have HST:Hid (T.bestTo i (k + 1) = if (((T.peer i).mem.getD k memZ).joined && decide (T.bestTo i k < ((T.peer i).mem.getD k memZ).promised)) = true then ((T.peer i).mem.getD k memZ).promised else T.bestTo i k):=rfl
   generalize (T.peer i).mem.getD k memZ = kn at *
   have k0:(0:Int) ≤ (k:Int):=by omega
   have k7:(k:Int) < 7:=by omega
   cases hj:kn.joined with
   | false =>
    have fin:Hid (T.bestTo i (k + 1) = T.bestTo i k):=by
     show _ = _
     rw [unhide HST];simp [hj]
    rw [hj] at w0
    clear hj HST
    go_wp2
    go_roundw
    case rel => exact ⟨k + 1,by omega,by go_num,by rw [unhide fin],trivial⟩
    case measure => simp [RowKit.intOf];omega
   | true =>
    by_cases hg:T.bestTo i k < kn.promised
    ·have fin:Hid (T.bestTo i (k + 1) = kn.promised):=by
      show _ = _
      rw [unhide HST];simp [hj,hg]
     rw [hj] at w0
     clear hj HST
     go_wp2
     go_roundw
     case rel => exact ⟨k + 1,by omega,by go_num,by rw [unhide fin],trivial⟩
     case measure => simp [RowKit.intOf];omega
    ·have fin:Hid (T.bestTo i (k + 1) = T.bestTo i k):=by
      show _ = _
      rw [unhide HST];simp [hj,hg]
     rw [hj] at w0
     clear hj HST
     go_wp2
     go_roundw
     case rel => exact ⟨k + 1,by omega,by go_num,by rw [unhide fin],trivial⟩
     case measure => simp [RowKit.intOf];omega
  ·have hke:k = T.ps.length:=by omega
   rw [hke]
   rw [hke] at r0 r1
   clear hke hk hlt
   by_cases hb:1000 ≤ T.bestTo i T.ps.length
   ·have HC:Hid (T.propose i = T.look i):=by
     show _ = _
     unfold TownM.propose
     rw [if_pos hb]
    have HLK:=hide (dlook_any i W L T (unhide HH) hi hp hnet hr0 hr1)
    generalize T.bestTo i T.ps.length = be at *
    go_wp2_with fail
    refine (unhide HLK).mono ?_
    rintro o w1 ⟨rfl,hd1⟩
    rw [← unhide HC] at hd1
    have fin:=hide hd1
    clear hd1
    go_wp2
    exact bodyPost_ret (v:=.tuple #[]) (by simp [results,Tryz.results124,go_sem]) rfl ⟨rfl,unhide fin⟩
   ·obtain ⟨be,hbe⟩:∃ be,be = T.bestTo i T.ps.length:=⟨_,rfl⟩
    rw [← hbe] at hb r0 r1 ⊢
    obtain ⟨T1,hT1⟩:∃ T1,T1 = T.setPeer i { T.peer i with c:={ (T.peer i).c with p:=be + 1,t:=i } }:=⟨_,rfl⟩
    have HC:Hid (T.propose i = if (T.peer i).armed < 0 then (((T1.write i).setPeer i { (T1.write i).peer i with epoch:=be + 1 }).proposesTo i (be + 1) T.ps.length).check i else T1.write i):=by
     show _ = _
     unfold TownM.propose
     rw [← hbe,if_neg hb,hT1]
    have s1:Rep ((W.setCell ⟨L.bp,i * 121 + 4,none⟩ (.int .i64 (be + 1))).setCell ⟨L.bp,i * 121 + 4 + 1,none⟩ (.int .i64 i)) L T1:=by
     have t1:=(unhide HH).setP1 hi (be + 1)
     have t2:=t1.setT1 (i:=i) (by rw [TownM.setPeer_len];exact hi) i
     rw [TownM.peer_set hi,TownM.set_set] at t2
     rw [hT1];exact t2
    have HK1:=hide (((Keeps.refl L.blocks W).peer (i * 121 + 4) (.int .i64 (be + 1))).peer (i * 121 + 4 + 1) (.int .i64 i))
    have hi1:i < T1.ps.length:=by rw [hT1,TownM.setPeer_len];exact hi
    have p1:T1.peer i = { T.peer i with c:={ (T.peer i).c with p:=be + 1,t:=i } }:=by rw [hT1,TownM.peer_set hi]
    have ok1:(T1.peer i).c.ok:=by rw [p1];exact ⟨⟨by show 0 ≤ be + 1;omega,by show be + 1 ≤ _;omega⟩,⟨by show (0:Int) ≤ i;omega,by show (i:Int) ≤ _;omega⟩,(unhide HCK).2.2.1,(unhide HCK).2.2.2⟩
    have HWC:=twrite_any i n c _ L T1 s1 hi1 (by rw [p1];exact unhide HD) (by omega) ok1 (by rw [p1];exact ha0) (by rw [p1];exact ha1)
    rw [show (T1.peer i).armed = (T.peer i).armed from by rw [p1]] at HWC
    have HWH:=hide HWC
    have hl1:T1.ps.length = T.ps.length:=by rw [hT1,TownM.setPeer_len]
    have hn1:T1.net = T.net:=by rw [hT1];rfl
    have he1:T1.events = T.events:=by rw [hT1];rfl
    have v5:=(unhide HH).phead hi 5 (by omega)
    have y4:=(unhide HH).pfrozen (i * 121 + 4)
    have y5:=(unhide HH).pfrozen (i * 121 + 5)
    simp only [PeerM.head] at v5
    have HOK1:=hide ok1
    have HP1:=hide p1
    have HE1:=hide he1
    have HN1:=hide hn1
    have HL1:=hide hl1
    clear HWC s1 hT1 hbe HBE HH HCK p1 ok1 he1 hn1 hl1
    go_wp2_with fail
    refine (unhide HWH).mono ?_
    rintro o w6 ⟨rfl,v,e,r6,k6,b6⟩
    have HK6:=hide ((unhide HK1).trans k6 (fun x hx => .inl hx))
    have HB6:Hid (∀ x ∈ Lies.blocks { L with way:=v,ev:=e },x ∈ L.blocks ∨ W.heap.size ≤ x):=fun x hx => by
     rcases b6 x hx with h1 | h1
     ·exact .inl h1
     ·exact .inr (Nat.le_trans (unhide HK1).size h1)
    have HR6:=hide r6
    clear r6 k6 b6 HWH HK1 v4 v5 y4 y5 c4
    by_cases hA:(T.peer i).armed < 0
    ·rw [if_pos hA] at HC
     have hAt:decide ((T.peer i).armed < 0) = true:=by simpa using hA
     have p2:(T1.write i).peer i = { T1.peer i with disk:=diskWrite (T1.peer i).disk (T1.peer i).c 28 }:=by
      unfold TownM.write
      rw [TownM.peer_set hi1,if_pos (by rw [unhide HP1];exact hA)]
     have hdk:∃ n' c',DiskOK n' c' ((T1.write i).peer i).disk ∧ n' + 1 ≤ 4294967294:=by
      rw [p2]
      have:=(unhide HD).write (by omega) (unhide HOK1) (k:=28) (by omega)
      rw [show (T1.peer i).disk = (T.peer i).disk from by rw [unhide HP1]]
      rcases this with h1 | ⟨c'',h1⟩
      ·exact ⟨n,c,h1,by omega⟩
      ·exact ⟨n + 1,c'',h1,by omega⟩
     have hl2:(T1.write i).ps.length = T.ps.length:=(TownM.setPeer_len _ _ _).trans (unhide HL1)
     have hn2:(T1.write i).net = T.net:=unhide HN1
     have he2:(T1.write i).events = T.events:=unhide HE1
     have hm2:((T1.write i).peer i).mem = (T.peer i).mem:=by rw [p2,unhide HP1]
     have ha2:((T1.write i).peer i).armed = (T.peer i).armed:=by rw [p2,unhide HP1]
     have hc2:((T1.write i).peer i).c.ok:=by rw [p2];exact unhide HOK1
     have HDK:=hide hdk
     have HC2:=hide hc2
     clear p2 hdk hc2 HOK1 HP1 HE1 HN1 HL1 HD hi1
     generalize T1.write i = T2 at *
     have hi2:i < T2.ps.length:=by omega
     have v84:=(unhide HR6).pmid hi2 2 (by omega)
     have y84:=(unhide HR6).pfrozen (i * 121 + 84)
     simp only [Nat.reduceAdd] at v84
     go_upto_region 14 with fail
     have r7:=(unhide HR6).setEpoch hi2 (be + 1)
     have HK7:=hide ((unhide HK6).peer (i * 121 + 84) (.int .i64 (be + 1)))
     obtain ⟨T3,hT3⟩:∃ T3,T3 = T2.setPeer i { T2.peer i with epoch:=be + 1 }:=⟨_,rfl⟩
     rw [← hT3] at r7 HC
     have hp3:T3.peer i = { T2.peer i with epoch:=be + 1 }:=by rw [hT3,TownM.peer_set hi2]
     have hl3:T3.ps.length = T.ps.length:=by rw [hT3,TownM.setPeer_len];exact hl2
     have hn3:T3.net = T.net:=by rw [hT3];exact hn2
     have he3:T3.events = T.events:=by rw [hT3];exact he2
     have hm3:(T3.peer i).mem = (T.peer i).mem:=by rw [hp3];exact hm2
     have HD3:Hid (Did W L (w6.setCell ⟨L.bp,i * 121 + 84,none⟩ (.int .i64 (be + 1))) T3):=⟨v,e,r7,unhide HK7,unhide HB6⟩
     have HP3:=hide hp3
     have HE3:=hide he3
     clear r7 HK7 HR6 HK6 HB6 v84 y84 hT3 hp3 he3
     generalize w6.setCell ⟨L.bp,i * 121 + 84,none⟩ (.int .i64 (be + 1)) = w7 at *
     go_wp2
     go_loopw [8] (fun cc wr => ∃ k:Nat,k ≤ T.ps.length ∧ cc = .int .i64 k ∧ Did W L wr (T3.proposesTo i (be + 1) k)) (fun cc _ => T.ps.length - (RowKit.intOf cc).toNat)
     case atStart => exact ⟨0,Nat.zero_le _,rfl,unhide HD3⟩
     case round =>
      obtain ⟨k,hk,rfl,v,e,hr,hkp,hbl⟩:=hrel
      have hps:(T3.proposesTo i (be + 1) k).ps = T3.ps:=TownM.proposes_ps T3 i _ k
      have c4:=hr.cell 4
      rw [hps,hl3] at c4
      by_cases hlt:k < T.ps.length
      ·have w0:=hr.pmem (i:=i) (by rw [hps];omega) (k:=k) (j:=0) (by omega) (by omega)
       rw [TownM.peer_ps hps,hm3] at w0
       simp only [MemM.cells,Nat.add_zero] at w0
       have HST:Hid (T3.proposesTo i (be + 1) (k + 1) = if ((T.peer i).mem.getD k memZ).joined = true then (T3.proposesTo i (be + 1) k).send ⟨3,i,k,0,0,voteZ,be + 1,0⟩ else T3.proposesTo i (be + 1) k):=by
        show _ = _
        rw [← hm3];rfl
       generalize (T.peer i).mem.getD k memZ = kn at *
       have k0:(0:Int) ≤ (k:Int):=by omega
       have k7:(k:Int) < 7:=by omega
       have HR:=hide hr
       have HK:=hide hkp
       have HB:=hide hbl
       clear hr hkp hbl hps HD3
       cases hj:kn.joined with
       | false =>
        have fin:Hid (Did W L wr (T3.proposesTo i (be + 1) (k + 1))):=by
         rw [unhide HST,hj,if_neg (by decide)]
         exact ⟨v,e,unhide HR,unhide HK,unhide HB⟩
        rw [hj] at w0
        clear hj HST HR HK HB
        go_wp2
        go_roundw
        case rel => exact ⟨k + 1,by omega,by go_num,unhide fin⟩
        case measure => simp [RowKit.intOf];omega
       | true =>
        have HWE:=hide (dsend_any ⟨3,i,k,0,0,voteZ,be + 1,0⟩ wr { L with way:=v,ev:=e } (T3.proposesTo i (be + 1) k) (unhide HR) (by rw [TownM.proposes_net];omega))
        simp only [MsgM.val,voteZ] at HWE
        have HST2:Hid (T3.proposesTo i (be + 1) (k + 1) = (T3.proposesTo i (be + 1) k).send ⟨3,i,k,0,0,voteZ,be + 1,0⟩):=by
         show _ = _
         rw [unhide HST,hj,if_pos rfl]
        rw [hj] at w0
        clear hj HST HR
        go_wp2_with fail
        refine (unhide HWE).mono ?_
        rintro o w8 ⟨rfl,hd8⟩
        have fin:Hid (Did W L w8 (T3.proposesTo i (be + 1) (k + 1))):=by
         rw [unhide HST2]
         exact Did.next (unhide HK) (unhide HB) hd8
        clear hd8 HST2 HWE HK HB w0 c4
        go_wp2
        go_roundw
        case rel => exact ⟨k + 1,by omega,by go_num,unhide fin⟩
        case measure => simp [RowKit.intOf];omega
      ·have hke:k = T.ps.length:=by omega
       rw [← hke] at HC
       have hpe:(T3.proposesTo i (be + 1) k).peer i = { T2.peer i with epoch:=be + 1 }:=(TownM.peer_ps hps i).trans (unhide HP3)
       obtain ⟨n',c',hd',hn'⟩:=unhide HDK
       have HCH:=hide (dcheck_any i n' c' wr { L with way:=v,ev:=e } (T3.proposesTo i (be + 1) k) hr (by rw [hps];omega) (by rw [hps];omega) (by rw [TownM.proposes_net];omega) (by rw [TownM.proposes_events,unhide HE3];exact hev) (by rw [hpe];exact hd') hn' (by rw [hpe];exact unhide HC2) (by rw [hpe];show 0 ≤ be + 1 ∧ be + 1 ≤ 4294967295;omega) (by rw [hpe];show -1 ≤ (T2.peer i).armed;omega) (by rw [hpe];show (T2.peer i).armed ≤ 28;omega))
       have HK:=hide hkp
       have HB:=hide hbl
       clear hr hkp hbl hps HD3 hpe hd' hn' HDK HC2 HP3 HE3
       go_wp2_with fail
       refine (unhide HCH).mono ?_
       rintro o w9 ⟨rfl,hd9⟩
       have fin:Hid (Did W L w9 (T.propose i)):=by
        rw [unhide HC]
        exact Did.next (unhide HK) (unhide HB) hd9
       clear hd9 HCH HK HB HC hke
       go_wp2
       go_end0
       exact ⟨rfl,unhide fin⟩
    ·rw [if_neg hA] at HC
     have hAf:decide ((T.peer i).armed < 0) = false:=by simpa using hA
     have fin:Hid (Did W L w6 (T.propose i)):=by
      rw [unhide HC]
      exact ⟨v,e,unhide HR6,unhide HK6,unhide HB6⟩
     clear HC HR6 HK6 HB6
     go_wp2
     exact bodyPost_ret (v:=.tuple #[]) (by simp [results,Tryz.results124,go_sem]) rfl ⟨rfl,unhide fin⟩
end Go.Proofs.YtceappncglfciaaGreat
