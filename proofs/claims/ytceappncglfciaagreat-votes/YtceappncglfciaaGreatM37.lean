import Derived.Test.YtceappncglfciaaGreatM36
set_option linter.unusedVariables false
set_option linter.unusedSimpArgs false
namespace Go.Proofs.YtceappncglfciaaGreat
open Go.RowKit
attribute [local go_sem ↓] Go.wp_at_zero Go.wp_at_succ
theorem find_first {f:Nat → Bool} {n x:Nat} (hx:x < n) (h:f x = true) (h1:∀ y,y < x → f y = false):(List.range n).find? f = some x:=by
 rw [List.find?_range_eq_some]
 exact ⟨h,List.mem_range.2 hx,fun j hj => by rw [h1 j hj];rfl⟩
theorem find_no {f:Nat → Bool} {n:Nat} (h1:∀ y,y < n → f y = false):(List.range n).find? f = none:=by
 rw [List.find?_eq_none]
 intro y hy
 rw [h1 y (List.mem_range.1 hy)]
 simp
theorem settledTo_range (p:PeerM) (x:Nat):∀ k,0 ≤ TownM.settledTo p x k ∧ TownM.settledTo p x k ≤ k
 | 0 => ⟨Int.le_refl _,Int.le_refl _⟩
 | k + 1 => by
  have ih:=settledTo_range p x k
  unfold TownM.settledTo
  split <;> omega
set_option maxRecDepth 100000 in
set_option maxHeartbeats 4000000 in
theorem settled_any (i k:Nat) (m:MsgM) (W:World) (L:Lies) (T:TownM) (h:Rep W L T) (hi:i < T.ps.length) (hp:T.ps.length ≤ 7) (hn:T.net ≤ 1000) (hsrc:m.src = (k:Int)) (hk:k < 7) :
  Calls Tryz.prog 98 #[.pointer (some ⟨L.bt,0,none⟩),.int .i64 i,m.val] W fun o w' => o = .returned (.tuple #[]) ∧ Did W L w' (T.settled i m):=by
 have hX:=(Below.refl W.heap.size W).alloc (Nat.le_refl _) (.cells m.cells.toArray 133)
 have HM:=hide (Own.new h m.cells.toArray 133)
 have HH:=hide (h.keep hX)
 have HX:=hide (DLinks.of_below L hX)
 have q0:(0:Int) ≤ (i:Int):=by omega
 have q1:(i:Int) < (T.ps.length:Int):=by omega
 obtain ⟨T1,hT1⟩:∃ T1,T1 = T.setPeer i { T.peer i with settled:=(T.peer i).settled.set m.src.toNat ⟨true,m.vote,m.state⟩ }:=⟨_,rfl⟩
 have HSE:Hid (T.settled i m = match (List.range T.ps.length).find? (T1.leads i) with | some x => T1.follow i ((T1.peer i).settled.getD x knownZ).vote | none => T1):=by
  show _ = _
  rw [hT1]
  rfl
 have hl1:T1.ps.length = T.ps.length:=by rw [hT1,TownM.setPeer_len]
 have hn1:T1.net ≤ 1000:=by rw [hT1];exact hn
 have hi1:i < T1.ps.length:=by rw [hl1];exact hi
 have HT1:=hide hT1
 have HL1:=hide hl1
 clear h hX hT1 hl1
 unfold MsgM.val
 simp only [MsgM.cells] at HM HH HX
 obtain ⟨g,hg⟩:∃ g,g = W.heap.size:=⟨_,rfl⟩
 rw [← hg] at HM
 have HG:=hide hg
 have HSRC:=hide hsrc
 clear hg hsrc
 go_enter Tryz.func98,Tryz.ntmps98
 go_upto_region 1 with fail
 rw [← unhide HG]
 generalize W.alloc (.cells #[.int .i64 m.kind,.int .i64 m.src,.int .i64 m.dst,.int .i64 m.round,.int .i64 m.state,.int .i64 m.vote.e,.int .i64 m.vote.n,.int .i64 m.vote.p,.int .i64 m.epoch,.int .i64 m.news] 133) = W1 at *
 have c4:=(unhide HH).cell 4
 have o9:=unhide HM
 have r9:=unhide HH
 have m1:W1.cell? ⟨g,1,none⟩ = some (.int .i64 (k:Int)):=by rw [← unhide HSRC];exact o9.box.cell 1
 have m4:W1.cell? ⟨g,4,none⟩ = some (.int .i64 m.state):=o9.box.cell 4
 have m5:W1.cell? ⟨g,5,none⟩ = some (.int .i64 m.vote.e):=o9.box.cell 5
 have m6:W1.cell? ⟨g,6,none⟩ = some (.int .i64 m.vote.n):=o9.box.cell 6
 have m7:W1.cell? ⟨g,7,none⟩ = some (.int .i64 m.vote.p):=o9.box.cell 7
 have k0:(0:Int) ≤ (k:Int):=by omega
 have k7:(k:Int) < 7:=by omega
 have w0:=r9.psettled hi (k:=k) (j:=0) hk (by omega)
 have w1:=r9.psettled hi (k:=k) (j:=1) hk (by omega)
 have w2:=r9.psettled hi (k:=k) (j:=2) hk (by omega)
 have w3:=r9.psettled hi (k:=k) (j:=3) hk (by omega)
 have w4:=r9.psettled hi (k:=k) (j:=4) hk (by omega)
 have y0:=r9.pfrozen (i * 121 + 47 + k * 5)
 have y1:=r9.pfrozen (i * 121 + 47 + k * 5 + 1)
 have y2:=r9.pfrozen (i * 121 + 47 + k * 5 + 2)
 have y3:=r9.pfrozen (i * 121 + 47 + k * 5 + 3)
 have y4:=r9.pfrozen (i * 121 + 47 + k * 5 + 4)
 simp only [KnownM.cells,Nat.add_zero] at w0 w1 w2 w3 w4
 have hne:g ≠ L.bp:=fun e => o9.out (mem_blocks.2 (.inr (.inl e)))
 have hne2:L.bp ≠ g:=fun e => hne e.symm
 have s10:Rep (((((W1.setCell ⟨L.bp,i * 121 + 47 + k * 5,none⟩ (.bool true)).setCell ⟨L.bp,i * 121 + 47 + k * 5 + 1,none⟩ (.int .i64 m.vote.e)).setCell ⟨L.bp,i * 121 + 47 + k * 5 + 2,none⟩ (.int .i64 m.vote.n)).setCell ⟨L.bp,i * 121 + 47 + k * 5 + 3,none⟩ (.int .i64 m.vote.p)).setCell ⟨L.bp,i * 121 + 47 + k * 5 + 4,none⟩ (.int .i64 m.state)).drew L T1:=by
  have t1:=r9.laySettled1 hi hk ⟨true,m.vote,m.state⟩
  rw [show i * 121 + (47 + k * 5) = i * 121 + 47 + k * 5 from by omega] at t1
  have t2:=t1.keep ((Below.refl _ _).drew)
  rw [unhide HT1,unhide HSRC,Int.toNat_natCast]
  exact t2
 have k10:DLinks W L (((((W1.setCell ⟨L.bp,i * 121 + 47 + k * 5,none⟩ (.bool true)).setCell ⟨L.bp,i * 121 + 47 + k * 5 + 1,none⟩ (.int .i64 m.vote.e)).setCell ⟨L.bp,i * 121 + 47 + k * 5 + 2,none⟩ (.int .i64 m.vote.n)).setCell ⟨L.bp,i * 121 + 47 + k * 5 + 3,none⟩ (.int .i64 m.vote.p)).setCell ⟨L.bp,i * 121 + 47 + k * 5 + 4,none⟩ (.int .i64 m.state)).drew L :=
  ((((((unhide HX).peer _ _).peer _ _).peer _ _).peer _ _).peer _ _).below ((Below.refl _ _).drew)
 have HS:=hide s10
 have HK:=hide k10
 clear s10 k10 r9 o9 HM HH HX
 go_upto_region 2 with fail
 go_region
 all_goals
  generalize (((((W1.setCell ⟨L.bp,i * 121 + 47 + k * 5,none⟩ (.bool true)).setCell ⟨L.bp,i * 121 + 47 + k * 5 + 1,none⟩ (.int .i64 m.vote.e)).setCell ⟨L.bp,i * 121 + 47 + k * 5 + 2,none⟩ (.int .i64 m.vote.n)).setCell ⟨L.bp,i * 121 + 47 + k * 5 + 3,none⟩ (.int .i64 m.vote.p)).setCell ⟨L.bp,i * 121 + 47 + k * 5 + 4,none⟩ (.int .i64 m.state)).drew = W3 at *
  clear c4 m1 m4 m5 m6 m7 w0 w1 w2 w3 w4 y0 y1 y2 y3 y4 hne hne2 HG HSRC
  go_wp2_with fail
  go_loopw [7] (fun c wr => ∃ x:Nat,x ≤ T.ps.length ∧ c = .int .i64 (x:Int) ∧ Rep wr L T1 ∧ DLinks W L wr L ∧ ∀ y,y < x → T1.leads i y = false) (fun c _ => T.ps.length - (RowKit.intOf c).toNat)
  case atStart => exact ⟨0,Nat.zero_le _,rfl,unhide HS,unhide HK,fun y hy => absurd hy (Nat.not_lt_zero _)⟩
  case round =>
   obtain ⟨x,hx,rfl,hr,hlk,hno⟩:=hrel
   have c4:=hr.cell 4
   rw [unhide HL1] at c4
   by_cases hxn:x = T.ps.length
   ·have fin:Hid (Did W L wr (T.settled i m)):=by
     rw [unhide HSE,find_no (fun y hy => hno y (by omega))]
     exact hlk.done hr
    subst hxn
    clear hr hlk hno HS HK
    go_wp2
    go_end0
    exact ⟨rfl,unhide fin⟩
   ·have hxl:x < T.ps.length:=by omega
    have HR:=hide hr
    have HKR:=hide hlk
    have HNO:=hide hno
    clear hr hlk hno hxn HS HK
    go_wp2_with fail
    go_loopw [8,9] (fun cn ck wx => ∃ j:Nat,j ≤ T.ps.length ∧ ck = .int .i64 (j:Int) ∧ cn = .int .i64 (TownM.settledTo (T1.peer i) x j) ∧ wx = wr) (fun _ ck _ => T.ps.length - (RowKit.intOf ck).toNat)
    case atStart => exact ⟨0,Nat.zero_le _,rfl,rfl,rfl⟩
    case round =>
     obtain ⟨j,hj,rfl,rfl,hwr⟩:=hrel
     have hwr':=hwr.symm
     clear hwr
     subst hwr'
     obtain ⟨r0,r1⟩:=settledTo_range (T1.peer i) x j
     by_cases hlt:j < T.ps.length
     ·have w0:=(unhide HR).psettled hi1 (k:=j) (j:=0) (by omega) (by omega)
      have w3:=(unhide HR).psettled hi1 (k:=j) (j:=3) (by omega) (by omega)
      simp only [KnownM.cells,Nat.add_zero] at w0 w3
      have HST:Hid (TownM.settledTo (T1.peer i) x (j + 1) = if (((T1.peer i).settled.getD j knownZ).is && ((T1.peer i).settled.getD j knownZ).vote.p == (x:Int)) = true then TownM.settledTo (T1.peer i) x j + 1 else TownM.settledTo (T1.peer i) x j):=rfl
      generalize (T1.peer i).settled.getD j knownZ = kn at *
      have j0:(0:Int) ≤ (j:Int):=by omega
      have j7:(j:Int) < 7:=by omega
      cases hb:kn.is with
      | false =>
       have fin:Hid (TownM.settledTo (T1.peer i) x (j + 1) = TownM.settledTo (T1.peer i) x j):=by
        show _ = _
        rw [unhide HST];simp [hb]
       rw [hb] at w0
       clear hb HST
       go_wp2
       go_roundw
       case rel => exact ⟨j + 1,by omega,by go_num,by rw [unhide fin],trivial⟩
       case measure => simp [RowKit.intOf];omega
      | true =>
       cases hv:(kn.vote.p == (x:Int)) with
       | false =>
        have fin:Hid (TownM.settledTo (T1.peer i) x (j + 1) = TownM.settledTo (T1.peer i) x j):=by
         show _ = _
         rw [unhide HST];simp [hb,hv]
        rw [hb] at w0
        clear hb HST
        go_wp2
        go_roundw
        case rel => exact ⟨j + 1,by omega,by go_num,by rw [unhide fin],trivial⟩
        case measure => simp [RowKit.intOf];omega
       | true =>
        have fin:Hid (TownM.settledTo (T1.peer i) x (j + 1) = TownM.settledTo (T1.peer i) x j + 1):=by
         show _ = _
         rw [unhide HST];simp [hb,hv]
        rw [hb] at w0
        clear hb HST
        go_wp2
        go_roundw
        case rel => exact ⟨j + 1,by omega,by go_num,by rw [unhide fin],trivial⟩
        case measure => simp [RowKit.intOf];omega
     ·have hje:j = T.ps.length:=by omega
      subst hje
      clear hj hlt
      have x0:(0:Int) ≤ (x:Int):=by omega
      have x7:(x:Int) < 7:=by omega
      have HMO:=hide (dmost_any (TownM.settledTo (T1.peer i) x T.ps.length) wr L T1 (unhide HR) r0 (by omega))
      obtain ⟨mo,hmo⟩:∃ mo,mo = T1.most (TownM.settledTo (T1.peer i) x T.ps.length):=⟨_,rfl⟩
      rw [← hmo] at HMO
      obtain ⟨kn,hkn⟩:∃ kn,kn = (T1.peer i).settled.getD x knownZ:=⟨_,rfl⟩
      have w0:=(unhide HR).psettled hi1 (k:=x) (j:=0) (by omega) (by omega)
      have w1:=(unhide HR).psettled hi1 (k:=x) (j:=1) (by omega) (by omega)
      have w2:=(unhide HR).psettled hi1 (k:=x) (j:=2) (by omega) (by omega)
      have w3:=(unhide HR).psettled hi1 (k:=x) (j:=3) (by omega) (by omega)
      have w4:=(unhide HR).psettled hi1 (k:=x) (j:=4) (by omega) (by omega)
      simp only [KnownM.cells,Nat.add_zero] at w0 w1 w2 w3 w4
      rw [← hkn] at w0 w1 w2 w3 w4
      have HLD:Hid (T1.leads i x = (!(decide (x = i)) && (mo && (kn.is && (kn.state == 2 && kn.vote.p == (x:Int)))))):=by
       show _ = _
       unfold TownM.leads
       rw [← hkn,unhide HL1,← hmo]
      have HKN:=hide hkn
      clear hmo hkn
      generalize TownM.settledTo (T1.peer i) x T.ps.length = sn at *
      have hb5:=(Below.refl wr.heap.size wr).alloc (Nat.le_refl _) (.cells #[.bool kn.is,.int .i64 kn.vote.e,.int .i64 kn.vote.n,.int .i64 kn.vote.p,.int .i64 kn.state] 153)
      have HR5:=hide ((unhide HR).keep hb5)
      have HK5:=hide ((unhide HKR).below hb5)
      have HB5:=hide (Own.new (unhide HR) #[.bool kn.is,.int .i64 kn.vote.e,.int .i64 kn.vote.n,.int .i64 kn.vote.p,.int .i64 kn.state] 153)
      clear hb5 HR HKR
      go_upto_region 14 with (go_at_call 104;refine (unhide HMO).mono ?_;rintro o wr ⟨rfl,rfl⟩)
      generalize wr.alloc (.cells #[.bool kn.is,.int .i64 kn.vote.e,.int .i64 kn.vote.n,.int .i64 kn.vote.p,.int .i64 kn.state] 153) = w5 at *
      generalize wr.heap.size = gs at *
      clear w0 w1 w2 w3 w4 HMO c4
      have z0:w5.cell? ⟨gs,0,none⟩ = some (.bool kn.is):=(unhide HB5).box.cell 0
      have z1:w5.cell? ⟨gs,1,none⟩ = some (.int .i64 kn.vote.e):=(unhide HB5).box.cell 1
      have z2:w5.cell? ⟨gs,2,none⟩ = some (.int .i64 kn.vote.n):=(unhide HB5).box.cell 2
      have z3:w5.cell? ⟨gs,3,none⟩ = some (.int .i64 kn.vote.p):=(unhide HB5).box.cell 3
      have z4:w5.cell? ⟨gs,4,none⟩ = some (.int .i64 kn.state):=(unhide HB5).box.cell 4
      obtain ⟨ld,hld⟩:∃ ld,ld = T1.leads i x:=⟨_,rfl⟩
      rw [← hld] at HLD
      have HLX:=hide hld
      clear hld HB5
      go_cut [98] (fun s we => s = .bool ld ∧ we = w5)
      case first =>
       by_cases hxi:x = i
       ·have fin:Hid (ld = false):=by
         show _ = _
         rw [unhide HLD];simp [hxi]
        clear HLD
        subst hxi
        go_wp2
        go_meet
        case rel => exact ⟨by rw [unhide fin],rfl⟩
       ·have hq3:¬ (x:Int) = (i:Int):=by omega
        cases mo with
        | false =>
         have fin:Hid (ld = false):=by
          show _ = _
          rw [unhide HLD];simp
         clear hxi HLD
         go_wp2
         go_meet
         case rel => exact ⟨by rw [unhide fin],rfl⟩
        | true =>
         cases hki:kn.is with
         | false =>
          have fin:Hid (ld = false):=by
           show _ = _
           rw [unhide HLD];simp [hki]
          rw [hki] at z0
          clear hxi HLD hki
          go_wp2
          go_meet
          case rel => exact ⟨by rw [unhide fin],rfl⟩
         | true =>
          rw [hki] at z0
          cases hks:(kn.state == 2) with
          | false =>
           have fin:Hid (ld = false):=by
            show _ = _
            rw [unhide HLD,hki,hks];simp
           clear hxi HLD hki
           go_wp2
           go_meet
           case rel => exact ⟨by rw [unhide fin],rfl⟩
          | true =>
           cases hkv:(kn.vote.p == (x:Int)) with
           | false =>
            have fin:Hid (ld = false):=by
             show _ = _
             rw [unhide HLD,hki,hks,hkv];simp
            clear hxi HLD hki
            go_wp2
            go_meet
            case rel => exact ⟨by rw [unhide fin],rfl⟩
           | true =>
            have fin:Hid (ld = true):=by
             show _ = _
             rw [unhide HLD,hki,hks,hkv];simp [hxi]
            clear hxi HLD hki
            go_wp2
            go_meet
            case rel => exact ⟨by rw [unhide fin];simp [hq3],rfl⟩
      case rest =>
       obtain ⟨rfl,rfl⟩:=hcut
       cases ld with
       | false =>
        have fin:Hid (∃ x':Nat,x' ≤ T.ps.length ∧ Value.int .i64 ((x:Int) + 1) = .int .i64 (x':Int) ∧ Rep wc L T1 ∧ DLinks W L wc L ∧ ∀ y,y < x' → T1.leads i y = false):=by
         refine ⟨x + 1,by omega,by go_num,unhide HR5,unhide HK5,fun y hy => ?_⟩
         by_cases e:y = x
         ·rw [e];exact (unhide HLX).symm
         ·exact unhide HNO y (by omega)
        clear HR5 HK5 HNO z0 z1 z2 z3 z4 HLX HLD
        go_wp2
        go_roundw
        case rel => exact unhide fin
        case measure => simp [RowKit.intOf];omega
       | true =>
        have HC0:=dfollow_any i kn.vote wc L T1 (unhide HR5) hi1 (by rw [unhide HL1];exact hp) hn1
        have HC:=hide ((unhide HK5).calls HC0 (T':=T.settled i m) (by
         rw [unhide HSE,find_first hxl (unhide HLX).symm (unhide HNO)]
         simp only []
         rw [← unhide HKN]))
        clear HC0 HR5 HK5 HNO HLX HLD HKN
        go_wp2_with fail
        refine (unhide HC).mono ?_
        rintro o w8 ⟨rfl,hd⟩
        have HE:=hide hd
        clear hd HC
        go_wp2
        exact bodyPost_ret (v:=.tuple #[]) (by simp [results,Tryz.results98,go_sem]) rfl ⟨rfl,unhide HE⟩
end Go.Proofs.YtceappncglfciaaGreat
