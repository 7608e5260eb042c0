import Derived.Test.YtceappncglfciaaGreatM09
import Derived.Deep.RegionHeld3
import Derived.Deep.DrawnRows
import Derived.BigQuiet
import Derived.Deep.QuietTactic
import Derived.WalkSmall
import Derived.Deep.RegionWith
import Derived.Laws.Strings
import Derived.Test.YtceappncglfciaaGreatM01
set_option linter.unusedVariables false
set_option linter.unusedSimpArgs false
namespace Go.Proofs.YtceappncglfciaaGreat
open Go.RowKit
attribute [local go_sem ↓] Go.wp_at_zero Go.wp_at_succ
theorem numsOf4 (s:ByteArray) (h:s.size = 4):numsOf s = [(s[0].toNat:Int),(s[1].toNat:Int),(s[2].toNat:Int),(s[3].toNat:Int)]:=by
 have e:(numsOf s).take (3 + 1) = numsOf s:=List.take_of_length_le (by rw [numsOf_len];omega)
 rw [← e,numsOf_take s 3 (by omega),numsOf_take s 2 (by omega),numsOf_take s 1 (by omega),numsOf_take s 0 (by omega)]
 simp
theorem value_plain (s:ByteArray) (h:s.size = 4):wrap64 (wrap64 (wrap64 (wrap64 (wrap64 (wrap64 (wrap64 (s[0].toNat:Int) * 256) + wrap64 (s[1].toNat:Int)) * 256) + wrap64 (s[2].toNat:Int)) * 256) + wrap64 (s[3].toNat:Int)) = valL (numsOf s):=by
 rw [numsOf4 s h]
 have h0:=(s[0]).toNat_lt
 have h1:=(s[1]).toNat_lt
 have h2:=(s[2]).toNat_lt
 have h3:=(s[3]).toNat_lt
 generalize s[0].toNat = a at *
 generalize s[1].toNat = b at *
 generalize s[2].toNat = c at *
 generalize s[3].toNat = d at *
 rw [wrap64_in (x:=(a:Int)) (by omega) (by omega),wrap64_in (x:=(b:Int)) (by omega) (by omega),wrap64_in (x:=(c:Int)) (by omega) (by omega),wrap64_in (x:=(d:Int)) (by omega) (by omega)]
 rw [wrap64_in (x:=(a:Int) * 256) (by omega) (by omega),wrap64_in (x:=(a:Int) * 256 + b) (by omega) (by omega),wrap64_in (x:=((a:Int) * 256 + b) * 256) (by omega) (by omega),wrap64_in (x:=((a:Int) * 256 + b) * 256 + c) (by omega) (by omega),wrap64_in (x:=(((a:Int) * 256 + b) * 256 + c) * 256) (by omega) (by omega),wrap64_in (x:=(((a:Int) * 256 + b) * 256 + c) * 256 + d) (by omega) (by omega)]
 simp [valL]
set_option maxHeartbeats 1000000 in
theorem value_any (s:ByteArray) (w:World) (hs:s.size = 4) :
  Calls Tryz.prog 118 #[.string s] w fun o w' => o = .returned (.int .i64 (valL (numsOf s))) ∧ ∃ m,w' = w.drewN m:=by
 have HV:=hide (value_plain s hs)
 have i0:(0:Int) < (s.size:Int):=by omega
 have i1:(1:Int) < (s.size:Int):=by omega
 have i2:(2:Int) < (s.size:Int):=by omega
 have i3:(3:Int) < (s.size:Int):=by omega
 go_enter Tryz.func118,Tryz.ntmps118
 go_wp2_with fail
 go_quiet (fail)
 go_wp2
 go_ret
 rw [unhide HV]
 exact ⟨rfl,_,rfl⟩
structure InW (I:World → Prop) where
 w:World
 ok:I w
theorem wp_region_class {P:Program} {id:Nat} {Q:Exit → Act → World → Prop} {a:Act} {w:World} {l:List Oper} (I:World → Prop) (hm:P.follows .mixedOrders = true) (hB:Region.lexB .any l.toArray = true) (hC:I w.drew)
  (h:Nonempty (InW I) → wpQuiet P l.toArray (fun w' => ∃ x:InW I,w' = x.w) (fun a' => ∀ w',(∃ x:InW I,w' = x.w) → Q .normal a' w') l a):(Code.region id l.toArray true).wp P Q a w :=
 wp_region_quiet (C:=fun w' => ∃ x:InW I,w' = x.w) hm hB ⟨⟨_,hC⟩,rfl⟩ (by simpa using h ⟨⟨_,hC⟩⟩)
def rightR (s:ByteArray):Bool:=!(at4 s 0 == 0) && (((s.extract 0 4).toList == (s.extract 20 24).toList) && ((s.extract 24 28).toList == (strOfNums (num4 (sumV (numsOf (s.extract 0 24))))).toList))
def InvR (w:World) (s:Nw) (W:World):Prop :=
 Box W w.heap.size #[.int .i64 0,.int .i64 0,.int .i64 0,.int .i64 0] 39 ∧ Box W (w.heap.size + 1) s.cred 39 ∧ Below w.heap.size w W
theorem InvR.below {w:World} {s:Nw} {W W':World} (h:InvR w s W) (hb:Below W.heap.size W W'):InvR w s W':=⟨h.1.keep hb,h.2.1.keep hb,h.2.2.trans (hb.mono h.2.2.size)⟩
theorem InvR.drewN {w:World} {s:Nw} {W:World} (h:InvR w s W) (m:Nat):InvR w s (W.drewN m):=h.below (below_drewN (Below.refl _ _) m)
theorem InvR.drew1 {w:World} {s:Nw} {W:World} (h:InvR w s W):InvR w s W.drew:=h.below (Below.refl _ _).drew
theorem InvR.store {w:World} {s:Nw} {W:World} (h:InvR w s W) (n1 n2 n3 n4 n0 a:Int) :
  InvR w ⟨n1,n2,n3,n4,n0,a⟩ ((((W.setCell ⟨w.heap.size + 1,0,none⟩ (.int .i64 n1)).setCell ⟨w.heap.size + 1,1,none⟩ (.int .i64 n2)).setCell ⟨w.heap.size + 1,2,none⟩ (.int .i64 n3)).setCell ⟨w.heap.size + 1,3,none⟩ (.int .i64 n4)):=by
 obtain ⟨b0,b1,bl⟩:=h
 refine ⟨?_,?_,?_⟩
 ·exact (((b0.setOther (by show _ ≠ _ + 1;omega) _).setOther (by show _ ≠ _ + 1;omega) _).setOther (by show _ ≠ _ + 1;omega) _).setOther (by show _ ≠ _ + 1;omega) _
 ·exact (((b1.set 0 _).set 1 _).set 2 _).set 3 _
 ·exact (((bl.setCell (by show _ ≤ _ + 1;omega) _).setCell (by show _ ≤ _ + 1;omega) _).setCell (by show _ ≤ _ + 1;omega) _).setCell (by show _ ≤ _ + 1;omega) _
def rStep (disk:ByteArray) (s:Nw) (b:Bool):Nw :=
 if (rightR (slotOf disk b) && decide (s.n < at4 (slotOf disk b) 0)) = true then ⟨at4 (slotOf disk b) 1,at4 (slotOf disk b) 2,at4 (slotOf disk b) 3,at4 (slotOf disk b) 4,at4 (slotOf disk b) 0,placeOf b⟩ else s
theorem value_at (s:ByteArray) (hs:s.size = 28) (i a b:Nat) (ha:a = i * 4) (hb:b = a + 4) (hi:i ≤ 4) (w:World) :
  Calls Tryz.prog 118 #[.string (s.extract a b)] w fun o w' => o = .returned (.int .i64 (at4 s i)) ∧ ∃ m,w' = w.drewN m:=by
 have h:=value_any (s.extract a b) w (by rw [ByteArray.size_extract];omega)
 rw [numsOf_extract,hb,ha,show i * 4 + 4 - i * 4 = 4 by omega] at h
 rw [hb,ha]
 exact h
theorem rsum_at (s:ByteArray) (hs:s.size = 28) (w:World) :
  Calls Tryz.prog 94 #[.string (s.extract 0 24)] w fun o w' => o = .returned (.string (strOfNums (num4 (sumV (numsOf (s.extract 0 24)))))) ∧ Below w.heap.size w w' :=
 rsum_any (s.extract 0 24) w (by rw [ByteArray.size_extract];omega)
set_option maxRecDepth 100000 in
set_option maxHeartbeats 2000000 in
theorem rnewest_56 (disk:ByteArray) (w:World) (hd:disk.size = 56) :
  Calls Tryz.prog 95 #[.string disk] w fun o w' => o = .returned (.tuple #[.agg (rStep disk (rStep disk nw0 false) true).cred,.int .i64 (rStep disk (rStep disk nw0 false) true).n,.int .i64 (rStep disk (rStep disk nw0 false) true).a]) ∧ Below w.heap.size w w':=by
 go_enter Tryz.func95,Tryz.ntmps95
 go_wp2_with fail
 go_loopw [6,7,8] (fun n a i wr => ∃ st:Nw,n = .int .i64 st.n ∧ a = .int .i64 st.a ∧ InvR w st wr ∧ ((i = .int .i64 0 ∧ st = nw0) ∨ (i = .int .i64 28 ∧ st = rStep disk nw0 false) ∨ (i = .int .i64 56 ∧ st = rStep disk (rStep disk nw0 false) true))) (fun _ _ i _ => 56 - (RowKit.intOf i).toNat)
 case atStart =>
  refine ⟨nw0,rfl,rfl,⟨(Box.new w _ 39).alloc _,?_,((Below.refl _ _).alloc (Nat.le_refl _) _).alloc (by simp) _⟩,.inl ⟨rfl,rfl⟩⟩
  have:=Box.new (w.alloc (.cells #[.int .i64 0,.int .i64 0,.int .i64 0,.int .i64 0] 39)) #[.int .i64 0,.int .i64 0,.int .i64 0,.int .i64 0] 39
  rw [World.size_alloc] at this
  exact this
 case round =>
  obtain ⟨st,rfl,rfl,hinv,hcase⟩:=hrel
  rcases hcase with ⟨rfl,hst⟩ | ⟨rfl,hst⟩ | ⟨rfl,hst⟩
  ·have HI:=hide hinv
   have hsz:(slotOf disk false).size = 28:=slotOf_size disk hd false
   have hcut:disk.extract 0 28 = slotOf disk false:=rfl
   have H0:=hide (value_at (slotOf disk false) hsz 0 0 4 rfl rfl (by omega))
   have H1:=hide (value_at (slotOf disk false) hsz 1 4 8 rfl rfl (by omega))
   have H2:=hide (value_at (slotOf disk false) hsz 2 8 12 rfl rfl (by omega))
   have H3:=hide (value_at (slotOf disk false) hsz 3 12 16 rfl rfl (by omega))
   have H4:=hide (value_at (slotOf disk false) hsz 4 16 20 rfl rfl (by omega))
   have HM:=hide (rsum_at (slotOf disk false) hsz)
   have HR:Hid (∀ r,rightR (slotOf disk false) = r → rStep disk nw0 false = if (r && decide (st.n < at4 (slotOf disk false) 0)) = true then ⟨at4 (slotOf disk false) 1,at4 (slotOf disk false) 2,at4 (slotOf disk false) 3,at4 (slotOf disk false) 4,at4 (slotOf disk false) 0,placeOf false⟩ else st):=fun r hr => by subst hr;rw [hst];rfl
   unfold rightR at HR
   clear hst hinv
   generalize slotOf disk false = s at *
   generalize numsOf (s.extract 0 24) = l24 at *
   generalize hx:strOfNums (num4 (sumV l24)) = x4 at *
   clear hx
   generalize rStep disk nw0 false = st2 at *
   generalize at4 s 0 = n0 at *
   generalize at4 s 1 = n1 at *
   generalize at4 s 2 = n2 at *
   generalize at4 s 3 = n3 at *
   generalize at4 s 4 = n4 at *
   go_wp2_with fail
   refine (unhide H0 _).mono ?_
   rintro o w1 ⟨rfl,m,rfl⟩
   cases hA:(n0 == 0) with
   | true =>
    have hst2:Hid (st2 = st):=by
     have:=unhide HR _ rfl
     simp [hA] at this
     exact this
    clear HR H0 H1 H2 H3 H4 HM
    go_wp2_with fail
    go_quiet (fail)
    go_wp2
    go_roundw
    case rel => exact ⟨st2,by rw [unhide hst2],by rw [unhide hst2],by rw [unhide hst2];exact (unhide HI).drewN _,.inr (.inl ⟨rfl,rfl⟩)⟩
    case measure => simp [RowKit.intOf]
   | false =>
    cases hBb:((s.extract 0 4).toList == (s.extract 20 24).toList) with
    | false =>
     have hst2:Hid (st2 = st):=by
      have:=unhide HR _ rfl
      simp [hA,hBb] at this
      exact this
     clear HR H0 H1 H2 H3 H4 HM
     go_wp2_with fail
     go_quiet (fail)
     go_wp2
     go_roundw
     case rel => exact ⟨st2,by rw [unhide hst2],by rw [unhide hst2],by rw [unhide hst2];exact (unhide HI).drewN _,.inr (.inl ⟨rfl,rfl⟩)⟩
     case measure => simp [RowKit.intOf]
    | true =>
     cases hC:((s.extract 24 28).toList == x4.toList) with
     | false =>
      have hst2:Hid (st2 = st):=by
       have:=unhide HR _ rfl
       simp [hA,hBb,hC] at this
       exact this
      clear HR H0 H1 H2 H3 H4
      go_wp2_with fail
      refine wp_region_class (InvR w st) (by kernel_rfl) (by kernel_rfl) (InvR.drewN (unhide HI) _).drew1 ?_
      intro hne
      repeat (go_big_quiet_step ((rename_i xx;refine (unhide HM _).mono ?_;rintro o w2 ⟨rfl,hB2⟩;exact ⟨rfl,⟨_,xx.ok.below hB2⟩,rfl⟩)))
      refine wpQuiet_nil ?_
      rintro w2 ⟨⟨w3,hI2⟩,rfl⟩
      clear HI HM
      have HI2:=hide hI2
      clear hI2
      go_wp2
      go_roundw
      case rel => exact ⟨st2,by rw [unhide hst2],by rw [unhide hst2],by rw [unhide hst2];exact unhide HI2,.inr (.inl ⟨rfl,rfl⟩)⟩
      case measure => simp [RowKit.intOf]
     | true =>
      cases hD:decide (n0 ≤ st.n) with
      | true =>
       have hst2:Hid (st2 = st):=by
        have:=unhide HR _ rfl
        have hle:=of_decide_eq_true hD
        simp [hA,hBb,hC,show ¬ st.n < n0 from by omega] at this
        exact this
       clear HR H0 H1 H2 H3 H4
       go_wp2_with fail
       refine wp_region_class (InvR w st) (by kernel_rfl) (by kernel_rfl) (InvR.drewN (unhide HI) _).drew1 ?_
       intro hne
       repeat (go_big_quiet_step ((rename_i xx;refine (unhide HM _).mono ?_;rintro o w2 ⟨rfl,hB2⟩;exact ⟨rfl,⟨_,xx.ok.below hB2⟩,rfl⟩)))
       refine wpQuiet_nil ?_
       rintro w2 ⟨⟨w3,hI2⟩,rfl⟩
       clear HI HM
       have HI2:=hide hI2
       clear hI2
       go_wp2
       go_roundw
       case rel => exact ⟨st2,by rw [unhide hst2],by rw [unhide hst2],by rw [unhide hst2];exact unhide HI2,.inr (.inl ⟨rfl,rfl⟩)⟩
       case measure => simp [RowKit.intOf]
      | false =>
       have hst2:Hid (st2 = ⟨n1,n2,n3,n4,n0,placeOf false⟩):=by
        have:=unhide HR _ rfl
        have hle:=of_decide_eq_false hD
        simp [hA,hBb,hC,show st.n < n0 from by omega] at this
        exact this
       clear HR H0
       go_wp2_with fail
       refine wp_region_class (InvR w st) (by kernel_rfl) (by kernel_rfl) (InvR.drewN (unhide HI) _).drew1 ?_
       intro hne
       repeat (go_big_quiet_step ((rename_i xx;refine (unhide HM _).mono ?_;rintro o w2 ⟨rfl,hB2⟩;exact ⟨rfl,⟨_,xx.ok.below hB2⟩,rfl⟩)))
       refine wpQuiet_nil ?_
       rintro w2 ⟨⟨w3,hI2⟩,rfl⟩
       clear HI HM
       go_wp2_with fail
       have HI2:=hide hI2
       have c1:=hI2.2.1.cell 0
       have c2:=hI2.2.1.cell 1
       have c3:=hI2.2.1.cell 2
       have c4:=hI2.2.1.cell 3
       have f1:=hI2.2.1.frozen 0
       have f2:=hI2.2.1.frozen 1
       have f3:=hI2.2.1.frozen 2
       have f4:=hI2.2.1.frozen 3
       simp only [Nw.cred] at c1 c2 c3 c4
       clear hI2
       go_region_held3 (fun _ => True) (trivial) ((first | (go_at_call_of 118 (s.extract 4 8);refine (unhide H1 _).mono ?_;rintro o w2 ⟨rfl,m2,rfl⟩) | (go_at_call_of 118 (s.extract 8 12);refine (unhide H2 _).mono ?_;rintro o w2 ⟨rfl,m2,rfl⟩) | (go_at_call_of 118 (s.extract 12 16);refine (unhide H3 _).mono ?_;rintro o w2 ⟨rfl,m2,rfl⟩) | (go_at_call_of 118 (s.extract 16 20);refine (unhide H4 _).mono ?_;rintro o w2 ⟨rfl,m2,rfl⟩)))
       have fin:=hide (fun k => ((unhide HI2).drewN k).store n1 n2 n3 n4 n0 (placeOf false))
       clear c1 c2 c3 c4 f1 f2 f3 f4 HI2 H1 H2 H3 H4
       go_wp2
       go_roundw
       case rel => exact ⟨st2,by rw [unhide hst2],by rw [unhide hst2];rfl,by rw [unhide hst2];exact unhide fin _,.inr (.inl ⟨rfl,rfl⟩)⟩
       case measure => simp [RowKit.intOf]
  ·have HI:=hide hinv
   have hsz:(slotOf disk true).size = 28:=slotOf_size disk hd true
   have hcut:disk.extract 28 56 = slotOf disk true:=rfl
   have H0:=hide (value_at (slotOf disk true) hsz 0 0 4 rfl rfl (by omega))
   have H1:=hide (value_at (slotOf disk true) hsz 1 4 8 rfl rfl (by omega))
   have H2:=hide (value_at (slotOf disk true) hsz 2 8 12 rfl rfl (by omega))
   have H3:=hide (value_at (slotOf disk true) hsz 3 12 16 rfl rfl (by omega))
   have H4:=hide (value_at (slotOf disk true) hsz 4 16 20 rfl rfl (by omega))
   have HM:=hide (rsum_at (slotOf disk true) hsz)
   have HR:Hid (∀ r,rightR (slotOf disk true) = r → rStep disk (rStep disk nw0 false) true = if (r && decide (st.n < at4 (slotOf disk true) 0)) = true then ⟨at4 (slotOf disk true) 1,at4 (slotOf disk true) 2,at4 (slotOf disk true) 3,at4 (slotOf disk true) 4,at4 (slotOf disk true) 0,placeOf true⟩ else st):=fun r hr => by subst hr;rw [hst];rfl
   unfold rightR at HR
   clear hst hinv
   generalize slotOf disk true = s at *
   generalize numsOf (s.extract 0 24) = l24 at *
   generalize hx:strOfNums (num4 (sumV l24)) = x4 at *
   clear hx
   generalize rStep disk (rStep disk nw0 false) true = st2 at *
   generalize at4 s 0 = n0 at *
   generalize at4 s 1 = n1 at *
   generalize at4 s 2 = n2 at *
   generalize at4 s 3 = n3 at *
   generalize at4 s 4 = n4 at *
   go_wp2_with fail
   refine (unhide H0 _).mono ?_
   rintro o w1 ⟨rfl,m,rfl⟩
   cases hA:(n0 == 0) with
   | true =>
    have hst2:Hid (st2 = st):=by
     have:=unhide HR _ rfl
     simp [hA] at this
     exact this
    clear HR H0 H1 H2 H3 H4 HM
    go_wp2_with fail
    go_quiet (fail)
    go_wp2
    go_roundw
    case rel => exact ⟨st2,by rw [unhide hst2],by rw [unhide hst2],by rw [unhide hst2];exact (unhide HI).drewN _,.inr (.inr ⟨rfl,rfl⟩)⟩
    case measure => simp [RowKit.intOf]
   | false =>
    cases hBb:((s.extract 0 4).toList == (s.extract 20 24).toList) with
    | false =>
     have hst2:Hid (st2 = st):=by
      have:=unhide HR _ rfl
      simp [hA,hBb] at this
      exact this
     clear HR H0 H1 H2 H3 H4 HM
     go_wp2_with fail
     go_quiet (fail)
     go_wp2
     go_roundw
     case rel => exact ⟨st2,by rw [unhide hst2],by rw [unhide hst2],by rw [unhide hst2];exact (unhide HI).drewN _,.inr (.inr ⟨rfl,rfl⟩)⟩
     case measure => simp [RowKit.intOf]
    | true =>
     cases hC:((s.extract 24 28).toList == x4.toList) with
     | false =>
      have hst2:Hid (st2 = st):=by
       have:=unhide HR _ rfl
       simp [hA,hBb,hC] at this
       exact this
      clear HR H0 H1 H2 H3 H4
      go_wp2_with fail
      refine wp_region_class (InvR w st) (by kernel_rfl) (by kernel_rfl) (InvR.drewN (unhide HI) _).drew1 ?_
      intro hne
      repeat (go_big_quiet_step ((rename_i xx;refine (unhide HM _).mono ?_;rintro o w2 ⟨rfl,hB2⟩;exact ⟨rfl,⟨_,xx.ok.below hB2⟩,rfl⟩)))
      refine wpQuiet_nil ?_
      rintro w2 ⟨⟨w3,hI2⟩,rfl⟩
      clear HI HM
      have HI2:=hide hI2
      clear hI2
      go_wp2
      go_roundw
      case rel => exact ⟨st2,by rw [unhide hst2],by rw [unhide hst2],by rw [unhide hst2];exact unhide HI2,.inr (.inr ⟨rfl,rfl⟩)⟩
      case measure => simp [RowKit.intOf]
     | true =>
      cases hD:decide (n0 ≤ st.n) with
      | true =>
       have hst2:Hid (st2 = st):=by
        have:=unhide HR _ rfl
        have hle:=of_decide_eq_true hD
        simp [hA,hBb,hC,show ¬ st.n < n0 from by omega] at this
        exact this
       clear HR H0 H1 H2 H3 H4
       go_wp2_with fail
       refine wp_region_class (InvR w st) (by kernel_rfl) (by kernel_rfl) (InvR.drewN (unhide HI) _).drew1 ?_
       intro hne
       repeat (go_big_quiet_step ((rename_i xx;refine (unhide HM _).mono ?_;rintro o w2 ⟨rfl,hB2⟩;exact ⟨rfl,⟨_,xx.ok.below hB2⟩,rfl⟩)))
       refine wpQuiet_nil ?_
       rintro w2 ⟨⟨w3,hI2⟩,rfl⟩
       clear HI HM
       have HI2:=hide hI2
       clear hI2
       go_wp2
       go_roundw
       case rel => exact ⟨st2,by rw [unhide hst2],by rw [unhide hst2],by rw [unhide hst2];exact unhide HI2,.inr (.inr ⟨rfl,rfl⟩)⟩
       case measure => simp [RowKit.intOf]
      | false =>
       have hst2:Hid (st2 = ⟨n1,n2,n3,n4,n0,placeOf true⟩):=by
        have:=unhide HR _ rfl
        have hle:=of_decide_eq_false hD
        simp [hA,hBb,hC,show st.n < n0 from by omega] at this
        exact this
       clear HR H0
       go_wp2_with fail
       refine wp_region_class (InvR w st) (by kernel_rfl) (by kernel_rfl) (InvR.drewN (unhide HI) _).drew1 ?_
       intro hne
       repeat (go_big_quiet_step ((rename_i xx;refine (unhide HM _).mono ?_;rintro o w2 ⟨rfl,hB2⟩;exact ⟨rfl,⟨_,xx.ok.below hB2⟩,rfl⟩)))
       refine wpQuiet_nil ?_
       rintro w2 ⟨⟨w3,hI2⟩,rfl⟩
       clear HI HM
       go_wp2_with fail
       have HI2:=hide hI2
       have c1:=hI2.2.1.cell 0
       have c2:=hI2.2.1.cell 1
       have c3:=hI2.2.1.cell 2
       have c4:=hI2.2.1.cell 3
       have f1:=hI2.2.1.frozen 0
       have f2:=hI2.2.1.frozen 1
       have f3:=hI2.2.1.frozen 2
       have f4:=hI2.2.1.frozen 3
       simp only [Nw.cred] at c1 c2 c3 c4
       clear hI2
       go_region_held3 (fun _ => True) (trivial) ((first | (go_at_call_of 118 (s.extract 4 8);refine (unhide H1 _).mono ?_;rintro o w2 ⟨rfl,m2,rfl⟩) | (go_at_call_of 118 (s.extract 8 12);refine (unhide H2 _).mono ?_;rintro o w2 ⟨rfl,m2,rfl⟩) | (go_at_call_of 118 (s.extract 12 16);refine (unhide H3 _).mono ?_;rintro o w2 ⟨rfl,m2,rfl⟩) | (go_at_call_of 118 (s.extract 16 20);refine (unhide H4 _).mono ?_;rintro o w2 ⟨rfl,m2,rfl⟩)))
       have fin:=hide (fun k => ((unhide HI2).drewN k).store n1 n2 n3 n4 n0 (placeOf true))
       clear c1 c2 c3 c4 f1 f2 f3 f4 HI2 H1 H2 H3 H4
       go_wp2
       go_roundw
       case rel => exact ⟨st2,by rw [unhide hst2],by rw [unhide hst2];rfl,by rw [unhide hst2];exact unhide fin _,.inr (.inr ⟨rfl,rfl⟩)⟩
       case measure => simp [RowKit.intOf]
  ·have hc:=hst
   have c1:=hinv.2.1.cell 0
   have c2:=hinv.2.1.cell 1
   have c3:=hinv.2.1.cell 2
   have c4:=hinv.2.1.cell 3
   have c5:=hinv.1.cell 0
   have c6:=hinv.1.cell 1
   have c7:=hinv.1.cell 2
   have c8:=hinv.1.cell 3
   have f5:=hinv.1.frozen 0
   have f6:=hinv.1.frozen 1
   have f7:=hinv.1.frozen 2
   have f8:=hinv.1.frozen 3
   simp only [Nw.cred] at c1 c2 c3 c4
   have HI:=hide hinv
   have HST:=hide hst
   clear hc hst hinv
   go_wp2
   refine bodyPost_ret (v:=.tuple #[.agg #[.int .i64 st.p,.int .i64 st.t,.int .i64 st.e,.int .i64 st.v],.int .i64 st.n,.int .i64 st.a]) (by simp [results,Tryz.results95,go_sem,c5,c6,c7,c8]) rfl ⟨by rw [← unhide HST];rfl,?_⟩
   exact (((((unhide HI).2.2.setCell (p:=⟨w.heap.size,0,none⟩) (Nat.le_refl _) _).setCell (p:=⟨w.heap.size,1,none⟩) (Nat.le_refl _) _).setCell (p:=⟨w.heap.size,2,none⟩) (Nat.le_refl _) _).setCell (p:=⟨w.heap.size,3,none⟩) (Nat.le_refl _) _)
end Go.Proofs.YtceappncglfciaaGreat
namespace Go.Proofs.YtceappncglfciaaGreat
theorem str_beq (a b:ByteArray):(a.toList == b.toList) = decide (numsOf a = numsOf b):=by
 rw [Bool.eq_iff_iff,beq_iff_eq,decide_eq_true_iff]
 constructor
 ·intro h
  rw [ByteArray.toList_eq,ByteArray.toList_eq] at h
  unfold numsOf
  rw [h]
 ·intro h
  rw [← strOfNums_numsOf a,← strOfNums_numsOf b,h]
theorem BytesL.take {l:List Int} (h:BytesL l) (n:Nat):BytesL (l.take n):=fun x hx => h x (List.mem_of_mem_take hx)
theorem BytesL.drop {l:List Int} (h:BytesL l) (n:Nat):BytesL (l.drop n):=fun x hx => h x (List.mem_of_mem_drop hx)
theorem part_len {l:List Int} (hl:l.length = 28) {i:Nat} (hi:i ≤ 5):((l.drop (i * 4)).take 4).length = 4:=by
 rw [List.length_take,List.length_drop];omega
theorem at4_num4 (s:ByteArray) (hs:s.size = 28) {i:Nat} (hi:i ≤ 5):num4 (at4 s i) = ((numsOf s).drop (i * 4)).take 4:=by
 have hl:(numsOf s).length = 28:=by rw [numsOf_len];exact hs
 exact num4_valL4 (((numsOf_bytes s).drop _).take _) (part_len hl hi)
theorem at4_range (s:ByteArray) (hs:s.size = 28) {i:Nat} (hi:i ≤ 5):wideB (at4 s i) = false:=by
 have hl:(numsOf s).length = 28:=by rw [numsOf_len];exact hs
 have:=valL_range4 (((numsOf_bytes s).drop (i * 4)).take 4) (part_len hl hi)
 unfold wideB at4
 simp
 omega
theorem body_of (s:ByteArray) (hs:s.size = 28):bodyL (at4 s 0) (at4 s 1) (at4 s 2) (at4 s 3) (at4 s 4) = (numsOf s).take 20 ++ (numsOf s).take 4:=by
 have e:(numsOf s).take 20 = ((numsOf s).drop 0).take 4 ++ (((numsOf s).drop 4).take 4 ++ (((numsOf s).drop 8).take 4 ++ (((numsOf s).drop 12).take 4 ++ ((numsOf s).drop 16).take 4))):=by
  have f:∀ (l:List Int) (a:Nat),l.take (4 + a) = l.take 4 ++ (l.drop 4).take a:=fun l a => List.take_add
  rw [show (20:Nat) = 4 + (4 + (4 + (4 + 4))) from rfl,f,f,f,f]
  simp [List.drop_drop]
 unfold bodyL
 rw [at4_num4 s hs (i:=0) (by omega),at4_num4 s hs (i:=1) (by omega),at4_num4 s hs (i:=2) (by omega),at4_num4 s hs (i:=3) (by omega),at4_num4 s hs (i:=4) (by omega),e]
 simp
theorem bad_of (s:ByteArray) (hs:s.size = 28):badB (at4 s 0) (at4 s 1) (at4 s 2) (at4 s 3) (at4 s 4) = (at4 s 0 == 0):=by
 unfold badB
 rw [at4_range s hs (i:=0) (by omega),at4_range s hs (i:=1) (by omega),at4_range s hs (i:=2) (by omega),at4_range s hs (i:=3) (by omega),at4_range s hs (i:=4) (by omega)]
 simp
theorem right_list (l:List Int) (hl:l.length = 28):(l.take 20 ++ l.take 4 ++ num4 (sumV (l.take 20 ++ l.take 4)) = l) ↔ (l.take 4 = (l.drop 20).take 4 ∧ l.drop 24 = num4 (sumV (l.take 24))):=by
 have e1:l = l.take 20 ++ ((l.drop 20).take 4 ++ l.drop 24):=by
  have:=List.take_append_drop 4 (l.drop 20)
  rw [List.drop_drop] at this
  rw [this,List.take_append_drop]
 have e2:l.take 24 = l.take 20 ++ (l.drop 20).take 4:=by
  rw [show (24:Nat) = 20 + 4 from rfl,List.take_add]
 have h4:(l.take 4).length = 4:=by rw [List.length_take];omega
 have h4':((l.drop 20).take 4).length = 4:=by rw [List.length_take,List.length_drop];omega
 constructor
 ·intro h
  have h':l.take 20 ++ (l.take 4 ++ num4 (sumV (l.take 20 ++ l.take 4))) = l.take 20 ++ ((l.drop 20).take 4 ++ l.drop 24):=by
   rw [← List.append_assoc,h,← e1]
  have h2:=List.append_cancel_left h'
  obtain ⟨h3,h5⟩:=List.append_inj h2 (by rw [h4,h4'])
  refine ⟨h3,?_⟩
  rw [e2,← h3,← h5]
 ·rintro ⟨h3,h5⟩
  rw [h3,← e2,← h5]
  exact List.take_append_drop 24 l
theorem right_eq (s:ByteArray) (hs:s.size = 28):rightP s = rightR s:=by
 have hl:(numsOf s).length = 28:=by rw [numsOf_len];exact hs
 have hbody:=body_of s hs
 have hbad:=bad_of s hs
 unfold rightP rightR
 cases h0:(at4 s 0 == 0) with
 | true =>
  rw [h0] at hbad
  have:encE (at4 s 0) (at4 s 1) (at4 s 2) (at4 s 3) (at4 s 4) = 1:=by unfold encE;rw [hbad];rfl
  rw [this]
  rfl
 | false =>
  rw [h0] at hbad
  have he:encE (at4 s 0) (at4 s 1) (at4 s 2) (at4 s 3) (at4 s 4) = 0:=by unfold encE;rw [hbad];rfl
  have hS:encS (at4 s 0) (at4 s 1) (at4 s 2) (at4 s 3) (at4 s 4) = strOfNums ((numsOf s).take 20 ++ (numsOf s).take 4 ++ num4 (sumV ((numsOf s).take 20 ++ (numsOf s).take 4))):=by
   unfold encS encL;rw [hbad,hbody];rfl
  have hbb:BytesL ((numsOf s).take 20 ++ (numsOf s).take 4 ++ num4 (sumV ((numsOf s).take 20 ++ (numsOf s).take 4))) :=
   (((numsOf_bytes s).take _).app ((numsOf_bytes s).take _)).app (num4_bytes (sumV_range _).1 (sumV_range _).2)
  rw [he,hS,str_beq,str_beq,str_beq,numsOf_strOfNums hbb,numsOf_strOfNums (num4_bytes (sumV_range _).1 (sumV_range _).2)]
  simp only [numsOf_extract]
  rw [List.drop_zero]
  have ht:((numsOf s).drop 24).take (28 - 24) = (numsOf s).drop 24:=List.take_of_length_le (by rw [List.length_drop];omega)
  rw [ht]
  have hr:=right_list (numsOf s) hl
  simp only [Nat.sub_zero,show 24 - 20 = 4 from rfl]
  rw [Bool.eq_iff_iff]
  simpa [List.append_assoc] using hr
theorem step_eq (disk:ByteArray) (hd:disk.size = 56) (st:Nw) (b:Bool):rStep disk st b = nwStep disk st b:=by
 unfold rStep nwStep
 rw [right_eq _ (slotOf_size disk hd b)]
theorem newest_eq (disk:ByteArray) (hd:disk.size = 56):rStep disk (rStep disk nw0 false) true = nwOf disk [false,true]:=by
 rw [step_eq disk hd,step_eq disk hd]
 simp only [nwOf,List.foldl_cons,List.foldl_nil]
end Go.Proofs.YtceappncglfciaaGreat
namespace Go.Proofs.YtceappncglfciaaGreat
open Go.RowKit
theorem size_strOfNums (l:List Int) (hb:BytesL l):(strOfNums l).size = l.length:=by
 rw [← numsOf_len,numsOf_strOfNums hb]
theorem slot_nums (d:List Int) (hb:BytesL d) (hl:d.length = 56) (b:Bool):numsOf (slotOf (strOfNums d) b) = slotL d b:=by
 unfold slotOf slotL
 cases b with
 | true =>
  simp only [cond_true,if_true]
  rw [numsOf_extract,numsOf_strOfNums hb]
  exact List.take_of_length_le (by rw [List.length_drop];omega)
 | false =>
  simp only [cond_false,Bool.false_eq_true,if_false]
  rw [numsOf_extract,numsOf_strOfNums hb,List.drop_zero]
theorem at4_nums (s:ByteArray) (i:Nat):at4 s i = fieldL (numsOf s) i:=rfl
theorem rightR_nums (s:ByteArray) (hs:s.size = 28):rightR s = rightL (numsOf s):=by
 have hl:(numsOf s).length = 28:=by rw [numsOf_len];exact hs
 unfold rightR rightL
 rw [str_beq,str_beq,numsOf_strOfNums (num4_bytes (sumV_range _).1 (sumV_range _).2)]
 simp only [numsOf_extract,List.drop_zero,Nat.sub_zero,show 24 - 20 = 4 from rfl]
 have ht:((numsOf s).drop 24).take (28 - 24) = (numsOf s).drop 24:=List.take_of_length_le (by rw [List.length_drop];omega)
 rw [ht]
 have h0:(!(at4 s 0 == 0)) = decide (valL ((numsOf s).take 4) ≠ 0):=by
  unfold at4
  rw [Nat.zero_mul,List.drop_zero]
  by_cases h:valL ((numsOf s).take 4) = 0 <;> simp [h]
 rw [h0]
def NewM.nw (x:NewM):Nw:=⟨x.c.p,x.c.t,x.c.e,x.c.v,x.n,x.at_⟩
theorem newStep_nw (d:List Int) (hb:BytesL d) (hl:d.length = 56) (x:NewM) (b:Bool):rStep (strOfNums d) x.nw b = (newStep d x b).nw:=by
 unfold rStep newStep
 have hsz:(strOfNums d).size = 56:=by rw [size_strOfNums d hb];exact hl
 rw [rightR_nums _ (slotOf_size _ hsz b)]
 simp only [at4_nums,slot_nums d hb hl b]
 show (if (rightL (slotL d b) && decide (x.n < fieldL (slotL d b) 0)) = true then _ else _) = _
 split
 ·cases b <;> rfl
 ·rfl
theorem newest_nw (d:List Int) (hb:BytesL d) (hl:d.length = 56):rStep (strOfNums d) (rStep (strOfNums d) nw0 false) true = (newestL d).nw:=by
 rw [show nw0 = newZ.nw from rfl,newStep_nw d hb hl,newStep_nw d hb hl]
 unfold newestL
 rw [if_pos hl]
def CredM.cells (c:CredM):Array Value:=#[.int .i64 c.p,.int .i64 c.t,.int .i64 c.e,.int .i64 c.v]
theorem rnewest_L (d:List Int) (hb:BytesL d) (hl:d.length = 56) (w:World) :
  Calls Tryz.prog 95 #[.string (strOfNums d)] w fun o w' => o = .returned (.tuple #[.agg (newestL d).c.cells,.int .i64 (newestL d).n,.int .i64 (newestL d).at_]) ∧ Below w.heap.size w w':=by
 have h:=rnewest_56 (strOfNums d) w (by rw [size_strOfNums d hb];exact hl)
 rw [newest_nw d hb hl] at h
 exact h
theorem newest_L (d:List Int) (hb:BytesL d) (hl:d.length = 56) (w:World) :
  Calls Tryz.prog 22 #[.string (strOfNums d)] w fun o w' => o = .returned (.tuple #[.agg (newestL d).c.cells,.int .i64 (newestL d).n,.int .i64 (newestL d).at_]) ∧ Below w.heap.size w w':=by
 have hsz:(strOfNums d).size = 56:=by rw [size_strOfNums d hb];exact hl
 have h:=newest_56 (strOfNums d) w hsz
 rw [← newest_eq _ hsz,newest_nw d hb hl] at h
 exact h
theorem rencode_L (n:Int) (c:CredM) (hb:badB n c.p c.t c.e c.v = false) (w:World) :
  Calls Tryz.prog 77 #[.int .i64 n,.agg c.cells] w fun o w' => o = .returned (.tuple #[.string (strOfNums (encL n c.p c.t c.e c.v)),.int .i64 0]) ∧ Below w.heap.size w w':=by
 have h:=rEncode_any n c.p c.t c.e c.v w
 unfold encS encE at h
 rw [hb] at h
 exact h
theorem encode_L (n:Int) (c:CredM) (hb:badB n c.p c.t c.e c.v = false) (w:World) :
  Calls Tryz.prog 49 #[.int .i64 n,.agg c.cells] w fun o w' => o = .returned (.tuple #[.string (strOfNums (encL n c.p c.t c.e c.v)),.int .i64 0]) ∧ Below w.heap.size w w':=by
 have h:=encode_any n c.p c.t c.e c.v w
 unfold encS encE at h
 rw [hb] at h
 exact h
end Go.Proofs.YtceappncglfciaaGreat
