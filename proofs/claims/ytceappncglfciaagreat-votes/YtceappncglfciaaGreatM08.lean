import Derived.Test.YtceappncglfciaaGreatM07
import Derived.Test.YtceappncglfciaaGreatM00
import Derived.WalkKit
import Derived.WalkSpells
import Derived.WalkLawsBesides
import Derived.Deep.RegionHeld3
import Derived.Deep.DrawnRows
import Derived.Maps.AppendAt
import Derived.Lib.ConvBytes
import Derived.BigQuiet
import Derived.Deep.QuietTactic
set_option linter.unusedVariables false
set_option linter.unusedSimpArgs false
namespace Go.Proofs.YtceappncglfciaaGreat
open Go.RowKit
set_option maxHeartbeats 400000 in
theorem wide_any (n:Int) (w:World) :
  Calls Tryz.prog 92 #[.int .i64 n] w fun e w' => e = .returned (.bool (wideB n)) ∧ w' = w:=by
 unfold wideB
 by_cases h:n < 0
 ·go_enter Tryz.func92,Tryz.ntmps92
  go_wp2
  go_ret
  exact ⟨ret_bool (by simp [h]),rfl⟩
 ·go_enter Tryz.func92,Tryz.ntmps92
  go_wp2
  go_ret
  exact ⟨ret_bool (by simp;omega),rfl⟩
set_option maxHeartbeats 400000 in
theorem number_any (n:Int) (w:World) (h0:0 ≤ n) (h1:n ≤ 4294967295) :
  Calls Tryz.prog 93 #[.int .i64 n] w fun e w' => e = .returned (.string (strOfNums (num4 n))) ∧ Below w.heap.size w w':=by
 have hcv:=run_convert_bytes_arg (P:=Tryz.prog) (w.alloc (Obj.cells #[Value.int IntKind.u8 (n / 16777216),Value.int IntKind.u8 (n / 65536 % 256),Value.int IntKind.u8 (n / 256 % 256),Value.int IntKind.u8 (n % 256)] 5)) 116 5 Tryz.underlying116 Tryz.underlying5 w.heap.size 0 4 4 (num4 n) rfl (by
  intro i hi
  rw [World.cell?_alloc_at _ _ _ _ rfl]
  match i,hi with
  | 0,_ => rfl
  | 1,_ => rfl
  | 2,_ => rfl
  | 3,_ => rfl) 9 Tryz.underlying9
 go_enter Tryz.func93,Tryz.ntmps93
 go_wp2
 go_ret
 exact ⟨rfl,(Below.refl _ _).alloc (Nat.le_refl _) _⟩
set_option maxHeartbeats 400000 in
theorem num_any (n:Int) (w:World) :
  Calls Tryz.prog 51 #[.int .i64 n] w fun e w' => e = .returned (.int .i64 n) ∧ w' = w:=by
 go_enter Tryz.func51,Tryz.ntmps51
 go_wp2
 go_ret
 exact ⟨rfl,rfl⟩
set_option maxHeartbeats 400000 in
theorem rsum_any (s:ByteArray) (w:World) (hs:s.size ≤ 1000) :
  Calls Tryz.prog 94 #[.string s] w fun e w' => e = .returned (.string (strOfNums (num4 (sumV (numsOf s))))) ∧ Below w.heap.size w w':=by
 go_enter Tryz.func94,Tryz.ntmps94
 go_wp2
 go_loop [3,4,5] (fun a b i => ∃ k:Nat,k ≤ s.size ∧ i = .int .i64 k ∧ a = .int .i64 (ad ((numsOf s).take k)).1 ∧ b = .int .i64 (ad ((numsOf s).take k)).2) (fun _ _ i => s.size - (RowKit.intOf i).toNat)
 case atStart => exact ⟨0,Nat.zero_le _,rfl,rfl,rfl⟩
 case round =>
  obtain ⟨k,hk,rfl,rfl,rfl⟩:=hrel
  have hd:=ad_range ((numsOf s).take k)
  obtain ⟨d1,d2,d3,d4⟩:=hd
  by_cases hlt:k < s.size
  ·obtain ⟨q1,q2⟩:=ad_round s k hlt
   have Q1:Hid _:=q1
   have Q2:Hid _:=q2
   clear q1 q2
   go_wp2
   go_round
   case rel => exact ⟨k + 1,by omega,by go_num,by rw [Q1.out],by rw [Q2.out]⟩
   case measure => simp [RowKit.intOf];omega
  ·have hk':k = s.size:=by omega
   have HE:Hid (65536 * (ad ((numsOf s).take k)).snd + (ad ((numsOf s).take k)).fst = sumV (numsOf s)):=by
    rw [hk',← numsOf_len s,List.take_length];rfl
   clear hk'
   go_wp2_with fail
   refine (number_any _ w (by omega) (by omega)).mono ?_
   rintro e w' ⟨rfl,hb⟩
   go_wp2
   go_ret
   rw [HE.out]
   exact ⟨rfl,hb⟩
end Go.Proofs.YtceappncglfciaaGreat
namespace Go.Proofs.YtceappncglfciaaGreat
open Go.RowKit
attribute [local go_sem ↓] Go.wp_at_zero Go.wp_at_succ
set_option maxHeartbeats 1000000 in
theorem rEncode_bad (n p t e v:Int) (w:World) (hb:badB n p t e v = true) :
  Calls Tryz.prog 77 #[.int .i64 n,.agg #[.int .i64 p,.int .i64 t,.int .i64 e,.int .i64 v]] w fun o w' => o = .returned (.tuple #[.string ⟨#[]⟩,.int .i64 1]) ∧ Below w.heap.size w w':=by
 unfold badB at hb
 generalize hx0:wideB n = x0 at hb
 generalize hx1:wideB p = x1 at hb
 generalize hx2:wideB t = x2 at hb
 generalize hx3:wideB e = x3 at hb
 generalize hx4:wideB v = x4 at hb
 have c0:=fun w => wide_any n w
 have c1:=fun w => wide_any p w
 have c2:=fun w => wide_any t w
 have c3:=fun w => wide_any e w
 have c4:=fun w => wide_any v w
 rw [hx0] at c0
 rw [hx1] at c1
 rw [hx2] at c2
 rw [hx3] at c3
 rw [hx4] at c4
 have C0:Hid _:=c0
 have C1:Hid _:=c1
 have C2:Hid _:=c2
 have C3:Hid _:=c3
 have C4:Hid _:=c4
 clear c0 c1 c2 c3 c4 hx0 hx1 hx2 hx3 hx4
 go_enter Tryz.func77,Tryz.ntmps77
 go_wp2_with fail
 refine (C0.out _).mono ?_
 rintro e1 w1 ⟨rfl,rfl⟩
 go_wp2_with fail
 refine (C1.out _).mono ?_
 rintro e1 w1 ⟨rfl,rfl⟩
 go_wp2_with fail
 refine (C2.out _).mono ?_
 rintro e1 w1 ⟨rfl,rfl⟩
 go_wp2_with fail
 refine (C3.out _).mono ?_
 rintro e1 w1 ⟨rfl,rfl⟩
 go_wp2_with fail
 refine (C4.out _).mono ?_
 rintro e1 w1 ⟨rfl,rfl⟩
 go_wp2
 all_goals first
  | (go_ret2;exact ⟨rfl,(Below.refl _ _).alloc (Nat.le_refl _) _⟩)
  | (exfalso;simp_all)
theorem box_keep {w W w1:World} {p t e v:Int} (h:W.cell? ⟨w.heap.size,0,none⟩ = some (.int .i64 p) ∧ W.cell? ⟨w.heap.size,1,none⟩ = some (.int .i64 t) ∧ W.cell? ⟨w.heap.size,2,none⟩ = some (.int .i64 e) ∧ W.cell? ⟨w.heap.size,3,none⟩ = some (.int .i64 v) ∧ w.heap.size < W.heap.size ∧ Below w.heap.size w W)
  (hb:Below W.heap.size W w1):w1.cell? ⟨w.heap.size,0,none⟩ = some (.int .i64 p) ∧ w1.cell? ⟨w.heap.size,1,none⟩ = some (.int .i64 t) ∧ w1.cell? ⟨w.heap.size,2,none⟩ = some (.int .i64 e) ∧ w1.cell? ⟨w.heap.size,3,none⟩ = some (.int .i64 v) ∧ w.heap.size < w1.heap.size ∧ Below w.heap.size w w1:=by
 obtain ⟨h0,h1,h2,h3,h4,h5⟩:=h
 exact ⟨(hb.cell (p:=⟨w.heap.size,0,none⟩) h4).trans h0,(hb.cell (p:=⟨w.heap.size,1,none⟩) h4).trans h1,(hb.cell (p:=⟨w.heap.size,2,none⟩) h4).trans h2,(hb.cell (p:=⟨w.heap.size,3,none⟩) h4).trans h3,Nat.lt_of_lt_of_le h4 hb.size,h5.trans (hb.mono (Nat.le_of_lt h4))⟩
set_option maxHeartbeats 4000000 in
theorem rEncode_good (n p t e v:Int) (w:World) (hb:badB n p t e v = false) :
  Calls Tryz.prog 77 #[.int .i64 n,.agg #[.int .i64 p,.int .i64 t,.int .i64 e,.int .i64 v]] w fun o w' => o = .returned (.tuple #[.string (strOfNums (encL n p t e v)),.int .i64 0]) ∧ Below w.heap.size w w':=by
 have hby:=bodyL_bytes hb
 have HBY:Hid _:=hby
 clear hby
 simp only [badB,Bool.or_eq_false_iff] at hb
 obtain ⟨⟨⟨⟨⟨x0,x1⟩,x2⟩,x3⟩,x4⟩,x5⟩:=hb
 have c0:=fun w => wide_any n w
 have c1:=fun w => wide_any p w
 have c2:=fun w => wide_any t w
 have c3:=fun w => wide_any e w
 have c4:=fun w => wide_any v w
 rw [x0] at c0
 rw [x1] at c1
 rw [x2] at c2
 rw [x3] at c3
 rw [x4] at c4
 have C0:Hid _:=c0
 have C1:Hid _:=c1
 have C2:Hid _:=c2
 have C3:Hid _:=c3
 have C4:Hid _:=c4
 simp only [wideB,Bool.or_eq_false_iff,decide_eq_false_iff_not,Int.not_lt] at x0 x1 x2 x3 x4
 obtain ⟨a0,a1⟩:=x0
 obtain ⟨b0,b1⟩:=x1
 obtain ⟨d0,d1⟩:=x2
 obtain ⟨e0,e1⟩:=x3
 obtain ⟨v0,v1⟩:=x4
 clear c0 c1 c2 c3 c4
 go_enter Tryz.func77,Tryz.ntmps77
 go_wp2_with fail
 refine (C0.out _).mono ?_
 rintro e1 w1 ⟨rfl,rfl⟩
 go_wp2_with fail
 refine (C1.out _).mono ?_
 rintro e1 w1 ⟨rfl,rfl⟩
 go_wp2_with fail
 refine (C2.out _).mono ?_
 rintro e1 w1 ⟨rfl,rfl⟩
 go_wp2_with fail
 refine (C3.out _).mono ?_
 rintro e1 w1 ⟨rfl,rfl⟩
 go_wp2_with fail
 refine (C4.out _).mono ?_
 rintro e1 w1 ⟨rfl,rfl⟩
 clear C0 C1 C2 C3 C4
 have hsz:=strOfNums_size
 have hl4:=num4_len
 go_wp2_with fail
 go_region_held3 (fun w' => w'.cell? ⟨w.heap.size,0,none⟩ = some (.int .i64 p) ∧ w'.cell? ⟨w.heap.size,1,none⟩ = some (.int .i64 t) ∧ w'.cell? ⟨w.heap.size,2,none⟩ = some (.int .i64 e) ∧ w'.cell? ⟨w.heap.size,3,none⟩ = some (.int .i64 v) ∧ w.heap.size < w'.heap.size ∧ Below w.heap.size w w') (first | (refine box_keep ?_ hbl;assumption) | (refine ⟨?_,?_,?_,?_,?_,?_⟩ <;> first | (simp;done) | (exact ((Below.refl _ _).alloc (Nat.le_refl _) _).drew))) ((go_at_call 93;refine (number_any _ _ (by assumption) (by assumption)).mono ?_;rintro o1 w1 ⟨rfl,hbl⟩))
 go_wp2_with fail
 have hcat:strOfNums (num4 n) ++ strOfNums (num4 p) ++ strOfNums (num4 t) ++ strOfNums (num4 e) ++ strOfNums (num4 v) ++ strOfNums (num4 n) = strOfNums (bodyL n p t e v):=by
  simp only [strOfNums_append,bodyL,List.append_assoc]
 rw [hcat]
 have hsb:(strOfNums (bodyL n p t e v)).size = 24:=by rw [strOfNums_size,bodyL_len]
 refine (rsum_any _ _ (by omega)).mono ?_
 rintro o2 w2 ⟨rfl,hb2⟩
 have hB:Below w.heap.size w w2:=(box_keep (w:=w) (W:=w1) (p:=p) (t:=t) (e:=e) (v:=v) (by assumption) hb2).2.2.2.2.2
 clear hb2
 have hl24:=bodyL_len n p t e v
 rw [numsOf_strOfNums HBY.out]
 have hfin:Hid (strOfNums (bodyL n p t e v) ++ strOfNums (num4 (sumV (bodyL n p t e v))) = strOfNums (encL n p t e v)):=by
  rw [strOfNums_append];rfl
 go_wp2
 go_ret2
 rw [hfin.out]
 exact ⟨rfl,hB⟩
end Go.Proofs.YtceappncglfciaaGreat
namespace Go.Proofs.YtceappncglfciaaGreat
open Go.RowKit
theorem Tryz.info5:(Tryz.prog.info? 5).map (fun i => (i.zero,i.size,i.bytes)) = some (some (.int .u8 0),1,1):=by kernel_rfl
def u8s (l:List Int):List Value:=l.map (Value.int .u8)
set_option maxHeartbeats 400000 in
theorem appendNumber_any (B:Nat) (v:Value) (l:List Int) (n:Int) (w:World) (h0:0 ≤ n) (h1:n ≤ 4294967295) (hl:l.length ≤ 100) (hB:B ≤ w.heap.size)
  (hown:w.ownsRow B 5 1 v l.length (u8s l)) :
  Calls Tryz.prog 90 #[v,.int .u32 n] w fun e w' => ∃ v',e = .returned v' ∧ w'.ownsRow B 5 1 v' (l ++ num4 n).length (u8s (l ++ num4 n)) ∧ Below B w w':=by
 obtain ⟨i0,hi,hz0,hz1,hz2⟩:=info_parts Tryz.info5
 go_enter Tryz.func90,Tryz.ntmps90
 go_wp2_with (at_builtin;refine wpList_append_own _ rfl _ _ 116 rfl B 5 i0 (.int .u8 0) 1 1 Tryz.underlying116 hi hz0 hz1 hz2 rfl (by decide) _ _ _ rfl (hown.alloc _) ⟨w.heap.size,0,none⟩ 4 4 (u8s (num4 n)) rfl rfl ?c1 ?c2 ?c3 ?c4 ?c5 ?_)
 case c1 =>
  intro j u hj
  rw [show (⟨w.heap.size,0,none⟩:Addr).add j = ⟨w.heap.size,j,none⟩ from by unfold Addr.add;split <;> simp_all]
  rw [World.cell?_alloc_at _ _ _ _ rfl]
  simpa [u8s,num4] using hj
 case c2 =>
  intro u hu
  simp [u8s,num4] at hu
  rcases hu with rfl | rfl | rfl | rfl <;> rfl
 case c3 => unfold maxLen;omega
 case c4 => omega
 case c5 => simp;omega
 intro v' w1 hown' hgrow _
 have hB2:Below B w w1:=((Below.refl B w).alloc hB _).grown hgrow (by simp;omega) (fun k hk => (hown.lt k hk).1)
 go_wp2
 go_ret
 exact ⟨v',rfl,by simpa [u8s,num4_len] using hown',hB2⟩
set_option maxHeartbeats 400000 in
theorem psum_any (b cap:Nat) (l:List Int) (w:World) (hl:l.length ≤ 100) (hby:BytesL l)
  (hc:∀ i,i < l.length → w.cell? ⟨b,i,none⟩ = some (.int .u8 (l.getD i 0))) :
  Calls Tryz.prog 91 #[.slice (some ⟨b,0,none⟩) l.length cap] w fun e w' => e = .returned (.int .u32 (sumV l)) ∧ w' = w:=by
 go_enter Tryz.func91,Tryz.ntmps91
 go_wp2
 go_loop [3,4,9] (fun a b i => ∃ k:Nat,k ≤ l.length ∧ i = .int .i64 k ∧ a = .int .u32 (ad (l.take k)).1 ∧ b = .int .u32 (ad (l.take k)).2) (fun _ _ i => l.length - (RowKit.intOf i).toNat)
 case atStart => exact ⟨0,Nat.zero_le _,rfl,rfl,rfl⟩
 case round =>
  obtain ⟨k,hk,rfl,rfl,rfl⟩:=hrel
  have hd:=ad_range (l.take k)
  obtain ⟨d1,d2,d3,d4⟩:=hd
  by_cases hlt:k < l.length
  ·have hck:=hc k hlt
   obtain ⟨q1,q2⟩:=ad_roundP l k hlt hby
   have Q1:Hid _:=q1
   have Q2:Hid _:=q2
   clear q1 q2
   go_wp2
   go_round
   case rel => exact ⟨k + 1,by omega,by go_num,by rw [Q1.out],by rw [Q2.out]⟩
   case measure => simp [RowKit.intOf];omega
  ·have hk':k = l.length:=by omega
   have HE:Hid (bits BinOp.or IntKind.u32 ((ad (l.take k)).snd * 65536) (ad (l.take k)).fst = sumV l):=by
    show _ = _
    rw [u32_or16 _ _ d3 (by omega) d1 (by omega),hk',List.take_length]
    unfold sumV;omega
   clear hk'
   go_wp2
   go_ret
   rw [HE.out]
   exact ⟨rfl,rfl⟩
set_option maxHeartbeats 400000 in
theorem fit_any (b cap:Nat) (l:List Int) (w:World) (hl:l.length ≤ 100)
  (hc:∀ i,i < l.length → w.cell? ⟨b,i,none⟩ = some (.int .i64 (l.getD i 0))) :
  Calls Tryz.prog 75 #[.slice (some ⟨b,0,none⟩) l.length cap] w fun e w' => e = .returned (.bool (!l.any wideB)) ∧ w' = w:=by
 go_enter Tryz.func75,Tryz.ntmps75
 go_wp2
 go_loop [4,7] (fun _ i => ∃ k:Nat,k ≤ l.length ∧ i = .int .i64 k ∧ (l.take k).any wideB = false) (fun _ i => l.length - (RowKit.intOf i).toNat)
 case atStart => exact ⟨0,Nat.zero_le _,rfl,rfl⟩
 case round =>
  obtain ⟨k,hk,rfl,hno⟩:=hrel
  have HN:Hid _:=hno
  clear hno
  by_cases hlt:k < l.length
  ·have hck:=hc k hlt
   by_cases h1:l[k] < 0
   ·have Y:Hid (l.any wideB = true):=any_at hlt (by simp [wideB,h1])
    go_wp2
    go_ret
    exact ⟨ret_bool (by rw [Y.out];rfl),rfl⟩
   ·by_cases h2:4294967295 < l[k]
    ·have Y:Hid (l.any wideB = true):=any_at hlt (by simp [wideB,h2])
     go_wp2
     go_ret
     exact ⟨ret_bool (by rw [Y.out];rfl),rfl⟩
    ·have Y:Hid ((l.take (k + 1)).any wideB = false):=any_next hlt HN.out (by simp [wideB];omega)
     go_wp2
     go_round
     case rel => exact ⟨k + 1,by omega,by go_num,Y.out⟩
     case measure => simp [RowKit.intOf];omega
  ·have Y:Hid (l.any wideB = false):=by
    have:=HN.out
    rw [List.take_of_length_le (by omega)] at this
    exact this
   go_wp2
   go_ret
   exact ⟨ret_bool (by rw [Y.out];rfl),rfl⟩
def laid (l:List Int):List Int:=l.flatMap num4
theorem laid_snoc (l:List Int) (x:Int):laid (l ++ [x]) = laid l ++ num4 x:=by simp [laid]
theorem laid_len (l:List Int):(laid l).length = 4 * l.length:=by
 induction l with
 | nil => rfl
 | cons x l ih => simp [laid,num4_len] at ih ⊢;omega
def zero28:Array Value:=Array.replicate 28 (.int .u8 0)
theorem make28 (w:World):(Instr.makeSlice 116 (.int .i64 0) (.int .i64 28)).run Tryz.prog w = .ok (.slice (some ⟨w.heap.size,0,none⟩) 0 28) (w.alloc (.cells zero28 5)):=by kernel_rfl
theorem row_cells {w:World} {B:Nat} {v:Value} {l:List Int} (h:w.ownsRow B 5 1 v l.length (u8s l)) (hp:0 < l.length) :
  ∃ g cap,v = .slice (some ⟨g,0,none⟩) l.length cap ∧ B ≤ g ∧ g < w.heap.size ∧ ∀ i,i < l.length → w.cell? ⟨g,i,none⟩ = some (.int .u8 (l.getD i 0)):=by
 rcases h.2 with ⟨_,h0⟩ | ⟨g,cap,cur,rfl,hb,hg,_,_,_,ht⟩
 ·omega
 ·refine ⟨g,cap,rfl,hb,?_,?_⟩
  ·rcases Nat.lt_or_ge g w.heap.size with hlt | hge
   ·exact hlt
   ·rw [Array.getElem?_eq_none hge] at hg;cases hg
  ·intro i hi
   rw [cell_of_row w g i cur 5 (0,0) hg]
   have e:(cur.toList.take (l.length * 1))[i]? = (u8s l)[i]?:=by rw [ht]
   rw [List.getElem?_take_of_lt (by omega)] at e
   rw [← Array.getElem?_toList,e]
   simp [u8s,hi]
set_option maxHeartbeats 1000000 in
theorem write_any (b cap:Nat) (l:List Int) (w:World) (hl:l.length ≤ 10) (hp:0 < l.length) (hb:b < w.heap.size) (hr:∀ x ∈ l,0 ≤ x ∧ x ≤ 4294967295) (hby:BytesL (laid l))
  (hc:∀ i,i < l.length → w.cell? ⟨b,i,none⟩ = some (.int .i64 (l.getD i 0))) :
  Calls Tryz.prog 76 #[.slice (some ⟨b,0,none⟩) l.length cap] w fun e w' => e = .returned (.string (strOfNums (laid l ++ num4 (sumV (laid l))))) ∧ Below w.heap.size w w':=by
 have hmk:=make28
 go_enter Tryz.func76,Tryz.ntmps76
 go_wp2
 clear hmk
 go_loopw [3,9] (fun v i wr => ∃ k:Nat,k ≤ l.length ∧ i = .int .i64 k ∧ wr.ownsRow w.heap.size 5 1 v (laid (l.take k)).length (u8s (laid (l.take k))) ∧ Below w.heap.size w wr) (fun _ i _ => l.length - (RowKit.intOf i).toNat)
 case atStart => exact ⟨0,Nat.zero_le _,rfl,World.ownsRow_made _ _ _ (Nat.le_refl _) (by decide) rfl,(Below.refl _ _).alloc (Nat.le_refl _) _⟩
 case round =>
  obtain ⟨k,hk,rfl,hown,hB⟩:=hrel
  by_cases hlt:k < l.length
  ·have hck:=(hB.cell (p:=⟨b,k,none⟩) hb).trans (hc k hlt)
   have hrk:=hr l[k] (List.getElem_mem hlt)
   obtain ⟨r0,r1⟩:=hrk
   have hlk:(laid (l.take k)).length ≤ 100:=by rw [laid_len,List.length_take];omega
   have hsn:Hid (laid (l.take (k + 1)) = laid (l.take k) ++ num4 l[k]):=by
    show _ = _
    rw [List.take_succ_eq_append_getElem hlt,laid_snoc]
   go_wp2_with fail
   refine (appendNumber_any w.heap.size u3 (laid (l.take k)) l[k] wr r0 r1 hlk hB.size hown).mono ?_
   rintro e w1 ⟨v',rfl,hown',hB'⟩
   have hB2:=hB.trans hB'
   clear hown hB hB' hck
   go_wp2
   go_roundw
   case rel => exact ⟨k + 1,by omega,by go_num,by rw [hsn.out];exact hown',hB2⟩
   case measure => simp [RowKit.intOf];omega
  ·have hk':l.take k = l:=List.take_of_length_le (by omega)
   rw [hk'] at hown
   clear hk'
   have hlen:=laid_len l
   obtain ⟨g,cp,rfl,hg0,hg1,hgc⟩:=row_cells hown (by omega)
   have hsr:=sumV_range (laid l)
   obtain ⟨s0,s1⟩:=hsr
   have HL:Hid _:=hlen
   have HOWN:Hid _:=hown
   have HGC:Hid _:=hgc
   have hl40:(laid l).length ≤ 40:=by omega
   clear hlen hown hgc
   go_wp2_with fail
   refine (psum_any g cp (laid l) wr (by omega) hby HGC.out).mono ?_
   rintro e w1 ⟨rfl,rfl⟩
   go_wp2_with fail
   refine (appendNumber_any w.heap.size _ (laid l) (sumV (laid l)) _ s0 s1 (by omega) hB.size HOWN.out).mono ?_
   rintro e w2 ⟨v',rfl,hown',hB'⟩
   obtain ⟨g2,cp2,rfl,_,_,hgc2⟩:=row_cells hown' (by simp [num4_len])
   have hcv:=run_convert_bytes_arg (P:=Tryz.prog) w2 116 5 Tryz.underlying116 Tryz.underlying5 g2 0 _ cp2 _ rfl (fun i hi => by rw [Nat.zero_add];exact hgc2 i hi) 9 Tryz.underlying9
   have hB2:=hB.trans hB'
   clear hgc2 hown' hB hB' HGC HOWN HL hc hr hby
   generalize hL2:laid l ++ num4 (sumV (laid l)) = L2 at *
   have HL2:Hid _:=hL2
   clear hL2
   go_wp2
   go_ret
   rw [HL2.out]
   exact ⟨rfl,hB2⟩
end Go.Proofs.YtceappncglfciaaGreat
namespace Go.Proofs.YtceappncglfciaaGreat
open Go.RowKit
theorem laid6 (n p t e v:Int):laid [n,p,t,e,v,n] = bodyL n p t e v:=by
 simp [laid,bodyL]
theorem any5 (n p t e v:Int) (h:n ≠ 0):([n,p,t,e,v].any wideB) = badB n p t e v:=by
 have:(n == 0) = false:=by simpa using h
 simp [badB,Bool.or_assoc,this]
theorem cells_new (w:World) (l:List Int) (t:TypeId):∀ i,i < l.length → (w.alloc (.cells (l.map (Value.int .i64)).toArray t)).cell? ⟨w.heap.size,i,none⟩ = some (.int .i64 (l.getD i 0)):=by
 intro i hi
 rw [World.cell?_alloc_at _ _ _ _ rfl]
 simp [hi]
set_option maxHeartbeats 1000000 in
theorem encode_zero (p t e v:Int) (w:World) :
  Calls Tryz.prog 49 #[.int .i64 0,.agg #[.int .i64 p,.int .i64 t,.int .i64 e,.int .i64 v]] w fun o w' => o = .returned (.tuple #[.string ⟨#[]⟩,.int .i64 1]) ∧ Below w.heap.size w w':=by
 go_enter Tryz.func49,Tryz.ntmps49
 go_wp2
 go_ret2
 exact ⟨rfl,(Below.refl _ _).alloc (Nat.le_refl _) _⟩
set_option maxHeartbeats 1000000 in
theorem encode_bad (n p t e v:Int) (w:World) (hn:(n == 0) = false) (hb:badB n p t e v = true) :
  Calls Tryz.prog 49 #[.int .i64 n,.agg #[.int .i64 p,.int .i64 t,.int .i64 e,.int .i64 v]] w fun o w' => o = .returned (.tuple #[.string ⟨#[]⟩,.int .i64 1]) ∧ Below w.heap.size w w':=by
 have hf:Calls Tryz.prog 75 #[.slice (some ⟨w.heap.size + 1,0,none⟩) 5 5] ((w.alloc (.cells #[.int .i64 p,.int .i64 t,.int .i64 e,.int .i64 v] 39)).alloc (.cells #[.int .i64 n,.int .i64 p,.int .i64 t,.int .i64 e,.int .i64 v] 3)) fun o w' => o = .returned (.bool (!([n,p,t,e,v].any wideB))) ∧ w' = ((w.alloc (.cells #[.int .i64 p,.int .i64 t,.int .i64 e,.int .i64 v] 39)).alloc (.cells #[.int .i64 n,.int .i64 p,.int .i64 t,.int .i64 e,.int .i64 v] 3)):=fit_any (w.heap.size + 1) 5 [n,p,t,e,v] _ (by simp) (fun i hi => by
  have:=cells_new (w.alloc (.cells #[.int .i64 p,.int .i64 t,.int .i64 e,.int .i64 v] 39)) [n,p,t,e,v] 3 i hi
  rw [World.size_alloc] at this
  exact this)
 rw [any5 n p t e v (by simpa using hn),hb] at hf
 have HF:=hide hf
 clear hf hb
 go_enter Tryz.func49,Tryz.ntmps49
 go_wp2_with fail
 refine (unhide HF).mono ?_
 rintro o w1 ⟨rfl,rfl⟩
 go_wp2
 go_ret2
 exact ⟨rfl,((Below.refl _ _).alloc (Nat.le_refl _) _).alloc (by simp) _⟩
set_option maxHeartbeats 1000000 in
theorem encode_good (n p t e v:Int) (w:World) (hb:badB n p t e v = false) :
  Calls Tryz.prog 49 #[.int .i64 n,.agg #[.int .i64 p,.int .i64 t,.int .i64 e,.int .i64 v]] w fun o w' => o = .returned (.tuple #[.string (strOfNums (encL n p t e v)),.int .i64 0]) ∧ Below w.heap.size w w':=by
 have hn:(n == 0) = false:=by
  simp only [badB,Bool.or_eq_false_iff] at hb
  exact hb.2
 have hf:Calls Tryz.prog 75 #[.slice (some ⟨w.heap.size + 1,0,none⟩) 5 5] ((w.alloc (.cells #[.int .i64 p,.int .i64 t,.int .i64 e,.int .i64 v] 39)).alloc (.cells #[.int .i64 n,.int .i64 p,.int .i64 t,.int .i64 e,.int .i64 v] 3)) fun o w' => o = .returned (.bool (!([n,p,t,e,v].any wideB))) ∧ w' = ((w.alloc (.cells #[.int .i64 p,.int .i64 t,.int .i64 e,.int .i64 v] 39)).alloc (.cells #[.int .i64 n,.int .i64 p,.int .i64 t,.int .i64 e,.int .i64 v] 3)):=fit_any (w.heap.size + 1) 5 [n,p,t,e,v] _ (by simp) (fun i hi => by
  have:=cells_new (w.alloc (.cells #[.int .i64 p,.int .i64 t,.int .i64 e,.int .i64 v] 39)) [n,p,t,e,v] 3 i hi
  rw [World.size_alloc] at this
  exact this)
 rw [any5 n p t e v (by simpa using hn),hb] at hf
 have HF:=hide hf
 have hby:=bodyL_bytes hb
 have hrange:∀ x ∈ [n,p,t,e,v,n],0 ≤ x ∧ x ≤ 4294967295:=by
  simp [badB,wideB] at hb
  intro x hx
  simp at hx
  rcases hx with rfl | rfl | rfl | rfl | rfl | rfl <;> omega
 have HW:Hid (∀ W:World,Calls Tryz.prog 76 #[.slice (some ⟨W.heap.size,0,none⟩) 6 6] (W.alloc (.cells #[.int .i64 n,.int .i64 p,.int .i64 t,.int .i64 e,.int .i64 v,.int .i64 n] 3)) fun o w' => o = .returned (.string (strOfNums (encL n p t e v))) ∧ Below (W.alloc (.cells #[.int .i64 n,.int .i64 p,.int .i64 t,.int .i64 e,.int .i64 v,.int .i64 n] 3)).heap.size (W.alloc (.cells #[.int .i64 n,.int .i64 p,.int .i64 t,.int .i64 e,.int .i64 v,.int .i64 n] 3)) w'):=by
  intro W
  have:=write_any W.heap.size 6 [n,p,t,e,v,n] (W.alloc (.cells #[.int .i64 n,.int .i64 p,.int .i64 t,.int .i64 e,.int .i64 v,.int .i64 n] 3)) (by simp) (by simp) (by simp) hrange (by rw [laid6];exact hby) (fun i hi => cells_new W [n,p,t,e,v,n] 3 i hi)
  rw [laid6] at this
  exact this
 clear hf hb hby hrange
 go_enter Tryz.func49,Tryz.ntmps49
 go_wp2_with fail
 refine (unhide HF).mono ?_
 rintro o w1 ⟨rfl,rfl⟩
 go_wp2_with fail
 have hw:=HW.out ((w.alloc (.cells #[.int .i64 p,.int .i64 t,.int .i64 e,.int .i64 v] 39)).alloc (.cells #[.int .i64 n,.int .i64 p,.int .i64 t,.int .i64 e,.int .i64 v] 3))
 simp only [World.size_alloc] at hw
 refine hw.mono ?_
 rintro o w1 ⟨rfl,hb1⟩
 have hB:Below w.heap.size w w1:=((((Below.refl _ w).alloc (Nat.le_refl _) _).alloc (by simp) _).alloc (by simp;omega) _).trans (hb1.mono (by omega))
 clear hw hb1 HW HF
 go_wp2
 go_ret2
 exact ⟨rfl,hB⟩
set_option maxHeartbeats 1000000 in
theorem numberAt_any (s:ByteArray) (i:Nat) (w:World) (hs:s.size = 28) (hi:i ≤ 4) :
  Calls Tryz.prog 74 #[.string s,.int .i64 i] w fun o w' => o = .returned (.int .i64 (valL (((numsOf s).drop (i * 4)).take 4))) ∧ Below w.heap.size w w':=by
 have hsz:(s.extract (i * 4) ((i + 1) * 4)).size = 4:=by rw [ByteArray.size_extract];omega
 have hnx:Hid (numsOf (s.extract (i * 4) ((i + 1) * 4)) = ((numsOf s).drop (i * 4)).take 4):=by
  show _ = _
  rw [numsOf_extract,show (i + 1) * 4 - i * 4 = 4 by omega]
 have hcv:=Lib.run_convert_string_bytes (P:=Tryz.prog) w 9 116 5 (s.extract (i * 4) ((i + 1) * 4)) Tryz.underlying9 Tryz.underlying116 Tryz.underlying5
 rw [hsz] at hcv
 have hcell:Hid (∀ k,k < 4 → (Lib.bytesWorld w 5 (s.extract (i * 4) ((i + 1) * 4))).cell? ⟨w.heap.size,k,none⟩ = some (.int .u8 ((numsOf (s.extract (i * 4) ((i + 1) * 4))).getD k 0))):=by
  intro k hk
  rw [Lib.bytesWorld_cell w 5 _ k (by omega),getD_numsOf]
 have hbel:Hid (Below w.heap.size w (Lib.bytesWorld w 5 (s.extract (i * 4) ((i + 1) * 4)))) :=
  ⟨rfl,rfl,rfl,by rw [Lib.bytesWorld_size];omega,fun k hk => Lib.bytesWorld_at_old _ _ _ k hk⟩
 have hlen:(numsOf (s.extract (i * 4) ((i + 1) * 4))).length = 4:=by rw [numsOf_len];exact hsz
 have hbyt:=numsOf_bytes (s.extract (i * 4) ((i + 1) * 4))
 have HBY:Hid _:=hbyt
 have HLEN:Hid _:=hlen
 clear hsz hbyt hlen
 go_enter Tryz.func74,Tryz.ntmps74
 go_wp2
 clear hcv
 generalize numsOf (s.extract (i * 4) ((i + 1) * 4)) = l at *
 generalize Lib.bytesWorld w 5 (s.extract (i * 4) ((i + 1) * 4)) = W at *
 have hlen:=HLEN.out
 go_loop [5,17] (fun n j => ∃ k:Nat,k ≤ 4 ∧ j = .int .i64 k ∧ n = .int .u32 (valL (l.take k))) (fun _ j => 4 - (RowKit.intOf j).toNat)
 case atStart => exact ⟨0,Nat.zero_le _,rfl,rfl⟩
 case round =>
  obtain ⟨k,hk,rfl,rfl⟩:=hrel
  by_cases hlt:k < 4
  ·have hck:=hcell.out k hlt
   have hkl:k < l.length:=by omega
   have hbk:=HBY.out l[k] (List.getElem_mem hkl)
   obtain ⟨b0,b1⟩:=hbk
   have hv:=valL_range (l.take k) (fun x hx => HBY.out x (List.mem_of_mem_take hx)) (by rw [List.length_take];omega)
   obtain ⟨v0,v1⟩:=hv
   have Q:Hid (bits .or .u32 (valL (l.take k) * 256) l[k] = valL (l.take (k + 1))):=by
    show _ = _
    rw [u32_or8 _ _ v0 v1 b0 b1,valL_round l k hkl]
   clear hlen
   go_wp2
   go_round
   case rel => exact ⟨k + 1,by omega,by go_num,by rw [Q.out]⟩
   case measure => simp [RowKit.intOf];omega
  ·have hk4:l.take k = l:=List.take_of_length_le (by omega)
   rw [hk4]
   clear hk4
   have hv:=valL_range4 HBY.out HLEN.out
   obtain ⟨v0,v1⟩:=hv
   clear hlen
   go_wp2
   go_ret
   rw [← hnx.out]
   exact ⟨rfl,hbel.out⟩
end Go.Proofs.YtceappncglfciaaGreat
namespace Go.Proofs.YtceappncglfciaaGreat
open Go.RowKit
def encS (n p t e v:Int):ByteArray:=if badB n p t e v then ⟨#[]⟩ else strOfNums (encL n p t e v)
def encE (n p t e v:Int):Int:=if badB n p t e v then 1 else 0
theorem encode_any (n p t e v:Int) (w:World) :
  Calls Tryz.prog 49 #[.int .i64 n,.agg #[.int .i64 p,.int .i64 t,.int .i64 e,.int .i64 v]] w fun o w' => o = .returned (.tuple #[.string (encS n p t e v),.int .i64 (encE n p t e v)]) ∧ Below w.heap.size w w':=by
 unfold encS encE
 cases hb:badB n p t e v with
 | true =>
  by_cases hn:n = 0
  ·subst hn
   exact encode_zero p t e v w
  ·exact encode_bad n p t e v w (by simpa using hn) hb
 | false => exact encode_good n p t e v w hb
theorem rEncode_any (n p t e v:Int) (w:World) :
  Calls Tryz.prog 77 #[.int .i64 n,.agg #[.int .i64 p,.int .i64 t,.int .i64 e,.int .i64 v]] w fun o w' => o = .returned (.tuple #[.string (encS n p t e v),.int .i64 (encE n p t e v)]) ∧ Below w.heap.size w w':=by
 unfold encS encE
 cases hb:badB n p t e v with
 | true => exact rEncode_bad n p t e v w hb
 | false => exact rEncode_good n p t e v w hb
end Go.Proofs.YtceappncglfciaaGreat
namespace Go.Proofs.YtceappncglfciaaGreat
open Go.RowKit
def at4 (s:ByteArray) (i:Nat):Int:=valL (((numsOf s).drop (i * 4)).take 4)
def rightP (s:ByteArray):Bool:=(encE (at4 s 0) (at4 s 1) (at4 s 2) (at4 s 3) (at4 s 4) == 0) && ((encS (at4 s 0) (at4 s 1) (at4 s 2) (at4 s 3) (at4 s 4)).toList == s.toList)
theorem numberAt0 (s:ByteArray) (w:World) (hs:s.size = 28):Calls Tryz.prog 74 #[.string s,.int .i64 0] w fun o w' => o = .returned (.int .i64 (at4 s 0)) ∧ Below w.heap.size w w':=numberAt_any s 0 w hs (by omega)
theorem numberAt1 (s:ByteArray) (w:World) (hs:s.size = 28):Calls Tryz.prog 74 #[.string s,.int .i64 1] w fun o w' => o = .returned (.int .i64 (at4 s 1)) ∧ Below w.heap.size w w':=numberAt_any s 1 w hs (by omega)
theorem numberAt2 (s:ByteArray) (w:World) (hs:s.size = 28):Calls Tryz.prog 74 #[.string s,.int .i64 2] w fun o w' => o = .returned (.int .i64 (at4 s 2)) ∧ Below w.heap.size w w':=numberAt_any s 2 w hs (by omega)
theorem numberAt3 (s:ByteArray) (w:World) (hs:s.size = 28):Calls Tryz.prog 74 #[.string s,.int .i64 3] w fun o w' => o = .returned (.int .i64 (at4 s 3)) ∧ Below w.heap.size w w':=numberAt_any s 3 w hs (by omega)
theorem numberAt4 (s:ByteArray) (w:World) (hs:s.size = 28):Calls Tryz.prog 74 #[.string s,.int .i64 4] w fun o w' => o = .returned (.int .i64 (at4 s 4)) ∧ Below w.heap.size w w':=numberAt_any s 4 w hs (by omega)
set_option maxHeartbeats 1000000 in
theorem read_any (s:ByteArray) (w:World) (hs:s.size = 28) :
  Calls Tryz.prog 48 #[.string s] w fun o w' => o = .returned (.tuple #[.agg #[.int .i64 (at4 s 1),.int .i64 (at4 s 2),.int .i64 (at4 s 3),.int .i64 (at4 s 4)],.int .i64 (at4 s 0),.bool (rightP s)]) ∧ Below w.heap.size w w':=by
 have H0:=hide (fun w => numberAt0 s w hs)
 have H1:=hide (fun w => numberAt1 s w hs)
 have H2:=hide (fun w => numberAt2 s w hs)
 have H3:=hide (fun w => numberAt3 s w hs)
 have H4:=hide (fun w => numberAt4 s w hs)
 have HE:=hide (encode_any (at4 s 0) (at4 s 1) (at4 s 2) (at4 s 3) (at4 s 4))
 unfold rightP
 generalize encS (at4 s 0) (at4 s 1) (at4 s 2) (at4 s 3) (at4 s 4) = x at *
 generalize encE (at4 s 0) (at4 s 1) (at4 s 2) (at4 s 3) (at4 s 4) = y at *
 generalize at4 s 0 = n0 at *
 generalize at4 s 1 = n1 at *
 generalize at4 s 2 = n2 at *
 generalize at4 s 3 = n3 at *
 generalize at4 s 4 = n4 at *
 have K0:=hide (And.intro (Box.new w #[.int .i64 0,.int .i64 0,.int .i64 0,.int .i64 0] 39) ((Below.refl w.heap.size w).alloc (Nat.le_refl _) (.cells #[.int .i64 0,.int .i64 0,.int .i64 0,.int .i64 0] 39)))
 go_enter Tryz.func48,Tryz.ntmps48
 go_wp2_with fail
 refine (unhide H0 _).mono ?_
 rintro o w1 ⟨rfl,hB1⟩
 have K1:=hide (And.intro ((unhide K0).1.keep hB1) ((unhide K0).2.trans (hB1.mono (Nat.le_of_lt (unhide K0).1.lt))))
 clear hB1 K0
 go_wp2_with fail
 refine (unhide H1 _).mono ?_
 rintro o w2 ⟨rfl,hB2⟩
 have K2:=hide (And.intro ((unhide K1).1.keep hB2) ((unhide K1).2.trans (hB2.mono (Nat.le_of_lt (unhide K1).1.lt))))
 clear hB2 K1
 go_wp2_with fail
 refine (unhide H2 _).mono ?_
 rintro o w3 ⟨rfl,hB3⟩
 have K3:=hide (And.intro ((unhide K2).1.keep hB3) ((unhide K2).2.trans (hB3.mono (Nat.le_of_lt (unhide K2).1.lt))))
 clear hB3 K2
 go_wp2_with fail
 refine (unhide H3 _).mono ?_
 rintro o w4 ⟨rfl,hB4⟩
 have K4:=hide (And.intro ((unhide K3).1.keep hB4) ((unhide K3).2.trans (hB4.mono (Nat.le_of_lt (unhide K3).1.lt))))
 clear hB4 K3
 go_wp2_with fail
 refine (unhide H4 _).mono ?_
 rintro o w5 ⟨rfl,hB5⟩
 have K5:=hide (And.intro ((unhide K4).1.keep hB5) ((unhide K4).2.trans (hB5.mono (Nat.le_of_lt (unhide K4).1.lt))))
 clear hB5 K4
 go_wp2_with fail
 refine (unhide HE _).mono ?_
 rintro o w6 ⟨rfl,hB6⟩
 obtain ⟨bx,hbl⟩:=unhide K5
 have bx6:=(bx.alloc (.cells #[.int .i64 n1,.int .i64 n2,.int .i64 n3,.int .i64 n4] 39)).keep hB6
 have by6:=(Box.new w5 #[.int .i64 n1,.int .i64 n2,.int .i64 n3,.int .i64 n4] 39).keep hB6
 have hlt5:w.heap.size < w5.heap.size:=bx.lt
 have hB7:Below w.heap.size w w6:=hbl.trans ((((Below.refl _ w5).alloc (Nat.le_refl _) (.cells #[.int .i64 n1,.int .i64 n2,.int .i64 n3,.int .i64 n4] 39)).trans (hB6.mono (by simp))).mono (Nat.le_of_lt hlt5))
 have c0:=bx6.cell 0
 have c1:=bx6.cell 1
 have c2:=bx6.cell 2
 have c3:=bx6.cell 3
 have f0:=bx6.frozen 0
 have f1:=bx6.frozen 1
 have f2:=bx6.frozen 2
 have f3:=bx6.frozen 3
 have d0:=by6.cell 0
 have d1:=by6.cell 1
 have d2:=by6.cell 2
 have d3:=by6.cell 3
 have HB7:=hide hB7
 clear bx6 by6 bx hbl hB6 hB7 K5 H0 H1 H2 H3 H4 HE
 cases hy:(y == 0) with
 | false =>
  go_wp2
  refine bodyPost_ret (v:=.tuple #[.agg #[.int .i64 n1,.int .i64 n2,.int .i64 n3,.int .i64 n4],.int .i64 n0,.bool false]) (by simp [results,Tryz.results48,go_sem,c0,c1,c2,c3]) rfl ⟨by rw [hy];rfl,?_⟩
  exact ((((unhide HB7).setCell (p:=⟨w.heap.size,0,none⟩) (Nat.le_refl _) _).setCell (p:=⟨w.heap.size,1,none⟩) (Nat.le_refl _) _).setCell (p:=⟨w.heap.size,2,none⟩) (Nat.le_refl _) _).setCell (p:=⟨w.heap.size,3,none⟩) (Nat.le_refl _) _
 | true =>
  go_wp2
  refine bodyPost_ret (v:=.tuple #[.agg #[.int .i64 n1,.int .i64 n2,.int .i64 n3,.int .i64 n4],.int .i64 n0,.bool (x.toList == s.toList)]) (by simp [results,Tryz.results48,go_sem,c0,c1,c2,c3]) rfl ⟨by rw [hy];rfl,?_⟩
  exact ((((unhide HB7).setCell (p:=⟨w.heap.size,0,none⟩) (Nat.le_refl _) _).setCell (p:=⟨w.heap.size,1,none⟩) (Nat.le_refl _) _).setCell (p:=⟨w.heap.size,2,none⟩) (Nat.le_refl _) _).setCell (p:=⟨w.heap.size,3,none⟩) (Nat.le_refl _) _
end Go.Proofs.YtceappncglfciaaGreat
