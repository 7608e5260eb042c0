import Derived.Test.YtceappncglfciaaGreatM13
import Derived.Carry
set_option linter.unusedVariables false
set_option linter.unusedSimpArgs false
namespace Go.Proofs.YtceappncglfciaaGreat
open Go.RowKit
attribute [local go_sem ↓] Go.wp_at_zero Go.wp_at_succ
def Links (W:World) (bs:List Nat) (w:World) (bs1:List Nat):Prop:=Keeps bs W w ∧ ∀ x ∈ bs1,x ∈ bs ∨ W.heap.size ≤ x
theorem Links.refl (W:World) (bs:List Nat):Links W bs W bs:=⟨Keeps.refl _ _,fun _ hx => .inl hx⟩
theorem Links.of_below {W w:World} (bs:List Nat) (h:Below W.heap.size W w):Links W bs w bs:=⟨Keeps.of_below h,fun _ hx => .inl hx⟩
theorem Links.trans {W w w2:World} {bs bs1 bs2:List Nat} (h:Links W bs w bs1) (k:Links w bs1 w2 bs2):Links W bs w2 bs2 :=
 ⟨h.1.trans k.1 h.2,fun x hx => (k.2 x hx).elim (h.2 x) (fun e => .inr (Nat.le_trans h.1.size e))⟩
theorem Links.below {W w w2:World} {bs bs1:List Nat} (h:Links W bs w bs1) (hb:Below w.heap.size w w2):Links W bs w2 bs1:=h.trans (Links.of_below bs1 hb)
theorem Links.did {W w w2:World} {bs bs1 pb:List Nat} {bt:Nat} {T:PTown} (h:Links W bs w bs1) (k:PDid w bt pb bs1 w2 T):PDid W bt pb bs w2 T:=PDid.next h.1 h.2 k
theorem PDid.open {W w:World} {bs pb:List Nat} {bt:Nat} {T:PTown} (k:PDid W bt pb bs w T):∃ bs1,PR w bt pb bs1 T ∧ Links W bs w bs1:=let ⟨b1,h1,h2,h3⟩:=k;⟨b1,h1,h2,h3⟩
theorem Links.calls {f:FuncId} {args:Array Value} {W w:World} {bs bs1 pb:List Nat} {bt:Nat} {T T':PTown} {v:Value} (h:Links W bs w bs1) (c:Calls Tryz.prog f args w fun o w' => o = .returned v ∧ PDid w bt pb bs1 w' T) (e:T' = T) :
  Calls Tryz.prog f args w fun o w' => o = .returned v ∧ PDid W bt pb bs w' T':=c.mono fun _ _ hh => ⟨hh.1,by rw [e];exact h.did hh.2⟩
theorem ToRow.of {w':World} {base:Nat} {v:Value} {dl:List Int} (h:w'.ownsRow base 3 1 v dl.length (dl.map (Value.int .i64))):ToRow w' v dl:=by
 refine ⟨h.1,?_⟩
 rcases h.2 with h1 | ⟨g,cap,cur,e,_,r⟩
 ·exact .inl h1
 ·exact .inr ⟨g,cap,cur,e,Nat.zero_le _,r⟩
set_option maxRecDepth 100000 in
set_option maxHeartbeats 1000000 in
theorem choose_any (i b:Nat) (v:VoteM) (W:World) (bt:Nat) (pb bs:List Nat) (T:PTown) (h:PR W bt pb bs T) (hb:pb[i]? = some b) (hp:T.ps.length ≤ 7) (hn:T.net ≤ 1000) :
  Calls Tryz.prog 145 #[.pointer (some ⟨b,0,none⟩),.agg #[.int .i64 v.e,.int .i64 v.n,.int .i64 v.p]] W fun o w' => o = .returned (.tuple #[]) ∧ PDid W bt pb bs w' (T.choose i v):=by
 have hX:=(Below.refl W.heap.size W).alloc (Nat.le_refl _) (.cells #[.int .i64 v.e,.int .i64 v.n,.int .i64 v.p] 100)
 have hbx:Box (W.alloc (.cells #[.int .i64 v.e,.int .i64 v.n,.int .i64 v.p] 100)) W.heap.size _ _:=Box.new _ _ _
 have h1:=h.below hX
 have hbl:b < W.heap.size:=(h.at hb).2.choose_spec.1.box.lt
 have nb:W.heap.size ≠ b:=by omega
 have HH:=hide h1
 have HX:=hide hX
 clear h h1 hX
 go_enter Tryz.func145,Tryz.ntmps145
 go_upto_region 1 with fail
 generalize W.alloc (.cells #[.int .i64 v.e,.int .i64 v.n,.int .i64 v.p] 100) = W1 at *
 obtain ⟨hi,q,hat,hbt,hbb,hqb,hbq,C⟩:=(unhide HH).at hb
 have b0:W1.cell? ⟨W.heap.size,0,none⟩ = some (.int .i64 v.e):=hbx.cell 0
 have b1:W1.cell? ⟨W.heap.size,1,none⟩ = some (.int .i64 v.n):=hbx.cell 1
 have b2:W1.cell? ⟨W.heap.size,2,none⟩ = some (.int .i64 v.p):=hbx.cell 2
 have c70:=hat.f70
 have c71:=hat.f71
 have c72:=hat.f72
 have c75:=hat.f75
 have z70:=hat.fz 70
 have z71:=hat.fz 71
 have z72:=hat.fz 72
 have z75:=hat.fz 75
 have HF:=hide (stores_close hat C [(70,.int .i64 v.e),(71,.int .i64 v.n),(72,.int .i64 v.p),(75,.bool false)] q { T.peer i with vote:=v,waits:=false } (by simp) rfl)
 simp only [sets] at HF
 clear hat C hbx HH
 go_upto_region 3 with fail
 generalize (((W1.setCell ⟨b,70,none⟩ (.int .i64 v.e)).setCell ⟨b,71,none⟩ (.int .i64 v.n)).setCell ⟨b,72,none⟩ (.int .i64 v.p)).setCell ⟨b,75,none⟩ (.bool false) = w5 at *
 obtain ⟨bs5,r5,k5⟩:=(unhide HF).open
 have H5:=hide ((Links.of_below bs (unhide HX)).trans k5)
 obtain ⟨T5,hT5⟩:∃ T5,T5 = T.setP i { T.peer i with vote:=v,waits:=false }:=⟨_,rfl⟩
 have HT:Hid (T.choose i v = T5.tell i (PTown.othersTo i T.ps.length)):=by rw [hT5];exact rfl
 have hl5:T5.ps.length = T.ps.length:=by rw [hT5,PTown.setP_len]
 have hn5:T5.net = T.net:=by rw [hT5];rfl
 rw [← hT5] at r5
 have HR:=hide r5
 clear HF r5 k5 c70 c71 c72 c75 z70 z71 z72 z75 b0 b1 b2 hT5
 have HC:=hide (others_any i b w5 bt pb bs5 T5 (unhide HR) hb (by omega))
 rw [hl5] at HC
 go_wp2_with (go_at_call 158;refine (unhide HC).mono ?_;rintro o w6 ⟨vv,rfl,ho,hB⟩)
 have hln:(PTown.othersTo i T.ps.length).length ≤ 7:=Nat.le_trans (others_len i _) hp
 have HD:=hide (((unhide H5).below hB).calls (tell_any i b w6 bt pb bs5 T5 ((unhide HR).below hB) hb (by omega) _ vv (ToRow.of ho) hln) (unhide HT))
 clear ho hB HC HR H5 HT
 refine (unhide HD).mono ?_
 rintro o w7 ⟨rfl,hd⟩
 have HE:=hide hd
 clear hd HD
 go_wp2
 go_end0
 exact ⟨rfl,unhide HE⟩
end Go.Proofs.YtceappncglfciaaGreat
namespace Go.Proofs.YtceappncglfciaaGreat
open Go.RowKit
attribute [local go_sem ↓] Go.wp_at_zero Go.wp_at_succ
set_option maxRecDepth 100000 in
set_option maxHeartbeats 1000000 in
theorem enter_any (i b:Nat) (r:Int) (v:VoteM) (W:World) (bt:Nat) (pb bs:List Nat) (T:PTown) (h:PR W bt pb bs T) (hb:pb[i]? = some b) (hp:T.ps.length ≤ 7) (hn:T.net ≤ 1000) :
  Calls Tryz.prog 137 #[.pointer (some ⟨b,0,none⟩),.int .i64 r,.agg #[.int .i64 v.e,.int .i64 v.n,.int .i64 v.p]] W fun o w' => o = .returned (.tuple #[]) ∧ PDid W bt pb bs w' (T.enter i r v):=by
 have hX:=(Below.refl W.heap.size W).alloc (Nat.le_refl _) (.cells #[.int .i64 v.e,.int .i64 v.n,.int .i64 v.p] 100)
 have hbx:Box (W.alloc (.cells #[.int .i64 v.e,.int .i64 v.n,.int .i64 v.p] 100)) W.heap.size _ _:=Box.new _ _ _
 have h1:=h.below hX
 have hbl:b < W.heap.size:=(h.at hb).2.choose_spec.1.box.lt
 have hi:i < T.ps.length:=(h.at hb).1
 have nb:W.heap.size ≠ b:=by omega
 have HH:=hide h1
 have HX:=hide (Links.of_below bs hX)
 have hmm:=@run_makeMap Tryz.prog
 clear h h1 hX
 go_enter Tryz.func137,Tryz.ntmps137
 go_upto_region 1 with fail
 generalize W.alloc (.cells #[.int .i64 v.e,.int .i64 v.n,.int .i64 v.p] 100) = W1 at *
 obtain ⟨_,q,hat,hbt,hbb,hqb,hbq,C⟩:=(unhide HH).at hb
 have c69:=hat.f69
 have z69:=hat.fz 69
 have HF:=hide (stores_close hat C [(69,.int .i64 r)] q { T.peer i with round:=r } (by simp) rfl)
 have HB2:=hide (hbx.setOther (a:=⟨b,69,none⟩) nb (.int .i64 r))
 simp only [sets] at HF
 clear hat C hbx HH
 go_upto_region 2 with fail
 generalize W1.setCell ⟨b,69,none⟩ (.int .i64 r) = W2 at *
 obtain ⟨bs2,r2,k2⟩:=(unhide HF).open
 have HX2:=hide ((unhide HX).trans k2)
 obtain ⟨_,q2,hat2,_,_,_,_,C2⟩:=r2.at hb
 have c73:=hat2.f73
 have z73:=hat2.fz 73
 have hb2:b < W2.heap.size:=hat2.box.lt
 have hW2:W.heap.size < W2.heap.size:=(unhide HB2).lt
 have HF2:=hide (fresh_mv hat2 C2)
 rw [World.setCell_alloc_past _ _ _ _ hb2] at HF2
 have HB3:=hide (((unhide HB2).setOther (a:=⟨b,73,none⟩) nb (.map (some W2.heap.size))).alloc (.map #[] 0))
 clear hat2 C2 r2 HF HB2 c69 z69 HX k2
 go_upto_region 3 with fail
 generalize (W2.setCell ⟨b,73,none⟩ (.map (some W2.heap.size))).alloc (.map #[] 0) = W3 at *
 obtain ⟨bs3,r3,k3⟩:=(unhide HF2).open
 have e3:(T.setP i { T.peer i with round:=r }).setP i { (T.setP i { T.peer i with round:=r }).peer i with votes:=some none7 } = T.setP i { T.peer i with round:=r,votes:=some none7 }:=by
  rw [PTown.set_set,PTown.peer_set hi]
 rw [e3] at r3
 have HC:=hide (((unhide HX2).trans k3).calls (T':=T.enter i r v) (choose_any i b v W3 bt pb bs3 _ r3 hb (by rw [PTown.setP_len];exact hp) hn) rfl)
 have b0:W3.cell? ⟨W.heap.size,0,none⟩ = some (.int .i64 v.e):=(unhide HB3).cell 0
 have b1:W3.cell? ⟨W.heap.size,1,none⟩ = some (.int .i64 v.n):=(unhide HB3).cell 1
 have b2:W3.cell? ⟨W.heap.size,2,none⟩ = some (.int .i64 v.p):=(unhide HB3).cell 2
 clear r3 k3 HF2 HX2 HB3 e3 c73 z73
 go_wp2_with fail
 refine (unhide HC).mono ?_
 rintro o w7 ⟨rfl,hd⟩
 have HE:=hide hd
 clear hd HC
 go_wp2
 go_end0
 exact ⟨rfl,unhide HE⟩
set_option maxRecDepth 100000 in
set_option maxHeartbeats 1000000 in
theorem since_any (i b:Nat) (x:Int) (W:World) (bt:Nat) (pb bs:List Nat) (T:PTown) (h:PR W bt pb bs T) (hb:pb[i]? = some b) (h1:0 ≤ T.now ∧ T.now ≤ 4611686018427387904) (h2:0 ≤ x ∧ x ≤ 4611686018427387904) :
  Calls Tryz.prog 109 #[.pointer (some ⟨b,0,none⟩),.int .i64 x] W fun o w' => o = .returned (.int .i64 (T.now - x)) ∧ w' = W:=by
 obtain ⟨hi,q,hat,hbt,hbb,hqb,hbq,C⟩:=h.at hb
 obtain ⟨bp,capP,way,ev,hbx,_⟩:=h.turn
 have t4:W.cell? ⟨bt,4,none⟩ = some (.int .i64 T.now):=hbx.cell 4
 have c0:=hat.town
 obtain ⟨h11,h12⟩:=h1
 obtain ⟨h21,h22⟩:=h2
 clear h hat C hbx
 go_enter Tryz.func109,Tryz.ntmps109
 go_wp2
 go_ret
 exact ⟨by go_num,rfl⟩
end Go.Proofs.YtceappncglfciaaGreat
namespace Go.Proofs.YtceappncglfciaaGreat
open Go.RowKit Go.Maps
attribute [local go_sem ↓] Go.wp_at_zero Go.wp_at_succ
section
variable {α:Type} {enc:α → Value} {W:World} {g r:Nat} {l:List (Option α)} {left:Lit → Bool} {cnt:Nat}
theorem range_next (h:W.ranges Tryz.prog 3 rawElem g r 7 (dataOf enc l) left cnt) (hl:l.length = 7) (ty:TypeId) :
  (cnt = 0 ∧ (∀ kl,left kl = false) ∧ (Instr.next (.pointer (some ⟨r,0,none⟩)) false ty).run Tryz.prog W = .ok (.tuple #[.bool false]) W) ∨
  ∃ (k:Nat) (u:α) (w':World) (cnt':Nat),k < 7 ∧ atL l k = some u ∧ left (.int .i64 (k:Int)) = true ∧ (Instr.next (.pointer (some ⟨r,0,none⟩)) false ty).run Tryz.prog W = .ok (.tuple #[.bool true,.int .i64 (k:Int),enc u]) w' ∧
   w'.ranges Tryz.prog 3 rawElem g r 7 (dataOf enc l) (fun x => left x && !x.sameKey (.int .i64 (k:Int))) cnt' ∧ cnt' < cnt ∧ W.grownBy w' (some r) ∧ w'.heap.size = W.heap.size ∧ (Instr.entry (.pointer (some ⟨r,0,none⟩))).run Tryz.prog w' = .ok (.tuple #[.int .i64 (k:Int),enc u]) w':=by
 rcases h.next (int_keyed Tryz.underlying3) ty with h1 | ⟨key,v,kl,y,w',cnt',hkey,hlk,hv,hat,hrun,hrg,hlt,hgr,hsz,hen⟩
 ·exact .inl h1
 ·right
  have hy:=rawElem_inv hv
  have hh:=has_true_of_atKey hat
  obtain ⟨k,u,e1,e2,e3⟩:=data_key enc l hh
  obtain ⟨x,ex1,ex2,_⟩:=keyOf_int_inv Tryz.underlying3 hkey
  have hu:atL l k = some u:=by simp [atL,e3]
  have hval:v = enc u:=by
   have e4:=hat (.held v)
   rw [e1,data_at] at e4
   simp only [show l[k]?.join = some u from hu] at e4
   rw [hy] at e4
   simp only [DataW.held.injEq] at e4
   exact e4.symm
  have hkx:key = .int .i64 (k:Int):=by
   rw [ex1]
   rw [ex2] at e1
   simp only [Lit.int.injEq,true_and] at e1
   rw [e1]
  subst hval hkx e1
  exact ⟨k,u,w',cnt',by omega,hu,hlk,hrun,hrg,hlt,hgr,hsz,hen⟩
end
theorem behind_le (left:Lit → Bool) (f:Nat → Bool):∀ n,behind left f n ≤ n
 | 0 => Nat.le_refl _
 | n + 1 => by have:=behind_le left f n;rw [behind];split <;> omega
set_option maxRecDepth 100000 in
set_option maxHeartbeats 2000000 in
theorem count_any (i b:Nat) (W:World) (bt:Nat) (pb bs:List Nat) (T:PTown) (h:PR W bt pb bs T) (hb:pb[i]? = some b) (hp:T.ps.length ≤ 7) (l:List (Option VoteM)) (hl:(T.peer i).votes = some l) :
  Calls Tryz.prog 139 #[.pointer (some ⟨b,0,none⟩)] W fun o w' => o = .returned (.tuple #[]) ∧ PDid W bt pb bs w' (T.count i):=by
 obtain ⟨hi,q,hat,hbt,hbb,hqb,hbq,C⟩:=h.at hb
 have hmv:=hat.mv
 rw [hl] at hmv
 obtain ⟨g,hg,hm⟩:=hmv.some
 have hgl:g < W.heap.size:=hm.lt
 have hbl:b < W.heap.size:=hat.box.lt
 have c73:=hat.f73
 rw [hg] at c73
 obtain ⟨w1,hrun,rg1,gr1,sz1⟩:=hm.1.range (int_keyed Tryz.underlying3) Tryz.underlying101
 have hB1:Below W.heap.size W w1:=⟨gr1.os,gr1.tape,gr1.output,gr1.size,fun k hk => gr1.block k hk (by simp)⟩
 have hlen:=hm.2
 have H0:Hid (behind (Maps.has (dataOf encVote l)) (T.peer i).sameF 7 = 0):=behind_none _ _ 7 (fun k hk hf => by
  rw [data_has]
  unfold PeerP.sameF at hf
  rw [hl] at hf
  simp only [mapL,Option.getD_some] at hf
  cases ha:l[k]?.join with
  | none => rw [show atL l k = none from ha] at hf;simp at hf
  | some v => rfl)
 have HH:=hide h
 have HR1:=hide rg1
 have HB1:=hide hB1
 clear h hat C hm hmv rg1 gr1 hB1 hqb
 go_enter Tryz.func139,Tryz.ntmps139
 go_wp2
 go_loopw [2] (fun n wr => ∃ left cnt,wr.ranges Tryz.prog 3 rawElem g W.heap.size 7 (dataOf encVote l) left cnt ∧ n = .int .i64 (1 + (behind left (T.peer i).sameF 7:Nat)) ∧ Below W.heap.size W wr) (fun _ wr => wr.rangeLeft g W.heap.size)
 case atStart => exact ⟨_,_,unhide HR1,by rw [unhide H0];rfl,unhide HB1⟩
 case round =>
  obtain ⟨left,cnt,hrg,rfl,hB⟩:=hrel
  have hle:=behind_le left (T.peer i).sameF 7
  have hpr:=(unhide HH).below hB
  obtain ⟨_,q1,hat1,_,_,_,_,C1⟩:=hpr.at hb
  rcases range_next hrg hlen 0 with ⟨h0,hnone,hrn⟩ | ⟨k,u,w2,cnt',hk,hu,hlk,hrn,hrg2,hlt2,hgr2,hsz2,hen⟩
  ·have hs:(1 + (behind left (T.peer i).sameF 7:Nat):Int) = (T.peer i).same:=by
    unfold PeerP.same;rw [behind_all left _ hnone]
   have hs0:0 ≤ (T.peer i).same:=by omega
   have hs7:(T.peer i).same ≤ 1000:=by omega
   rw [hs]
   have c0:=hat1.town
   have c75:=hat1.f75
   have c76:=hat1.f76
   have z75:=hat1.fz 75
   have z76:=hat1.fz 76
   obtain ⟨bp,capP,way,ev,hbx,_⟩:=hpr.turn
   have t4:wr.cell? ⟨bt,4,none⟩ = some (.int .i64 T.now):=hbx.cell 4
   have HM:=hide (most_any (T.peer i).same wr bt pb bs T hpr hs0 hs7 hp)
   have HL:=hide (Links.of_below bs hB)
   have HT:Hid (T.count i = T.setP i (if T.most (T.peer i).same = true then (if (T.peer i).waits = true then T.peer i else { T.peer i with waits:=true,waitsFrom:=T.now }) else { T.peer i with waits:=false })):=rfl
   have HF1:=hide (stores_close hat1 C1 [(75,.bool false)] q1 { T.peer i with waits:=false } (by simp) rfl)
   have HF2:=hide (stores_close hat1 C1 [(75,.bool true),(76,.int .i64 T.now)] q1 { T.peer i with waits:=true,waitsFrom:=T.now } (by simp) rfl)
   have HF3:Hid (PDid wr bt pb bs wr (T.setP i (T.peer i))):=by
    have e:T.setP i (T.peer i) = T:=by
     have e2:T.peer i = T.ps[i]:=by simp [PTown.peer,hi]
     unfold PTown.setP
     rw [e2,List.set_getElem_self]
    show PDid _ _ _ _ _ _
    rw [e];exact PDid.rfl' hpr
   simp only [sets] at HF1 HF2
   clear hs hrg hB hpr hat1 C1 HR1 HB1 H0 hnone h0 hs0 hs7 hle hbx
   generalize (T.peer i).same = sm at *
   cases hmo:T.most sm with
   | false =>
    rw [hmo] at HM HT
    clear hmo
    go_wp2_with (go_at_call 112;refine (unhide HM).mono ?_;rintro o w7 ⟨rfl,rfl⟩)
    go_end0
    exact ⟨rfl,by rw [unhide HT];exact (unhide HL).did (unhide HF1)⟩
   | true =>
    rw [hmo] at HM HT
    clear hmo
    cases hw:(T.peer i).waits with
    | false =>
     rw [hw] at c75 HT
     clear hw
     go_wp2_with (go_at_call 112;refine (unhide HM).mono ?_;rintro o w7 ⟨rfl,rfl⟩)
     go_end0
     exact ⟨rfl,by rw [unhide HT];exact (unhide HL).did (unhide HF2)⟩
    | true =>
     rw [hw] at c75 HT
     clear hw
     go_wp2_with (go_at_call 112;refine (unhide HM).mono ?_;rintro o w7 ⟨rfl,rfl⟩)
     go_end0
     exact ⟨rfl,by rw [unhide HT];exact (unhide HL).did (unhide HF3)⟩
  ·have hB2:Below W.heap.size W w2:=hB.grown hgr2 hB.size (fun j hj => by cases hj;exact Nat.le_refl _)
   obtain ⟨_,q2,hat2,_,_,_,_,_⟩:=((unhide HH).below hB2).at hb
   have hbl2:b < w2.heap.size:=hat2.box.lt
   have hbl3:b < wr.heap.size:=by omega
   have c70:=hat2.f70
   have c71:=hat2.f71
   have c72:=hat2.f72
   have HST:Hid (behind (fun x => left x && !x.sameKey (.int .i64 (k:Int))) (T.peer i).sameF 7 = behind left (T.peer i).sameF 7 + (if u.eqb (T.peer i).vote = true then 1 else 0)):=by
    show _ = _
    rw [behind_step left _ k hlk 7]
    have e:(T.peer i).sameF k = u.eqb (T.peer i).vote:=by
     unfold PeerP.sameF
     rw [hl];simp only [mapL,Option.getD_some,hu]
    rw [e];simp [hk]
   have HR2:Hid (∀ (n:Nat) (o:Obj),((w2.alloc o).drewN n).ranges Tryz.prog 3 rawElem g W.heap.size 7 (dataOf encVote l) (fun x => left x && !x.sameKey (.int .i64 (k:Int))) cnt'):=fun n o => hrg2.alloc _
   have HB2:Hid (∀ (n:Nat) (o:Obj),Below W.heap.size W ((w2.alloc o).drewN n)):=fun n o => below_drewN (hB2.alloc hB2.size _) n
   have HME:Hid (∀ (n:Nat) (o:Obj),((w2.alloc o).drewN n).rangeLeft g W.heap.size < wr.rangeLeft g W.heap.size):=fun n o => by
    rw [hrg.left_eq,World.ranges.left_eq (unhide HR2 n o)];exact hlt2
   simp only [encVote] at hrn hen
   clear hrg hrg2 hgr2 hB hB2 hpr hat1 C1 hat2 HR1 HB1 H0 hlk hu hlt2
   by_cases h1:u.e = (T.peer i).vote.e
   ·by_cases h2:u.n = (T.peer i).vote.n
    ·by_cases h3:u.p = (T.peer i).vote.p
     ·have fin:Hid (behind (fun x => left x && !x.sameKey (.int .i64 (k:Int))) (T.peer i).sameF 7 = behind left (T.peer i).sameF 7 + 1):=by
       show _ = _
       rw [unhide HST];simp [VoteM.eqb,h1,h2,h3]
      clear HST
      go_wp2_with fail
      go_quiet (fail)
      go_wp2
      go_roundw
      case rel => exact ⟨_,cnt',unhide HR2 _ _,by rw [unhide fin];go_num,unhide HB2 _ _⟩
      case measure => exact unhide HME _ _
     ·have fin:Hid (behind (fun x => left x && !x.sameKey (.int .i64 (k:Int))) (T.peer i).sameF 7 = behind left (T.peer i).sameF 7 + 0):=by
       show _ = _
       rw [unhide HST];simp [VoteM.eqb,h1,h2,h3]
      clear HST
      go_wp2_with fail
      go_quiet (fail)
      go_wp2
      go_roundw
      case rel => exact ⟨_,cnt',unhide HR2 _ _,by rw [unhide fin];go_num,unhide HB2 _ _⟩
      case measure => exact unhide HME _ _
    ·have fin:Hid (behind (fun x => left x && !x.sameKey (.int .i64 (k:Int))) (T.peer i).sameF 7 = behind left (T.peer i).sameF 7 + 0):=by
      show _ = _
      rw [unhide HST];simp [VoteM.eqb,h1,h2]
     clear HST
     go_wp2_with fail
     go_quiet (fail)
     go_wp2
     go_roundw
     case rel => exact ⟨_,cnt',unhide HR2 _ _,by rw [unhide fin];go_num,unhide HB2 _ _⟩
     case measure => exact unhide HME _ _
   ·have fin:Hid (behind (fun x => left x && !x.sameKey (.int .i64 (k:Int))) (T.peer i).sameF 7 = behind left (T.peer i).sameF 7 + 0):=by
     show _ = _
     rw [unhide HST];simp [VoteM.eqb,h1]
    clear HST
    go_wp2_with fail
    go_quiet (fail)
    go_wp2
    go_roundw
    case rel => exact ⟨_,cnt',unhide HR2 _ _,by rw [unhide fin];go_num,unhide HB2 _ _⟩
    case measure => exact unhide HME _ _
end Go.Proofs.YtceappncglfciaaGreat
namespace Go.Proofs.YtceappncglfciaaGreat
open Go.RowKit
attribute [local go_sem ↓] Go.wp_at_zero Go.wp_at_succ
section
variable {T:PTown} {i:Nat}
theorem PTown.tell_ps (dl:List Int):(T.tell i dl).ps = T.ps:=PTown.send_ps _ _ _ _
theorem PTown.choose_ps (v:VoteM):(T.choose i v).ps = T.ps.set i { T.peer i with vote:=v,waits:=false }:=PTown.tell_ps _
theorem PTown.enter_ps (r:Int) (v:VoteM) (hi:i < T.ps.length):(T.enter i r v).ps = T.ps.set i { T.peer i with round:=r,votes:=some none7,vote:=v,waits:=false }:=by
 unfold PTown.enter
 rw [PTown.choose_ps,PTown.peer_set hi]
 show (T.ps.set i _).set i _ = _
 rw [List.set_set]
theorem PTown.peer_of {l:List PeerP} {p:PeerP} {T':PTown} (h:T'.ps = l.set i p) (hi:i < l.length):T'.peer i = p:=by simp [PTown.peer,h,hi]
end
set_option maxRecDepth 100000 in
set_option maxHeartbeats 2000000 in
theorem look_any (i b:Nat) (W:World) (bt:Nat) (pb bs:List Nat) (T:PTown) (h:PR W bt pb bs T) (hb:pb[i]? = some b) (hp:T.ps.length ≤ 7) (hn:T.net ≤ 1000) (hr:0 ≤ (T.peer i).round ∧ (T.peer i).round ≤ 4611686018427387904) :
  Calls Tryz.prog 111 #[.pointer (some ⟨b,0,none⟩)] W fun o w' => o = .returned (.tuple #[]) ∧ PDid W bt pb bs w' (T.look i):=by
 have hi:i < T.ps.length:=(h.at hb).1
 obtain ⟨r0,r1⟩:=hr
 have HC:=hide (become_any i b 0 W bt pb bs T h hb)
 have hmm:=@run_makeMap Tryz.prog
 clear h
 go_enter Tryz.func111,Tryz.ntmps111
 go_upto_region 1 with (go_at_call 136;refine (unhide HC).mono ?_;rintro o W1 ⟨rfl,hd⟩)
 obtain ⟨bs1,h1,k1⟩:=hd.open
 obtain ⟨_,q,hat,_,_,_,_,C⟩:=h1.at hb
 have c74:=hat.f74
 have z74:=hat.fz 74
 have hbl:b < W1.heap.size:=hat.box.lt
 have HF:=hide (fresh_ms hat C)
 rw [World.setCell_alloc_past _ _ _ _ hbl] at HF
 have HK:=hide k1
 clear h1 hat C hd HC k1
 go_upto_region 2 with fail
 generalize (W1.setCell ⟨b,74,none⟩ (.map (some W1.heap.size))).alloc (.map #[] 0) = W2 at *
 obtain ⟨bs2,h2,k2⟩:=(unhide HF).open
 have HK2:=hide ((unhide HK).trans k2)
 obtain ⟨T2,hT2⟩:∃ T2,T2 = T.setP i { (T.peer i).become 0 with settled:=some none7 }:=⟨_,rfl⟩
 have e2:(T.setP i ((T.peer i).become 0)).setP i { (T.setP i ((T.peer i).become 0)).peer i with settled:=some none7 } = T2:=by
  rw [hT2,PTown.set_set,PTown.peer_set hi]
 rw [e2] at h2
 have hl2:T2.ps.length = T.ps.length:=by rw [hT2,PTown.setP_len]
 have hn2:T2.net = T.net:=by rw [hT2];rfl
 have hp2:T2.peer i = { (T.peer i).become 0 with settled:=some none7 }:=by rw [hT2,PTown.peer_set hi]
 have HT:Hid (T.look i = (T2.enter i ((T.peer i).round + 1) (T.forItself i)).count i):=by rw [hT2];exact rfl
 obtain ⟨_,q2,hat2,_,_,_,_,C2⟩:=h2.at hb
 have c69:W2.cell? ⟨b,69,none⟩ = some (.int .i64 (T.peer i).round):=by rw [hat2.f69,hp2];rfl
 have hbl2:b < W2.heap.size:=hat2.box.lt
 have HQ:Hid (∀ w5:World,Below W2.drew.heap.size W2.drew w5 → w5.cell? ⟨b,69,none⟩ = some (.int .i64 (T.peer i).round)):=fun w5 hB => (hB.cell (p:=⟨b,69,none⟩) hbl2).trans c69
 have hbd:=(Below.refl W2.heap.size W2).drew
 have HS:Hid (Calls Tryz.prog 138 #[.pointer (some ⟨b,0,none⟩)] W2.drew fun o w' => o = .returned (.agg #[.int .i64 (T.forItself i).e,.int .i64 (T.forItself i).n,.int .i64 (T.forItself i).p]) ∧ Below W2.drew.heap.size W2.drew w'):=by
  have:=forItself_any i b W2.drew bt pb bs2 T2 (h2.below hbd) hb
  rw [hp2] at this
  exact this
 have hw:IntKind.wrap .i64 ((T.peer i).round + 1) = (T.peer i).round + 1:=IntWalk.i64_in _ ⟨by omega,by omega⟩
 have HE:Hid (∀ w5:World,Below W2.drew.heap.size W2.drew w5 → Calls Tryz.prog 137 #[.pointer (some ⟨b,0,none⟩),.int .i64 (IntKind.wrap .i64 ((T.peer i).round + 1)),.agg #[.int .i64 (T.forItself i).e,.int .i64 (T.forItself i).n,.int .i64 (T.forItself i).p]] w5 fun o w' => o = .returned (.tuple #[]) ∧ PDid W bt pb bs w' (T2.enter i ((T.peer i).round + 1) (T.forItself i))):=fun w5 hB => by
  rw [hw]
  exact (((unhide HK2).below hbd).below hB).calls (enter_any i b ((T.peer i).round + 1) (T.forItself i) w5 bt pb bs2 T2 ((h2.below hbd).below hB) hb (by omega) (by omega)) rfl
 have HV:Hid (((T2.enter i ((T.peer i).round + 1) (T.forItself i)).peer i).votes = some none7):=by
  show _ = _
  rw [PTown.peer_of (PTown.enter_ps _ _ (by omega)) (by omega)]
 have HP:Hid ((T2.enter i ((T.peer i).round + 1) (T.forItself i)).ps.length ≤ 7):=by
  show _ ≤ _
  rw [PTown.enter_ps _ _ (by omega),List.length_set];omega
 generalize (T.peer i).round = rd at *
 generalize T.forItself i = fv at *
 clear hw hat2 C2 h2 k2 e2 hT2 hp2 hl2 hn2 HF HK HK2 c74 z74 hbl
 go_region_law (first | (go_simp;go_at_call 138;refine (unhide HS).mono ?_;rintro o w5 ⟨rfl,hB5⟩;have q5:=unhide HQ w5 hB5;have HB5:=hide hB5;clear hB5) | (go_simp;go_at_call 137;refine (unhide HE _ (unhide HB5)).mono ?_;rintro o w6 ⟨rfl,hd⟩))
 all_goals
  obtain ⟨bs3,h3,k3⟩:=hd.open
  have HD:=hide (k3.calls (count_any i b w6 bt pb bs3 _ h3 hb (unhide HP) none7 (unhide HV)) (unhide HT))
  clear hd h3 k3 HT HP HV HE HS HQ HB5
  go_wp2_with fail
  refine (unhide HD).mono ?_
  rintro o w7 ⟨rfl,hd⟩
  have HE:=hide hd
  clear hd HD
  go_wp2
  go_end0
  exact ⟨rfl,unhide HE⟩
end Go.Proofs.YtceappncglfciaaGreat
namespace Go.Proofs.YtceappncglfciaaGreat
open Go.RowKit
attribute [local go_sem ↓] Go.wp_at_zero Go.wp_at_succ
def cmpI (a b:Int):Int:=if a < b then -1 else if b < a then 1 else 0
def orL:List Int → Int
 | [] => 0
 | x :: r => if x = 0 then orL r else x
theorem isNaN_any (x:Int) (W:World):Calls Tryz.prog 166 #[.int .i64 x] W fun o w' => o = .returned (.bool false) ∧ w' = W:=by
 go_enter Tryz.func166,Tryz.ntmps166
 go_wp2
 go_ret
 exact ⟨by simp,rfl⟩
set_option maxRecDepth 100000 in
set_option maxHeartbeats 400000 in
theorem compare_int (a b:Int) (W:World):Calls Tryz.prog 157 #[.int .i64 a,.int .i64 b] W fun o w' => o = .returned (.int .i64 (cmpI a b)) ∧ w' = W:=by
 unfold cmpI
 by_cases h1:a < b
 ·have d1:decide (a < b) = true:=by simpa using h1
  rw [if_pos h1]
  clear h1
  go_enter Tryz.func157,Tryz.ntmps157
  go_wp2_with (go_at_call 166;refine (isNaN_any _ _).mono ?_;rintro o w1 ⟨rfl,rfl⟩)
  go_ret
  exact ⟨rfl,rfl⟩
 ·have d1:decide (a < b) = false:=by simpa using h1
  rw [if_neg h1]
  clear h1
  by_cases h2:b < a
  ·have d2:decide (b < a) = true:=by simpa using h2
   rw [if_pos h2]
   clear h2
   go_enter Tryz.func157,Tryz.ntmps157
   go_wp2_with (go_at_call 166;refine (isNaN_any _ _).mono ?_;rintro o w1 ⟨rfl,rfl⟩)
   go_ret
   exact ⟨rfl,rfl⟩
  ·have d2:decide (b < a) = false:=by simpa using h2
   rw [if_neg h2]
   clear h2
   go_enter Tryz.func157,Tryz.ntmps157
   go_wp2_with (go_at_call 166;refine (isNaN_any _ _).mono ?_;rintro o w1 ⟨rfl,rfl⟩)
   go_ret
   exact ⟨rfl,rfl⟩
set_option maxRecDepth 100000 in
set_option maxHeartbeats 400000 in
theorem or_any (l:List Int) (g cap:Nat) (W:World) (hl:l.length ≤ 7) (hc:∀ k,k < l.length → W.cell? ⟨g,k,none⟩ = some (.int .i64 (l.getD k 0))) :
  Calls Tryz.prog 156 #[.slice (some ⟨g,0,none⟩) l.length cap] W fun o w' => o = .returned (.int .i64 (orL l)) ∧ w' = W:=by
 have HC:=hide hc
 clear hc
 go_enter Tryz.func156,Tryz.ntmps156
 go_wp2
 go_loopw [8] (fun c wr => ∃ k:Nat,k ≤ l.length ∧ c = .int .i64 k ∧ orL l = orL (l.drop k) ∧ wr = W) (fun c _ => l.length - (RowKit.intOf c).toNat)
 case atStart => exact ⟨0,Nat.zero_le _,rfl,rfl,rfl⟩
 case round =>
  obtain ⟨k,hk,rfl,hor,rfl⟩:=hrel
  by_cases hlt:k < l.length
  ·have c1:=unhide HC k hlt
   obtain ⟨x,hx⟩:∃ x,x = l.getD k 0:=⟨_,rfl⟩
   rw [← hx] at c1
   have hd:l.drop k = x :: l.drop (k + 1):=by
    rw [List.drop_eq_getElem_cons hlt,hx];simp [hlt]
   rw [hd,orL] at hor
   by_cases h0:x = 0
   ·rw [if_pos h0] at hor
    have q0:(x != 0) = false:=by simp [h0]
    have HO:=hide hor
    clear hor h0 hd hx
    go_wp2
    go_roundw
    case rel => exact ⟨k + 1,by omega,by go_num,unhide HO,by trivial⟩
    case measure => simp [RowKit.intOf];omega
   ·rw [if_neg h0] at hor
    have q0:(x != 0) = true:=by simp [h0]
    have HO:=hide hor
    clear hor h0 hd hx
    go_wp2
    go_ret
    exact ⟨by rw [unhide HO];rfl,rfl⟩
  ·have hke:l.drop k = []:=List.drop_of_length_le (by omega)
   rw [hke] at hor
   have HO:=hide hor
   clear hor hke
   go_wp2
   go_ret
   exact ⟨by rw [unhide HO];rfl,rfl⟩
theorem better_or (a b:VoteM):decide (0 < orL [cmpI a.e b.e,cmpI a.n b.n,cmpI a.p b.p]) = a.better b:=by
 unfold VoteM.better
 have key:∀ x y:Int,(cmpI x y = 0 ↔ x = y) ∧ (0 < cmpI x y ↔ y < x):=fun x y => by unfold cmpI;constructor <;> (split <;> (try split)) <;> constructor <;> intro <;> omega
 by_cases h1:a.e = b.e
 ·have e1:=(key a.e b.e).1.2 h1
  have b1:(a.e == b.e) = true:=by simp [h1]
  by_cases h2:a.n = b.n
  ·have e2:=(key a.n b.n).1.2 h2
   have b2:(a.n == b.n) = true:=by simp [h2]
   by_cases h3:a.p = b.p
   ·have e3:=(key a.p b.p).1.2 h3
    simp [orL,e1,e2,e3,b1,b2];omega
   ·have e3:¬ cmpI a.p b.p = 0:=fun e => h3 ((key _ _).1.1 e)
    simp [orL,e1,e2,e3,b1,b2,(key a.p b.p).2]
  ·have e2:¬ cmpI a.n b.n = 0:=fun e => h2 ((key _ _).1.1 e)
   have b2:(a.n == b.n) = false:=by simp [h2]
   simp [orL,e1,e2,b1,b2,(key a.n b.n).2]
 ·have e1:¬ cmpI a.e b.e = 0:=fun e => h1 ((key _ _).1.1 e)
  have b1:(a.e == b.e) = false:=by simp [h1]
  simp [orL,e1,b1,(key a.e b.e).2]
end Go.Proofs.YtceappncglfciaaGreat
namespace Go.Proofs.YtceappncglfciaaGreat
open Go.RowKit
attribute [local go_sem ↓] Go.wp_at_zero Go.wp_at_succ
set_option maxRecDepth 100000 in
set_option maxHeartbeats 1000000 in
theorem better_any (a b:VoteM) (W:World) :
  Calls Tryz.prog 144 #[.agg #[.int .i64 a.e,.int .i64 a.n,.int .i64 a.p],.agg #[.int .i64 b.e,.int .i64 b.n,.int .i64 b.p]] W fun o w' => o = .returned (.bool (a.better b)) ∧ Below W.heap.size W w':=by
 have HO:=hide (better_or a b)
 have H4:Hid (∀ (w:World) (g:Nat),Box w g #[.int .i64 (cmpI a.e b.e),.int .i64 (cmpI a.n b.n),.int .i64 (cmpI a.p b.p)] 3 → Calls Tryz.prog 156 #[.slice (some ⟨g,0,none⟩) 3 3] w fun o w' => o = .returned (.int .i64 (orL [cmpI a.e b.e,cmpI a.n b.n,cmpI a.p b.p])) ∧ w' = w):=fun w g hb => or_any [cmpI a.e b.e,cmpI a.n b.n,cmpI a.p b.p] g 3 w (by simp) (fun k hk => by
  rw [hb.cell k]
  simp only [List.length_cons,List.length_nil,Nat.zero_add,Nat.reduceAdd] at hk
  rcases k with _ | _ | _ | k
  ·rfl
  ·rfl
  ·rfl
  ·omega)
 generalize orL [cmpI a.e b.e,cmpI a.n b.n,cmpI a.p b.p] = s at *
 have HN:Hid (Below W.heap.size W ((W.alloc (.cells #[.int .i64 a.e,.int .i64 a.n,.int .i64 a.p] 100)).alloc (.cells #[.int .i64 b.e,.int .i64 b.n,.int .i64 b.p] 100))):=((Below.refl _ _).alloc (Nat.le_refl _) _).alloc (by simp) _
 have hx1:Box ((W.alloc (.cells #[.int .i64 a.e,.int .i64 a.n,.int .i64 a.p] 100)).alloc (.cells #[.int .i64 b.e,.int .i64 b.n,.int .i64 b.p] 100)) W.heap.size _ _:=(Box.new _ _ _).alloc _
 have hx2:Box ((W.alloc (.cells #[.int .i64 a.e,.int .i64 a.n,.int .i64 a.p] 100)).alloc (.cells #[.int .i64 b.e,.int .i64 b.n,.int .i64 b.p] 100)) (W.heap.size + 1) #[.int .i64 b.e,.int .i64 b.n,.int .i64 b.p] 100:=by
  have:=Box.new (W.alloc (.cells #[.int .i64 a.e,.int .i64 a.n,.int .i64 a.p] 100)) #[.int .i64 b.e,.int .i64 b.n,.int .i64 b.p] 100
  rwa [World.size_alloc] at this
 go_enter Tryz.func144,Tryz.ntmps144
 go_upto_region 1 with fail
 have HX1:=hide hx1
 have HX2:=hide hx2
 clear hx1 hx2
 generalize (W.alloc (.cells #[.int .i64 a.e,.int .i64 a.n,.int .i64 a.p] 100)).alloc (.cells #[.int .i64 b.e,.int .i64 b.n,.int .i64 b.p] 100) = W2 at *
 have a0:W2.cell? ⟨W.heap.size,0,none⟩ = some (.int .i64 a.e):=(unhide HX1).cell 0
 have a1:W2.cell? ⟨W.heap.size,1,none⟩ = some (.int .i64 a.n):=(unhide HX1).cell 1
 have a2:W2.cell? ⟨W.heap.size,2,none⟩ = some (.int .i64 a.p):=(unhide HX1).cell 2
 have b0:W2.cell? ⟨W.heap.size + 1,0,none⟩ = some (.int .i64 b.e):=(unhide HX2).cell 0
 have b1:W2.cell? ⟨W.heap.size + 1,1,none⟩ = some (.int .i64 b.n):=(unhide HX2).cell 1
 have b2:W2.cell? ⟨W.heap.size + 1,2,none⟩ = some (.int .i64 b.p):=(unhide HX2).cell 2
 have hl1:W.heap.size < W2.heap.size:=(unhide HX1).lt
 have hl2:W.heap.size + 1 < W2.heap.size:=(unhide HX2).lt
 have hB:=unhide HN
 have H5:=hide (unhide H4 ((W2.alloc (.cells #[.int .i64 (cmpI a.e b.e),.int .i64 (cmpI a.n b.n),.int .i64 (cmpI a.p b.p)] 3)).drew) W2.heap.size (Box.new W2 #[.int .i64 (cmpI a.e b.e),.int .i64 (cmpI a.n b.n),.int .i64 (cmpI a.p b.p)] 3))
 clear HX1 HX2 HN
 go_region_held3 (fun w' => w'.cell? ⟨W.heap.size,0,none⟩ = some (.int .i64 a.e) ∧ w'.cell? ⟨W.heap.size,1,none⟩ = some (.int .i64 a.n) ∧ w'.cell? ⟨W.heap.size,2,none⟩ = some (.int .i64 a.p) ∧ w'.cell? ⟨W.heap.size + 1,0,none⟩ = some (.int .i64 b.e) ∧ w'.cell? ⟨W.heap.size + 1,1,none⟩ = some (.int .i64 b.n) ∧ w'.cell? ⟨W.heap.size + 1,2,none⟩ = some (.int .i64 b.p)) (go_keep) (first | (go_at_call 157;refine (compare_int _ _ _).mono ?_;rintro o w1 ⟨rfl,rfl⟩) | (go_at_call 156;refine (unhide H5).mono ?_;rintro o w1 ⟨rfl,rfl⟩))
 go_wp2
 go_ret
 exact ⟨by rw [← unhide HO];rfl,(hB.alloc hB.size _).drew⟩
end Go.Proofs.YtceappncglfciaaGreat
