import Derived.Test.YtceappncglfciaaGreatM11
import Derived.Deep.RegionWith
import Derived.Deep.DeepCutAuto
set_option linter.unusedVariables false
set_option linter.unusedSimpArgs false
namespace Go.Proofs.YtceappncglfciaaGreat
open Go.RowKit
attribute [local go_sem ↓] Go.wp_at_zero Go.wp_at_succ
section
variable {W W':World} {bt:Nat} {pb bs:List Nat} {T:PTown}
theorem PR.notin (h:PR W bt pb bs T) {g:Nat} {cs:Array Value} {t:TypeId} {fr:Nat × Nat} (hg:W.heap[g]? = some (.cells cs t fr)) (h1:t ≠ 81) (h2:t ≠ 82) (h3:t ≠ 133) (h4:t ≠ 49) (h5:t ≠ 114):g ∉ bs:=by
 obtain ⟨bp,capP,way,ev,qs,cur,e1,⟨e2,e2b,e2c,e2d⟩,e3,e4,e5,e6,e7,e8,e9,hbs⟩:=h.ex
 rw [hbs]
 simp only [List.mem_cons,List.mem_append,Option.mem_toList]
 have key:∀ {cs':Array Value} {t':TypeId} {fr':Nat × Nat},W.heap[g]? = some (.cells cs' t' fr') → t = t':=by
  intro cs' t' fr' e
  rw [hg] at e
  simp only [Option.some.injEq,Obj.cells.injEq] at e
  exact e.2.1
 rintro (rfl | rfl | hm | hm | hm | hm)
 ·exact h1 (key e1)
 ·exact h2 (key e2)
 ·obtain ⟨c,fr2,hc⟩:=row_block e3 hm;exact h3 (key hc)
 ·obtain ⟨c,fr2,hc⟩:=row_block e4 hm;exact h4 (key hc)
 ·obtain ⟨j,hj⟩:=List.mem_iff_getElem?.1 hm
  have hl:j < T.ps.length:=by rw [← e5];exact (List.getElem?_eq_some_iff.1 hj).1
  have hq:qs[j]? = some qs[j]:=List.getElem?_eq_getElem (by omega)
  exact h5 (key (e7 j g _ _ hj hq (List.getElem?_eq_getElem hl)).box.1)
 ·obtain ⟨q,hq,hk2⟩:=List.mem_flatMap.1 hm
  obtain ⟨j,hj⟩:=List.mem_iff_getElem?.1 hq
  have hl:j < T.ps.length:=by rw [← e6];exact (List.getElem?_eq_some_iff.1 hj).1
  have hb:pb[j]? = some pb[j]:=List.getElem?_eq_getElem (by omega)
  exact (e7 j _ q _ hb hj (List.getElem?_eq_getElem hl)).no_cells g hk2 _ _ _ hg
theorem PTown.lay_ps (m:MsgM):(T.lay m).ps = T.ps:=by unfold PTown.lay;split <;> rfl
theorem PTown.lay_net (m:MsgM):(T.lay m).net = T.net:=by unfold PTown.lay;split <;> rfl
theorem PTown.lay_events (m:MsgM):(T.lay m).events = T.events:=by unfold PTown.lay;split <;> rfl
end
section
theorem PTown.send_ps (m:MsgM) (i:Nat):∀ (l:List Int) (T:PTown),(T.sendTo m i l).ps = T.ps
 | [],_ => rfl
 | k :: r,T => by rw [PTown.sendTo,PTown.send_ps m i r,PTown.lay_ps]
theorem PTown.send_net (m:MsgM) (i:Nat):∀ (l:List Int) (T:PTown),(T.sendTo m i l).net = T.net
 | [],_ => rfl
 | k :: r,T => by rw [PTown.sendTo,PTown.send_net m i r,PTown.lay_net]
theorem PTown.send_events (m:MsgM) (i:Nat):∀ (l:List Int) (T:PTown),(T.sendTo m i l).events = T.events
 | [],_ => rfl
 | k :: r,T => by rw [PTown.sendTo,PTown.send_events m i r,PTown.lay_events]
theorem PTown.send_append (m:MsgM) (i:Nat) (k:Int):∀ (l:List Int) (T:PTown),T.sendTo m i (l ++ [k]) = (T.sendTo m i l).lay { m with src:=i,dst:=k }
 | [],_ => rfl
 | x :: r,T => by rw [List.cons_append,PTown.sendTo,PTown.send_append m i k r,PTown.sendTo]
end
set_option maxRecDepth 100000 in
set_option maxHeartbeats 1000000 in
theorem send_nil (i b:Nat) (m:MsgM) (W:World) (bt:Nat) (pb bs:List Nat) (T:PTown) (h:PR W bt pb bs T) (hb:pb[i]? = some b) (cap:Nat) (a:Option Addr) :
  Calls Tryz.prog 114 #[.pointer (some ⟨b,0,none⟩),m.val,.slice a 0 cap] W fun o w' => o = .returned (.tuple #[]) ∧ PDid W bt pb bs w' T:=by
 obtain ⟨hi,q,hat,hbt,hbb,hqb,hbq,C⟩:=h.at hb
 have c1:W.cell? ⟨b,1,none⟩ = some (.int .i64 (i:Int)):=hat.box.num
 have hlt:b < W.heap.size:=hat.box.lt
 have HX:=hide (PDid.of_below h ((Below.refl W.heap.size W).alloc (Nat.le_refl _) (.cells ({ m with src:=i }:MsgM).cells.toArray 133)))
 simp only [MsgM.cells] at HX
 clear h hat C hqb hbq
 unfold MsgM.val
 go_enter Tryz.func114,Tryz.ntmps114
 go_wp2
 go_loopw [15] (fun c wr => c = .int .i64 0 ∧ PDid W bt pb bs wr T) (fun c _ => 0)
 case atStart => exact ⟨rfl,unhide HX⟩
 case round =>
  obtain ⟨rfl,hd⟩:=hrel
  have HD:=hide hd
  clear hd
  go_wp2
  go_end0
  exact ⟨rfl,unhide HD⟩
def PR' (W:World) (bt:Nat) (pb bs:List Nat) (w':World) (T':PTown) (g:Nat) (m:MsgM):Prop :=
 ∃ bs2,PR w' bt pb bs2 T' ∧ Keeps bs W w' ∧ (∀ x ∈ bs2,x ∈ bs ∨ W.heap.size + 1 ≤ x) ∧ Box w' W.heap.size m.cells.toArray 133 ∧ w'.heap[g]? = W.heap[g]?
def MsgM.goes (m:MsgM) (i:Nat) (d:Int):MsgM:={ m with src:=i,dst:=d }
set_option maxRecDepth 100000 in
set_option maxHeartbeats 1000000 in
theorem send_some (i b:Nat) (m:MsgM) (W:World) (bt:Nat) (pb bs:List Nat) (T:PTown) (h:PR W bt pb bs T) (hb:pb[i]? = some b) (hn:T.net ≤ 1000) (dl:List Int) (g cap:Nat) (cur:Array Value) (fr:Nat × Nat)
  (hg:W.heap[g]? = some (.cells cur 3 fr)) (hc:cur.toList.take dl.length = dl.map (Value.int .i64)) (hl:dl.length ≤ 7) :
  Calls Tryz.prog 114 #[.pointer (some ⟨b,0,none⟩),m.val,.slice (some ⟨g,0,none⟩) dl.length cap] W fun o w' => o = .returned (.tuple #[]) ∧ PDid W bt pb bs w' (T.sendTo m i dl):=by
 obtain ⟨hi,q,hat,hbt,hbb,hqb,hbq,C⟩:=h.at hb
 have c1:W.cell? ⟨b,1,none⟩ = some (.int .i64 (i:Int)):=hat.box.num
 have hlt:b < W.heap.size:=hat.box.lt
 have hgn:g ∉ bs:=h.notin hg (by decide) (by decide) (by decide) (by decide) (by decide)
 have hgl:g < W.heap.size:=(Array.getElem?_eq_some_iff.1 hg).1
 have hmn:W.heap.size ∉ bs:=fun hm => Nat.lt_irrefl _ (h.lt _ hm)
 have hcell:Hid (∀ wr:World,wr.heap[g]? = W.heap[g]? → ∀ k:Nat,k < dl.length → wr.cell? ⟨g,k,none⟩ = some (.int .i64 (dl.getD k 0))):=by
  intro wr hwr k hk
  rw [cell_of_row wr g k _ _ fr (hwr.trans hg)]
  have:cur.toList[k]? = (dl.map (Value.int .i64))[k]?:=by rw [← hc,List.getElem?_take_of_lt hk]
  rw [← Array.getElem?_toList,this]
  simp [hk]
 obtain ⟨W1,hW1⟩:∃ W1,W1 = W.alloc (.cells (m.goes i m.dst).cells.toArray 133):=⟨_,rfl⟩
 have hX:Below W.heap.size W W1:=by rw [hW1];exact (Below.refl W.heap.size W).alloc (Nat.le_refl _) _
 have hm1:Box W1 W.heap.size (m.goes i m.dst).cells.toArray 133:=by rw [hW1];exact Box.new _ _ _
 have hg1:W1.heap[g]? = W.heap[g]?:=hX.block g hgl
 have hs1:W1.heap.size = W.heap.size + 1:=by rw [hW1];exact World.size_alloc _ _
 have hr1:=h.below hX
 have HW:=hide hW1
 simp only [MsgM.cells,MsgM.goes] at HW
 have HX:=hide hX
 clear h hat C hqb hbq hg hc hbt
 unfold MsgM.val
 go_enter Tryz.func114,Tryz.ntmps114
 go_wp2
 rw [← unhide HW]
 clear hW1 HW
 go_loopw [15] (fun c wr => ∃ (k:Nat) (d:Int) (bs1:List Nat),k ≤ dl.length ∧ c = .int .i64 k ∧ PR wr bt pb bs1 (T.sendTo m i (dl.take k)) ∧ Keeps bs W wr ∧ (∀ x ∈ bs1,x ∈ bs ∨ W.heap.size + 1 ≤ x) ∧ Box wr W.heap.size (m.goes i d).cells.toArray 133 ∧ wr.heap[g]? = W.heap[g]?) (fun c _ => dl.length - (RowKit.intOf c).toNat)
 case atStart => exact ⟨0,m.dst,bs,Nat.zero_le _,rfl,by simpa [PTown.sendTo] using hr1,Keeps.of_below (unhide HX),fun x hx => .inl hx,hm1,hg1⟩
 case round =>
  obtain ⟨k,d,bs1,hk,rfl,hr,hkp,hbl,hm,hgw⟩:=hrel
  have hmn1:W.heap.size ∉ bs1:=fun hm => by
   rcases hbl _ hm with h1 | h1
   ·exact hmn h1
   ·omega
  by_cases hlt2:k < dl.length
  ·obtain ⟨x,hx⟩:∃ x,x = dl.getD k 0:=⟨_,rfl⟩
   have hst:Hid (T.sendTo m i (dl.take (k + 1)) = (T.sendTo m i (dl.take k)).lay (m.goes i x)):=by
    have e:dl.take (k + 1) = dl.take k ++ [x]:=by
     rw [List.take_succ_eq_append_getElem hlt2,hx];simp [hlt2]
    show _ = _
    rw [e,PTown.send_append];rfl
   have r1:=unhide hcell wr hgw k hlt2
   rw [← hx] at r1
   have hgn1:g ∉ bs1:=fun hm => by
    rcases hbl _ hm with h1 | h1
    ·exact hgn h1
    ·omega
   have hbw:wr.cell? ⟨b,0,none⟩ = some (.pointer (some ⟨bt,0,none⟩)):=(hr.at hb).2.choose_spec.1.box.town
   have hne:b ≠ W.heap.size:=by omega
   have hgne:g ≠ W.heap.size:=by omega
   have e2:wr.cell? ⟨W.heap.size,2,none⟩ = some (.int .i64 d):=hm.cell 2
   have e2f:=hm.frozen 2
   have hlw:W.heap.size < wr.heap.size:=hm.lt
   have HR:=hide hr
   have HK:=hide hkp
   have HB:=hide hbl
   have HM:=hide hm
   clear hr hkp hbl hm hr1 hm1 hg1 hcell hs1 hx
   go_upto_region 6 with fail
   have HM2:=hide ((unhide HM).set 2 (.int .i64 x))
   have k5:Keeps bs W (wr.setCell ⟨W.heap.size,2,none⟩ (.int .i64 x)):=(unhide HK).setCell (.inr (Nat.le_refl _)) _
   have r5:PR (wr.setCell ⟨W.heap.size,2,none⟩ (.int .i64 x)) bt pb bs1 (T.sendTo m i (dl.take k)):=(unhide HR).keep (fun y hy => Below.heap_setCell _ _ _ _ (fun e => by have e':y = W.heap.size:=e;exact hmn1 (e' ▸ hy)))
   have s5:W.heap.size < (wr.setCell ⟨W.heap.size,2,none⟩ (.int .i64 x)).heap.size:=by simpa using hlw
   have g5:(wr.setCell ⟨W.heap.size,2,none⟩ (.int .i64 x)).heap[g]? = W.heap[g]?:=(Below.heap_setCell _ _ _ _ hgne).trans hgw
   have b5:(wr.setCell ⟨W.heap.size,2,none⟩ (.int .i64 x)).cell? ⟨b,0,none⟩ = some (.pointer (some ⟨bt,0,none⟩)):=(World.cell?_of_block (Below.heap_setCell _ _ _ _ hne)).trans hbw
   generalize wr.setCell ⟨W.heap.size,2,none⟩ (.int .i64 x) = w5 at *
   have HM3:Hid (Box w5 W.heap.size (m.goes i x).cells.toArray 133):=unhide HM2
   have m0:w5.cell? ⟨W.heap.size,0,none⟩ = some (.int .i64 m.kind):=(unhide HM3).cell 0
   have m1:w5.cell? ⟨W.heap.size,1,none⟩ = some (.int .i64 (i:Int)):=(unhide HM3).cell 1
   have m2:w5.cell? ⟨W.heap.size,2,none⟩ = some (.int .i64 x):=(unhide HM3).cell 2
   have m3:w5.cell? ⟨W.heap.size,3,none⟩ = some (.int .i64 m.round):=(unhide HM3).cell 3
   have m4:w5.cell? ⟨W.heap.size,4,none⟩ = some (.int .i64 m.state):=(unhide HM3).cell 4
   have m5:w5.cell? ⟨W.heap.size,5,none⟩ = some (.int .i64 m.vote.e):=(unhide HM3).cell 5
   have m6:w5.cell? ⟨W.heap.size,6,none⟩ = some (.int .i64 m.vote.n):=(unhide HM3).cell 6
   have m7:w5.cell? ⟨W.heap.size,7,none⟩ = some (.int .i64 m.vote.p):=(unhide HM3).cell 7
   have m8:w5.cell? ⟨W.heap.size,8,none⟩ = some (.int .i64 m.epoch):=(unhide HM3).cell 8
   have m9:w5.cell? ⟨W.heap.size,9,none⟩ = some (.int .i64 m.news):=(unhide HM3).cell 9
   have hb5:=(Below.refl w5.heap.size w5).drew
   have HC:Hid (Calls Tryz.prog 67 #[.pointer (some ⟨bt,0,none⟩),(m.goes i x).val] w5.drew fun o w' => o = .returned (.int .i64 (T.sendTo m i (dl.take k)).layE) ∧ PR' W bt pb bs w' (T.sendTo m i (dl.take (k + 1))) g (m.goes i x) ):=by
    refine (lay_any (m.goes i x) w5.drew bt pb bs1 (T.sendTo m i (dl.take k)) (r5.below hb5) (by rw [PTown.send_net];exact hn)).mono ?_
    rintro o w' ⟨rfl,bs2,hr2,hk2,hb2⟩
    have hk2':Keeps bs1 w5 w':=⟨hk2.os,hk2.tape,hk2.output,hk2.size,hk2.block⟩
    refine ⟨rfl,bs2,by rw [unhide hst];exact hr2,k5.trans hk2' (fun y hy => ?_),fun y hy => ?_,?_,?_⟩
    ·rcases unhide HB y hy with h1 | h1
     ·exact .inl h1
     ·exact .inr (by omega)
    ·rcases hb2 y hy with h1 | h1
     ·exact unhide HB y h1
     ·exact .inr (Nat.le_trans s5 h1)
    ·exact (hk2'.block _ s5 hmn1).trans (unhide HM3)
    ·exact (hk2'.block g (by omega) hgn1).trans g5
   clear HM2 HM3 HM HR HK HB r5 k5 hb5 e2 e2f r1 hst hbw g5 hgn1
   simp only [MsgM.val,MsgM.goes] at HC
   go_region_with ((go_at_call 67;refine (unhide HC).mono ?_;rintro o w6 ⟨rfl,hd⟩))
   all_goals
    have HD:=hide hd
    clear hd HC
    go_wp2
    go_roundw
    case rel =>
     obtain ⟨bs2,e1,e2,e3,e4,e5⟩:=unhide HD
     exact ⟨k + 1,x,bs2,by omega,by go_num,e1,e2,e3,e4,e5⟩
    case measure => simp [RowKit.intOf];omega
  ·have hke:k = dl.length:=by omega
   have fin:Hid (PDid W bt pb bs wr (T.sendTo m i dl)):=by
    refine ⟨bs1,?_,hkp,fun x hx => ?_⟩
    ·have:=hr
     rwa [hke,List.take_length] at this
    ·rcases hbl x hx with h1 | h1
     ·exact .inl h1
     ·exact .inr (by omega)
   clear hr hkp hbl hm hr1 hm1 hg1 hke
   go_wp2
   go_end0
   exact ⟨rfl,unhide fin⟩
def ToRow (W:World) (v:Value) (dl:List Int):Prop:=W.ownsRow 0 3 1 v dl.length (dl.map (Value.int .i64))
theorem send_any (i b:Nat) (m:MsgM) (W:World) (bt:Nat) (pb bs:List Nat) (T:PTown) (h:PR W bt pb bs T) (hb:pb[i]? = some b) (hn:T.net ≤ 1000) (dl:List Int) (v:Value) (hv:ToRow W v dl) (hl:dl.length ≤ 7) :
  Calls Tryz.prog 114 #[.pointer (some ⟨b,0,none⟩),m.val,v] W fun o w' => o = .returned (.tuple #[]) ∧ PDid W bt pb bs w' (T.sendTo m i dl):=by
 rcases hv.2 with ⟨rfl,h0⟩ | ⟨g,cap,cur,rfl,_,hg,h1,h2,h3⟩
 ·have:dl = []:=List.eq_nil_of_length_eq_zero h0
  subst this
  exact send_nil i b m W bt pb bs T h hb 0 none
 ·exact send_some i b m W bt pb bs T h hb hn dl g cap cur _ hg (by simpa using h3.2) hl
end Go.Proofs.YtceappncglfciaaGreat
namespace Go.Proofs.YtceappncglfciaaGreat
open Go.RowKit
section
variable {W W':World} {bt i b:Nat} {q q':PL} {p p':PeerP}
theorem PeerAt.town (h:PeerAt W bt i b q p):W.cell? ⟨b,0,none⟩ = some (.pointer (some ⟨bt,0,none⟩)):=h.box.town
theorem PeerAt.num (h:PeerAt W bt i b q p):W.cell? ⟨b,1,none⟩ = some (.int .i64 (i:Int)):=h.box.num
theorem PeerAt.fz (h:PeerAt W bt i b q p) (k:Nat):W.frozen? ⟨b,k,none⟩ = false:=h.box.frozen k
theorem PeerAt.f58 (h:PeerAt W bt i b q p):W.cell? ⟨b,58,none⟩ = some (.bool p.up):=h.box.cell (by omega)
theorem PeerAt.f59 (h:PeerAt W bt i b q p):W.cell? ⟨b,59,none⟩ = some (.chan (some q.cm)):=h.box.cell (by omega)
theorem PeerAt.f60 (h:PeerAt W bt i b q p):W.cell? ⟨b,60,none⟩ = some (.chan (some q.ct)):=h.box.cell (by omega)
theorem PeerAt.f61 (h:PeerAt W bt i b q p):W.cell? ⟨b,61,none⟩ = some (.chan (some q.co)):=h.box.cell (by omega)
theorem PeerAt.f62 (h:PeerAt W bt i b q p):W.cell? ⟨b,62,none⟩ = some (.bool p.armed):=h.box.cell (by omega)
theorem PeerAt.f63 (h:PeerAt W bt i b q p):W.cell? ⟨b,63,none⟩ = some (.int .i64 p.bytes):=h.box.cell (by omega)
theorem PeerAt.f64 (h:PeerAt W bt i b q p):W.cell? ⟨b,64,none⟩ = some (.int .i64 p.c.p):=h.box.cell (by omega)
theorem PeerAt.f65 (h:PeerAt W bt i b q p):W.cell? ⟨b,65,none⟩ = some (.int .i64 p.c.t):=h.box.cell (by omega)
theorem PeerAt.f66 (h:PeerAt W bt i b q p):W.cell? ⟨b,66,none⟩ = some (.int .i64 p.c.e):=h.box.cell (by omega)
theorem PeerAt.f67 (h:PeerAt W bt i b q p):W.cell? ⟨b,67,none⟩ = some (.int .i64 p.c.v):=h.box.cell (by omega)
theorem PeerAt.f68 (h:PeerAt W bt i b q p):W.cell? ⟨b,68,none⟩ = some (.int .i64 p.state):=h.box.cell (by omega)
theorem PeerAt.f69 (h:PeerAt W bt i b q p):W.cell? ⟨b,69,none⟩ = some (.int .i64 p.round):=h.box.cell (by omega)
theorem PeerAt.f70 (h:PeerAt W bt i b q p):W.cell? ⟨b,70,none⟩ = some (.int .i64 p.vote.e):=h.box.cell (by omega)
theorem PeerAt.f71 (h:PeerAt W bt i b q p):W.cell? ⟨b,71,none⟩ = some (.int .i64 p.vote.n):=h.box.cell (by omega)
theorem PeerAt.f72 (h:PeerAt W bt i b q p):W.cell? ⟨b,72,none⟩ = some (.int .i64 p.vote.p):=h.box.cell (by omega)
theorem PeerAt.f73 (h:PeerAt W bt i b q p):W.cell? ⟨b,73,none⟩ = some (.map q.mv):=h.box.cell (by omega)
theorem PeerAt.f74 (h:PeerAt W bt i b q p):W.cell? ⟨b,74,none⟩ = some (.map q.ms):=h.box.cell (by omega)
theorem PeerAt.f75 (h:PeerAt W bt i b q p):W.cell? ⟨b,75,none⟩ = some (.bool p.waits):=h.box.cell (by omega)
theorem PeerAt.f76 (h:PeerAt W bt i b q p):W.cell? ⟨b,76,none⟩ = some (.int .i64 p.waitsFrom):=h.box.cell (by omega)
theorem PeerAt.f77 (h:PeerAt W bt i b q p):W.cell? ⟨b,77,none⟩ = some (.map q.mh):=h.box.cell (by omega)
theorem PeerAt.f78 (h:PeerAt W bt i b q p):W.cell? ⟨b,78,none⟩ = some (.int .i64 p.leadsFrom):=h.box.cell (by omega)
theorem PeerAt.f79 (h:PeerAt W bt i b q p):W.cell? ⟨b,79,none⟩ = some (.int .i64 p.epoch):=h.box.cell (by omega)
theorem PeerAt.f80 (h:PeerAt W bt i b q p):W.cell? ⟨b,80,none⟩ = some (.map q.mj):=h.box.cell (by omega)
theorem PeerAt.f81 (h:PeerAt W bt i b q p):W.cell? ⟨b,81,none⟩ = some (.map q.ma):=h.box.cell (by omega)
theorem PeerAt.f82 (h:PeerAt W bt i b q p):W.cell? ⟨b,82,none⟩ = some (.bool p.established):=h.box.cell (by omega)
theorem PeerAt.cells (h:PeerAt W bt i b q p) (hx:PBox W' b bt i (byteCells p'.disk) (p'.tail q')) (hs:∀ k ∈ q.blocks,W'.heap[k]? = W.heap[k]?)
  (h1:q'.cm = q.cm ∧ q'.ct = q.ct ∧ q'.co = q.co)
  (h2:(q'.mv = q.mv ∧ p'.votes = p.votes) ∨ (q'.mv = none ∧ p'.votes = none)) (h3:(q'.ms = q.ms ∧ p'.settled = p.settled) ∨ (q'.ms = none ∧ p'.settled = none))
  (h4:(q'.mh = q.mh ∧ p'.heard = p.heard) ∨ (q'.mh = none ∧ p'.heard = none)) (h5:(q'.mj = q.mj ∧ p'.joined = p.joined) ∨ (q'.mj = none ∧ p'.joined = none))
  (h6:(q'.ma = q.ma ∧ p'.acked = p.acked) ∨ (q'.ma = none ∧ p'.acked = none)):PeerAt W' bt i b q' p' ∧ ∀ x ∈ q'.blocks,x ∈ q.blocks:=by
 have hs':∀ k,_ → W'.heap[k]? = W.heap[k]?:=fun k hk => hs k ((PL.mem_blocks q k).2 hk)
 obtain ⟨s1,r1,c1⟩:=h.cm
 obtain ⟨s2,r2,c2⟩:=h.ct
 obtain ⟨s3,r3,c3⟩:=h.co
 have sub:q'.blocks.Sublist q.blocks:=by
  unfold PL.blocks
  rw [h1.1,h1.2.1,h1.2.2]
  refine .cons_cons _ (.cons_cons _ (.cons_cons _ (.append ?_ (.append ?_ (.append ?_ (.append ?_ ?_))))))
  ·rcases h2 with ⟨e,_⟩ | ⟨e,_⟩ <;> simp [e]
  ·rcases h3 with ⟨e,_⟩ | ⟨e,_⟩ <;> simp [e]
  ·rcases h4 with ⟨e,_⟩ | ⟨e,_⟩ <;> simp [e]
  ·rcases h5 with ⟨e,_⟩ | ⟨e,_⟩ <;> simp [e]
  ·rcases h6 with ⟨e,_⟩ | ⟨e,_⟩ <;> simp [e]
 refine ⟨⟨hx,⟨s1,r1,?_⟩,⟨s2,r2,?_⟩,⟨s3,r3,?_⟩,?_,?_,?_,?_,?_,List.Nodup.sublist sub h.nd⟩,fun x hx => sub.subset hx⟩
 ·rw [h1.1];exact (hs' _ (by simp)).trans c1
 ·rw [h1.2.1];exact (hs' _ (by simp)).trans c2
 ·rw [h1.2.2];exact (hs' _ (by simp)).trans c3
 ·rcases h2 with ⟨e,e'⟩ | ⟨e,e'⟩
  ·rw [e,e'];exact h.mv.same (fun k hk => hs' k (by simp [hk]))
  ·rw [e,e'];trivial
 ·rcases h3 with ⟨e,e'⟩ | ⟨e,e'⟩
  ·rw [e,e'];exact h.ms.same (fun k hk => hs' k (by simp [hk]))
  ·rw [e,e'];trivial
 ·rcases h4 with ⟨e,e'⟩ | ⟨e,e'⟩
  ·rw [e,e'];exact h.mh.same (fun k hk => hs' k (by simp [hk]))
  ·rw [e,e'];trivial
 ·rcases h5 with ⟨e,e'⟩ | ⟨e,e'⟩
  ·rw [e,e'];exact h.mj.same (fun k hk => hs' k (by simp [hk]))
  ·rw [e,e'];trivial
 ·rcases h6 with ⟨e,e'⟩ | ⟨e,e'⟩
  ·rw [e,e'];exact h.ma.same (fun k hk => hs' k (by simp [hk]))
  ·rw [e,e'];trivial
theorem Keeps.own {fp:List Nat} {a w:World} (h:Keeps (b :: fp) a w) (k:Nat) (u:Value):Keeps (b :: fp) a (w.setCell ⟨b,k,none⟩ u):=h.setCell (.inl (by simp)) u
def sets (b:Nat):World → List (Nat × Value) → World
 | w,[] => w
 | w,x :: r => sets b (w.setCell ⟨b,x.1,none⟩ x.2) r
def tailSets:List Value → List (Nat × Value) → List Value
 | t,[] => t
 | t,x :: r => tailSets (t.set (x.1 - 58) x.2) r
theorem PBox.sets {d:List Value}:∀ (l:List (Nat × Value)) {w:World} {tl:List Value},PBox w b bt i d tl → (∀ x ∈ l,58 ≤ x.1) → PBox (sets b w l) b bt i d (tailSets tl l)
 | [],_,_,h,_ => h
 | x :: r,_,_,h,hl => PBox.sets r (h.set x.1 (hl x (by simp)) x.2) (fun y hy => hl y (by simp [hy]))
theorem sets_far {k:Nat} (hk:k ≠ b):∀ (l:List (Nat × Value)) (w:World),(sets b w l).heap[k]? = w.heap[k]?
 | [],_ => rfl
 | x :: r,w => (sets_far hk r _).trans (Below.heap_setCell w _ _ k hk)
theorem sets_keeps {fp:List Nat} {a:World}:∀ (l:List (Nat × Value)) {w:World},Keeps (b :: fp) a w → Keeps (b :: fp) a (sets b w l)
 | [],_,h => h
 | x :: r,_,h => sets_keeps r (h.own x.1 x.2)
theorem stores_close {pb bs:List Nat} {T:PTown} (hat:PeerAt W bt i b q p)
  (C:∀ W' q' p',PeerAt W' bt i b q' p' → (∀ x ∈ q'.blocks,x ∈ q.blocks ∨ W.heap.size ≤ x) → Keeps (b :: q.blocks) W W' → PDid W bt pb bs W' (T.setP i p'))
  (l:List (Nat × Value)) (q':PL) (p':PeerP) (hl:∀ x ∈ l,58 ≤ x.1) (ht:tailSets (p.tail q) l = p'.tail q') (hd:p'.disk = p.disk:=by rfl)
  (h1:q'.cm = q.cm ∧ q'.ct = q.ct ∧ q'.co = q.co:=by exact ⟨rfl,rfl,rfl⟩)
  (h2:(q'.mv = q.mv ∧ p'.votes = p.votes) ∨ (q'.mv = none ∧ p'.votes = none):=by first | exact .inl ⟨rfl,rfl⟩ | exact .inr ⟨rfl,rfl⟩)
  (h3:(q'.ms = q.ms ∧ p'.settled = p.settled) ∨ (q'.ms = none ∧ p'.settled = none):=by first | exact .inl ⟨rfl,rfl⟩ | exact .inr ⟨rfl,rfl⟩)
  (h4:(q'.mh = q.mh ∧ p'.heard = p.heard) ∨ (q'.mh = none ∧ p'.heard = none):=by first | exact .inl ⟨rfl,rfl⟩ | exact .inr ⟨rfl,rfl⟩)
  (h5:(q'.mj = q.mj ∧ p'.joined = p.joined) ∨ (q'.mj = none ∧ p'.joined = none):=by first | exact .inl ⟨rfl,rfl⟩ | exact .inr ⟨rfl,rfl⟩)
  (h6:(q'.ma = q.ma ∧ p'.acked = p.acked) ∨ (q'.ma = none ∧ p'.acked = none):=by first | exact .inl ⟨rfl,rfl⟩ | exact .inr ⟨rfl,rfl⟩) :
  PDid W bt pb bs (sets b W l) (T.setP i p'):=by
 have hb:=hat.b_notin
 obtain ⟨h7,h8⟩:=hat.cells (W':=sets b W l) (q':=q') (p':=p') (by rw [hd,← ht];exact hat.box.sets l hl) (fun k hk => sets_far (fun e => by subst e;exact hb hk) l W) h1 h2 h3 h4 h5 h6
 exact C _ q' p' h7 (fun x hx => .inl (h8 x hx)) (sets_keeps l (Keeps.refl _ _))
end
end Go.Proofs.YtceappncglfciaaGreat
