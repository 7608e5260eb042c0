import Derived.Test.YtceappncglfciaaGreatM08
import Derived.RangeFuncNested
import Derived.RangeFuncBound
import Derived.RangeFuncCalls
import Derived.RangeFuncLeaves
import Derived.Shelf.Abstract
import Derived.Shelf.RegionOpen
import Derived.OwnWalkIn
import Derived.TacticsInMore
import Derived.LoopNIn
import Derived.LoopIn
set_option linter.unusedVariables false
set_option linter.unusedSimpArgs false
namespace Go.Proofs.YtceappncglfciaaGreat
open Go.RowKit Go.Shelf
attribute [local go_sem] Oper.semAt_some
def slotOf (disk:ByteArray) (b:Bool):ByteArray:=cond b (disk.extract 28 56) (disk.extract 0 28)
def placeOf (b:Bool):Int:=cond b 28 0
def encsOf (disk:ByteArray) (b:Bool):Array Value:=#[.int .i64 (placeOf b),.string (slotOf disk b)]
def KpD (Bs:Nat) (A B:World):Prop:=B.cell? ⟨Bs,0,none⟩ = A.cell? ⟨Bs,0,none⟩
set_option maxHeartbeats 1000000 in
theorem each_in (F:Fence) (n:Nat) (h:F.fn 47) (hro:F.round = none) (disk:ByteArray) (w:World) :
  CallsIn F n Tryz.prog 47 #[.string disk] w fun e w' => e = .returned (.func (.func 73) #[] #[.pointer (some ⟨w.heap.size,0,none⟩)]) ∧ w' = w.alloc (.cells #[.string disk] 9):=by
 refine callsIn_of_wp Tryz.func47 rfl h ?_ hro
 simp only [Tryz.ntmps47,List.size_toArray,List.length_cons,List.length_nil,Nat.reduceAdd,Nat.reduceSub,Array.replicate_succ,Array.replicate_zero,List.push_toArray,List.append_toArray,List.nil_append,List.cons_append]
 gi_wp2
 go_ret
 exact ⟨rfl,rfl⟩
set_option maxRecDepth 100000 in
set_option maxHeartbeats 2000000 in
theorem each1_in (F:Fence) (n:Nat) (h:F.fn 73) (hro:F.round = none) (hn:1 ≤ n) (l Bs:Nat) (disk:ByteArray) (hd:disk.size = 56) (J Jx:List Bool → World → Prop)
  (hY:∀ pre x W,J pre W → pre.length < 2 → YieldAt F (n - 1) Tryz.prog l (encsOf disk x) W fun e W' =>
   (e = .returned (.bool true) ∧ J (pre ++ [x]) W' ∧ KpD Bs W W') ∨ (e = .returned (.bool false) ∧ Jx (pre ++ [x]) W'))
  (W:World) (hB:W.cell? ⟨Bs,0,none⟩ = some (.string disk)) (h0:J [] W) :
  CallsIn F n Tryz.prog 73 #[.func (.yield l) #[] #[],.pointer (some ⟨Bs,0,none⟩)] W fun e W' => (∃ v,e = .returned v) ∧
   ((∃ ys,ys = [false,true] ∧ J ys W') ∨ (∃ pre,True ∧ Jx pre W')):=by
 refine callsIn_of_wp Tryz.func73 rfl h ?_ hro
 simp only [Tryz.ntmps73,List.size_toArray,List.length_cons,List.length_nil,Nat.reduceAdd,Nat.reduceSub,Array.replicate_succ,Array.replicate_zero,List.push_toArray,List.append_toArray,List.nil_append,List.cons_append]
 gi_wp2
 gi_loopw [3] (fun i wr => wr.cell? ⟨Bs,0,none⟩ = some (.string disk) ∧ ((i = .int .i64 0 ∧ J [] wr) ∨ (i = .int .i64 28 ∧ J [false] wr) ∨ (i = .int .i64 56 ∧ J [false,true] wr)))
  (fun i _ => 56 - (RowKit.intOf i).toNat)
 case atStart => exact ⟨hB,.inl ⟨rfl,h0⟩⟩
 case round =>
  obtain ⟨hBr,hrel⟩:=hrel
  rcases hrel with ⟨rfl,hJs⟩ | ⟨rfl,hJs⟩ | ⟨rfl,hJs⟩
  ·obtain ⟨fn,tmps,assign,body,hy,hR⟩:=hY _ false wr hJs (by simp)
   dsimp only [encsOf,placeOf,slotOf,cond_false] at hy
   gi_wp2
   refine hR.mono ?_
   rintro e W3 (⟨rfl,hJ3,hk3⟩ | ⟨rfl,hJx3⟩)
   ·gi_wp2
    go_roundw
    case rel => exact ⟨Eq.trans hk3 hBr,.inr (.inl ⟨rfl,hJ3⟩)⟩
    case measure => simp [RowKit.intOf]
   ·gi_wp2
    refine bodyPost_ret (results_none rfl _ _ _) rfl ?_
    exact ⟨⟨_,rfl⟩,.inr ⟨_,trivial,hJx3⟩⟩
  ·obtain ⟨fn,tmps,assign,body,hy,hR⟩:=hY _ true wr hJs (by simp)
   dsimp only [encsOf,placeOf,slotOf,cond_true] at hy
   gi_wp2
   refine hR.mono ?_
   rintro e W3 (⟨rfl,hJ3,hk3⟩ | ⟨rfl,hJx3⟩)
   ·gi_wp2
    go_roundw
    case rel => exact ⟨Eq.trans hk3 hBr,.inr (.inr ⟨rfl,hJ3⟩)⟩
    case measure => simp [RowKit.intOf]
   ·gi_wp2
    refine bodyPost_ret (results_none rfl _ _ _) rfl ?_
    exact ⟨⟨_,rfl⟩,.inr ⟨_,trivial,hJx3⟩⟩
  ·gi_wp2
   go_end0
   exact ⟨⟨_,rfl⟩,.inl ⟨_,rfl,hJs⟩⟩
theorem each_stops (F:Fence) (n:Nat) (h:F.fn 73) (hro:F.round = none) (hn:1 ≤ n) (Bs:Nat) (disk:ByteArray) (hd:disk.size = 56) (w:World) (hlt:Bs < w.heap.size) (hB:w.cell? ⟨Bs,0,none⟩ = some (.string disk)) :
  SeqStopsK F n Tryz.prog 73 #[.pointer (some ⟨Bs,0,none⟩)] (encsOf disk) (KpD Bs) (fun ys => ys = [false,true]) (fun _ => True) 2 w:=fun l J Jx W hW _ _ hY h0 =>
 each1_in F n h hro hn l Bs disk hd J Jx hY W ((hW.cell (p:=⟨Bs,0,none⟩) hlt).trans hB) h0
end Go.Proofs.YtceappncglfciaaGreat
namespace Go.Proofs.YtceappncglfciaaGreat
open Go.RowKit Go.Shelf
attribute [local go_sem] Oper.semAt_some
theorem KpD_t {Bs:Nat} {A B C:World} (h:KpD Bs A B) (k:KpD Bs B C):KpD Bs A C:=Eq.trans k h
theorem KpD_b {Bs m:Nat} (hm:Bs < m) (W:World) (l:Nat) (o o':Obj) (hl:m ≤ l) (_:W.heap[l]? = some o) (_:o.isCells = false) (_:o.isWalk = false):KpD Bs W (W.putObj l o') :=
 World.cell?_of_block (World.putObj_heap_other (by show Bs ≠ l;omega))
theorem KpD_box {Bs:Nat} {A B:World} {cs:Array Value} {t:TypeId} (ha:Box A Bs cs t) (hb:Box B Bs cs t):KpD Bs A B:=by
 show B.cell? _ = A.cell? _
 rw [ha.cell 0,hb.cell 0]
theorem Box.own {β:Type} (b:Nat) (f:β → Array Value) (t:TypeId):Own (fun s W => Box W b (f s) t):=fun s X Y row hs hg hrow =>
 (hg.block b (Box.lt hs) (fun e' => by
  obtain ⟨o,ho,hc⟩:=hrow b e'.symm
  rw [show X.heap[b]? = _ from hs] at ho
  cases ho;cases hc)).trans hs
theorem Box.putObj {W:World} {b:Nat} {cs:Array Value} {t:TypeId} (h:Box W b cs t) {l:Nat} (hne:b ≠ l) (o:Obj):Box (W.putObj l o) b cs t :=
 (World.putObj_heap_other hne).trans h
theorem keepsFrom_of_below {B:Nat} {W W':World} (h:Below W.heap.size W W'):KeepsFrom B W W' :=
 ⟨h.size,fun k _ _ hk _ => (h.block k (Array.getElem?_eq_some_iff.1 hk).1).trans hk⟩
structure Nw where
 p:Int
 t:Int
 e:Int
 v:Int
 n:Int
 a:Int
def nw0:Nw:=⟨0,0,0,0,0,-1⟩
def Nw.cred (s:Nw):Array Value:=#[.int .i64 s.p,.int .i64 s.t,.int .i64 s.e,.int .i64 s.v]
def nwStep (disk:ByteArray) (s:Nw) (b:Bool):Nw :=
 if (rightP (slotOf disk b) && decide (s.n < at4 (slotOf disk b) 0)) = true then ⟨at4 (slotOf disk b) 1,at4 (slotOf disk b) 2,at4 (slotOf disk b) 3,at4 (slotOf disk b) 4,at4 (slotOf disk b) 0,placeOf b⟩ else s
def nwOf (disk:ByteArray) (l:List Bool):Nw:=l.foldl (nwStep disk) nw0
theorem nwOf_snoc (disk:ByteArray) (l:List Bool) (b:Bool):nwOf disk (l ++ [b]) = nwStep disk (nwOf disk l) b:=by simp [nwOf]
theorem slotOf_size (disk:ByteArray) (hd:disk.size = 56) (b:Bool):(slotOf disk b).size = 28:=by
 cases b
 ·show (disk.extract 0 28).size = 28
  rw [ByteArray.size_extract];omega
 ·show (disk.extract 28 56).size = 28
  rw [ByteArray.size_extract];omega
def InvN (w:World) (disk:ByteArray) (s:Nw) (W:World):Prop :=
 Box W w.heap.size #[.int .i64 0,.int .i64 0,.int .i64 0,.int .i64 0] 39 ∧ Box W (w.heap.size + 1) s.cred 39 ∧ Box W (w.heap.size + 1 + 1) #[.int .i64 s.n] 3 ∧ Box W (w.heap.size + 1 + 1 + 1) #[.int .i64 s.a] 3 ∧ Box W (w.heap.size + 1 + 1 + 1 + 1) #[.string disk] 9 ∧ Below w.heap.size w W
theorem InvN.alloc {w:World} {disk:ByteArray} {s:Nw} {W:World} (h:InvN w disk s W) (o:Obj):InvN w disk s (W.alloc o) :=
 ⟨h.1.alloc o,h.2.1.alloc o,h.2.2.1.alloc o,h.2.2.2.1.alloc o,h.2.2.2.2.1.alloc o,h.2.2.2.2.2.alloc h.2.2.2.2.2.size o⟩
theorem InvN.store {w:World} {disk:ByteArray} {s:Nw} {W:World} (h:InvN w disk s W) (n1 n2 n3 n4 n0 a:Int) :
  InvN w disk ⟨n1,n2,n3,n4,n0,a⟩ ((((((W.setCell ⟨w.heap.size + 1,0,none⟩ (.int .i64 n1)).setCell ⟨w.heap.size + 1,1,none⟩ (.int .i64 n2)).setCell ⟨w.heap.size + 1,2,none⟩ (.int .i64 n3)).setCell ⟨w.heap.size + 1,3,none⟩ (.int .i64 n4)).setCell ⟨w.heap.size + 1 + 1,0,none⟩ (.int .i64 n0)).setCell ⟨w.heap.size + 1 + 1 + 1,0,none⟩ (.int .i64 a)):=by
 obtain ⟨b0,b1,b2,b3,b4,bl⟩:=h
 refine ⟨?_,?_,?_,?_,?_,?_⟩
 ·exact (((((b0.setOther (by show _ ≠ _ + 1;omega) _).setOther (by show _ ≠ _ + 1;omega) _).setOther (by show _ ≠ _ + 1;omega) _).setOther (by show _ ≠ _ + 1;omega) _).setOther (by show _ ≠ _ + 1 + 1;omega) _).setOther (by show _ ≠ _ + 1 + 1 + 1;omega) _
 ·exact (((((b1.set 0 _).set 1 _).set 2 _).set 3 _).setOther (by show _ ≠ _ + 1 + 1;omega) _).setOther (by show _ ≠ _ + 1 + 1 + 1;omega) _
 ·exact (((((b2.setOther (by show _ ≠ _ + 1;omega) _).setOther (by show _ ≠ _ + 1;omega) _).setOther (by show _ ≠ _ + 1;omega) _).setOther (by show _ ≠ _ + 1;omega) _).set 0 _).setOther (by show _ ≠ _ + 1 + 1 + 1;omega) _
 ·exact (((((b3.setOther (by show _ ≠ _ + 1;omega) _).setOther (by show _ ≠ _ + 1;omega) _).setOther (by show _ ≠ _ + 1;omega) _).setOther (by show _ ≠ _ + 1;omega) _).setOther (by show _ ≠ _ + 1 + 1;omega) _).set 0 _
 ·exact (((((b4.setOther (by show _ ≠ _ + 1;omega) _).setOther (by show _ ≠ _ + 1;omega) _).setOther (by show _ ≠ _ + 1;omega) _).setOther (by show _ ≠ _ + 1;omega) _).setOther (by show _ ≠ _ + 1 + 1;omega) _).setOther (by show _ ≠ _ + 1 + 1 + 1;omega) _
 ·exact (((((bl.setCell (by show _ ≤ _ + 1;omega) _).setCell (by show _ ≤ _ + 1;omega) _).setCell (by show _ ≤ _ + 1;omega) _).setCell (by show _ ≤ _ + 1;omega) _).setCell (by show _ ≤ _ + 1 + 1;omega) _).setCell (by show _ ≤ _ + 1 + 1 + 1;omega) _
theorem keepsFrom_sets {B:Nat} {W:World} (a1 a2 a3 a4 a5 a6:Addr) (v1 v2 v3 v4 v5 v6:Value):KeepsFrom B W ((((((W.setCell a1 v1).setCell a2 v2).setCell a3 v3).setCell a4 v4).setCell a5 v5).setCell a6 v6) :=
 ((((((KeepsOthers.setCell W a1 v1).trans (KeepsOthers.setCell _ _ _)).trans (KeepsOthers.setCell _ _ _)).trans (KeepsOthers.setCell _ _ _)).trans (KeepsOthers.setCell _ _ _)).trans (KeepsOthers.setCell _ _ _)).from B
set_option maxRecDepth 100000 in
set_option maxHeartbeats 2000000 in
theorem newest_56 (disk:ByteArray) (w:World) (hd:disk.size = 56) :
  Calls Tryz.prog 22 #[.string disk] w fun o w' => o = .returned (.tuple #[.agg (nwOf disk [false,true]).cred,.int .i64 (nwOf disk [false,true]).n,.int .i64 (nwOf disk [false,true]).a]) ∧ Below w.heap.size w w':=by
 refine (callsIn_wide (n:=6)).1 ?_
 refine callsIn_of_wp_marks Tryz.func22 rfl trivial ?_ rfl
 simp only [Tryz.ntmps22,List.size_toArray,List.length_cons,List.length_nil,Nat.reduceAdd,Nat.reduceSub,Array.replicate_succ,Array.replicate_zero,List.push_toArray,List.append_toArray,List.nil_append,List.cons_append]
 gi_wp2_with fail
 refine ⟨trivial,?_⟩
 refine (each_in Fence.wide _ trivial rfl disk _).mono ?_
 rintro o w1 ⟨rfl,rfl⟩
 gi_wp2_with fail
 obtain ⟨W0,hW0⟩:∃ W0,((((w.alloc (.cells #[.int .i64 0,.int .i64 0,.int .i64 0,.int .i64 0] 39)).alloc (.cells #[.int .i64 0,.int .i64 0,.int .i64 0,.int .i64 0] 39)).alloc (.cells #[.int .i64 0] 3)).alloc (.cells #[.int .i64 (-1)] 3)).alloc (.cells #[.string disk] 9) = W0:=⟨_,rfl⟩
 have hinv:InvN w disk nw0 W0:=by
  rw [← hW0]
  refine ⟨((((Box.new w _ 39).alloc _).alloc _).alloc _).alloc _,?_,?_,?_,?_,?_⟩
  ·have:=((((Box.new (w.alloc (.cells #[.int .i64 0,.int .i64 0,.int .i64 0,.int .i64 0] 39)) #[.int .i64 0,.int .i64 0,.int .i64 0,.int .i64 0] 39).alloc (.cells #[.int .i64 0] 3)).alloc (.cells #[.int .i64 (-1)] 3)).alloc (.cells #[.string disk] 9))
   rw [World.size_alloc] at this
   exact this
  ·have:=((Box.new ((w.alloc (.cells #[.int .i64 0,.int .i64 0,.int .i64 0,.int .i64 0] 39)).alloc (.cells #[.int .i64 0,.int .i64 0,.int .i64 0,.int .i64 0] 39)) #[.int .i64 0] 3).alloc (.cells #[.int .i64 (-1)] 3)).alloc (.cells #[.string disk] 9)
   rw [World.size_alloc,World.size_alloc] at this
   exact this
  ·have:=(Box.new (((w.alloc (.cells #[.int .i64 0,.int .i64 0,.int .i64 0,.int .i64 0] 39)).alloc (.cells #[.int .i64 0,.int .i64 0,.int .i64 0,.int .i64 0] 39)).alloc (.cells #[.int .i64 0] 3)) #[.int .i64 (-1)] 3).alloc (.cells #[.string disk] 9)
   rw [World.size_alloc,World.size_alloc,World.size_alloc] at this
   exact this
  ·have:=Box.new ((((w.alloc (.cells #[.int .i64 0,.int .i64 0,.int .i64 0,.int .i64 0] 39)).alloc (.cells #[.int .i64 0,.int .i64 0,.int .i64 0,.int .i64 0] 39)).alloc (.cells #[.int .i64 0] 3)).alloc (.cells #[.int .i64 (-1)] 3)) #[.string disk] 9
   rw [World.size_alloc,World.size_alloc,World.size_alloc,World.size_alloc] at this
   exact this
  ·exact (((((Below.refl _ w).alloc (Nat.le_refl _) _).alloc (by simp) _).alloc (by simp;omega) _).alloc (by simp;omega) _).alloc (by simp;omega) _
 have hsz:W0.heap.size = w.heap.size + 5:=by rw [← hW0];simp
 rw [hW0]
 clear hW0
 refine wpIn_rangeFunc_ownG rfl (by omega) (gf:=73) (lb:=#[.pointer (some ⟨w.heap.size + 1 + 1 + 1 + 1,0,none⟩)]) rfl trivial (enters_of Tryz.func73 (by kernel_rfl) rfl)
  (each_stops Fence.wide _ trivial rfl (by omega) (w.heap.size + 1 + 1 + 1 + 1) disk hd W0 (by omega) (hinv.2.2.2.2.1.cell 0)) KpD_t (KpD_b (by omega)) (Below.refl _ _) (fun _ => rfl)
  (fun pre W => InvN w disk (nwOf disk pre) W)
  (fun _ _ _ => False)
  (fun pre A B row hs hg hr => ⟨Box.own w.heap.size (fun _:Unit => _) 39 () A B row hs.1 hg (fun r e => (hr r e).2),Box.own (w.heap.size + 1) (fun _:Unit => _) 39 () A B row hs.2.1 hg (fun r e => (hr r e).2),Box.own (w.heap.size + 1 + 1) (fun _:Unit => _) 3 () A B row hs.2.2.1 hg (fun r e => (hr r e).2),Box.own (w.heap.size + 1 + 1 + 1) (fun _:Unit => _) 3 () A B row hs.2.2.2.1 hg (fun r e => (hr r e).2),Box.own (w.heap.size + 1 + 1 + 1 + 1) (fun _:Unit => _) 9 () A B row hs.2.2.2.2.1 hg (fun r e => (hr r e).2),hs.2.2.2.2.2.grown hg hs.2.2.2.2.2.size (fun k e => by have:=(hr k e).1;omega)⟩)
  (fun _ _ _ _ _ hs _ _ => hs)
  hinv
  (fun x => { tmps:=#[.string disk,undef,.pointer (some ⟨w.heap.size,0,none⟩),.int .i64 0,.int .i64 0,.pointer (some ⟨w.heap.size + 1,0,none⟩),.pointer (some ⟨w.heap.size + 1 + 1,0,none⟩),.pointer (some ⟨w.heap.size + 1 + 1 + 1,0,none⟩),.int .i64 (placeOf x),.string (slotOf disk x),undef,undef,undef,.agg #[.int .i64 0,.int .i64 0,.int .i64 0,.int .i64 0],.string disk,.int .i64 56,.bool false,undef,undef,undef,.string disk,.func (.func 73) #[] #[.pointer (some ⟨w.heap.size + 1 + 1 + 1 + 1,0,none⟩)],.int .i64 (placeOf x),.string (slotOf disk x),undef,undef,undef,undef,undef,undef,undef,undef,undef,undef,undef,undef,undef,undef,undef,undef,undef,undef],defers:=[] }) ?assign ?body ?done ?stop
 case assign =>
  intro l x W K hK
  dsimp only [encsOf]
  gi_wp2
  exact hK
 case body =>
  rintro l pre x W hs hlt
  clear hinv hlt
  have HG:Hid (∀ W2,InvN w disk (nwStep disk (nwOf disk pre) x) W2 → InvN w disk (nwOf disk (pre ++ [x])) W2):=fun W2 h2 => by rw [nwOf_snoc];exact h2
  have HST:Hid (∀ r:Bool,rightP (slotOf disk x) = r → nwStep disk (nwOf disk pre) x = if (r && decide ((nwOf disk pre).n < at4 (slotOf disk x) 0)) = true then ⟨at4 (slotOf disk x) 1,at4 (slotOf disk x) 2,at4 (slotOf disk x) 3,at4 (slotOf disk x) 4,at4 (slotOf disk x) 0,placeOf x⟩ else nwOf disk pre):=fun r hr => by subst hr;rfl
  have hread:=read_any (slotOf disk x) W (slotOf_size disk hd x)
  have HR:=hide (CallsIn.inRound (F:=Fence.wide) (n:=3) l (callsIn_wide.2 hread))
  clear hread
  generalize nwStep disk (nwOf disk pre) x = st2 at *
  generalize nwOf disk pre = st at *
  generalize at4 (slotOf disk x) 0 = n0 at *
  generalize at4 (slotOf disk x) 1 = n1 at *
  generalize at4 (slotOf disk x) 2 = n2 at *
  generalize at4 (slotOf disk x) 3 = n3 at *
  generalize at4 (slotOf disk x) 4 = n4 at *
  generalize hrp:rightP (slotOf disk x) = r at *
  have HST2:=hide ((unhide HST) r rfl)
  clear HST hrp
  obtain ⟨b0,b1,b2,b3,b4,bl⟩:=hs
  have HS:=hide (And.intro b0 (And.intro b1 (And.intro b2 (And.intro b3 (And.intro b4 bl)))))
  clear b0 b1 b2 b3 b4 bl
  gi_wp2_with fail
  refine ⟨trivial,?_⟩
  refine (unhide HR).mono ?_
  rintro o w1 ⟨rfl,hB1⟩
  obtain ⟨b0,b1,b2,b3,b4,bl⟩:=unhide HS
  have e0:=b0.keep hB1
  have e1:=b1.keep hB1
  have e2:=b2.keep hB1
  have e3:=b3.keep hB1
  have e4:=b4.keep hB1
  have el:=bl.trans (hB1.mono bl.size)
  have q1:=b1.lt
  have hsz1:=hB1.size
  have KF:=hide (keepsFrom_of_below (B:=W0.heap.size) hB1)
  have c1:=e1.cell 0
  have c2:=e1.cell 1
  have c3:=e1.cell 2
  have c4:=e1.cell 3
  have f1:=e1.frozen 0
  have f2:=e1.frozen 1
  have f3:=e1.frozen 2
  have f4:=e1.frozen 3
  have c5:=e2.cell 0
  have f5:=e2.frozen 0
  have c6:=e3.cell 0
  have f6:=e3.frozen 0
  have u1:w.heap.size + 1 < w1.heap.size:=e1.lt
  have u2:w.heap.size + 1 + 1 < w1.heap.size:=e2.lt
  have u3:w.heap.size + 1 + 1 + 1 < w1.heap.size:=e3.lt
  simp only [Nw.cred] at c1 c2 c3 c4
  have HE:Hid (InvN w disk st w1):=hide (And.intro e0 (And.intro e1 (And.intro e2 (And.intro e3 (And.intro e4 el)))))
  have K4:=hide b4
  clear b0 b1 b2 b3 b4 bl e0 e1 e2 e3 e4 el hB1 HR HS q1 hsz1
  cases r with
  | false =>
   have hst:st2 = st:=by rw [unhide HST2];simp
   have fin:=hide (And.intro ((unhide KF).trans ((KeepsOthers.alloc w1 (.cells #[.int .i64 n1,.int .i64 n2,.int .i64 n3,.int .i64 n4] 39)).from _)) (And.intro (KpD_box (unhide K4) ((unhide HE).alloc (.cells #[.int .i64 n1,.int .i64 n2,.int .i64 n3,.int .i64 n4] 39)).2.2.2.2.1) (unhide HG _ (by rw [hst];exact (unhide HE).alloc (.cells #[.int .i64 n1,.int .i64 n2,.int .i64 n3,.int .i64 n4] 39)))))
   clear hst HG HE K4 KF HST2
   gi_wp2
   exact unhide fin
  | true =>
   by_cases hn:st.n < n0
   ·have hst:st2 = ⟨n1,n2,n3,n4,n0,placeOf x⟩:=by rw [unhide HST2];simp [hn]
    have hinv2:=((unhide HE).store n1 n2 n3 n4 n0 (placeOf x)).alloc (.cells #[.int .i64 n1,.int .i64 n2,.int .i64 n3,.int .i64 n4] 39)
    have fin:=hide (And.intro (((unhide KF).trans (keepsFrom_sets ⟨w.heap.size + 1,0,none⟩ ⟨w.heap.size + 1,1,none⟩ ⟨w.heap.size + 1,2,none⟩ ⟨w.heap.size + 1,3,none⟩ ⟨w.heap.size + 1 + 1,0,none⟩ ⟨w.heap.size + 1 + 1 + 1,0,none⟩ (.int .i64 n1) (.int .i64 n2) (.int .i64 n3) (.int .i64 n4) (.int .i64 n0) (.int .i64 (placeOf x)))).trans ((KeepsOthers.alloc _ (.cells #[.int .i64 n1,.int .i64 n2,.int .i64 n3,.int .i64 n4] 39)).from _)) (And.intro (KpD_box (unhide K4) hinv2.2.2.2.2.1) (unhide HG _ (by rw [hst];exact hinv2))))
    clear hst HG HE K4 KF HST2 hinv2
    gi_wp2
    exact unhide fin
   ·have hst:st2 = st:=by rw [unhide HST2];simp [hn]
    have fin:=hide (And.intro ((unhide KF).trans ((KeepsOthers.alloc w1 (.cells #[.int .i64 n1,.int .i64 n2,.int .i64 n3,.int .i64 n4] 39)).from _)) (And.intro (KpD_box (unhide K4) ((unhide HE).alloc (.cells #[.int .i64 n1,.int .i64 n2,.int .i64 n3,.int .i64 n4] 39)).2.2.2.2.1) (unhide HG _ (by rw [hst];exact (unhide HE).alloc (.cells #[.int .i64 n1,.int .i64 n2,.int .i64 n3,.int .i64 n4] 39)))))
    clear hst HG HE K4 KF HST2
    gi_wp2
    exact unhide fin
 case done =>
  rintro D ys W hD rfl hs hK
  clear hinv
  generalize hst:nwOf disk [false,true] = st at *
  have HST:=hide hst
  clear hst
  obtain ⟨b0,b1,b2,b3,b4,bl⟩:=hs
  have c1:=b1.cell 0
  have c2:=b1.cell 1
  have c3:=b1.cell 2
  have c4:=b1.cell 3
  have c5:=b2.cell 0
  have c6:=b3.cell 0
  have c7:=b0.cell 0
  have c8:=b0.cell 1
  have c9:=b0.cell 2
  have c10:=b0.cell 3
  have f7:=b0.frozen 0
  have f8:=b0.frozen 1
  have f9:=b0.frozen 2
  have f10:=b0.frozen 3
  simp only [Nw.cred] at c1 c2 c3 c4
  have HS:=hide (And.intro b0 (And.intro b4 bl))
  have HK:=hide hK
  clear b0 b1 b2 b3 b4 bl hK
  have hmx:Tryz.prog.follows .mixedOrders = true:=by kernel_rfl
  gi_wp2_with fail
  gi_region
  gi_wp2
  have hK:=unhide HK
  obtain ⟨b0,_,bl⟩:=unhide HS
  have hKV:((((W.setCell ⟨w.heap.size,0,none⟩ (.int .i64 st.p)).setCell ⟨w.heap.size,1,none⟩ (.int .i64 st.t)).setCell ⟨w.heap.size,2,none⟩ (.int .i64 st.e)).setCell ⟨w.heap.size,3,none⟩ (.int .i64 st.v)).drew.heap[D]? = some (.deferred (some [])) :=
   ((((KeepsOthers.setCell W _ _).trans (KeepsOthers.setCell _ _ _)).trans (KeepsOthers.setCell _ _ _)).trans (KeepsOthers.setCell _ _ _)).same D _ hK rfl
  have bV:Box (((((W.setCell ⟨w.heap.size,0,none⟩ (.int .i64 st.p)).setCell ⟨w.heap.size,1,none⟩ (.int .i64 st.t)).setCell ⟨w.heap.size,2,none⟩ (.int .i64 st.e)).setCell ⟨w.heap.size,3,none⟩ (.int .i64 st.v)).drew.putObj D (.deferred none)) w.heap.size #[.int .i64 st.p,.int .i64 st.t,.int .i64 st.e,.int .i64 st.v] 39 :=
   Box.putObj (show Box ((((W.setCell ⟨w.heap.size,0,none⟩ (.int .i64 st.p)).setCell ⟨w.heap.size,1,none⟩ (.int .i64 st.t)).setCell ⟨w.heap.size,2,none⟩ (.int .i64 st.e)).setCell ⟨w.heap.size,3,none⟩ (.int .i64 st.v)).drew w.heap.size #[.int .i64 st.p,.int .i64 st.t,.int .i64 st.e,.int .i64 st.v] 39 from (((b0.set 0 _).set 1 _).set 2 _).set 3 _) (by omega) _
  have blV:Below w.heap.size w (((((W.setCell ⟨w.heap.size,0,none⟩ (.int .i64 st.p)).setCell ⟨w.heap.size,1,none⟩ (.int .i64 st.t)).setCell ⟨w.heap.size,2,none⟩ (.int .i64 st.e)).setCell ⟨w.heap.size,3,none⟩ (.int .i64 st.v)).drew.putObj D (.deferred none)) :=
   (((((bl.setCell (p:=⟨w.heap.size,0,none⟩) (Nat.le_refl _) _).setCell (p:=⟨w.heap.size,1,none⟩) (Nat.le_refl _) _).setCell (p:=⟨w.heap.size,2,none⟩) (Nat.le_refl _) _).setCell (p:=⟨w.heap.size,3,none⟩) (Nat.le_refl _) _).drew).trans (belowK_b (w:=w) (Nat.le_refl _) _ D _ _ (by omega) hKV rfl rfl)
  refine ⟨by simp,.inl ⟨_,_,rfl,run_takeDeferred hKV,?_⟩⟩
  generalize ((((W.setCell ⟨w.heap.size,0,none⟩ (.int .i64 st.p)).setCell ⟨w.heap.size,1,none⟩ (.int .i64 st.t)).setCell ⟨w.heap.size,2,none⟩ (.int .i64 st.e)).setCell ⟨w.heap.size,3,none⟩ (.int .i64 st.v)).drew.putObj D (.deferred none) = V at *
  have d0:=bV.cell 0
  have d1:=bV.cell 1
  have d2:=bV.cell 2
  have d3:=bV.cell 3
  refine ⟨.tuple #[.agg #[.int .i64 st.p,.int .i64 st.t,.int .i64 st.e,.int .i64 st.v],.int .i64 st.n,.int .i64 st.a],by simp [results,Tryz.results22,go_sem,d0,d1,d2,d3],?_,blV⟩
  rw [unhide HST]
  rfl
 case stop =>
  rintro D c pre W _ _ h _
  exact h.elim
end Go.Proofs.YtceappncglfciaaGreat
