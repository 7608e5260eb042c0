import Derived.RowKit
import Derived.Test.YtceappncglfciaaGreatRows
import Derived.Test.YtceappncglfciaaGreatM00
import Derived.WalkKit
import Derived.WalkSpells
import Derived.WalkLawsBesides
import Derived.Deep.AppendLies
import Derived.Deep.MidRow
import Derived.Deep.DrawnRows
import Derived.Deep.RegionHeld3
import Derived.Deep.RegionLaw
import Derived.BigQuiet
import Derived.Deep.QuietTactic
import Derived.WalkSmall
set_option linter.unusedVariables false
set_option linter.unusedSimpArgs false
namespace Go.Proofs.YtceappncglfciaaGreat
section
variable {α β:Type} (f:α → List β) (c:Nat)
theorem flat_len:∀ l:List α,(∀ x ∈ l,(f x).length = c) → (l.flatMap f).length = l.length * c
 | [],_ => by simp
 | x :: l,h => by
  rw [List.flatMap_cons,List.length_append,h x (by simp),flat_len l (fun y hy => h y (by simp [hy])),List.length_cons]
  rw [Nat.succ_mul];omega
theorem flat_get:∀ (l:List α) (i j:Nat) (x:α),(∀ y ∈ l,(f y).length = c) → l[i]? = some x → j < c → (l.flatMap f)[i * c + j]? = (f x)[j]?
 | [],_,_,_,_,h,_ => by simp at h
 | y :: l,0,j,x,hl,h,hj => by
  have hy:y = x:=by simpa using h
  subst hy
  have:=hl y (by simp)
  rw [List.flatMap_cons,Nat.zero_mul,Nat.zero_add,List.getElem?_append_left (by omega)]
 | y :: l,i + 1,j,x,hl,h,hj => by
  have hy:=hl y (by simp)
  have hx:l[i]? = some x:=by simpa using h
  rw [List.flatMap_cons,List.getElem?_append_right (by rw [hy,Nat.succ_mul];omega),hy]
  rw [show (i + 1) * c + j - c = i * c + j from by rw [Nat.succ_mul];omega]
  exact flat_get l i j x (fun z hz => hl z (by simp [hz])) hx hj
theorem flat_set:∀ (l:List α) (i j:Nat) (x x':α) (u:β),(∀ y ∈ l,(f y).length = c) → l[i]? = some x → j < c → f x' = (f x).set j u → (l.flatMap f).set (i * c + j) u = (l.set i x').flatMap f
 | [],_,_,_,_,_,_,h,_,_ => by simp at h
 | y :: l,0,j,x,x',u,hl,h,hj,hx' => by
  have hy:y = x:=by simpa using h
  subst hy
  have:=hl y (by simp)
  rw [List.flatMap_cons,Nat.zero_mul,Nat.zero_add,List.set_append_left _ _ (by omega),List.set_cons_zero,List.flatMap_cons,hx']
 | y :: l,i + 1,j,x,x',u,hl,h,hj,hx' => by
  have hy:=hl y (by simp)
  have hx:l[i]? = some x:=by simpa using h
  rw [List.flatMap_cons,List.set_append_right _ _ (by rw [hy,Nat.succ_mul];omega),hy,List.set_cons_succ,List.flatMap_cons]
  rw [show (i + 1) * c + j - c = i * c + j from by rw [Nat.succ_mul];omega]
  rw [flat_set l i j x x' u (fun z hz => hl z (by simp [hz])) hx hj hx']
def splice (l:List β) (o:Nat) (vs:List β):List β:=l.take o ++ (vs ++ l.drop (o + vs.length))
theorem splice_len (l:List β) (o:Nat) (vs:List β) (h:o + vs.length ≤ l.length):(splice l o vs).length = l.length:=by
 simp [splice];omega
theorem splice_nil (l:List β) (o:Nat):splice l o [] = l:=by simp [splice]
theorem splice_cons (l:List β) (o:Nat) (v:β) (vs:List β) (h:o < l.length):splice (l.set o v) (o + 1) vs = splice l o (v :: vs):=by
 unfold splice
 rw [List.take_set,List.take_succ_eq_append_getElem h,List.set_append_right _ _ (by simp;omega),List.drop_set_of_lt (by omega)]
 have hm:min o l.length = o:=by omega
 simp [hm,show o + 1 + vs.length = o + (vs.length + 1) from by omega]
theorem splice_left (a b:List β) (o:Nat) (vs:List β) (h:o + vs.length ≤ a.length):splice (a ++ b) o vs = splice a o vs ++ b:=by
 unfold splice
 rw [List.take_append_of_le_length (by omega),List.drop_append_of_le_length (by omega)]
 simp
theorem splice_right (a b:List β) (o:Nat) (vs:List β) (h:a.length ≤ o):splice (a ++ b) o vs = a ++ splice b (o - a.length) vs:=by
 unfold splice
 rw [List.take_append,List.take_of_length_le h,List.drop_append,List.drop_of_length_le (by omega)]
 simp [show o + vs.length - a.length = o - a.length + vs.length from by omega]
theorem splice_all (l:List β) (vs:List β) (h:vs.length = l.length):splice l 0 vs = vs:=by
 unfold splice
 simp [List.drop_of_length_le (show l.length ≤ vs.length by omega)]
theorem flat_splice:∀ (l:List α) (i j:Nat) (x x':α) (vs:List β),(∀ y ∈ l,(f y).length = c) → l[i]? = some x → j + vs.length ≤ c → f x' = splice (f x) j vs → splice (l.flatMap f) (i * c + j) vs = (l.set i x').flatMap f
 | [],_,_,_,_,_,_,h,_,_ => by simp at h
 | y :: l,0,j,x,x',vs,hl,h,hj,hx' => by
  have hy:y = x:=by simpa using h
  subst hy
  have:=hl y (by simp)
  rw [List.flatMap_cons,Nat.zero_mul,Nat.zero_add,splice_left _ _ _ _ (by omega),List.set_cons_zero,List.flatMap_cons,hx']
 | y :: l,i + 1,j,x,x',vs,hl,h,hj,hx' => by
  have hy:=hl y (by simp)
  have hx:l[i]? = some x:=by simpa using h
  rw [List.flatMap_cons,splice_right _ _ _ _ (by rw [hy,Nat.succ_mul];omega),hy,List.set_cons_succ,List.flatMap_cons]
  rw [show (i + 1) * c + j - c = i * c + j from by rw [Nat.succ_mul];omega]
  rw [flat_splice l i j x x' vs (fun z hz => hl z (by simp [hz])) hx hj hx']
end
end Go.Proofs.YtceappncglfciaaGreat
namespace Go.Proofs.YtceappncglfciaaGreat
open Go.RowKit
theorem hide {p:Prop} (h:p):Hid p:=h
theorem unhide {p:Prop} (h:Hid p):p:=h
theorem ret_bool {a b:Bool} (h:a = b):Ending.returned (.bool a) = .returned (.bool b):=by rw [h]
def I64 (x:Int):Prop:=-9223372036854775808 ≤ x ∧ x ≤ 9223372036854775807
def Box (W:World) (b:Nat) (cs:Array Value) (t:TypeId):Prop:=W.heap[b]? = some (.cells cs t (0,0))
theorem Box.new (w:World) (cs:Array Value) (t:TypeId):Box (w.alloc (.cells cs t)) w.heap.size cs t:=heap_alloc_new w _
theorem Box.lt {W:World} {b:Nat} {cs:Array Value} {t:TypeId} (h:Box W b cs t):b < W.heap.size:=(Array.getElem?_eq_some_iff.1 h).1
theorem Box.keep {W W':World} {b:Nat} {cs:Array Value} {t:TypeId} (h:Box W b cs t) (hb:Below W.heap.size W W'):Box W' b cs t:=(hb.block b h.lt).trans h
theorem Box.alloc {W:World} {b:Nat} {cs:Array Value} {t:TypeId} (h:Box W b cs t) (o:Obj):Box (W.alloc o) b cs t:=h.keep ((Below.refl _ _).alloc (Nat.le_refl _) _)
theorem Box.cell {W:World} {b:Nat} {cs:Array Value} {t:TypeId} (h:Box W b cs t) (i:Nat):W.cell? ⟨b,i,none⟩ = cs[i]?:=cell_of_row W b i cs t (0,0) h
theorem Box.frozen {W:World} {b:Nat} {cs:Array Value} {t:TypeId} (h:Box W b cs t) (i:Nat):W.frozen? ⟨b,i,none⟩ = false:=by
 unfold World.frozen?
 rw [show W.heap[(⟨b,i,none⟩:Addr).block]? = some (.cells cs t (0,0)) from h]
 simp
theorem Box.setOther {W:World} {b:Nat} {cs:Array Value} {t:TypeId} (h:Box W b cs t) {a:Addr} (hne:b ≠ a.block) (u:Value):Box (W.setCell a u) b cs t :=
 (Below.heap_setCell W a u b hne).trans h
theorem Box.set {W:World} {b:Nat} {cs:Array Value} {t:TypeId} (h:Box W b cs t) (i:Nat) (u:Value):Box (W.setCell ⟨b,i,none⟩ u) b (cs.setIfInBounds i u) t:=by
 have hlt:=h.lt
 have hg:W.heap[b]? = some (.cells cs t (0,0)):=h
 show (W.setCell ⟨b,i,none⟩ u).heap[b]? = _
 unfold World.setCell
 simp only [Array.getElem?_modify,if_true,hg,Option.map_some]
 rfl
def evCells (l:List (Int × Int)):List Value:=l.flatMap fun x => [.int .i64 x.1,.int .i64 x.2]
def KnownM.cells (k:KnownM):List Value:=[.bool k.is,.int .i64 k.vote.e,.int .i64 k.vote.n,.int .i64 k.vote.p,.int .i64 k.state]
def MemM.cells (m:MemM):List Value:=[.bool m.joined,.bool m.acked,.bool m.heard,.int .i64 m.promised,.int .i64 m.at_]
def MsgM.cells (m:MsgM):List Value:=[.int .i64 m.kind,.int .i64 m.src,.int .i64 m.dst,.int .i64 m.round,.int .i64 m.state,.int .i64 m.vote.e,.int .i64 m.vote.n,.int .i64 m.vote.p,.int .i64 m.epoch,.int .i64 m.news]
def MsgM.val (m:MsgM):Value:=.agg #[.int .i64 m.kind,.int .i64 m.src,.int .i64 m.dst,.int .i64 m.round,.int .i64 m.state,.int .i64 m.vote.e,.int .i64 m.vote.n,.int .i64 m.vote.p,.int .i64 m.epoch,.int .i64 m.news]
structure Keeps (fp:List Nat) (w w':World):Prop where
 os:w'.os = w.os
 tape:w'.tape = w.tape
 output:w'.output = w.output
 size:w.heap.size ≤ w'.heap.size
 block:∀ k,k < w.heap.size → k ∉ fp → w'.heap[k]? = w.heap[k]?
theorem Keeps.refl (fp:List Nat) (w:World):Keeps fp w w:=⟨rfl,rfl,rfl,Nat.le_refl _,fun _ _ _ => rfl⟩
theorem Keeps.trans {fp fp':List Nat} {a b c:World} (h:Keeps fp a b) (k:Keeps fp' b c) (hf:∀ x ∈ fp',x ∈ fp ∨ a.heap.size ≤ x):Keeps fp a c :=
 ⟨k.os.trans h.os,k.tape.trans h.tape,k.output.trans h.output,Nat.le_trans h.size k.size,fun x hx hn => (k.block x (Nat.lt_of_lt_of_le hx h.size) (fun hm => by
  rcases hf x hm with h1 | h1
  ·exact hn h1
  ·omega)).trans (h.block x hx hn)⟩
theorem Keeps.of_below {fp:List Nat} {w w':World} (h:Below w.heap.size w w'):Keeps fp w w':=⟨h.os,h.tape,h.output,h.size,fun k hk _ => h.block k hk⟩
theorem Keeps.drew {fp:List Nat} {a w:World} (h:Keeps fp a w):Keeps fp a w.drew:=⟨h.os,h.tape,h.output,h.size,h.block⟩
theorem Keeps.alloc {fp:List Nat} {a w:World} (h:Keeps fp a w) (o:Obj):Keeps fp a (w.alloc o) :=
 h.trans (Keeps.of_below (fp:=[]) ((Below.refl _ _).alloc (Nat.le_refl _) o)) (fun _ hx => absurd hx List.not_mem_nil)
theorem Keeps.setCell {fp:List Nat} {a w:World} (h:Keeps fp a w) {p:Addr} (hp:p.block ∈ fp ∨ a.heap.size ≤ p.block) (u:Value):Keeps fp a (w.setCell p u) :=
 h.trans (fp':=[p.block]) ⟨rfl,rfl,rfl,by simp,fun k _ hk => Below.heap_setCell w p u k (by simpa using hk)⟩ (fun x hx => by
  have:x = p.block:=by simpa using hx
  rw [this];exact hp)
theorem row_shape {w:World} {base:Nat} {e:TypeId} {size:Nat} {v:Value} {n:Nat} {xs:List Value} (h:w.ownsRow base e size v n xs):∃ a cap,v = .slice a n cap:=by
 rcases h.2 with ⟨hv,h0⟩ | ⟨g,cap,cur,hv,_⟩
 ·exact ⟨none,0,by rw [hv,h0]⟩
 ·exact ⟨some ⟨g,0,none⟩,cap,hv⟩
theorem own_ne {W:World} {base:Nat} {e e':TypeId} {size:Nat} {v:Value} {n b:Nat} {xs:List Value} {cur:Array Value} {fr:Nat × Nat} (h:W.ownsRow base e size v n xs) (hb:W.heap[b]? = some (.cells cur e' fr)) (hne:e ≠ e'):v.ownBlock ≠ some b:=by
 rcases h.2 with ⟨rfl,_⟩ | ⟨g,cap,cur',rfl,_,hg,_⟩
 ·simp [Value.ownBlock]
 ·intro hc
  have hgb:g = b:=by simpa [Value.ownBlock] using hc
  subst hgb
  rw [hg] at hb
  cases hb
  exact hne rfl
theorem own_ne2 {W:World} {base base':Nat} {e e':TypeId} {size size':Nat} {v v':Value} {n n':Nat} {xs xs':List Value} (h:W.ownsRow base e size v n xs) (h':W.ownsRow base' e' size' v' n' xs') (hne:e ≠ e'):∀ b,v'.ownBlock = some b → v.ownBlock ≠ some b:=by
 intro b hb
 rcases h'.2 with ⟨rfl,_⟩ | ⟨g,cap,cur',rfl,_,hg,_⟩
 ·simp [Value.ownBlock] at hb
 ·have:g = b:=by simpa [Value.ownBlock] using hb
  subst this
  exact own_ne h hg hne
theorem own_same {W W':World} {base:Nat} {e:TypeId} {size:Nat} {v:Value} {n:Nat} {xs:List Value} (h:W.ownsRow base e size v n xs) (hs:∀ b,v.ownBlock = some b → W'.heap[b]? = W.heap[b]?):W'.ownsRow base e size v n xs:=by
 refine ⟨h.1,?_⟩
 rcases h.2 with hv | ⟨g,cap,cur,rfl,hb,hg,hrest⟩
 ·exact .inl hv
 ·exact .inr ⟨g,cap,cur,rfl,hb,(hs g rfl).trans hg,hrest⟩
end Go.Proofs.YtceappncglfciaaGreat
