import Derived.Test.YtceappncglfciaaGreatM34
import Derived.Test.YtceappncglfciaaGreatM15
set_option linter.unusedVariables false
set_option linter.unusedSimpArgs false
namespace Go.Proofs.YtceappncglfciaaGreat
open Go.RowKit
attribute [local go_sem ↓] Go.wp_at_zero Go.wp_at_succ
def zMem:Array Value:=(mem7.flatMap MemM.cells).toArray
theorem Tryz.sizeMem:(Tryz.prog.info? 157).map (·.size) = some zMem.size:=by kernel_rfl
theorem zMem_size:zMem.size = 35:=by kernel_rfl
theorem zMem_one:zMem.all (·.oneCell') = true:=by kernel_rfl
theorem Rep.layMem {W:World} {L:Lies} {T:TownM} (h:Rep W L T) {i:Nat} (hi:i < T.ps.length):Rep (W.setCells L.bp (i * 121 + 85) zMem.toList) L (T.setPeer i { T.peer i with mem:=mem7 }) :=
 h.setR hi _ (by rw [Array.length_toList,zMem_size];omega) _ (PeerM.lay_mem (h.fit _ (TownM.peer_mem hi)) mem7 rfl) ⟨(h.fit (T.peer i) (TownM.peer_mem hi)).1,(h.fit (T.peer i) (TownM.peer_mem hi)).2.1,rfl⟩
theorem mem7_getD (k:Nat):mem7.getD k memZ = memZ:=by
 unfold mem7
 rw [List.getD_eq_getElem?_getD,List.getElem?_replicate]
 split <;> rfl
theorem TownM.bestTo_new {T:TownM} {i:Nat} (h:(T.peer i).mem = mem7):∀ k,T.bestTo i k = (T.peer i).c.p
 | 0 => rfl
 | k + 1 => by
  unfold TownM.bestTo
  rw [h,mem7_getD]
  simp only [memZ,Bool.false_and,Bool.false_eq_true,if_false]
  exact TownM.bestTo_new h k
set_option maxRecDepth 100000 in
set_option maxHeartbeats 4000000 in
theorem dlead_any (i:Nat) (n:Int) (c:CredM) (W:World) (L:Lies) (T:TownM) (h:Rep W L T) (hi:i < T.ps.length) (hp:T.ps.length ≤ 7) (hnet:T.net ≤ 1000) (hev:T.events.length ≤ 40000000000) (hd:DiskOK n c (T.peer i).disk) (hn:n + 2 ≤ 4294967294) (hc:(T.peer i).c.ok) (hr0:0 ≤ (T.peer i).round) (hr1:(T.peer i).round ≤ 1000000000000) (ha0:-1 ≤ (T.peer i).armed) (ha1:(T.peer i).armed ≤ 28) :
  Calls Tryz.prog 102 #[.pointer (some ⟨L.bt,0,none⟩),.int .i64 i] W fun o w' => o = .returned (.tuple #[]) ∧ Did W L w' (T.lead i):=by
 have c4:=h.cell 4
 have c5:=h.cell 5
 have q0:(0:Int) ≤ (i:Int):=by omega
 have q1:(i:Int) < (T.ps.length:Int):=by omega
 have v3:=h.phead hi 3 (by omega)
 have v84:=h.pmid hi 2 (by omega)
 have y3:=h.pfrozen (i * 121 + 3)
 have y84:=h.pfrozen (i * 121 + 84)
 have nt:=h.town_ne
 simp only [PeerM.head,Nat.reduceAdd] at v3 v84
 have HH:=hide h
 have HD:=hide hd
 have HCK:=hide hc
 clear h hd hc
 go_enter Tryz.func102,Tryz.ntmps102
 go_upto_region 3 with fail
 obtain ⟨T2,hT2⟩:∃ T2,T2 = T.setPeer i { T.peer i with state:=2,epoch:=0 }:=⟨_,rfl⟩
 have s2:Rep ((W.setCell ⟨L.bp,i * 121 + 3,none⟩ (.int .i64 2)).setCell ⟨L.bp,i * 121 + 84,none⟩ (.int .i64 0)) L T2:=by
  have t1:=(unhide HH).setState hi 2
  have t2:=t1.setEpoch (i:=i) (by rw [TownM.setPeer_len];exact hi) 0
  rw [TownM.peer_set hi,TownM.set_set] at t2
  rw [hT2];exact t2
 have HK2:=hide (((Keeps.refl L.blocks W).peer (i * 121 + 3) (.int .i64 2)).peer (i * 121 + 84) (.int .i64 0))
 have hi2:i < T2.ps.length:=by rw [hT2,TownM.setPeer_len];exact hi
 have HT2:=hide hT2
 clear hT2 HH c4 c5 v3 v84 y3 y84
 generalize (W.setCell ⟨L.bp,i * 121 + 3,none⟩ (.int .i64 2)).setCell ⟨L.bp,i * 121 + 84,none⟩ (.int .i64 0) = w2 at *
 have HTH:Hid (w2.there L.bp (i * 121 + 85) zMem.size):=s2.there hi2 85 _ (by rw [zMem_size];omega)
 have s3:=s2.layMem hi2
 have HK3:=hide ((unhide HK2).peers zMem.toList (i * 121 + 85))
 clear s2 HK2
 go_upto_region 4 with (first | (refine wpList_buildTo (by rfl) 157 #[] (by rfl) _ (by rfl) zMem (by exact Tryz.builtMem) ?_) | (refine wpList_store_mid (by rfl) 157 _ _ (by rfl) L.bp (i * 121 + 85) zMem (by rfl) (by rfl) (unhide HTH) (by exact Tryz.sizeMem) zMem_one ?_))
 obtain ⟨T3,hT3⟩:∃ T3,T3 = T.setPeer i { T.peer i with state:=2,epoch:=0,mem:=mem7 }:=⟨_,rfl⟩
 have s3':Rep (w2.setCells L.bp (i * 121 + 85) zMem.toList) L T3:=by
  rw [unhide HT2,TownM.peer_set hi,TownM.set_set] at s3
  rw [hT3];exact s3
 have hi3:i < T3.ps.length:=by rw [hT3,TownM.setPeer_len];exact hi
 clear s3 HTH HT2
 generalize w2.setCells L.bp (i * 121 + 85) zMem.toList = w3 at *
 have hnow:T3.now = T.now:=by rw [hT3];rfl
 have hlen:T3.ps.length = T.ps.length:=by rw [hT3,TownM.setPeer_len]
 have c5:=s3'.cell 5
 have v120:=s3'.pstands hi3
 have y120:=s3'.pfrozen (i * 121 + 120)
 have v83:=s3'.pmid hi3 1 (by omega)
 have y83:=s3'.pfrozen (i * 121 + 83)
 rw [hnow] at c5
 simp only [Nat.reduceAdd] at v83
 have HS3:=hide s3'
 have HT3:=hide hT3
 clear s3' hT3
 go_upto_region 6 with fail
 have HL0:Hid (T.lead0 i = T.setPeer i { T.peer i with state:=2,epoch:=0,mem:=mem7,stands:=false,since:=T.now }):=rfl
 have s5:Rep ((w3.setCell ⟨L.bp,i * 121 + 120,none⟩ (.bool false)).setCell ⟨L.bp,i * 121 + 83,none⟩ (.int .i64 T.now)) L (T.lead0 i):=by
  have t1:=(unhide HS3).setStands hi3 false
  have t2:=t1.setSince (i:=i) (by rw [TownM.setPeer_len];exact hi3) T.now
  rw [TownM.peer_set hi3,TownM.set_set,unhide HT3,TownM.peer_set hi,TownM.set_set] at t2
  rw [unhide HL0];exact t2
 have HK5:=hide (((unhide HK3).peer (i * 121 + 120) (.bool false)).peer (i * 121 + 83) (.int .i64 T.now))
 have hp5:(T.lead0 i).peer i = { T.peer i with state:=2,epoch:=0,mem:=mem7,stands:=false,since:=T.now }:=by rw [unhide HL0,TownM.peer_set hi]
 have hl5:(T.lead0 i).ps.length = T.ps.length:=TownM.setPeer_len _ _ _
 have hi5:i < (T.lead0 i).ps.length:=by rw [hl5];exact hi
 clear c5 v120 y120 v83 y83 HS3 HT3 HK3
 generalize (w3.setCell ⟨L.bp,i * 121 + 120,none⟩ (.bool false)).setCell ⟨L.bp,i * 121 + 83,none⟩ (.int .i64 T.now) = w5 at *
 have c4:=s5.cell 4
 rw [hl5] at c4
 by_cases h1:T.ps.length = 1
 ·have HC:Hid (T.lead i = (T.lead0 i).propose i):=by
   show _ = _
   unfold TownM.lead
   rw [if_pos h1]
  have hbst:∀ k,0 ≤ (T.lead0 i).bestTo i k ∧ (T.lead0 i).bestTo i k ≤ 4294967295:=fun k => by
   rw [TownM.bestTo_new (by rw [hp5]) k,hp5]
   exact (unhide HCK).1
  have HPR:=hide (dpropose_any i n c w5 L (T.lead0 i) s5 hi5 (by omega) hnet hev (by rw [hp5];exact unhide HD) hn (by rw [hp5];exact unhide HCK) (by rw [hp5];exact hr0) (by rw [hp5];exact hr1) hbst (by rw [hp5];exact ha0) (by rw [hp5];exact ha1))
  have hq:((T.ps.length:Int) == 1) = true:=by rw [h1];rfl
  clear s5 hbst hp5 HL0 HD HCK h1
  go_wp2_with fail
  refine (unhide HPR).mono ?_
  rintro o w6 ⟨rfl,hd6⟩
  have fin:Hid (Did W L w6 (T.lead i)):=by
   rw [unhide HC]
   exact Did.next (v:=L.way) (e:=L.ev) (unhide HK5) (fun x hx => .inl hx) hd6
  clear hd6 HPR HC HK5
  go_wp2
  go_end0
  exact ⟨rfl,unhide fin⟩
 ·have fin:Hid (Did W L w5 (T.lead i)):=by
   unfold TownM.lead
   rw [if_neg h1]
   exact Did.stored s5 (unhide HK5)
  have hq:((T.ps.length:Int) == 1) = false:=beq_eq_false_iff_ne.2 (by omega)
  clear s5 hp5 HL0 HD HCK HK5
  go_wp2
  go_end0
  exact ⟨rfl,unhide fin⟩
end Go.Proofs.YtceappncglfciaaGreat
namespace Go.Proofs.YtceappncglfciaaGreat
open Go.RowKit
attribute [local go_sem ↓] Go.wp_at_zero Go.wp_at_succ
structure DLinks (W:World) (L:Lies) (w:World) (L1:Lies):Prop where
 bt:L1.bt = L.bt
 bp:L1.bp = L.bp
 keeps:Keeps L.blocks W w
 new:∀ x ∈ L1.blocks,x ∈ L.blocks ∨ W.heap.size ≤ x
 is:∃ v e,L1 = { L with way:=v,ev:=e }
section
variable {W w w2:World} {L L1 L2:Lies} {T T2:TownM} {g:Nat}
theorem DLinks.refl (W:World) (L:Lies):DLinks W L W L:=⟨rfl,rfl,Keeps.refl _ _,fun _ hx => .inl hx,L.way,L.ev,rfl⟩
theorem DLinks.trans (h:DLinks W L w L1) (k:DLinks w L1 w2 L2):DLinks W L w2 L2:=by
 refine ⟨k.bt.trans h.bt,k.bp.trans h.bp,h.keeps.trans k.keeps h.new,fun x hx => ?_,?_⟩
 ·rcases k.new x hx with h1 | h1
  ·exact h.new x h1
  ·exact .inr (Nat.le_trans h.keeps.size h1)
 ·obtain ⟨v,e,rfl⟩:=h.is
  obtain ⟨v2,e2,rfl⟩:=k.is
  exact ⟨v2,e2,rfl⟩
theorem DLinks.of_below (L:Lies) (hb:Below W.heap.size W w):DLinks W L w L:=⟨rfl,rfl,Keeps.of_below hb,fun _ hx => .inl hx,L.way,L.ev,rfl⟩
theorem DLinks.below (h:DLinks W L w L1) (hb:Below w.heap.size w w2):DLinks W L w2 L1:=h.trans (DLinks.of_below L1 hb)
theorem DLinks.peer (h:DLinks W L w L1) (o:Nat) (u:Value):DLinks W L (w.setCell ⟨L1.bp,o,none⟩ u) L1 :=
 h.trans ⟨rfl,rfl,(Keeps.refl L1.blocks w).peer o u,fun _ hx => .inl hx,L1.way,L1.ev,rfl⟩
theorem DLinks.peers (h:DLinks W L w L1) (vs:List Value) (o:Nat):DLinks W L (w.setCells L1.bp o vs) L1 :=
 h.trans ⟨rfl,rfl,(Keeps.refl L1.blocks w).peers vs o,fun _ hx => .inl hx,L1.way,L1.ev,rfl⟩
theorem Did.open (h:Did W L w T):∃ L1,Rep w L1 T ∧ DLinks W L w L1:=by
 obtain ⟨v,e,h1,h2,h3⟩:=h
 exact ⟨{ L with way:=v,ev:=e },h1,rfl,rfl,h2,h3,v,e,rfl⟩
theorem DLinks.did (h:DLinks W L w L1) (k:Did w L1 w2 T2):Did W L w2 T2:=by
 obtain ⟨v,e,rfl⟩:=h.is
 exact Did.next h.keeps h.new k
theorem DLinks.done (h:DLinks W L w L1) (k:Rep w L1 T):Did W L w T:=h.did (Did.rfl' k)
theorem DLinks.calls {f:FuncId} {args:Array Value} {r:Ending} {T':TownM} (h:DLinks W L w L1) (k:Calls Tryz.prog f args w fun o w' => o = r ∧ Did w L1 w' T2) (e:T' = T2):Calls Tryz.prog f args w fun o w' => o = r ∧ Did W L w' T' :=
 k.mono fun _ _ ⟨h1,h2⟩ => ⟨h1,by rw [e];exact h.did h2⟩
theorem Rep.lies (h:Rep W L T):∀ x ∈ L.blocks,x < W.heap.size:=by
 intro x hx
 rcases mem_blocks.1 hx with h1 | h1 | h1 | h1
 ·rw [h1];exact (Array.getElem?_eq_some_iff.1 h.town).1
 ·rw [h1];obtain ⟨cur,h2,_⟩:=h.peers;exact (Array.getElem?_eq_some_iff.1 h2).1
 ·exact (h.way.lt x h1).2
 ·exact (h.events.lt x h1).2
theorem DLinks.keepBlock (h:DLinks W L w L1) (hl:g < W.heap.size) (hn:g ∉ L.blocks):w.heap[g]? = W.heap[g]?:=h.keeps.block g hl hn
theorem DLinks.out (h:DLinks W L w L1) (hl:g < W.heap.size) (hn:g ∉ L.blocks):g ∉ L1.blocks:=fun hm => by
 rcases h.new g hm with h1 | h1
 ·exact hn h1
 ·omega
theorem Rep.same {W':World} (h:Rep W L T) (hs:∀ x ∈ L.blocks,W'.heap[x]? = W.heap[x]?):Rep W' L T:=by
 obtain ⟨cur,hp,hp2,hp3,hp4⟩:=h.peers
 exact ⟨(hs _ (mem_blocks.2 (.inl rfl))).trans h.town,⟨cur,(hs _ (mem_blocks.2 (.inr (.inl rfl)))).trans hp,hp2,hp3,hp4⟩,own_same h.way (fun b hv => hs b (mem_blocks.2 (.inr (.inr (.inl hv))))),own_same h.events (fun b hv => hs b (mem_blocks.2 (.inr (.inr (.inr hv))))),h.fit⟩
theorem Rep.far (h:Rep W L T) {o:Nat} {u:Value} (hn:g ∉ L.blocks):Rep (W.setCell ⟨g,o,none⟩ u) L T :=
 h.same (fun x hx => Below.heap_setCell W ⟨g,o,none⟩ u x (fun e => hn (by have e2:x = g:=e;rw [← e2];exact hx)))
theorem DLinks.far (h:DLinks W L w L1) {o:Nat} {u:Value} (hg:W.heap.size ≤ g):DLinks W L (w.setCell ⟨g,o,none⟩ u) L1 :=
 ⟨h.bt,h.bp,h.keeps.setCell (.inr hg) u,h.new,h.is⟩
structure Own (W:World) (L:Lies) (g:Nat) (cs:Array Value) (t:TypeId):Prop where
 box:Box W g cs t
 out:g ∉ L.blocks
theorem Own.links {cs:Array Value} {t:TypeId} (h:Own W L g cs t) (k:DLinks W L w L1):Own w L1 g cs t :=
 ⟨(k.keepBlock h.box.lt h.out).trans h.box,k.out h.box.lt h.out⟩
theorem Own.set {cs:Array Value} {t:TypeId} (h:Own W L g cs t) (o:Nat) (u:Value):Own (W.setCell ⟨g,o,none⟩ u) L g (cs.setIfInBounds o u) t:=⟨h.box.set o u,h.out⟩
theorem Own.setOther {cs:Array Value} {t:TypeId} (h:Own W L g cs t) {a:Addr} (hne:g ≠ a.block) (u:Value):Own (W.setCell a u) L g cs t:=⟨h.box.setOther hne u,h.out⟩
theorem Own.peer {cs:Array Value} {t:TypeId} (h:Own W L g cs t) (o:Nat) (u:Value):Own (W.setCell ⟨L.bp,o,none⟩ u) L g cs t:=h.links ((DLinks.refl W L).peer o u)
theorem Own.peers {cs:Array Value} {t:TypeId} (h:Own W L g cs t) (vs:List Value) (o:Nat):Own (W.setCells L.bp o vs) L g cs t:=h.links ((DLinks.refl W L).peers vs o)
theorem Own.below {cs:Array Value} {t:TypeId} (h:Own W L g cs t) (hb:Below W.heap.size W w):Own w L g cs t:=h.links (DLinks.of_below L hb)
theorem Own.new (h:Rep W L T) (cs:Array Value) (t:TypeId):Own (W.alloc (.cells cs t)) L W.heap.size cs t :=
 ⟨Box.new _ _ _,fun hm => Nat.lt_irrefl _ (h.lies _ hm)⟩
end
end Go.Proofs.YtceappncglfciaaGreat
