import Derived.Test.YtceappncglfciaaGreatM18
import Derived.Test.YtceappncglfciaaGreatM19
import Derived.Shelf.SlIterI.Nil
import Derived.Shelf.SortM.Plain
import Derived.Shelf.SortM.SortNone
import Derived.Ground.GgzProg
import Derived.Ground.SlgmProg
import Derived.Deep.DeepCutAuto
set_option linter.unusedVariables false
set_option linter.unusedSimpArgs false
namespace Go.Proofs
open Go.RowKit Go.Maps Go.Sort Go.Shelf
theorem Tryz.sortsA (m:Nat):AnyZI.SortsIn Tryz.prog Tryz.sortedA_ren Fence.wide m :=
 ⟨fun blk off cap ss W hH hblk hsz => callsIn_wide.2 (AnyM.slices_Sort_int Tryz.sortA blk off cap ss W hH hblk hsz),
  fun p cap W => callsIn_wide.2 (AnyM.slices_Sort_int_none Tryz.sortA p cap W)⟩
set_option maxHeartbeats 1000000 in
theorem Tryz.inOrderA {H:Type} (b nn:Nat) (D0:DataW H) (R:Value → Option (DataW H × List MemPlace)) (w:World) (hown:w.ownsMap Tryz.prog 3 R b nn D0) (hmax:Maps.size D0 ≤ maxLen) (hbytes:Maps.size D0 * 8 ≤ 140737488355328) :
  Calls Tryz.prog 115 #[.map (some b)] w fun e w' => ∃ (v:Value) (ss:List Int),e = .returned v ∧ ss.Perm (intKeys D0) ∧
   w'.ownsRow w.heap.size 3 1 v ss.length ((ss.mergeSort (fun x y => decide (x ≤ y))).map encZ) ∧ (v = .slice none 0 0 ↔ ss = []) ∧ Below w.heap.size w w':=by
 refine (callsIn_wide (n:=6)).1 ?_
 have hbl:=hown.lt
 have hseq:SeqGives Fence.wide 2 Tryz.prog 155 #[.pointer (some ⟨w.heap.size,0,none⟩)] encZ (fun ss => ss.Perm (intKeys D0)) (Maps.size D0) (w.alloc (.cells #[.map (some b)] 105)) :=
  AnyZI.keys_gives (ρ:=Tryz.keysA_ren) { Tryz.keysA with } Fence.wide _ trivial rfl (by omega) w.heap.size b nn D0 _ (by simp) (by simp) (by
   obtain ⟨es,clock,hb,Ft,hs,hD⟩:=hown
   exact ⟨es,clock,(Below.heap_alloc _ _ b hbl).trans hb,Ft,hs,hD⟩)
 have cK:∀ mb W,CallsIn Fence.wide 5 Tryz.prog 141 #[.map mb] W fun e w' => e = .returned (.func (.func 155) #[] #[.pointer (some ⟨W.heap.size,0,none⟩)]) ∧ w' = W.alloc (.cells #[.map mb] 105):=fun mb W => AnyZI.keys_in Tryz.keysA Fence.wide 5 trivial rfl mb W
 have cS:=AnyZI.sorted_in Tryz.sortedA Fence.wide 5 trivial trivial trivial trivial rfl (by omega) (Tryz.sortsA _) (enters_of Tryz.func154 (by kernel_rfl) rfl) 155 #[.pointer (some ⟨w.heap.size,0,none⟩)] trivial (enters_of Tryz.func155 (by kernel_rfl) rfl) _ _ hmax hbytes _ hseq
 change CallsIn _ _ Tryz.prog 140 _ _ _ at cS
 have hfK:Fence.wide.fn 141:=trivial
 have hfS:Fence.wide.fn 140:=trivial
 refine callsIn_of_wp Tryz.func115 rfl trivial ?_ rfl
 simp only [Tryz.ntmps115,List.size_toArray,List.length_cons,List.length_nil,Nat.reduceAdd,Nat.reduceSub,Array.replicate_succ,Array.replicate_zero,List.push_toArray,List.append_toArray,List.nil_append,List.cons_append]
 gi_wp2_with (first
  | (gi_at_call 141;refine (cK _ _).mono ?_;rintro e w' ⟨rfl,rfl⟩)
  | (gi_at_call 140;refine cS.mono ?_;rintro e w' ⟨v,ss,rfl,hS,hrow,hnil,hb⟩))
 go_ret
 exact ⟨v,ss,rfl,hS,ownsRow_base_a hrow (by simp),hnil,((Below.refl _ w).alloc (Nat.le_refl _) _).trans (hb.mono (by simp))⟩
set_option maxHeartbeats 1000000 in
theorem Tryz.inOrderB {H:Type} (b nn:Nat) (D0:DataW H) (R:Value → Option (DataW H × List MemPlace)) (w:World) (hown:w.ownsMap Tryz.prog 3 R b nn D0) (hmax:Maps.size D0 ≤ maxLen) (hbytes:Maps.size D0 * 8 ≤ 140737488355328) :
  Calls Tryz.prog 162 #[.map (some b)] w fun e w' => ∃ (v:Value) (ss:List Int),e = .returned v ∧ ss.Perm (intKeys D0) ∧
   w'.ownsRow w.heap.size 3 1 v ss.length ((ss.mergeSort (fun x y => decide (x ≤ y))).map encZ) ∧ (v = .slice none 0 0 ↔ ss = []) ∧ Below w.heap.size w w':=by
 refine (callsIn_wide (n:=6)).1 ?_
 have hbl:=hown.lt
 have hseq:SeqGives Fence.wide 2 Tryz.prog 179 #[.pointer (some ⟨w.heap.size,0,none⟩)] encZ (fun ss => ss.Perm (intKeys D0)) (Maps.size D0) (w.alloc (.cells #[.map (some b)] 106)) :=
  AnyZI.keys_gives (ρ:=Tryz.keysB_ren) { Tryz.keysB with } Fence.wide _ trivial rfl (by omega) w.heap.size b nn D0 _ (by simp) (by simp) (by
   obtain ⟨es,clock,hb,Ft,hs,hD⟩:=hown
   exact ⟨es,clock,(Below.heap_alloc _ _ b hbl).trans hb,Ft,hs,hD⟩)
 have cK:∀ mb W,CallsIn Fence.wide 5 Tryz.prog 167 #[.map mb] W fun e w' => e = .returned (.func (.func 179) #[] #[.pointer (some ⟨W.heap.size,0,none⟩)]) ∧ w' = W.alloc (.cells #[.map mb] 106):=fun mb W => AnyZI.keys_in Tryz.keysB Fence.wide 5 trivial rfl mb W
 have cS:=AnyZI.sorted_in Tryz.sortedA Fence.wide 5 trivial trivial trivial trivial rfl (by omega) (Tryz.sortsA _) (enters_of Tryz.func154 (by kernel_rfl) rfl) 179 #[.pointer (some ⟨w.heap.size,0,none⟩)] trivial (enters_of Tryz.func179 (by kernel_rfl) rfl) _ _ hmax hbytes _ hseq
 change CallsIn _ _ Tryz.prog 140 _ _ _ at cS
 have hfK:Fence.wide.fn 167:=trivial
 have hfS:Fence.wide.fn 140:=trivial
 refine callsIn_of_wp Tryz.func162 rfl trivial ?_ rfl
 simp only [Tryz.ntmps162,List.size_toArray,List.length_cons,List.length_nil,Nat.reduceAdd,Nat.reduceSub,Array.replicate_succ,Array.replicate_zero,List.push_toArray,List.append_toArray,List.nil_append,List.cons_append]
 gi_wp2_with (first
  | (gi_at_call 167;refine (cK _ _).mono ?_;rintro e w' ⟨rfl,rfl⟩)
  | (gi_at_call 140;refine cS.mono ?_;rintro e w' ⟨v,ss,rfl,hS,hrow,hnil,hb⟩))
 go_ret
 exact ⟨v,ss,rfl,hS,ownsRow_base_a hrow (by simp),hnil,((Below.refl _ w).alloc (Nat.le_refl _) _).trans (hb.mono (by simp))⟩
end Go.Proofs
namespace Go.Proofs.YtceappncglfciaaGreat
open Go.RowKit
theorem sorted_row {α:Type} {enc:α → Value} {l:List (Option α)} {w w':World} {v:Value} {ss:List Int} (hs:ss.Perm (intKeys (dataOf enc l))) (hr:w'.ownsRow w.heap.size 3 1 v ss.length ((ss.mergeSort (fun x y => decide (x ≤ y))).map encZ)):ToRow w' v (keysOf 0 l):=by
 rw [data_keys] at hs
 have e:=keys_merge l ss hs
 rw [e] at hr
 have el:ss.length = (keysOf 0 l).length:=hs.length_eq
 rw [el] at hr
 exact ToRow.of hr
theorem inOrderI_any {α:Type} {enc:α → Value} (g:Nat) (l:List (Option α)) (W:World) (h:MapIs Tryz.prog 3 enc W g l) :
  Calls Tryz.prog 115 #[.map (some g)] W fun o w' => ∃ v,o = .returned v ∧ ToRow w' v (keysOf 0 l) ∧ Below W.heap.size W w':=by
 have hz:=h.1.size_le
 refine (Tryz.inOrderA g 7 _ _ W h.1 (by unfold maxLen;omega) (by omega)).mono ?_
 rintro o w' ⟨v,ss,rfl,hs,hr,_,hb⟩
 exact ⟨v,rfl,sorted_row hs hr,hb⟩
theorem inOrderU_any {α:Type} {enc:α → Value} (g:Nat) (l:List (Option α)) (W:World) (h:MapIs Tryz.prog 3 enc W g l) :
  Calls Tryz.prog 162 #[.map (some g)] W fun o w' => ∃ v,o = .returned v ∧ ToRow w' v (keysOf 0 l) ∧ Below W.heap.size W w':=by
 have hz:=h.1.size_le
 refine (Tryz.inOrderB g 7 _ _ W h.1 (by unfold maxLen;omega) (by omega)).mono ?_
 rintro o w' ⟨v,ss,rfl,hs,hr,_,hb⟩
 exact ⟨v,rfl,sorted_row hs hr,hb⟩
theorem keys7 {α:Type} (l:List (Option α)) (h:l.length = 7):(keysOf 0 l).length ≤ 7:=by rw [keys_len,← h];exact List.countP_le_length
end Go.Proofs.YtceappncglfciaaGreat
namespace Go.Proofs.YtceappncglfciaaGreat
open Go.RowKit
attribute [local go_sem ↓] Go.wp_at_zero Go.wp_at_succ
set_option maxRecDepth 100000 in
set_option maxHeartbeats 4000000 in
theorem check_any (i b:Nat) (W:World) (bt:Nat) (pb bs:List Nat) (T:PTown) (h:PR W bt pb bs T) (hb:pb[i]? = some b) (hp:T.ps.length ≤ 7) (hn:T.net ≤ 1000) (l:List (Option Unit)) (hl:(T.peer i).acked = some l) (hev:T.events.length ≤ 40000000000)
  (hw:Wr 1 (T.peer i)) (hc:({ (T.peer i).c with e:=(T.peer i).epoch }:CredM).ok) :
  Calls Tryz.prog 152 #[.pointer (some ⟨b,0,none⟩)] W fun o w' => o = .returned (.tuple #[]) ∧ PDid W bt pb bs w' (T.check i):=by
 obtain ⟨hi,q,hat,hbt,hbb,hqb,hbq,C⟩:=h.at hb
 have hma:=hat.ma
 rw [hl] at hma
 obtain ⟨g,hg,hm⟩:=hma.some
 have c0:=hat.town
 have c82:=hat.f82
 have z82:=hat.fz 82
 have c81:=hat.f81
 rw [hg] at c81
 have hl7:=countP7 hm.2
 obtain ⟨na,hna⟩:∃ na,na = l.countP Option.isSome:=⟨_,rfl⟩
 have hlen:∀ (n:Nat) (ty:TypeId),(Builtin.len_ #[106] ty #[.map (some g)]).run Tryz.prog (W.drewN n) = .ok (.int .i64 (na:Nat)) (W.drewN n):=fun n ty => by
  rw [hna];exact MapIs.len (W:=W.drewN n) (hm.same rfl) Tryz.underlying106 ty
 rw [← hna] at hl7
 have HMO:Hid (∀ n,Calls Tryz.prog 112 #[.pointer (some ⟨bt,0,none⟩),.int .i64 ((na:Int) + 1)] (W.drewN n) fun o w' => o = .returned (.bool (T.most ((na:Int) + 1))) ∧ w' = W.drewN n):=fun n => most_any _ (W.drewN n) bt pb bs T (h.below (below_drewN (Below.refl W.heap.size W) n)) (by omega) (by omega) hp
 have HT:Hid (T.check i = if ((T.peer i).established || !T.most ((na:Int) + 1)) = true then T else if (T.peer i).armed = true then (T.stood i).write i { (T.peer i).c with e:=(T.peer i).epoch } else ((T.stood i).write i { (T.peer i).c with e:=(T.peer i).epoch }).welcome i (keysOf 0 l)):=by
  show _ = _
  unfold PTown.check
  rw [hl];simp only [mapL,Option.getD_some,← hna]
 have HH:=hide h
 clear hma hm hna
 cases hes:(T.peer i).established with
 | true =>
  rw [hes] at c82 HT
  simp only [Bool.true_or,if_true] at HT
  clear h hat C hes
  go_enter Tryz.func152,Tryz.ntmps152
  go_upto_region 0 with fail
  go_quiet ((go_at_call 112;exact Calls.quiet_of_same (unhide HMO _)))
  have hbd:=below_drewN (Below.refl W.heap.size W) nq
  have HF:=hide (PDid.of_below (unhide HH) hbd)
  clear hbd hlen c0 c82 z82 c81
  generalize W.drewN nq = W2 at *
  go_wp2
  exact bodyPost_ret (v:=.tuple #[]) (by simp [results,Tryz.results152,go_sem]) rfl ⟨rfl,by rw [unhide HT];exact unhide HF⟩
 | false =>
  rw [hes] at c82 HT
  simp only [Bool.false_or] at HT
  cases hmo:T.most ((na:Int) + 1) with
  | false =>
   rw [hmo] at HMO HT
   simp only [Bool.not_false,if_true] at HT
   clear h hat C hes hmo
   go_enter Tryz.func152,Tryz.ntmps152
   go_upto_region 0 with fail
   go_quiet ((go_at_call 112;exact Calls.quiet_of_same (unhide HMO _)))
   have hbd:=below_drewN (Below.refl W.heap.size W) nq
   have HF:=hide (PDid.of_below (unhide HH) hbd)
   clear hbd hlen c0 c82 z82 c81
   generalize W.drewN nq = W2 at *
   go_wp2
   exact bodyPost_ret (v:=.tuple #[]) (by simp [results,Tryz.results152,go_sem]) rfl ⟨rfl,by rw [unhide HT];exact unhide HF⟩
  | true =>
   rw [hmo] at HMO HT
   simp only [Bool.not_true,Bool.false_eq_true,if_false] at HT
   clear h hat C hes hmo
   go_enter Tryz.func152,Tryz.ntmps152
   go_upto_region 0 with fail
   go_quiet ((go_at_call 112;exact Calls.quiet_of_same (unhide HMO _)))
   have hbd:=below_drewN (Below.refl W.heap.size W) nq
   have HX2:=hide (Links.of_below bs hbd)
   have HH2:=hide ((unhide HH).below hbd)
   clear hbd hlen c0 c82 z82 c81 HMO
   generalize W.drewN nq = W2 at *
   obtain ⟨_,q,hat,_,_,_,_,C⟩:=(unhide HH2).at hb
   have c82:=hat.f82
   have z82:=hat.fz 82
   have HF:=hide (stores_close hat C [(82,.bool true)] q { T.peer i with established:=true } (by simp) rfl)
   simp only [sets] at HF
   clear hat C HH
   go_upto_region 2 with fail
   generalize W2.setCell ⟨b,82,none⟩ (.bool true) = W3 at *
   obtain ⟨bs3,h3,k3⟩:=(unhide HF).open
   have HX3:=hide ((unhide HX2).trans k3)
   clear k3 HF HX2 HH2 c82 z82
   obtain ⟨T3,hT3⟩:∃ T3,T3 = T.setP i { T.peer i with established:=true }:=⟨_,rfl⟩
   rw [← hT3] at h3
   have hp3:T3.peer i = { T.peer i with established:=true }:=by rw [hT3,PTown.peer_set hi]
   have hev3:T3.events = T.events:=by rw [hT3];rfl
   have HST:Hid (T.stood i = { T3 with events:=T.events ++ [((i:Int),(T.peer i).epoch)] }):=by rw [hT3];exact rfl
   obtain ⟨_,q,hat,_,_,_,_,_⟩:=h3.at hb
   have c0:=hat.town
   have c1:=hat.num
   have c79:W3.cell? ⟨b,79,none⟩ = some (.int .i64 (T.peer i).epoch):=by rw [hat.f79,hp3]
   have hbl3:b < W3.heap.size:=hat.box.lt
   obtain ⟨bp,capP,way,ev,hbx,he,hne,CE⟩:=h3.evt
   obtain ⟨a,cap,hv⟩:=row_shape he
   have t6:W3.cell? ⟨bt,6,none⟩ = some ev:=hbx.cell 6
   have y6:=hbx.frozen 6
   have hbtl:bt < W3.heap.size:=hbx.lt
   rw [hv] at t6 he hne CE
   obtain ⟨i0,hi0,hz0,hz1,hz2⟩:=info_parts Tryz.infoEvent
   rw [hev3] at he t6 CE hne
   obtain ⟨ep,hep⟩:∃ ep,ep = (T.peer i).epoch:=⟨_,rfl⟩
   rw [← hep] at c79 HST HT
   have HEP:=hide hep
   have HA:Hid ((W3.alloc (.cells #[.int .i64 (i:Int),.int .i64 ep] 49)).drew.ownsRow 0 49 2 (.slice a T.events.length cap) T.events.length (evCells T.events)):=he.alloc _
   have HNW:Hid (∀ j u,[Value.int .i64 (i:Int),.int .i64 ep][j]? = some u → (W3.alloc (.cells #[.int .i64 (i:Int),.int .i64 ep] 49)).drew.cell? ((⟨W3.heap.size,0,none⟩:Addr).add j) = some u):=fun j u hu => World.news_of_block (heap_alloc_new W3 (.cells #[.int .i64 (i:Int),.int .i64 ep] 49)) j u (by simpa using hu)
   have H1:Hid (∀ u ∈ [Value.int .i64 (i:Int),.int .i64 ep],u.oneCell' = true):=fun u hu => by
    simp only [List.mem_cons,List.not_mem_nil,or_false] at hu
    rcases hu with rfl | rfl <;> rfl
   have HSZ:Hid ((W3.alloc (.cells #[.int .i64 (i:Int),.int .i64 ep] 49)).drew.heap.size = W3.heap.size + 1):=World.size_alloc _ _
   have hneb:(Value.slice a T.events.length cap).ownBlock ≠ some b:=own_ne he hat.box.1 (by decide)
   have HFAR:Hid (∀ w1,(W3.alloc (.cells #[.int .i64 (i:Int),.int .i64 ep] 49)).drew.grownBy w1 (Value.slice a T.events.length cap).ownBlock → w1.cell? ⟨b,0,none⟩ = some (.pointer (some ⟨bt,0,none⟩)) ∧ w1.cell? ⟨b,1,none⟩ = some (.int .i64 (i:Int)) ∧ w1.cell? ⟨b,79,none⟩ = some (.int .i64 ep) ∧ w1.cell? ⟨bt,6,none⟩ = some (.slice a T.events.length cap) ∧ w1.frozen? ⟨bt,6,none⟩ = false):=fun w1 hg => by
    have hb1:w1.heap[bt]? = W3.heap[bt]?:=(hg.block bt (by show bt < (W3.alloc _).heap.size;rw [World.size_alloc];omega) (fun e => hne e.symm)).trans (Below.heap_alloc _ _ _ hbtl)
    have hb2:w1.heap[b]? = W3.heap[b]?:=(hg.block b (by show b < (W3.alloc _).heap.size;rw [World.size_alloc];omega) (fun e => hneb e.symm)).trans (Below.heap_alloc _ _ _ hbl3)
    exact ⟨(World.cell?_of_block hb2).trans c0,(World.cell?_of_block hb2).trans c1,(World.cell?_of_block hb2).trans c79,(World.cell?_of_block hb1).trans t6,(World.frozen?_of_block hb1).trans y6⟩
   have HCE:=hide CE
   have HH3:=hide h3
   have hnbb:b ≠ bt:=hbt
   have hnbb':bt ≠ b:=fun e => hbt e.symm
   have HP3:=hide hp3
   clear hat CE he hne hneb h3 hv hbx hT3 hep hev3 hp3
   refine wp_region_held_drew (S:=(fun w' => w'.cell? ⟨b,0,none⟩ = some (.pointer (some ⟨bt,0,none⟩)) ∧ w'.cell? ⟨b,1,none⟩ = some (.int .i64 (i:Int)) ∧ w'.cell? ⟨b,79,none⟩ = some (.int .i64 ep))) (by kernel_rfl) ?_ (fun hHeld => ?_)
   ·simp [*]
   refine wpAnyH_take (i:=0) (v:=?_) rfl (by kernel_rfl) (by kernel_rfl) (by kernel_rfl) (fun _ _ _ h => h) (Or.inl ⟨by rfl,?_⟩) (by assumption) ?_
   rotate_left
   ·intro w hSw
    (try dsimp only at hSw)
    go_simp
    (try with_reducible rfl)
   (try simp only [Act.put,List.getElem_toArray,List.getElem_cons_zero,List.getElem_cons_succ,List.setIfInBounds_toArray,List.set_cons_zero,List.set_cons_succ])
   refine wpAnyH_take (i:=1) (v:=?_) rfl (by kernel_rfl) (by kernel_rfl) (by kernel_rfl) (fun _ _ _ h => h) (Or.inl ⟨by rfl,?_⟩) (by assumption) ?_
   rotate_left
   ·intro w hSw
    (try dsimp only at hSw)
    go_simp
    (try with_reducible rfl)
   (try simp only [Act.put,List.getElem_toArray,List.getElem_cons_zero,List.getElem_cons_succ,List.setIfInBounds_toArray,List.set_cons_zero,List.set_cons_succ])
   refine wpAnyH_take (i:=2) (v:=?_) rfl (by kernel_rfl) (by kernel_rfl) (by kernel_rfl) (fun _ _ _ h => h) (Or.inl ⟨by rfl,?_⟩) (by assumption) ?_
   rotate_left
   ·intro w hSw
    (try dsimp only at hSw)
    go_simp
    (try with_reducible rfl)
   (try simp only [Act.put,List.getElem_toArray,List.getElem_cons_zero,List.getElem_cons_succ,List.setIfInBounds_toArray,List.set_cons_zero,List.set_cons_succ])
   refine wpAnyH_take (i:=3) (v:=?_) rfl (by kernel_rfl) (by kernel_rfl) (by kernel_rfl) (fun _ _ _ h => h) (Or.inl ⟨by rfl,?_⟩) (by assumption) ?_
   rotate_left
   ·intro w hSw
    (try dsimp only at hSw)
    go_simp
    (try with_reducible rfl)
   (try simp only [Act.put,List.getElem_toArray,List.getElem_cons_zero,List.getElem_cons_succ,List.setIfInBounds_toArray,List.set_cons_zero,List.set_cons_succ])
   refine wpAnyH_take (i:=4) (v:=?_) rfl (by kernel_rfl) (by kernel_rfl) (by kernel_rfl) (fun _ _ _ h => h) (Or.inl ⟨by rfl,?_⟩) (by assumption) ?_
   rotate_left
   ·intro w hSw
    (try dsimp only at hSw)
    go_simp
    (try with_reducible rfl)
   (try simp only [Act.put,List.getElem_toArray,List.getElem_cons_zero,List.getElem_cons_succ,List.setIfInBounds_toArray,List.set_cons_zero,List.set_cons_succ])
   refine wpAnyH_take (i:=5) (v:=?_) rfl (by kernel_rfl) (by kernel_rfl) (by kernel_rfl) (fun _ _ _ h => h) (Or.inl ⟨by rfl,?_⟩) (by assumption) ?_
   rotate_left
   ·intro w hSw
    (try dsimp only at hSw)
    go_simp
    (try with_reducible rfl)
   (try simp only [Act.put,List.getElem_toArray,List.getElem_cons_zero,List.getElem_cons_succ,List.setIfInBounds_toArray,List.set_cons_zero,List.set_cons_succ])
   refine wpAnyH_take (i:=6) (v:=?_) rfl (by kernel_rfl) (by kernel_rfl) (by kernel_rfl) (fun _ _ _ h => h) (Or.inl ⟨by rfl,?_⟩) (by assumption) ?_
   rotate_left
   ·intro w hSw
    (try dsimp only at hSw)
    go_simp
    (try with_reducible rfl)
   (try simp only [Act.put,List.getElem_toArray,List.getElem_cons_zero,List.getElem_cons_succ,List.setIfInBounds_toArray,List.set_cons_zero,List.set_cons_succ])
   refine wpAnyH_take (i:=7) (v:=?_) rfl (by kernel_rfl) (by kernel_rfl) (by kernel_rfl) (fun _ _ _ h => h) (Or.inl ⟨by rfl,?_⟩) (by assumption) ?_
   rotate_left
   ·intro w hSw
    (try dsimp only at hSw)
    go_simp
    (try with_reducible rfl)
   (try simp only [Act.put,List.getElem_toArray,List.getElem_cons_zero,List.getElem_cons_succ,List.setIfInBounds_toArray,List.set_cons_zero,List.set_cons_succ])
   refine wpAnyH_take (i:=8) (v:=?_) rfl (by kernel_rfl) (by kernel_rfl) (by kernel_rfl) (fun _ _ _ h => h) (Or.inl ⟨by rfl,?_⟩) (by assumption) ?_
   rotate_left
   ·intro w hSw
    (try dsimp only at hSw)
    go_simp
    (try with_reducible rfl)
   (try simp only [Act.put,List.getElem_toArray,List.getElem_cons_zero,List.getElem_cons_succ,List.setIfInBounds_toArray,List.set_cons_zero,List.set_cons_succ])
   refine wpAnyH_take (i:=9) (v:=?_) rfl (by kernel_rfl) (by kernel_rfl) (by kernel_rfl) (fun _ _ _ h => h) (Or.inl ⟨by rfl,?_⟩) (by assumption) ?_
   rotate_left
   ·intro w hSw
    (try dsimp only at hSw)
    go_simp
    (try with_reducible rfl)
   (try simp only [Act.put,List.getElem_toArray,List.getElem_cons_zero,List.getElem_cons_succ,List.setIfInBounds_toArray,List.set_cons_zero,List.set_cons_succ])
   refine wpAnyH_take (i:=11) (v:=?_) rfl (by kernel_rfl) (by kernel_rfl) (by kernel_rfl) (fun _ _ _ h => h) (Or.inl ⟨by rfl,?_⟩) (by assumption) ?_
   rotate_left
   ·intro w hSw
    (try dsimp only at hSw)
    go_simp
    (try with_reducible rfl)
   (try simp only [Act.put,List.getElem_toArray,List.getElem_cons_zero,List.getElem_cons_succ,List.setIfInBounds_toArray,List.set_cons_zero,List.set_cons_succ])
   refine wpAnyH_take (i:=12) (v:=?_) rfl (by kernel_rfl) (by kernel_rfl) (by kernel_rfl) (fun _ _ _ h => h) (Or.inl ⟨by rfl,?_⟩) (by assumption) ?_
   rotate_left
   ·intro w hSw
    (try dsimp only at hSw)
    go_simp
    (try with_reducible rfl)
   (try simp only [Act.put,List.getElem_toArray,List.getElem_cons_zero,List.getElem_cons_succ,List.setIfInBounds_toArray,List.set_cons_zero,List.set_cons_succ])
   refine wpAnyH_take (i:=13) (v:=?_) rfl (by kernel_rfl) (by kernel_rfl) (by kernel_rfl) (fun _ _ _ h => h) (Or.inl ⟨by rfl,?_⟩) (by assumption) ?_
   rotate_left
   ·intro w hSw
    (try dsimp only at hSw)
    go_simp
    (try with_reducible rfl)
   (try simp only [Act.put,List.getElem_toArray,List.getElem_cons_zero,List.getElem_cons_succ,List.setIfInBounds_toArray,List.set_cons_zero,List.set_cons_succ])
   refine wpAnyH_take (i:=14) (v:=?_) rfl (by kernel_rfl) (by kernel_rfl) (by kernel_rfl) (fun _ _ _ h => h) (Or.inl ⟨by rfl,?_⟩) (by assumption) ?_
   rotate_left
   ·intro w hSw
    (try dsimp only at hSw)
    go_simp
    (try with_reducible rfl)
   (try simp only [Act.put,List.getElem_toArray,List.getElem_cons_zero,List.getElem_cons_succ,List.setIfInBounds_toArray,List.set_cons_zero,List.set_cons_succ])
   refine wpAnyH_take (i:=15) (v:=?_) rfl (by kernel_rfl) (by kernel_rfl) (by kernel_rfl) (fun _ _ _ h => h) (Or.inl ⟨by rfl,?_⟩) (by assumption) ?_
   rotate_left
   ·intro w hSw
    (try dsimp only at hSw)
    go_simp
    (try with_reducible rfl)
   (try simp only [Act.put,List.getElem_toArray,List.getElem_cons_zero,List.getElem_cons_succ,List.setIfInBounds_toArray,List.set_cons_zero,List.set_cons_succ])
   refine wpAnyH_take (i:=16) (v:=?_) rfl (by kernel_rfl) (by kernel_rfl) (by kernel_rfl) (fun _ _ _ h => h) (Or.inl ⟨by rfl,?_⟩) (by assumption) ?_
   rotate_left
   ·intro w hSw
    (try dsimp only at hSw)
    go_simp
    (try with_reducible rfl)
   (try simp only [Act.put,List.getElem_toArray,List.getElem_cons_zero,List.getElem_cons_succ,List.setIfInBounds_toArray,List.set_cons_zero,List.set_cons_succ])
   refine wpAnyH_take (i:=17) (v:=?_) rfl (by kernel_rfl) (by kernel_rfl) (by kernel_rfl) (fun _ _ _ h => h) (Or.inl ⟨by rfl,?_⟩) (by assumption) ?_
   rotate_left
   ·intro w hSw
    (try dsimp only at hSw)
    go_simp
    (try with_reducible rfl)
   (try simp only [Act.put,List.getElem_toArray,List.getElem_cons_zero,List.getElem_cons_succ,List.setIfInBounds_toArray,List.set_cons_zero,List.set_cons_succ])
   refine wpAnyH_take (i:=18) (v:=?_) rfl (by kernel_rfl) (by kernel_rfl) (by kernel_rfl) (fun _ _ _ h => h) (Or.inl ⟨by rfl,?_⟩) (by assumption) ?_
   rotate_left
   ·intro w hSw
    (try dsimp only at hSw)
    go_simp
    (try with_reducible rfl)
   (try simp only [Act.put,List.getElem_toArray,List.getElem_cons_zero,List.getElem_cons_succ,List.setIfInBounds_toArray,List.set_cons_zero,List.set_cons_succ])
   refine wpAnyH_take (i:=19) (v:=?_) rfl (by kernel_rfl) (by kernel_rfl) (by kernel_rfl) (fun _ _ _ h => h) (Or.inl ⟨by rfl,?_⟩) (by assumption) ?_
   rotate_left
   ·intro w hSw
    (try dsimp only at hSw)
    go_simp
    (try with_reducible rfl)
   (try simp only [Act.put,List.getElem_toArray,List.getElem_cons_zero,List.getElem_cons_succ,List.setIfInBounds_toArray,List.set_cons_zero,List.set_cons_succ])
   refine wpAnyH_take (i:=20) (v:=?_) rfl (by kernel_rfl) (by kernel_rfl) (by kernel_rfl) (fun _ _ _ h => h) (Or.inl ⟨by rfl,?_⟩) (by assumption) ?_
   rotate_left
   ·intro w hSw
    (try dsimp only at hSw)
    go_simp
    (try with_reducible rfl)
   (try simp only [Act.put,List.getElem_toArray,List.getElem_cons_zero,List.getElem_cons_succ,List.setIfInBounds_toArray,List.set_cons_zero,List.set_cons_succ])
   refine wpAnyH_take (i:=21) (v:=?_) rfl (by kernel_rfl) (by kernel_rfl) (by kernel_rfl) (fun _ _ _ h => h) (Or.inl ⟨by rfl,?_⟩) (by assumption) ?_
   rotate_left
   ·intro w hSw
    (try dsimp only at hSw)
    go_simp
    (try with_reducible rfl)
   (try simp only [Act.put,List.getElem_toArray,List.getElem_cons_zero,List.getElem_cons_succ,List.setIfInBounds_toArray,List.set_cons_zero,List.set_cons_succ])
   refine wpAnyH_take (i:=22) (v:=?_) rfl (by kernel_rfl) (by kernel_rfl) (by kernel_rfl) (fun _ _ _ h => h) (Or.inl ⟨by rfl,?_⟩) (by assumption) ?_
   rotate_left
   ·intro w hSw
    (try dsimp only at hSw)
    go_simp
    (try with_reducible rfl)
   (try simp only [Act.put,List.getElem_toArray,List.getElem_cons_zero,List.getElem_cons_succ,List.setIfInBounds_toArray,List.set_cons_zero,List.set_cons_succ])
   refine wpAnyH_ready (rs:=[10,23]) (by kernel_rfl) (by simp) ?_
   refine AllReadyH.cons rfl (fun K hK => ?_) (AllReadyH.cons rfl (fun K hK => ?_) AllReadyH.nil)
   (try simp only [List.getElem_toArray,List.getElem_cons_zero,List.getElem_cons_succ])
   go_simp
   refine hK.out _ _ ?_ (fun hHeld2 => ?_)
   ·go_keep
   clear hK K hHeld
   have hHeld:=hHeld2
   clear hHeld2
   (try simp only [Act.put,List.getElem_toArray,List.getElem_cons_zero,List.getElem_cons_succ,List.setIfInBounds_toArray,List.set_cons_zero,List.set_cons_succ])
   refine wpAnyH_ready (rs:=[23]) (by kernel_rfl) (by simp) ?_
   refine AllReadyH.cons rfl (fun K hK => ?_) AllReadyH.nil
   (try simp only [List.getElem_toArray,List.getElem_cons_zero,List.getElem_cons_succ])
   go_simp
   refine hK.out _ _ ?_ (fun hHeld2 => ?_)
   ·go_keep
   clear hK K hHeld
   have hHeld:=hHeld2
   clear hHeld2
   (try simp only [Act.put,List.getElem_toArray,List.getElem_cons_zero,List.getElem_cons_succ,List.setIfInBounds_toArray,List.set_cons_zero,List.set_cons_succ])
   refine wpAnyH_ready (rs:=[24]) (by kernel_rfl) (by simp) ?_
   refine AllReadyH.cons rfl (fun K hK => ?_) AllReadyH.nil
   (refine step_append_lies _ (by rfl) _ _ _ (by rfl) 0 49 i0 _ 2 16 Tryz.underlying46 hi0 hz0 hz1 hz2 rfl (by omega) (.slice a T.events.length cap) T.events.length (evCells T.events) (by rfl) (unhide HA) ⟨W3.heap.size,0,none⟩ 1 1 [Value.int .i64 (i:Int),.int .i64 ep] (by rfl) (by rfl) (unhide HNW) (unhide H1) (by omega) (by unfold maxLen;omega) (by omega) (Nat.zero_le _) (W3.heap.size + 1) (unhide HSZ) ?_;intro g2 cap2 w4 hown1 hgrow hat hlt1;obtain ⟨x0,x1,x2,x3,x4⟩:=unhide HFAR _ hgrow)
   refine hK.out _ _ ?_ (fun hHeld2 => ?_)
   ·exact ⟨x0,x1,x2⟩
   clear hK K hHeld
   have hHeld:=hHeld2
   clear hHeld2
   (try simp only [Act.put,List.getElem_toArray,List.getElem_cons_zero,List.getElem_cons_succ,List.setIfInBounds_toArray,List.set_cons_zero,List.set_cons_succ])
   refine wpAnyH_take (i:=25) (v:=?_) rfl (by kernel_rfl) (by kernel_rfl) (by kernel_rfl) (fun _ _ _ h => h) (Or.inl ⟨by rfl,?_⟩) (by assumption) ?_
   rotate_left
   ·intro w hSw
    (try dsimp only at hSw)
    go_simp
    (try with_reducible rfl)
   (try simp only [Act.put,List.getElem_toArray,List.getElem_cons_zero,List.getElem_cons_succ,List.setIfInBounds_toArray,List.set_cons_zero,List.set_cons_succ])
   refine wpAnyH_take (i:=26) (v:=?_) rfl (by kernel_rfl) (by kernel_rfl) (by kernel_rfl) (fun _ _ _ h => h) (Or.inl ⟨by rfl,?_⟩) (by assumption) ?_
   rotate_left
   ·intro w hSw
    (try dsimp only at hSw)
    go_simp
    (try with_reducible rfl)
   (try simp only [Act.put,List.getElem_toArray,List.getElem_cons_zero,List.getElem_cons_succ,List.setIfInBounds_toArray,List.set_cons_zero,List.set_cons_succ])
   refine wpAnyH_ready (rs:=[27]) (by kernel_rfl) (by simp) ?_
   refine AllReadyH.cons rfl (fun K hK => ?_) AllReadyH.nil
   (try simp only [List.getElem_toArray,List.getElem_cons_zero,List.getElem_cons_succ])
   go_simp
   refine hK.out _ _ ?_ (fun hHeld2 => ?_)
   ·go_keep
   clear hK K hHeld
   have hHeld:=hHeld2
   clear hHeld2
   (try simp only [Act.put,List.getElem_toArray,List.getElem_cons_zero,List.getElem_cons_succ,List.setIfInBounds_toArray,List.set_cons_zero,List.set_cons_succ])
   refine wpAnyH_done (by kernel_rfl) ?_ _
   rotate_left
   (try simp only [List.getElem_toArray,List.getElem_cons_zero,List.getElem_cons_succ])
   go_simp
   refine hK.out _ _ ?_ (fun hHeld2 => ?_)
   ·go_keep
   clear hK K hHeld
   have hHeld:=hHeld2
   clear hHeld2
   (try simp only [Act.put,List.getElem_toArray,List.getElem_cons_zero,List.getElem_cons_succ,List.setIfInBounds_toArray,List.set_cons_zero,List.set_cons_succ])
   refine wpAnyH_ready (rs:=[10]) (by kernel_rfl) (by simp) ?_
   refine AllReadyH.cons rfl (fun K hK => ?_) AllReadyH.nil
   (try simp only [List.getElem_toArray,List.getElem_cons_zero,List.getElem_cons_succ])
   go_simp
   refine hK.out _ _ ?_ (fun hHeld2 => ?_)
   ·go_keep
   clear hK K hHeld
   have hHeld:=hHeld2
   clear hHeld2
   (try simp only [Act.put,List.getElem_toArray,List.getElem_cons_zero,List.getElem_cons_succ,List.setIfInBounds_toArray,List.set_cons_zero,List.set_cons_succ])
   refine wpAnyH_ready (rs:=[24]) (by kernel_rfl) (by simp) ?_
   refine AllReadyH.cons rfl (fun K hK => ?_) AllReadyH.nil
   (refine step_append_lies _ (by rfl) _ _ _ (by rfl) 0 49 i0 _ 2 16 Tryz.underlying46 hi0 hz0 hz1 hz2 rfl (by omega) (.slice a T.events.length cap) T.events.length (evCells T.events) (by rfl) (unhide HA) ⟨W3.heap.size,0,none⟩ 1 1 [Value.int .i64 (i:Int),.int .i64 ep] (by rfl) (by rfl) (unhide HNW) (unhide H1) (by omega) (by unfold maxLen;omega) (by omega) (Nat.zero_le _) (W3.heap.size + 1) (unhide HSZ) ?_;intro g2 cap2 w4 hown1 hgrow hat hlt1;obtain ⟨x0,x1,x2,x3,x4⟩:=unhide HFAR _ hgrow)
   refine hK.out _ _ ?_ (fun hHeld2 => ?_)
   ·exact ⟨x0,x1,x2⟩
   clear hK K hHeld
   have hHeld:=hHeld2
   clear hHeld2
   (try simp only [Act.put,List.getElem_toArray,List.getElem_cons_zero,List.getElem_cons_succ,List.setIfInBounds_toArray,List.set_cons_zero,List.set_cons_succ])
   refine wpAnyH_take (i:=25) (v:=?_) rfl (by kernel_rfl) (by kernel_rfl) (by kernel_rfl) (fun _ _ _ h => h) (Or.inl ⟨by rfl,?_⟩) (by assumption) ?_
   rotate_left
   ·intro w hSw
    (try dsimp only at hSw)
    go_simp
    (try with_reducible rfl)
   (try simp only [Act.put,List.getElem_toArray,List.getElem_cons_zero,List.getElem_cons_succ,List.setIfInBounds_toArray,List.set_cons_zero,List.set_cons_succ])
   refine wpAnyH_take (i:=26) (v:=?_) rfl (by kernel_rfl) (by kernel_rfl) (by kernel_rfl) (fun _ _ _ h => h) (Or.inl ⟨by rfl,?_⟩) (by assumption) ?_
   rotate_left
   ·intro w hSw
    (try dsimp only at hSw)
    go_simp
    (try with_reducible rfl)
   (try simp only [Act.put,List.getElem_toArray,List.getElem_cons_zero,List.getElem_cons_succ,List.setIfInBounds_toArray,List.set_cons_zero,List.set_cons_succ])
   refine wpAnyH_ready (rs:=[27]) (by kernel_rfl) (by simp) ?_
   refine AllReadyH.cons rfl (fun K hK => ?_) AllReadyH.nil
   (try simp only [List.getElem_toArray,List.getElem_cons_zero,List.getElem_cons_succ])
   go_simp
   refine hK.out _ _ ?_ (fun hHeld2 => ?_)
   ·go_keep
   clear hK K hHeld
   have hHeld:=hHeld2
   clear hHeld2
   (try simp only [Act.put,List.getElem_toArray,List.getElem_cons_zero,List.getElem_cons_succ,List.setIfInBounds_toArray,List.set_cons_zero,List.set_cons_succ])
   refine wpAnyH_done (by kernel_rfl) ?_ _
   rotate_left
   all_goals
    have hX4:Below W3.heap.size W3 (W3.alloc (.cells #[.int .i64 (i:Int),.int .i64 ep] 49)).drew:=((Below.refl W3.heap.size W3).alloc (Nat.le_refl _) _).drew
    have hd5:=unhide HCE _ w4 g2 cap2 ((i:Int),ep) hX4 hgrow hown1 (by
     rcases hat with e | e
     ·exact .inl e
     ·exact .inr (by omega))
    rw [← unhide HST] at hd5
    obtain ⟨bs5,h5,k5⟩:=hd5.open
    have HX5:=hide ((unhide HX3).trans k5)
    have HH5:=hide h5
    clear hd5 h5 k5 hX4 hgrow hown1 hat x0 x1 x2 x3 x4 HCE HA HNW HSZ HFAR H1
    generalize w4.setCell ⟨bt,6,none⟩ (.slice (some ⟨g2,0,none⟩) (T.events.length + 1) cap2) = w5 at *
    have hp5:(T.stood i).peer i = { T.peer i with established:=true }:=by
     show ({ T.setP i { T.peer i with established:=true } with events:=_ }:PTown).peer i = _
     exact PTown.peer_set hi _
    have hl5:(T.stood i).ps.length = T.ps.length:=PTown.setP_len (T:=T) i { T.peer i with established:=true }
    obtain ⟨_,q5,hat5,_,_,_,_,_⟩:=(unhide HH5).at hb
    have e64:w5.cell? ⟨b,64,none⟩ = some (.int .i64 (T.peer i).c.p):=by rw [hat5.f64,hp5]
    have e65:w5.cell? ⟨b,65,none⟩ = some (.int .i64 (T.peer i).c.t):=by rw [hat5.f65,hp5]
    have e66:w5.cell? ⟨b,66,none⟩ = some (.int .i64 (T.peer i).c.e):=by rw [hat5.f66,hp5]
    have e67:w5.cell? ⟨b,67,none⟩ = some (.int .i64 (T.peer i).c.v):=by rw [hat5.f67,hp5]
    have e79:w5.cell? ⟨b,79,none⟩ = some (.int .i64 ep):=by rw [hat5.f79,hp5,unhide HEP]
    have hbl5:b < w5.heap.size:=hat5.box.lt
    have hX6:Below w5.heap.size w5 (w5.alloc (.cells #[.int .i64 (T.peer i).c.p,.int .i64 (T.peer i).c.t,.int .i64 ep,.int .i64 (T.peer i).c.v] 39)):=(Below.refl w5.heap.size w5).alloc (Nat.le_refl _) _
    have hc5:({ (T.peer i).c with e:=ep }:CredM).ok:=by rw [unhide HEP];exact hc
    have HW:=hide (wr_any i b { (T.peer i).c with e:=ep } _ bt pb bs5 (T.stood i) ((unhide HH5).below hX6) hb (by rw [hp5];exact hw.of rfl rfl rfl) hc5)
    have HX6:=hide ((unhide HX5).below hX6)
    have ha5:((T.stood i).peer i).armed = (T.peer i).armed:=by rw [hp5]
    rw [ha5] at HW
    obtain ⟨T6,hT6⟩:∃ T6,T6 = (T.stood i).write i { (T.peer i).c with e:=ep }:=⟨_,rfl⟩
    have hac:(T.peer i).armed = false → (T6.peer i).acked = some l:=fun ha => by
     rw [hT6]
     unfold PTown.write
     rw [PTown.peer_set (by omega),hp5]
     unfold PeerP.writeP
     rw [if_neg (by rw [ha];simp)]
     exact hl
    have hn6:T6.net = T.net:=by rw [hT6];rfl
    rw [← hT6] at HW HT
    have HAC:=hide hac
    clear hat5 hX6 HX5 HH5 hp5 hT6 hac ha5 hc5
    cases harm:(T.peer i).armed with
    | true =>
     rw [harm] at HW HT
     simp only [if_true] at HT
     go_wp2_with (go_at_call 70;refine (unhide HW).mono ?_;rintro o w8 ⟨rfl,hd⟩)
     go_end0
     exact ⟨rfl,by rw [unhide HT];exact (unhide HX6).did hd⟩
    | false =>
     rw [harm] at HW HT
     simp only [if_false,Bool.false_eq_true] at HT
     go_upto_region 6 with (go_at_call 70;refine (unhide HW).mono ?_;rintro o w8 ⟨rfl,hd⟩)
     obtain ⟨bs8,h8,k8⟩:=hd.open
     obtain ⟨_,q8,hat8,_,_,_,_,_⟩:=h8.at hb
     have hma:=hat8.ma
     rw [unhide HAC harm] at hma
     obtain ⟨g8,hg8,hm8⟩:=hma.some
     have d81:=hat8.f81
     rw [hg8] at d81
     have HIO:=hide (inOrderU_any g8 l w8 hm8)
     have hk7:=keys7 l hm8.2
     have HH8:=hide h8
     have HX8:=hide ((unhide HX6).trans k8)
     clear hat8 hma hm8 h8 k8 hd HW e64 e65 e66 e67 e79
     go_wp2_with (go_at_call 162;refine (unhide HIO).mono ?_;rintro o w9 ⟨v9,rfl,hv9,hB9⟩)
     have HA:=hide (((unhide HX8).below hB9).calls (welcome_any i b w9 bt pb bs8 T6 ((unhide HH8).below hB9) hb (by omega) _ v9 hv9 hk7) (unhide HT))
     clear hv9 hB9 HIO HT HX8 HH8
     refine (unhide HA).mono ?_
     rintro o w10 ⟨rfl,hd⟩
     have HE:=hide hd
     clear hd HA
     go_wp2
     go_end0
     exact ⟨rfl,unhide HE⟩
end Go.Proofs.YtceappncglfciaaGreat
