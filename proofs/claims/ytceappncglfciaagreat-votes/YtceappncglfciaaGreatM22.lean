import Derived.Test.YtceappncglfciaaGreatM21
set_option linter.unusedVariables false
set_option linter.unusedSimpArgs false
namespace Go.Proofs.YtceappncglfciaaGreat
open Go.RowKit
attribute [local go_sem ↓] Go.wp_at_zero Go.wp_at_succ
set_option maxRecDepth 100000 in
set_option maxHeartbeats 4000000 in
theorem takeJoin_any (i b k:Nat) (m:MsgM) (W:World) (bt:Nat) (pb bs:List Nat) (T:PTown) (h:PR W bt pb bs T) (hb:pb[i]? = some b) (hp:T.ps.length ≤ 7) (hn:T.net ≤ 1000) (hk:k < 7) (hsrc:m.src = (k:Int)) (l:List (Option Int)) (hl:(T.peer i).joined = some l) (la:List (Option Unit)) (hla:(T.peer i).acked = some la) (hev:T.events.length ≤ 40000000000)
  (hr:0 ≤ (T.peer i).round ∧ (T.peer i).round ≤ 4611686018427387904) (hw:Wr 2 (T.peer i)) (hc:(T.peer i).c.ok) (hj:∀ k v,atL l k = some v → 0 ≤ v ∧ v < 4294967296) (hme:0 ≤ m.epoch ∧ m.epoch < 4294967296) :
  Calls Tryz.prog 132 #[.pointer (some ⟨b,0,none⟩),m.val] W fun o w' => o = .returned (.tuple #[]) ∧ PDid W bt pb bs w' (T.takeJoin i m):=by
 have hX:=(Below.refl W.heap.size W).alloc (Nat.le_refl _) (.cells m.cells.toArray 133)
 have HM:=hide (MBox.new W m)
 have HH:=hide (h.below hX)
 have HX:=hide (Links.of_below bs hX)
 have HN:=hide h.new_notin
 have hi:i < T.ps.length:=(h.at hb).1
 have HSRC:=hide hsrc
 clear hsrc
 clear h hX
 unfold MsgM.val
 simp only [MsgM.cells] at HM HH HX
 go_enter Tryz.func132,Tryz.ntmps132
 go_upto_region 1 with fail
 generalize W.alloc (.cells #[.int .i64 m.kind,.int .i64 m.src,.int .i64 m.dst,.int .i64 m.round,.int .i64 m.state,.int .i64 m.vote.e,.int .i64 m.vote.n,.int .i64 m.vote.p,.int .i64 m.epoch,.int .i64 m.news] 133) = W1 at *
 obtain ⟨g,w5,c80,hrun,hd5⟩:=join_put (k:=k) (unhide HH) hb hk m.epoch hl
 have m1:=(unhide HM).m1
 rw [unhide HSRC] at m1
 have m8:=(unhide HM).m8
 have hW1:W.heap.size < W1.heap.size:=(unhide HM).lt
 obtain ⟨bs5,h5,k5⟩:=hd5.open
 have HM5:=hide ((unhide HM).links k5 (unhide HN))
 have HX5:=hide ((unhide HX).trans k5)
 have HN5:=hide (k5.notin hW1 (unhide HN))
 obtain ⟨T5,hT5⟩:∃ T5,T5 = T.setP i (PTown.join (T.peer i) (k:Int) m.epoch):=⟨_,rfl⟩
 rw [← hT5] at h5
 obtain ⟨l5,hl5⟩:∃ l5,l5 = l.set k (some m.epoch):=⟨_,rfl⟩
 have hp5:T5.peer i = { T.peer i with joined:=some l5 }:=by
  rw [hT5,PTown.peer_set hi,hl5];simp [PTown.join,mapL,hl]
 have hlen5:T5.ps.length = T.ps.length:=by rw [hT5,PTown.setP_len]
 have hn5:T5.net = T.net:=by rw [hT5];rfl
 have he5:T5.events = T.events:=by rw [hT5];rfl
 have HT:Hid (T.takeJoin i m = if (T.peer i).epoch = 0 then (if T5.most ((l5.countP Option.isSome:Nat) + 1) = true then T5.propose i else T5) else if (T.peer i).epoch < m.epoch then T5.look i else T5.sendTo (T5.proposalM i) i [m.src]):=by
  show _ = _
  have e1:T.setP i (PTown.join (T.peer i) m.src m.epoch) = T5:=by rw [unhide HSRC,hT5]
  have e2:T.most = T5.most:=by funext n;unfold PTown.most;rw [hlen5]
  unfold PTown.takeJoin
  simp only [e1,e2,hp5,mapL,Option.getD_some]
 have hj5:∀ k v,atL l5 k = some v → 0 ≤ v ∧ v < 4294967296:=fun k' v hv => by
  rw [hl5] at hv
  unfold atL at hv
  rw [List.getElem?_set] at hv
  split at hv
  ·split at hv
   ·have:v = m.epoch:=by simpa using hv.symm
    rw [this];exact hme
   ·simp at hv
  ·exact hj k' v hv
 have HH5:=hide h5
 have HP5:=hide hp5
 have HJ5:=hide hj5
 clear hd5 h5 k5 HH HM HX hT5 hl5 hp5 hj5 hj
 go_region_with (fail)
 all_goals
  obtain ⟨_,q5,hat5,_,_,_,_,_⟩:=(unhide HH5).at hb
  have d79:w5.cell? ⟨b,79,none⟩ = some (.int .i64 (T.peer i).epoch):=by rw [hat5.f79,unhide HP5]
  have d0:=hat5.town
  have hmj:=hat5.mj
  rw [unhide HP5] at hmj
  obtain ⟨g5,hg5,hm5⟩:=hmj.some
  have d80:=hat5.f80
  rw [hg5] at d80
  have hW5:W.heap.size < w5.heap.size:=(unhide HM5).lt
  have n8:=(unhide HM5).m8
  have n1:=(unhide HM5).m1
  clear hrun c80 m1 m8
  by_cases h0:(T.peer i).epoch = 0
  ·have q0:((T.peer i).epoch == 0) = true:=by simp [h0]
   rw [if_pos h0] at HT
   have hl7:=countP7 hm5.2
   have hlen:∀ (n:Nat) (ty:TypeId),(Builtin.len_ #[105] ty #[.map (some g5)]).run Tryz.prog (w5.drewN n) = .ok (.int .i64 (l5.countP Option.isSome:Nat)) (w5.drewN n):=fun n ty => MapIs.len (W:=w5.drewN n) (hm5.same rfl) Tryz.underlying105 ty
   generalize l5.countP Option.isSome = na at *
   have HMO:Hid (∀ n,Calls Tryz.prog 112 #[.pointer (some ⟨bt,0,none⟩),.int .i64 ((na:Int) + 1)] (w5.drewN n) fun o w' => o = .returned (.bool (T5.most ((na:Int) + 1))) ∧ w' = w5.drewN n):=fun n => most_any _ (w5.drewN n) bt pb bs5 T5 ((unhide HH5).below (below_drewN (Below.refl w5.heap.size w5) n)) (by omega) (by omega) (by omega)
   clear h0 hat5 hmj hm5
   go_upto_region 4 with fail
   cases hmo:T5.most ((na:Int) + 1) with
   | true =>
    rw [hmo] at HMO HT
    simp only [if_true] at HT
    clear hmo
    go_quiet ((go_at_call 112;exact Calls.quiet_of_same (unhide HMO _)))
    have hbd:=below_drewN (Below.refl w5.heap.size w5) nq
    have HA:=hide (((unhide HX5).below hbd).calls (propose_any i b _ bt pb bs5 T5 ((unhide HH5).below hbd) hb (by omega) (by omega) l5 (by rw [unhide HP5]) la (by rw [unhide HP5];exact hla) (by rw [he5];exact hev) (by rw [unhide HP5];exact hr) (by rw [unhide HP5];exact hw.of rfl rfl rfl) (by rw [unhide HP5];exact hc) (unhide HJ5)) (unhide HT))
    clear hbd hlen d79 d0 d80 n8 n1 HMO HT HX5 HH5 HM5 HN5
    generalize w5.drewN nq = w6 at *
    go_wp2_with fail
    refine (unhide HA).mono ?_
    rintro o w8 ⟨rfl,hd⟩
    have HE:=hide hd
    clear hd HA
    go_wp2
    go_end0
    exact ⟨rfl,unhide HE⟩
   | false =>
    rw [hmo] at HMO HT
    simp only [if_false,Bool.false_eq_true] at HT
    clear hmo
    go_quiet ((go_at_call 112;exact Calls.quiet_of_same (unhide HMO _)))
    have hbd:=below_drewN (Below.refl w5.heap.size w5) nq
    have HF:=hide (((unhide HX5).below hbd).did (PDid.rfl' ((unhide HH5).below hbd)))
    clear hbd hlen d79 d0 d80 n8 n1 HMO HX5 HH5 HM5 HN5
    generalize w5.drewN nq = w6 at *
    go_wp2
    go_end0
    exact ⟨rfl,by rw [unhide HT];exact unhide HF⟩
  ·have q0:((T.peer i).epoch == 0) = false:=by simp [h0]
   rw [if_neg h0] at HT
   clear h0 hmj hm5 hat5
   by_cases hgt:(T.peer i).epoch < m.epoch
   ·have q1:decide ((T.peer i).epoch < m.epoch) = true:=by simpa using hgt
    rw [if_pos hgt] at HT
    clear hgt
    go_upto_region 6 with fail
    go_quiet (fail)
    have hbd:=below_drewN (Below.refl w5.heap.size w5) nq
    have HA:=hide (((unhide HX5).below hbd).calls (look_any i b _ bt pb bs5 T5 ((unhide HH5).below hbd) hb (by omega) (by omega) (by rw [unhide HP5];exact hr)) (unhide HT))
    clear hbd d79 d0 d80 n8 n1 HT HX5 HH5 HM5 HN5
    generalize w5.drewN nq = w6 at *
    go_wp2_with fail
    refine (unhide HA).mono ?_
    rintro o w8 ⟨rfl,hd⟩
    have HE:=hide hd
    clear hd HA
    go_wp2
    go_end0
    exact ⟨rfl,unhide HE⟩
   ·have q1:decide ((T.peer i).epoch < m.epoch) = false:=by simpa using hgt
    rw [if_neg hgt] at HT
    clear hgt
    go_upto_region 6 with fail
    go_quiet (fail)
    have hbd:=below_drewN (Below.refl w5.heap.size w5) nq
    have HH6:=hide ((unhide HH5).below hbd)
    have HX6:=hide ((unhide HX5).below hbd)
    have HM6:=hide ((unhide HM5).keep hbd)
    clear hbd d79 d0 d80 n8 n1 HX5 HH5 HM5
    generalize w5.drewN nq = w6 at *
    have n1:=(unhide HM6).m1
    have hW6:W.heap.size < w6.heap.size:=(unhide HM6).lt
    have HQ:Hid (∀ w7:World,Below w6.heap.size w6 w7 → w7.cell? ⟨W.heap.size,1,none⟩ = some (.int .i64 m.src)):=fun w7 hB => (hB.cell (p:=⟨W.heap.size,1,none⟩) hW6).trans n1
    have HS:Hid (∀ w7:World,Below w6.heap.size w6 w7 → Calls Tryz.prog 149 #[.pointer (some ⟨b,0,none⟩)] w7 fun o w' => o = .returned (T5.proposalM i).val ∧ Below w6.heap.size w6 w'):=fun w7 hB => (proposal_any i b w7 bt pb bs5 T5 ((unhide HH6).below hB) hb).mono (fun o w' hh => ⟨hh.1,below_then hB hh.2⟩)
    have HD:Hid (∀ w7:World,Below w6.heap.size w6 w7 → Calls Tryz.prog 114 #[.pointer (some ⟨b,0,none⟩),(T5.proposalM i).val,.slice (some ⟨w7.heap.size,0,none⟩) 1 1] (w7.alloc (.cells #[.int .i64 m.src] 3)) fun o w' => o = .returned (.tuple #[]) ∧ PDid W bt pb bs w' (T.takeJoin i m)):=fun w7 hB => by
     have hb2:=hB.alloc hB.size (.cells #[.int .i64 m.src] 3)
     exact ((unhide HX6).below hb2).calls (send_any i b _ _ bt pb bs5 T5 ((unhide HH6).below hb2) hb (by omega) [m.src] _ (to_one w7 m.src) (by simp)) (unhide HT)
    obtain ⟨W2,hW2⟩:∃ W2,W2 = (w6.alloc (.cells #[.int .i64 m.src] 3)).drew:=⟨_,rfl⟩
    have hb2:Below w6.heap.size w6 W2:=by rw [hW2];exact ((Below.refl w6.heap.size w6).alloc (Nat.le_refl _) _).drew
    have HS2:Hid (Calls Tryz.prog 149 #[.pointer (some ⟨b,0,none⟩)] W2 fun o w' => o = .returned (T5.proposalM i).val ∧ Below W2.heap.size W2 w'):=proposal_any i b W2 bt pb bs5 T5 ((unhide HH6).below hb2) hb
    have HD2:Hid (∀ w7:World,Below W2.heap.size W2 w7 → Calls Tryz.prog 114 #[.pointer (some ⟨b,0,none⟩),(T5.proposalM i).val,.slice (some ⟨w6.heap.size,0,none⟩) 1 1] w7 fun o w' => o = .returned (.tuple #[]) ∧ PDid W bt pb bs w' (T.takeJoin i m)):=fun w7 hB => by
     have hb3:=below_then hb2 hB
     have hrow:ToRow w7 (.slice (some ⟨w6.heap.size,0,none⟩) 1 1) [m.src]:=by
      refine own_same (W:=W2) (by rw [hW2];exact to_one w6 m.src) (fun g hg => hB.block g ?_)
      have:w6.heap.size = g:=by simpa [Value.ownBlock] using hg
      rw [← this,hW2]
      show w6.heap.size < (w6.alloc _).heap.size
      simp
     exact ((unhide HX6).below hb3).calls (send_any i b _ _ bt pb bs5 T5 ((unhide HH6).below hb3) hb (by omega) [m.src] _ hrow (by simp)) (unhide HT)
    rw [hW2] at HS2 HD2
    clear hb2 hW2
    have HB0:Hid (Below w6.heap.size w6 w6.drew):=(Below.refl w6.heap.size w6).drew
    simp only [MsgM.val,PTown.proposalM,unhide HP5,voteZ] at HS HD HS2 HD2
    clear HM6 HX6 HH6
    go_upto_region 2 with fail
    go_region_law (first | (go_simp;go_at_call 149;refine (unhide HS _ (unhide HB0)).mono ?_;rintro o w7 ⟨rfl,hB7⟩;have e1:=unhide HQ w7 hB7;have HB7:=hide hB7;clear hB7) | (go_simp;go_at_call 149;refine (unhide HS2).mono ?_;rintro o w7 ⟨rfl,hB7⟩;have HB8:=hide hB7;clear hB7) | (go_simp;go_at_call 114;refine (unhide HD2 _ (unhide HB8)).mono ?_;rintro o w8 ⟨rfl,hd8⟩;have HD8:=hide hd8;clear hd8) | (go_simp;go_at_call 114;refine (unhide HD _ (unhide HB7)).mono ?_;rintro o w8 ⟨rfl,hd8⟩;have HD8:=hide hd8;clear hd8))
    all_goals
     go_wp2
     go_end0
     exact ⟨rfl,unhide HD8⟩
end Go.Proofs.YtceappncglfciaaGreat
namespace Go.Proofs.YtceappncglfciaaGreat
open Go.RowKit
attribute [local go_sem ↓] Go.wp_at_zero Go.wp_at_succ
theorem behind_or (p:PeerP) (v:VoteM):decide (orL [cmpI p.c.e v.e,cmpI p.c.v v.n] < 0) = p.isBehind v:=by
 unfold PeerP.isBehind
 have key:∀ x y:Int,(cmpI x y = 0 ↔ x = y) ∧ (cmpI x y < 0 ↔ x < y):=fun x y => by unfold cmpI;constructor <;> (split <;> (try split)) <;> constructor <;> intro <;> omega
 by_cases h1:p.c.e = v.e
 ·have e1:=(key p.c.e v.e).1.2 h1
  have b1:(p.c.e == v.e) = true:=by simp [h1]
  have b2:decide (p.c.e < v.e) = false:=by simp;omega
  by_cases h2:p.c.v = v.n
  ·have e2:=(key p.c.v v.n).1.2 h2
   have b3:decide (p.c.v < v.n) = false:=by simp;omega
   simp [orL,e1,e2,b1,b2,b3]
  ·have e2:¬ cmpI p.c.v v.n = 0:=fun e => h2 ((key _ _).1.1 e)
   rw [b1,b2]
   simp [orL,e1,e2,(key p.c.v v.n).2]
 ·have e1:¬ cmpI p.c.e v.e = 0:=fun e => h1 ((key _ _).1.1 e)
  have b1:(p.c.e == v.e) = false:=by simp [h1]
  rw [b1]
  simp [orL,e1,(key p.c.e v.e).2]
set_option maxRecDepth 100000 in
set_option maxHeartbeats 1000000 in
theorem isBehind_any (i b:Nat) (v:VoteM) (W:World) (bt:Nat) (pb bs:List Nat) (T:PTown) (h:PR W bt pb bs T) (hb:pb[i]? = some b) :
  Calls Tryz.prog 150 #[.pointer (some ⟨b,0,none⟩),.agg #[.int .i64 v.e,.int .i64 v.n,.int .i64 v.p]] W fun o w' => o = .returned (.bool ((T.peer i).isBehind v)) ∧ Below W.heap.size W w':=by
 have HO:=hide (behind_or (T.peer i) v)
 have H4:Hid (∀ (w:World) (g:Nat),Box w g #[.int .i64 (cmpI (T.peer i).c.e v.e),.int .i64 (cmpI (T.peer i).c.v v.n)] 3 → Calls Tryz.prog 156 #[.slice (some ⟨g,0,none⟩) 2 2] w fun o w' => o = .returned (.int .i64 (orL [cmpI (T.peer i).c.e v.e,cmpI (T.peer i).c.v v.n])) ∧ w' = w):=fun w g hb => or_any [cmpI (T.peer i).c.e v.e,cmpI (T.peer i).c.v v.n] g 2 w (by simp) (fun k hk => by
  rw [hb.cell k]
  simp only [List.length_cons,List.length_nil,Nat.zero_add,Nat.reduceAdd] at hk
  rcases k with _ | _ | k
  ·rfl
  ·rfl
  ·omega)
 generalize orL [cmpI (T.peer i).c.e v.e,cmpI (T.peer i).c.v v.n] = s at *
 obtain ⟨q,hat⟩:=h.peerAt hb
 have c64:=hat.f64
 have c65:=hat.f65
 have c66:=hat.f66
 have c67:=hat.f67
 have hbl:b < W.heap.size:=hat.box.lt
 have HN:Hid (Below W.heap.size W ((W.alloc (.cells #[.int .i64 v.e,.int .i64 v.n,.int .i64 v.p] 100)).alloc (.cells #[.int .i64 (T.peer i).c.p,.int .i64 (T.peer i).c.t,.int .i64 (T.peer i).c.e,.int .i64 (T.peer i).c.v] 39))):=((Below.refl _ _).alloc (Nat.le_refl _) _).alloc (by simp) _
 have HX1:Hid (Box ((W.alloc (.cells #[.int .i64 v.e,.int .i64 v.n,.int .i64 v.p] 100)).alloc (.cells #[.int .i64 (T.peer i).c.p,.int .i64 (T.peer i).c.t,.int .i64 (T.peer i).c.e,.int .i64 (T.peer i).c.v] 39)) W.heap.size #[.int .i64 v.e,.int .i64 v.n,.int .i64 v.p] 100):=(Box.new _ _ _).alloc _
 have HX2:Hid (Box ((W.alloc (.cells #[.int .i64 v.e,.int .i64 v.n,.int .i64 v.p] 100)).alloc (.cells #[.int .i64 (T.peer i).c.p,.int .i64 (T.peer i).c.t,.int .i64 (T.peer i).c.e,.int .i64 (T.peer i).c.v] 39)) (W.heap.size + 1) #[.int .i64 (T.peer i).c.p,.int .i64 (T.peer i).c.t,.int .i64 (T.peer i).c.e,.int .i64 (T.peer i).c.v] 39):=by
  have:=Box.new (W.alloc (.cells #[.int .i64 v.e,.int .i64 v.n,.int .i64 v.p] 100)) #[.int .i64 (T.peer i).c.p,.int .i64 (T.peer i).c.t,.int .i64 (T.peer i).c.e,.int .i64 (T.peer i).c.v] 39
  rwa [World.size_alloc] at this
 clear h hat
 go_enter Tryz.func150,Tryz.ntmps150
 go_upto_region 2 with fail
 generalize (W.alloc (.cells #[.int .i64 v.e,.int .i64 v.n,.int .i64 v.p] 100)).alloc (.cells #[.int .i64 (T.peer i).c.p,.int .i64 (T.peer i).c.t,.int .i64 (T.peer i).c.e,.int .i64 (T.peer i).c.v] 39) = W2 at *
 have a0:W2.cell? ⟨W.heap.size,0,none⟩ = some (.int .i64 v.e):=(unhide HX1).cell 0
 have a1:W2.cell? ⟨W.heap.size,1,none⟩ = some (.int .i64 v.n):=(unhide HX1).cell 1
 have b2:W2.cell? ⟨W.heap.size + 1,2,none⟩ = some (.int .i64 (T.peer i).c.e):=(unhide HX2).cell 2
 have b3:W2.cell? ⟨W.heap.size + 1,3,none⟩ = some (.int .i64 (T.peer i).c.v):=(unhide HX2).cell 3
 have hl1:W.heap.size < W2.heap.size:=(unhide HX1).lt
 have hl2:W.heap.size + 1 < W2.heap.size:=(unhide HX2).lt
 have hB:=unhide HN
 have H5:=hide (unhide H4 ((W2.alloc (.cells #[.int .i64 (cmpI (T.peer i).c.e v.e),.int .i64 (cmpI (T.peer i).c.v v.n)] 3)).drew) W2.heap.size (Box.new W2 #[.int .i64 (cmpI (T.peer i).c.e v.e),.int .i64 (cmpI (T.peer i).c.v v.n)] 3))
 clear HX1 HX2 HN
 go_region_held3 (fun w' => w'.cell? ⟨W.heap.size,0,none⟩ = some (.int .i64 v.e) ∧ w'.cell? ⟨W.heap.size,1,none⟩ = some (.int .i64 v.n) ∧ w'.cell? ⟨W.heap.size + 1,2,none⟩ = some (.int .i64 (T.peer i).c.e) ∧ w'.cell? ⟨W.heap.size + 1,3,none⟩ = some (.int .i64 (T.peer i).c.v)) (go_keep) (first | (go_at_call 157;refine (compare_int _ _ _).mono ?_;rintro o w1 ⟨rfl,rfl⟩) | (go_at_call 156;refine (unhide H5).mono ?_;rintro o w1 ⟨rfl,rfl⟩))
 go_wp2
 go_ret
 exact ⟨by rw [← unhide HO];rfl,(hB.alloc hB.size _).drew⟩
set_option maxRecDepth 100000 in
set_option maxHeartbeats 4000000 in
theorem takeAck_any (i b k:Nat) (m:MsgM) (W:World) (bt:Nat) (pb bs:List Nat) (T:PTown) (h:PR W bt pb bs T) (hb:pb[i]? = some b) (hp:T.ps.length ≤ 7) (hn:T.net ≤ 1000) (hk:k < 7) (hsrc:m.src = (k:Int)) (la:List (Option Unit)) (hla:(T.peer i).acked = some la) (hev:T.events.length ≤ 40000000000)
  (hr:0 ≤ (T.peer i).round ∧ (T.peer i).round ≤ 4611686018427387904) (hw:Wr 1 (T.peer i)) (hc:({ (T.peer i).c with e:=(T.peer i).epoch }:CredM).ok) :
  Calls Tryz.prog 133 #[.pointer (some ⟨b,0,none⟩),m.val] W fun o w' => o = .returned (.tuple #[]) ∧ PDid W bt pb bs w' (T.takeAck i m):=by
 have hX:=(Below.refl W.heap.size W).alloc (Nat.le_refl _) (.cells m.cells.toArray 133)
 have HM:=hide (MBox.new W m)
 have HH:=hide (h.below hX)
 have HX:=hide (Links.of_below bs hX)
 have HN:=hide h.new_notin
 have hi:i < T.ps.length:=(h.at hb).1
 have HSRC:=hide hsrc
 clear hsrc
 clear h hX
 unfold MsgM.val
 simp only [MsgM.cells] at HM HH HX
 go_enter Tryz.func133,Tryz.ntmps133
 go_upto_region 1 with fail
 generalize W.alloc (.cells #[.int .i64 m.kind,.int .i64 m.src,.int .i64 m.dst,.int .i64 m.round,.int .i64 m.state,.int .i64 m.vote.e,.int .i64 m.vote.n,.int .i64 m.vote.p,.int .i64 m.epoch,.int .i64 m.news] 133) = W1 at *
 obtain ⟨q,hat⟩:=(unhide HH).peerAt hb
 have c82:=hat.f82
 have m5:=(unhide HM).m5
 have m6:=(unhide HM).m6
 have m7:=(unhide HM).m7
 have hW1:W.heap.size < W1.heap.size:=(unhide HM).lt
 have HC:=hide (isBehind_any i b m.vote W1 bt pb bs T (unhide HH) hb)
 clear hat
 cases hes:(T.peer i).established with
 | true =>
  rw [hes] at c82
  have HT:Hid (T.takeAck i m = (T.setP i (PTown.acks (T.peer i) (k:Int))).welcome i [m.src]):=by
   show _ = _
   unfold PTown.takeAck
   rw [hes,← unhide HSRC];simp
  have hes':=hide hes
  clear hes
  go_upto_region 3 with fail
  obtain ⟨g,c81,⟨w5,hrun,hd5⟩,_⟩:=ack_put (k:=k) (unhide HH) hb hk hla
  have m1:=(unhide HM).m1
  rw [unhide HSRC] at m1
  obtain ⟨bs5,h5,k5⟩:=hd5.open
  have HM5:=hide ((unhide HM).links k5 (unhide HN))
  have HX5:=hide ((unhide HX).trans k5)
  obtain ⟨T5,hT5⟩:∃ T5,T5 = T.setP i (PTown.acks (T.peer i) (k:Int)):=⟨_,rfl⟩
  rw [← hT5] at h5 HT
  have hp5:T5.peer i = PTown.acks (T.peer i) (k:Int):=by rw [hT5,PTown.peer_set hi]
  have hn5:T5.net = T.net:=by rw [hT5];rfl
  obtain ⟨q5,hat5⟩:=h5.peerAt hb
  have d82:w5.cell? ⟨b,82,none⟩ = some (.bool true):=by rw [hat5.f82,hp5];show some (Value.bool (T.peer i).established) = _;rw [unhide hes']
  have n1:=(unhide HM5).m1
  have hb2:=(Below.refl w5.heap.size w5).alloc (Nat.le_refl _) (.cells #[.int .i64 m.src] 3)
  have HA:=hide (((unhide HX5).below hb2).calls (welcome_any i b _ bt pb bs5 T5 (h5.below hb2) hb (by omega) [m.src] _ (to_one w5 m.src) (by simp)) (unhide HT))
  clear hd5 h5 k5 hat5 HH HM HX HC HT hT5 hp5 hb2 HM5 HX5
  go_region_with (fail)
  all_goals
   clear hrun c81 m1 c82 m5 m6 m7
   go_wp2_with fail
   refine (unhide HA).mono ?_
   rintro o w8 ⟨rfl,hd⟩
   have HE:=hide hd
   clear hd HA
   go_wp2
   go_end0
   exact ⟨rfl,unhide HE⟩
 | false =>
  rw [hes] at c82
  cases hbe:(T.peer i).isBehind m.vote with
  | true =>
   rw [hbe] at HC
   have HT:Hid (T.takeAck i m = T.look i):=by
    show _ = _
    unfold PTown.takeAck
    rw [hes,hbe];simp
   clear hes hbe
   go_upto_region 2 with (go_at_call 150;refine (unhide HC).mono ?_;rintro o w3 ⟨rfl,hB3⟩)
   have HA:=hide (((unhide HX).below hB3).calls (look_any i b w3 bt pb bs T ((unhide HH).below hB3) hb hp hn hr) (unhide HT))
   clear HC HT HM HX HH hB3
   go_wp2_with fail
   refine (unhide HA).mono ?_
   rintro o w8 ⟨rfl,hd⟩
   have HE:=hide hd
   clear hd HA
   go_wp2
   exact bodyPost_ret (v:=.tuple #[]) (by simp [results,Tryz.results133,go_sem]) rfl ⟨rfl,unhide HE⟩
  | false =>
   rw [hbe] at HC
   have HT:Hid (T.takeAck i m = (T.setP i (PTown.acks (T.peer i) (k:Int))).check i):=by
    show _ = _
    unfold PTown.takeAck
    rw [hes,hbe,← unhide HSRC];simp
   have hes':=hide hes
   clear hes hbe
   go_upto_region 3 with (go_at_call 150;refine (unhide HC).mono ?_;rintro o w3 ⟨rfl,hB3⟩)
   have HH3:=hide ((unhide HH).below hB3)
   have HX3:=hide ((unhide HX).below hB3)
   have HM3:=hide ((unhide HM).keep hB3)
   have hW3:W.heap.size < w3.heap.size:=(unhide HM3).lt
   clear HH HX HM HC hB3 c82 m5 m6 m7
   obtain ⟨g,c81,⟨w5,hrun,hd5⟩,_⟩:=ack_put (k:=k) (unhide HH3) hb hk hla
   have m1:=(unhide HM3).m1
   rw [unhide HSRC] at m1
   obtain ⟨bs5,h5,k5⟩:=hd5.open
   have HX5:=hide ((unhide HX3).trans k5)
   obtain ⟨T5,hT5⟩:∃ T5,T5 = T.setP i (PTown.acks (T.peer i) (k:Int)):=⟨_,rfl⟩
   rw [← hT5] at h5 HT
   have hp5:T5.peer i = { T.peer i with acked:=some (la.set k (some ())) }:=by rw [hT5,PTown.peer_set hi];simp [PTown.acks,mapL,hla]
   have hl5:T5.ps.length = T.ps.length:=by rw [hT5,PTown.setP_len]
   have hn5:T5.net = T.net:=by rw [hT5];rfl
   have he5:T5.events = T.events:=by rw [hT5];rfl
   obtain ⟨q5,hat5⟩:=h5.peerAt hb
   have d82:w5.cell? ⟨b,82,none⟩ = some (.bool false):=by rw [hat5.f82,hp5];show some (Value.bool (T.peer i).established) = _;rw [unhide hes']
   have HA:=hide ((unhide HX5).calls (check_any i b w5 bt pb bs5 T5 h5 hb (by omega) (by omega) (la.set k (some ())) (by rw [hp5]) (by rw [he5];exact hev) (by rw [hp5];exact hw.of rfl rfl rfl) (by rw [hp5];exact hc)) (unhide HT))
   clear hd5 h5 k5 hat5 HH3 HM3 HX3 HT hT5 hp5 HX5
   go_region_with (fail)
   all_goals
    clear hrun c81 m1
    go_wp2_with fail
    refine (unhide HA).mono ?_
    rintro o w8 ⟨rfl,hd⟩
    have HE:=hide hd
    clear hd HA
    go_wp2
    go_end0
    exact ⟨rfl,unhide HE⟩
end Go.Proofs.YtceappncglfciaaGreat
namespace Go.Proofs.YtceappncglfciaaGreat
open Go.RowKit
attribute [local go_sem ↓] Go.wp_at_zero Go.wp_at_succ
set_option maxRecDepth 100000 in
set_option maxHeartbeats 4000000 in
theorem getLeading_any (i b k:Nat) (m:MsgM) (W:World) (bt:Nat) (pb bs:List Nat) (T:PTown) (h:PR W bt pb bs T) (hb:pb[i]? = some b) (hp:T.ps.length ≤ 7) (hn:T.net ≤ 1000) (hk:k < 7) (hsrc:m.src = (k:Int)) (lh:List (Option Int)) (hlh:(T.peer i).heard = some lh) (l:List (Option Int)) (hl:(T.peer i).joined = some l) (la:List (Option Unit)) (hla:(T.peer i).acked = some la) (hev:T.events.length ≤ 40000000000)
  (hr:0 ≤ (T.peer i).round ∧ (T.peer i).round ≤ 4611686018427387904) (hw:Wr 2 (T.peer i)) (hc:(T.peer i).c.ok) (hep:0 ≤ (T.peer i).epoch ∧ (T.peer i).epoch ≤ 4294967295) (hj:∀ k v,atL l k = some v → 0 ≤ v ∧ v < 4294967296) (hme:0 ≤ m.epoch ∧ m.epoch < 4294967296) :
  Calls Tryz.prog 108 #[.pointer (some ⟨b,0,none⟩),m.val] W fun o w' => o = .returned (.tuple #[]) ∧ PDid W bt pb bs w' (T.getLeading i m):=by
 have hX:=(Below.refl W.heap.size W).alloc (Nat.le_refl _) (.cells m.cells.toArray 133)
 have HM:=hide (MBox.new W m)
 have HH:=hide (h.below hX)
 have HX:=hide (Links.of_below bs hX)
 have HN:=hide h.new_notin
 have hi:i < T.ps.length:=(h.at hb).1
 have HSRC:=hide hsrc
 clear hsrc
 clear h hX
 unfold MsgM.val
 simp only [MsgM.cells] at HM HH HX
 go_enter Tryz.func108,Tryz.ntmps108
 go_upto_region 1 with fail
 generalize W.alloc (.cells #[.int .i64 m.kind,.int .i64 m.src,.int .i64 m.dst,.int .i64 m.round,.int .i64 m.state,.int .i64 m.vote.e,.int .i64 m.vote.n,.int .i64 m.vote.p,.int .i64 m.epoch,.int .i64 m.news] 133) = W1 at *
 have m0:=(unhide HM).m0
 have m1:=(unhide HM).m1
 have m2:=(unhide HM).m2
 have m3:=(unhide HM).m3
 have m4:=(unhide HM).m4
 have m5:=(unhide HM).m5
 have m6:=(unhide HM).m6
 have m7:=(unhide HM).m7
 have m8:=(unhide HM).m8
 have m9:=(unhide HM).m9
 by_cases h1:m.kind = 1
 ·have q1:(m.kind == 1) = true:=by simp [h1]
  have HT:Hid (T.getLeading i m = T.answerNotice i m):=by
   show _ = _
   unfold PTown.getLeading;rw [if_pos h1]
  have HA:=hide ((unhide HX).calls (answerNotice_any i b m W1 bt pb bs T (unhide HH) hb hn) (unhide HT))
  simp only [MsgM.val] at HA
  clear h1 HT HM HX HH
  go_wp2_with fail
  refine (unhide HA).mono ?_
  rintro o w8 ⟨rfl,hd⟩
  have HE:=hide hd
  clear hd HA
  go_wp2
  go_end0
  exact ⟨rfl,unhide HE⟩
 ·have q1:(m.kind == 1) = false:=by simp [h1]
  by_cases h2:m.kind = 2
  ·have q2:(m.kind == 2) = true:=by simp [h2]
   have HT:Hid (T.getLeading i m = (T.noteHeard i m.src).takeJoin i m):=by
    show _ = _
    unfold PTown.getLeading;rw [if_neg h1,if_pos h2]
   have hsr:=unhide HSRC
   have HC2:=hide (noteHeard_any i b k W1 bt pb bs T (unhide HH) hb hk lh hlh)
   rw [← hsr] at HC2
   clear hsr
   clear h1 h2
   go_upto_region 6 with (go_at_call 131;refine (unhide HC2).mono ?_;rintro o w5 ⟨rfl,hd⟩)
   have hW1:W.heap.size < W1.heap.size:=(unhide HM).lt
   obtain ⟨bs5,h5,k5⟩:=hd.open
   have HM5:=hide ((unhide HM).links k5 (unhide HN))
   have HX5:=hide ((unhide HX).trans k5)
   obtain ⟨T5,hT5⟩:∃ T5,T5 = T.noteHeard i m.src:=⟨_,rfl⟩
   rw [← hT5] at h5 hd HT
   have hp5:T5.peer i = PTown.hearOf (T.peer i) m.src T.now:=by rw [hT5];exact PTown.peer_set hi _
   have hl5:T5.ps.length = T.ps.length:=by rw [hT5];exact PTown.setP_len _ _
   have hn5:T5.net = T.net:=by rw [hT5];rfl
   have he5:T5.events = T.events:=by rw [hT5];rfl
   clear m0 m1 m2 m3 m4 m5 m6 m7 m8 m9
   have m0:=(unhide HM5).m0
   have m1:=(unhide HM5).m1
   have m2:=(unhide HM5).m2
   have m3:=(unhide HM5).m3
   have m4:=(unhide HM5).m4
   have m5:=(unhide HM5).m5
   have m6:=(unhide HM5).m6
   have m7:=(unhide HM5).m7
   have m8:=(unhide HM5).m8
   have m9:=(unhide HM5).m9
   have HA:=hide ((unhide HX5).calls (takeJoin_any i b k m w5 bt pb bs5 T5 h5 hb (by omega) (by omega) hk (unhide HSRC) l (by rw [hp5];exact hl) la (by rw [hp5];exact hla) (by rw [he5];exact hev) (by rw [hp5];exact hr) (by rw [hp5];exact hw.of rfl rfl rfl) (by rw [hp5];exact hc) hj hme) (unhide HT))
   simp only [MsgM.val] at HA
   clear h5 hd k5 HM5 HX5 HT HC2 HM HX HH
   go_wp2_with fail
   refine (unhide HA).mono ?_
   rintro o w8 ⟨rfl,hd⟩
   have HE:=hide hd
   clear hd HA
   go_wp2
   go_end0
   exact ⟨rfl,unhide HE⟩
  ·have q2:(m.kind == 2) = false:=by simp [h2]
   by_cases h4:m.kind = 4
   ·have q4:(m.kind == 4) = true:=by simp [h4]
    obtain ⟨q,hat⟩:=(unhide HH).peerAt hb
    have c79:=hat.f79
    clear hat
    by_cases he:m.epoch = (T.peer i).epoch
    ·have qe:(m.epoch == (T.peer i).epoch) = true:=by simp [he]
     have HT:Hid (T.getLeading i m = (T.noteHeard i m.src).takeAck i m):=by
      show _ = _
      unfold PTown.getLeading;rw [if_neg h1,if_neg h2,if_pos h4,if_pos he]
     clear h1 h2 h4 he
     go_upto_region 8 with fail
     go_quiet (fail)
     have hbd:=below_drewN (Below.refl W1.heap.size W1) nq
     have HH2:=hide ((unhide HH).below hbd)
     have HX2:=hide ((unhide HX).below hbd)
     have HM2:=hide ((unhide HM).keep hbd)
     clear HH HX HM hbd c79 m0 m1 m2 m3 m4 m5 m6 m7 m8 m9
     generalize W1.drewN nq = W2 at *
     have m0:=(unhide HM2).m0
     have m1:=(unhide HM2).m1
     have m2:=(unhide HM2).m2
     have m3:=(unhide HM2).m3
     have m4:=(unhide HM2).m4
     have m5:=(unhide HM2).m5
     have m6:=(unhide HM2).m6
     have m7:=(unhide HM2).m7
     have m8:=(unhide HM2).m8
     have m9:=(unhide HM2).m9
     have HH:=hide (unhide HH2)
     have HX:=hide (unhide HX2)
     have HM:=hide (unhide HM2)
     clear HH2 HX2 HM2
     have hsr:=unhide HSRC
     have HC2:=hide (noteHeard_any i b k W2 bt pb bs T (unhide HH) hb hk lh hlh)
     rw [← hsr] at HC2
     clear hsr
     go_upto_region 10 with (go_at_call 131;refine (unhide HC2).mono ?_;rintro o w5 ⟨rfl,hd⟩)
     have hW2:W.heap.size < W2.heap.size:=(unhide HM).lt
     obtain ⟨bs5,h5,k5⟩:=hd.open
     have HM5:=hide ((unhide HM).links k5 (unhide HN))
     have HX5:=hide ((unhide HX).trans k5)
     obtain ⟨T5,hT5⟩:∃ T5,T5 = T.noteHeard i m.src:=⟨_,rfl⟩
     rw [← hT5] at h5 hd HT
     have hp5:T5.peer i = PTown.hearOf (T.peer i) m.src T.now:=by rw [hT5];exact PTown.peer_set hi _
     have hl5:T5.ps.length = T.ps.length:=by rw [hT5];exact PTown.setP_len _ _
     have hn5:T5.net = T.net:=by rw [hT5];rfl
     have he5:T5.events = T.events:=by rw [hT5];rfl
     clear m0 m1 m2 m3 m4 m5 m6 m7 m8 m9
     have m0:=(unhide HM5).m0
     have m1:=(unhide HM5).m1
     have m2:=(unhide HM5).m2
     have m3:=(unhide HM5).m3
     have m4:=(unhide HM5).m4
     have m5:=(unhide HM5).m5
     have m6:=(unhide HM5).m6
     have m7:=(unhide HM5).m7
     have m8:=(unhide HM5).m8
     have m9:=(unhide HM5).m9
     have HA:=hide ((unhide HX5).calls (takeAck_any i b k m w5 bt pb bs5 T5 h5 hb (by omega) (by omega) hk (unhide HSRC) la (by rw [hp5];exact hla) (by rw [he5];exact hev) (by rw [hp5];exact hr) (by rw [hp5];exact (hw.mono (by omega)).of rfl rfl rfl) (by rw [hp5];exact ⟨hc.1,hc.2.1,hep,hc.2.2.2⟩)) (unhide HT))
     simp only [MsgM.val] at HA
     clear h5 hd k5 HM5 HX5 HT HC2 HM HX HH
     go_wp2_with fail
     refine (unhide HA).mono ?_
     rintro o w8 ⟨rfl,hd⟩
     have HE:=hide hd
     clear hd HA
     go_wp2
     go_end0
     exact ⟨rfl,unhide HE⟩
    ·have qe:(m.epoch == (T.peer i).epoch) = false:=by simp [he]
     have HT:Hid (T.getLeading i m = T):=by
      show _ = _
      unfold PTown.getLeading;rw [if_neg h1,if_neg h2,if_pos h4,if_neg he]
     clear h1 h2 h4 he
     go_upto_region 8 with fail
     go_quiet (fail)
     have hbd:=below_drewN (Below.refl W1.heap.size W1) nq
     have HF:=hide (((unhide HX).below hbd).did (PDid.rfl' ((unhide HH).below hbd)))
     clear HH HX HM hbd c79 m0 m1 m2 m3 m4 m5 m6 m7 m8 m9
     generalize W1.drewN nq = W2 at *
     go_wp2
     go_end0
     exact ⟨rfl,by rw [unhide HT];exact unhide HF⟩
   ·have q4:(m.kind == 4) = false:=by simp [h4]
    by_cases h7:m.kind = 7
    ·have q7:(m.kind == 7) = true:=by simp [h7]
     have HT:Hid (T.getLeading i m = T.noteHeard i m.src):=by
      show _ = _
      unfold PTown.getLeading;rw [if_neg h1,if_neg h2,if_neg h4,if_pos h7]
     have hsr:=unhide HSRC
     have HA:=hide ((unhide HX).calls (T':=T.getLeading i m) (noteHeard_any i b k W1 bt pb bs T (unhide HH) hb hk lh hlh) (by rw [unhide HT,hsr]))
     rw [← hsr] at HA
     clear hsr h1 h2 h4 h7 HT HM HX HH
     go_wp2_with fail
     refine (unhide HA).mono ?_
     rintro o w8 ⟨rfl,hd⟩
     have HE:=hide hd
     clear hd HA
     go_wp2
     go_end0
     exact ⟨rfl,unhide HE⟩
    ·have q7:(m.kind == 7) = false:=by simp [h7]
     have HT:Hid (T.getLeading i m = T):=by
      show _ = _
      unfold PTown.getLeading;rw [if_neg h1,if_neg h2,if_neg h4,if_neg h7]
     clear h1 h2 h4 h7
     go_wp2
     go_end0
     exact ⟨rfl,by rw [unhide HT];exact (unhide HX).did (PDid.rfl' (unhide HH))⟩
end Go.Proofs.YtceappncglfciaaGreat
