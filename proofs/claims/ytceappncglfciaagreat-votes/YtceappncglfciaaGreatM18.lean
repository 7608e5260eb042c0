import Derived.Test.YtceappncglfciaaGreatM17
set_option linter.unusedVariables false
set_option linter.unusedSimpArgs false
namespace Go.Proofs.YtceappncglfciaaGreat
open Go.RowKit
attribute [local go_sem ↓] Go.wp_at_zero Go.wp_at_succ
set_option maxRecDepth 100000 in
set_option maxHeartbeats 1000000 in
theorem takeWelcome_any (i b k:Nat) (m:MsgM) (W:World) (bt:Nat) (pb bs:List Nat) (T:PTown) (h:PR W bt pb bs T) (hb:pb[i]? = some b) (hk:k < 7) (hsrc:m.src = (k:Int)) (l:List (Option Int)) (hl:(T.peer i).heard = some l) (hw:Wr 1 (T.peer i)) (hc:({ (T.peer i).c with e:=m.epoch,v:=m.news }:CredM).ok) :
  Calls Tryz.prog 147 #[.pointer (some ⟨b,0,none⟩),m.val] W fun o w' => o = .returned (.tuple #[]) ∧ PDid W bt pb bs w' (T.takeWelcome i m):=by
 have hX:=(Below.refl W.heap.size W).alloc (Nat.le_refl _) (.cells m.cells.toArray 133)
 have HM:=hide (MBox.new W m)
 have HH:=hide (h.below hX)
 have HX:=hide (Links.of_below bs hX)
 have HN:=hide h.new_notin
 have hi:i < T.ps.length:=(h.at hb).1
 have HSRC:=hide hsrc
 clear hsrc
 clear h hX
 unfold MsgM.val
 simp only [MsgM.cells] at HM HH HX
 go_enter Tryz.func147,Tryz.ntmps147
 go_upto_region 1 with fail
 generalize W.alloc (.cells #[.int .i64 m.kind,.int .i64 m.src,.int .i64 m.dst,.int .i64 m.round,.int .i64 m.state,.int .i64 m.vote.e,.int .i64 m.vote.n,.int .i64 m.vote.p,.int .i64 m.epoch,.int .i64 m.news] 133) = W1 at *
 obtain ⟨_,q,hat,_,_,_,_,_⟩:=(unhide HH).at hb
 have c66:=hat.f66
 have m8:=(unhide HM).m8
 have m1:=(unhide HM).m1
 have HC:Hid (∀ n,Calls Tryz.prog 161 #[.pointer (some ⟨b,0,none⟩),.int .i64 m.epoch,.int .i64 m.src] (W1.drewN n) fun o w' => o = .returned (.bool ((T.peer i).hasPromised m.epoch m.src)) ∧ w' = W1.drewN n):=fun n => hasPromised_any i b m.epoch m.src (W1.drewN n) bt pb bs T ((unhide HH).below (below_drewN (Below.refl W1.heap.size W1) n)) hb
 clear hat
 cases hpr:(T.peer i).hasPromised m.epoch m.src with
 | false =>
  have HT:Hid (T.takeWelcome i m = T):=by
   show _ = _
   unfold PTown.takeWelcome;rw [hpr];simp
  rw [hpr] at HC
  clear hpr
  go_quiet ((go_at_call 161;exact Calls.quiet_of_same (unhide HC _)))
  have hbd:=below_drewN (Below.refl W1.heap.size W1) nq
  have HH2:=hide ((unhide HH).below hbd)
  have HX2:=hide ((unhide HX).below hbd)
  have HM2:=hide ((unhide HM).keep hbd)
  clear HH HX HM hbd m1 m8 c66 HC
  generalize W1.drewN nq = W2 at *
  go_wp2
  exact bodyPost_ret (v:=.tuple #[]) (by simp [results,Tryz.results147,go_sem]) rfl ⟨rfl,by rw [unhide HT];exact (unhide HX2).did (PDid.rfl' (unhide HH2))⟩
 | true =>
  rw [hpr] at HC
  by_cases he:(T.peer i).c.e = m.epoch
  ·have q1:((T.peer i).c.e == m.epoch) = true:=by simp [he]
   have HT:Hid (T.takeWelcome i m = T):=by
    show _ = _
    unfold PTown.takeWelcome;rw [q1];simp
   clear he hpr
   go_quiet ((go_at_call 161;exact Calls.quiet_of_same (unhide HC _)))
   have hbd:=below_drewN (Below.refl W1.heap.size W1) nq
   have HH2:=hide ((unhide HH).below hbd)
   have HX2:=hide ((unhide HX).below hbd)
   have HM2:=hide ((unhide HM).keep hbd)
   clear HH HX HM hbd m1 m8 c66 HC
   generalize W1.drewN nq = W2 at *
   go_wp2
   exact bodyPost_ret (v:=.tuple #[]) (by simp [results,Tryz.results147,go_sem]) rfl ⟨rfl,by rw [unhide HT];exact (unhide HX2).did (PDid.rfl' (unhide HH2))⟩
  ·have q1:((T.peer i).c.e == m.epoch) = false:=by simp [he]
   have HT:Hid (T.takeWelcome i m = (T.noteHeard i (k:Int)).write i { (T.peer i).c with e:=m.epoch,v:=m.news }):=by
    show _ = _
    unfold PTown.takeWelcome;rw [q1,hpr,unhide HSRC];simp
   clear he hpr
   go_quiet ((go_at_call 161;exact Calls.quiet_of_same (unhide HC _)))
   have hbd:=below_drewN (Below.refl W1.heap.size W1) nq
   have HH2:=hide ((unhide HH).below hbd)
   have HX2:=hide ((unhide HX).below hbd)
   have HM2:=hide ((unhide HM).keep hbd)
   clear HH HX HM hbd m1 m8 c66 HC
   generalize W1.drewN nq = W2 at *
   go_upto_region 2 with fail
   have n1:=(unhide HM2).m1
   have hsr:=unhide HSRC
   have HC2:=hide (noteHeard_any i b k W2 bt pb bs T (unhide HH2) hb hk l hl)
   rw [← hsr] at HC2
   clear hsr
   go_upto_region 3 with (go_at_call 131;refine (unhide HC2).mono ?_;rintro o w5 ⟨rfl,hd⟩)
   rw [unhide HSRC] at hd
   have hW2:W.heap.size < W2.heap.size:=(unhide HM2).lt
   obtain ⟨bs5,h5,k5⟩:=hd.open
   have HM5:=hide ((unhide HM2).links k5 (unhide HN))
   have HX5:=hide ((unhide HX2).trans k5)
   obtain ⟨T5,hT5⟩:∃ T5,T5 = T.noteHeard i (k:Int):=⟨_,rfl⟩
   rw [← hT5] at h5 hd HT
   have hp5:T5.peer i = PTown.hearOf (T.peer i) (k:Int) T.now:=by rw [hT5];exact PTown.peer_set hi _
   obtain ⟨_,q5,hat5,_,_,_,_,_⟩:=h5.at hb
   have e64:w5.cell? ⟨b,64,none⟩ = some (.int .i64 (T.peer i).c.p):=by rw [hat5.f64,hp5];rfl
   have e65:w5.cell? ⟨b,65,none⟩ = some (.int .i64 (T.peer i).c.t):=by rw [hat5.f65,hp5];rfl
   have e66:w5.cell? ⟨b,66,none⟩ = some (.int .i64 (T.peer i).c.e):=by rw [hat5.f66,hp5];rfl
   have e67:w5.cell? ⟨b,67,none⟩ = some (.int .i64 (T.peer i).c.v):=by rw [hat5.f67,hp5];rfl
   have n8:=(unhide HM5).m8
   have n9:=(unhide HM5).m9
   have hl5:W.heap.size < w5.heap.size:=(unhide HM5).lt
   have hX5:Below w5.heap.size w5 ((w5.alloc (.cells #[.int .i64 (T.peer i).c.p,.int .i64 (T.peer i).c.t,.int .i64 m.epoch,.int .i64 m.news] 39)).drew):=((Below.refl w5.heap.size w5).alloc (Nat.le_refl _) _).drew
   have HW:=hide (((unhide HX5).below hX5).calls (wr_any i b { (T.peer i).c with e:=m.epoch,v:=m.news } _ bt pb bs5 T5 (h5.below hX5) hb (by rw [hp5];exact hw.of rfl rfl rfl) hc) (unhide HT))
   clear hat5 h5 hd k5 hX5 HC2 HT HM2 HX2 HH2 n1 hp5 hT5
   go_upto_region 4 with fail
   go_region_with (fail)
   all_goals
    go_wp2_with fail
    refine (unhide HW).mono ?_
    rintro o w8 ⟨rfl,hd⟩
    have HE:=hide hd
    clear hd HW
    go_wp2
    go_end0
    exact ⟨rfl,unhide HE⟩
end Go.Proofs.YtceappncglfciaaGreat
namespace Go.Proofs.YtceappncglfciaaGreat
open Go.RowKit
attribute [local go_sem ↓] Go.wp_at_zero Go.wp_at_succ
set_option maxRecDepth 100000 in
set_option maxHeartbeats 2000000 in
theorem getFromLeader_any (i b k:Nat) (m:MsgM) (W:World) (bt:Nat) (pb bs:List Nat) (T:PTown) (h:PR W bt pb bs T) (hb:pb[i]? = some b) (hk:k < 7) (hsrc:m.src = (k:Int)) (l:List (Option Int)) (hl:(T.peer i).heard = some l) (hp:T.ps.length ≤ 7) (hn:T.net ≤ 1000) (hr:0 ≤ (T.peer i).round ∧ (T.peer i).round ≤ 4611686018427387904) (hw:Wr 1 (T.peer i)) (hc1:m.kind = 3 → ({ (T.peer i).c with p:=m.epoch,t:=m.src }:CredM).ok) (hc2:m.kind = 5 → ({ (T.peer i).c with e:=m.epoch,v:=m.news }:CredM).ok) :
  Calls Tryz.prog 130 #[.pointer (some ⟨b,0,none⟩),m.val] W fun o w' => o = .returned (.tuple #[]) ∧ PDid W bt pb bs w' (T.getFromLeader i m):=by
 have hX:=(Below.refl W.heap.size W).alloc (Nat.le_refl _) (.cells m.cells.toArray 133)
 have HM:=hide (MBox.new W m)
 have HH:=hide (h.below hX)
 have HX:=hide (Links.of_below bs hX)
 have HN:=hide h.new_notin
 have hi:i < T.ps.length:=(h.at hb).1
 have HSRC:=hide hsrc
 clear hsrc
 clear h hX
 unfold MsgM.val
 simp only [MsgM.cells] at HM HH HX
 go_enter Tryz.func130,Tryz.ntmps130
 go_upto_region 1 with fail
 generalize W.alloc (.cells #[.int .i64 m.kind,.int .i64 m.src,.int .i64 m.dst,.int .i64 m.round,.int .i64 m.state,.int .i64 m.vote.e,.int .i64 m.vote.n,.int .i64 m.vote.p,.int .i64 m.epoch,.int .i64 m.news] 133) = W1 at *
 have m0:=(unhide HM).m0
 have m1:=(unhide HM).m1
 have m2:=(unhide HM).m2
 have m3:=(unhide HM).m3
 have m4:=(unhide HM).m4
 have m5:=(unhide HM).m5
 have m6:=(unhide HM).m6
 have m7:=(unhide HM).m7
 have m8:=(unhide HM).m8
 have m9:=(unhide HM).m9
 by_cases h3:m.kind = 3
 ·have q3:(m.kind == 3) = true:=by simp [h3]
  have HT:Hid (T.getFromLeader i m = (T.noteHeard i m.src).answerPropose i m):=by
   show _ = _
   unfold PTown.getFromLeader;rw [if_pos h3]
  have hc:=hc1 h3
  have hsr:=unhide HSRC
  have HC2:=hide (noteHeard_any i b k W1 bt pb bs T (unhide HH) hb hk l hl)
  rw [← hsr] at HC2
  clear hsr
  clear h3
  go_upto_region 4 with (go_at_call 131;refine (unhide HC2).mono ?_;rintro o w5 ⟨rfl,hd⟩)
  have hW1:W.heap.size < W1.heap.size:=(unhide HM).lt
  obtain ⟨bs5,h5,k5⟩:=hd.open
  have HM5:=hide ((unhide HM).links k5 (unhide HN))
  have HX5:=hide ((unhide HX).trans k5)
  obtain ⟨T5,hT5⟩:∃ T5,T5 = T.noteHeard i m.src:=⟨_,rfl⟩
  rw [← hT5] at h5 hd HT
  have hp5:T5.peer i = PTown.hearOf (T.peer i) m.src T.now:=by rw [hT5];exact PTown.peer_set hi _
  have hl5:T5.ps.length = T.ps.length:=by rw [hT5];exact PTown.setP_len _ _
  have hn5:T5.net = T.net:=by rw [hT5];rfl
  clear m0 m1 m2 m3 m4 m5 m6 m7 m8 m9
  have m0:=(unhide HM5).m0
  have m1:=(unhide HM5).m1
  have m2:=(unhide HM5).m2
  have m3:=(unhide HM5).m3
  have m4:=(unhide HM5).m4
  have m5:=(unhide HM5).m5
  have m6:=(unhide HM5).m6
  have m7:=(unhide HM5).m7
  have m8:=(unhide HM5).m8
  have m9:=(unhide HM5).m9
  have HA:=hide ((unhide HX5).calls (answerPropose_any i b m w5 bt pb bs5 T5 h5 hb (by omega) (by omega) (by rw [hp5];exact hr) (by rw [hp5];exact hw.of rfl rfl rfl) (by rw [hp5];exact hc)) (unhide HT))
  simp only [MsgM.val] at HA
  clear h5 hd k5 HM5 HX5 HT HC2 HM HX HH
  go_wp2_with fail
  refine (unhide HA).mono ?_
  rintro o w8 ⟨rfl,hd⟩
  have HE:=hide hd
  clear hd HA
  go_wp2
  go_end0
  exact ⟨rfl,unhide HE⟩
 ·have q3:(m.kind == 3) = false:=by simp [h3]
  by_cases h5:m.kind = 5
  ·have q5:(m.kind == 5) = true:=by simp [h5]
   have HT:Hid (T.getFromLeader i m = T.takeWelcome i m):=by
    show _ = _
    unfold PTown.getFromLeader;rw [if_neg h3,if_pos h5]
   have HA:=hide ((unhide HX).calls (takeWelcome_any i b k m W1 bt pb bs T (unhide HH) hb hk (unhide HSRC) l hl hw (hc2 h5)) (unhide HT))
   simp only [MsgM.val] at HA
   clear h3 h5 HT HM HX HH
   go_wp2_with fail
   refine (unhide HA).mono ?_
   rintro o w8 ⟨rfl,hd⟩
   have HE:=hide hd
   clear hd HA
   go_wp2
   go_end0
   exact ⟨rfl,unhide HE⟩
  ·have q5:(m.kind == 5) = false:=by simp [h5]
   by_cases h6:m.kind = 6
   ·have q6:(m.kind == 6) = true:=by simp [h6]
    have HT:Hid (T.getFromLeader i m = (T.noteHeard i m.src).sendTo ⟨7,0,0,0,0,voteZ,0,0⟩ i [m.src]):=by
     show _ = _
     unfold PTown.getFromLeader;rw [if_neg h3,if_neg h5,if_pos h6]
    have hsr:=unhide HSRC
    have HC2:=hide (noteHeard_any i b k W1 bt pb bs T (unhide HH) hb hk l hl)
    rw [← hsr] at HC2
    clear hsr
    clear h3 h5 h6
    go_upto_region 9 with (go_at_call 131;refine (unhide HC2).mono ?_;rintro o w5 ⟨rfl,hd⟩)
    have hW1:W.heap.size < W1.heap.size:=(unhide HM).lt
    obtain ⟨bs5,h5,k5⟩:=hd.open
    have HM5:=hide ((unhide HM).links k5 (unhide HN))
    have HX5:=hide ((unhide HX).trans k5)
    obtain ⟨T5,hT5⟩:∃ T5,T5 = T.noteHeard i m.src:=⟨_,rfl⟩
    rw [← hT5] at h5 hd HT
    have hp5:T5.peer i = PTown.hearOf (T.peer i) m.src T.now:=by rw [hT5];exact PTown.peer_set hi _
    have hl5:T5.ps.length = T.ps.length:=by rw [hT5];exact PTown.setP_len _ _
    have hn5:T5.net = T.net:=by rw [hT5];rfl
    clear m0 m1 m2 m3 m4 m5 m6 m7 m8 m9
    have m0:=(unhide HM5).m0
    have m1:=(unhide HM5).m1
    have m2:=(unhide HM5).m2
    have m3:=(unhide HM5).m3
    have m4:=(unhide HM5).m4
    have m5:=(unhide HM5).m5
    have m6:=(unhide HM5).m6
    have m7:=(unhide HM5).m7
    have m8:=(unhide HM5).m8
    have m9:=(unhide HM5).m9
    have hb2:=(Below.refl w5.heap.size w5).alloc (Nat.le_refl _) (.cells #[.int .i64 m.src] 3)
    have HA:=hide (((unhide HX5).below hb2).calls (send_any i b ⟨7,0,0,0,0,voteZ,0,0⟩ _ bt pb bs5 T5 (h5.below hb2) hb (by omega) [m.src] _ (to_one w5 m.src) (by simp)) (unhide HT))
    simp only [MsgM.val,voteZ] at HA
    clear h5 hd k5 HM5 HX5 HT HC2 HM HX HH hb2
    go_wp2_with fail
    refine (unhide HA).mono ?_
    rintro o w8 ⟨rfl,hd⟩
    have HE:=hide hd
    clear hd HA
    go_wp2
    go_end0
    exact ⟨rfl,unhide HE⟩
   ·have q6:(m.kind == 6) = false:=by simp [h6]
    have HT:Hid (T.getFromLeader i m = T):=by
     show _ = _
     unfold PTown.getFromLeader;rw [if_neg h3,if_neg h5,if_neg h6]
    clear h3 h5 h6
    go_wp2
    go_end0
    exact ⟨rfl,by rw [unhide HT];exact (unhide HX).did (PDid.rfl' (unhide HH))⟩
set_option maxRecDepth 100000 in
set_option maxHeartbeats 2000000 in
theorem getFollowing_any (i b k:Nat) (m:MsgM) (W:World) (bt:Nat) (pb bs:List Nat) (T:PTown) (h:PR W bt pb bs T) (hb:pb[i]? = some b) (hk:k < 7) (hsrc:m.src = (k:Int)) (l:List (Option Int)) (hl:(T.peer i).heard = some l) (hp:T.ps.length ≤ 7) (hn:T.net ≤ 1000) (hr:0 ≤ (T.peer i).round ∧ (T.peer i).round ≤ 4611686018427387904) (hw:Wr 1 (T.peer i)) (hc1:m.kind = 3 → ({ (T.peer i).c with p:=m.epoch,t:=m.src }:CredM).ok) (hc2:m.kind = 5 → ({ (T.peer i).c with e:=m.epoch,v:=m.news }:CredM).ok) :
  Calls Tryz.prog 107 #[.pointer (some ⟨b,0,none⟩),m.val] W fun o w' => o = .returned (.tuple #[]) ∧ PDid W bt pb bs w' (T.getFollowing i m):=by
 have hX:=(Below.refl W.heap.size W).alloc (Nat.le_refl _) (.cells m.cells.toArray 133)
 have HM:=hide (MBox.new W m)
 have HH:=hide (h.below hX)
 have HX:=hide (Links.of_below bs hX)
 have HN:=hide h.new_notin
 have hi:i < T.ps.length:=(h.at hb).1
 have HSRC:=hide hsrc
 clear hsrc
 clear h hX
 unfold MsgM.val
 simp only [MsgM.cells] at HM HH HX
 go_enter Tryz.func107,Tryz.ntmps107
 go_upto_region 1 with fail
 generalize W.alloc (.cells #[.int .i64 m.kind,.int .i64 m.src,.int .i64 m.dst,.int .i64 m.round,.int .i64 m.state,.int .i64 m.vote.e,.int .i64 m.vote.n,.int .i64 m.vote.p,.int .i64 m.epoch,.int .i64 m.news] 133) = W1 at *
 have m0:=(unhide HM).m0
 have m1:=(unhide HM).m1
 have m2:=(unhide HM).m2
 have m3:=(unhide HM).m3
 have m4:=(unhide HM).m4
 have m5:=(unhide HM).m5
 have m6:=(unhide HM).m6
 have m7:=(unhide HM).m7
 have m8:=(unhide HM).m8
 have m9:=(unhide HM).m9
 by_cases h1:m.kind = 1
 ·have q1:(m.kind == 1) = true:=by simp [h1]
  have HT:Hid (T.getFollowing i m = T.answerNotice i m):=by
   show _ = _
   unfold PTown.getFollowing;rw [if_pos h1]
  have HA:=hide ((unhide HX).calls (answerNotice_any i b m W1 bt pb bs T (unhide HH) hb hn) (unhide HT))
  simp only [MsgM.val] at HA
  clear h1 HT HM HX HH
  go_wp2_with fail
  refine (unhide HA).mono ?_
  rintro o w8 ⟨rfl,hd⟩
  have HE:=hide hd
  clear hd HA
  go_wp2
  go_end0
  exact ⟨rfl,unhide HE⟩
 ·have q1:(m.kind == 1) = false:=by simp [h1]
  obtain ⟨_,q,hat,_,_,_,_,_⟩:=(unhide HH).at hb
  have c72:=hat.f72
  clear hat
  by_cases h2:m.src = (T.peer i).vote.p
  ·have q2:(m.src == (T.peer i).vote.p) = true:=by simp [h2]
   have HT:Hid (T.getFollowing i m = T.getFromLeader i m):=by
    show _ = _
    unfold PTown.getFollowing;rw [if_neg h1,if_pos h2]
   clear h1 h2
   go_upto_region 3 with fail
   go_quiet (fail)
   have hbd:=below_drewN (Below.refl W1.heap.size W1) nq
   have HM2:=hide ((unhide HM).keep hbd)
   have HA:=hide (((unhide HX).below hbd).calls (getFromLeader_any i b k m _ bt pb bs T ((unhide HH).below hbd) hb hk (unhide HSRC) l hl hp hn hr hw hc1 hc2) (unhide HT))
   simp only [MsgM.val] at HA
   clear HT HM HX HH hbd m0 m1 m2 m3 m4 m5 m6 m7 m8 m9 c72
   generalize W1.drewN nq = W2 at *
   have m0:=(unhide HM2).m0
   have m1:=(unhide HM2).m1
   have m2:=(unhide HM2).m2
   have m3:=(unhide HM2).m3
   have m4:=(unhide HM2).m4
   have m5:=(unhide HM2).m5
   have m6:=(unhide HM2).m6
   have m7:=(unhide HM2).m7
   have m8:=(unhide HM2).m8
   have m9:=(unhide HM2).m9
   clear HM2
   go_wp2_with fail
   refine (unhide HA).mono ?_
   rintro o w8 ⟨rfl,hd⟩
   have HE:=hide hd
   clear hd HA
   go_wp2
   go_end0
   exact ⟨rfl,unhide HE⟩
  ·have q2:(m.src == (T.peer i).vote.p) = false:=by simp [h2]
   have HT:Hid (T.getFollowing i m = T):=by
    show _ = _
    unfold PTown.getFollowing;rw [if_neg h1,if_neg h2]
   clear h1 h2
   go_upto_region 3 with fail
   go_quiet (fail)
   have hbd:=below_drewN (Below.refl W1.heap.size W1) nq
   have HF:=hide (((unhide HX).below hbd).did (PDid.rfl' ((unhide HH).below hbd)))
   clear HM HX HH hbd m0 m1 m2 m3 m4 m5 m6 m7 m8 m9 c72
   generalize W1.drewN nq = W2 at *
   go_wp2
   go_end0
   exact ⟨rfl,by rw [unhide HT];exact unhide HF⟩
end Go.Proofs.YtceappncglfciaaGreat
namespace Go.Proofs.YtceappncglfciaaGreat
open Go.RowKit
attribute [local go_sem ↓] Go.wp_at_zero Go.wp_at_succ
theorem PR.peerAt {W:World} {bt i b:Nat} {pb bs:List Nat} {T:PTown} (h:PR W bt pb bs T) (hb:pb[i]? = some b):∃ q,PeerAt W bt i b q (T.peer i):=let ⟨_,q,h1,_⟩:=h.at hb;⟨q,h1⟩
set_option maxRecDepth 100000 in
set_option maxHeartbeats 1000000 in
theorem proposal_any (i b:Nat) (W:World) (bt:Nat) (pb bs:List Nat) (T:PTown) (h:PR W bt pb bs T) (hb:pb[i]? = some b) :
  Calls Tryz.prog 149 #[.pointer (some ⟨b,0,none⟩)] W fun o w' => o = .returned (T.proposalM i).val ∧ Below W.heap.size W w':=by
 obtain ⟨hi,q,hat,hbt,hbb,hqb,hbq,C⟩:=h.at hb
 have hbl:b < W.heap.size:=hat.box.lt
 have c79:=hat.f79
 clear h hat C hqb
 go_enter Tryz.func149,Tryz.ntmps149
 go_wp2
 exact bodyPost_ret (v:=(T.proposalM i).val) (by simp [results,Tryz.results149,go_sem,MsgM.val,PTown.proposalM,voteZ]) rfl ⟨rfl,(Below.refl _ _).alloc (Nat.le_refl _) _⟩
set_option maxRecDepth 100000 in
set_option maxHeartbeats 1000000 in
theorem welcome_any (i b:Nat) (W:World) (bt:Nat) (pb bs:List Nat) (T:PTown) (h:PR W bt pb bs T) (hb:pb[i]? = some b) (hn:T.net ≤ 1000) (dl:List Int) (v:Value) (hv:ToRow W v dl) (hl:dl.length ≤ 7) :
  Calls Tryz.prog 151 #[.pointer (some ⟨b,0,none⟩),v] W fun o w' => o = .returned (.tuple #[]) ∧ PDid W bt pb bs w' (T.welcome i dl):=by
 obtain ⟨hi,q,hat,hbt,hbb,hqb,hbq,C⟩:=h.at hb
 have c79:=hat.f79
 have c67:=hat.f67
 have hb1:=(Below.refl W.heap.size W).drew
 have HC:Hid (Calls Tryz.prog 114 #[.pointer (some ⟨b,0,none⟩),(⟨5,0,0,0,0,voteZ,(T.peer i).epoch,(T.peer i).c.v⟩:MsgM).val,v] W.drew fun o w' => o = .returned (.tuple #[]) ∧ PDid W bt pb bs w' (T.welcome i dl)) :=
  (send_any i b _ W.drew bt pb bs T (h.below hb1) hb hn dl v hv hl).mono (fun o w' hh => ⟨hh.1,hh.2.pre hb1⟩)
 have HQ:Hid (∀ w6,PDid W bt pb bs w6 (T.welcome i dl) → w6.cell? ⟨b,79,none⟩ = some (.int .i64 (T.peer i).epoch) ∧ w6.cell? ⟨b,67,none⟩ = some (.int .i64 (T.peer i).c.v)):=fun w6 hd => by
  obtain ⟨bs6,h6,_⟩:=hd.open
  have e:(T.welcome i dl).peer i = T.peer i:=by unfold PTown.peer PTown.welcome;rw [PTown.send_ps]
  obtain ⟨q7,h7⟩:=h6.peerAt hb
  rw [e] at h7
  exact ⟨h7.f79,h7.f67⟩
 simp only [MsgM.val,voteZ] at HC
 clear h hat C hqb hb1 hv
 go_enter Tryz.func151,Tryz.ntmps151
 go_region_held3 (fun w' => w'.cell? ⟨b,79,none⟩ = some (.int .i64 (T.peer i).epoch) ∧ w'.cell? ⟨b,67,none⟩ = some (.int .i64 (T.peer i).c.v)) (go_keep) (first | (go_at_call 114;refine (unhide HC).mono ?_;rintro o w1 ⟨rfl,hd⟩;obtain ⟨e1,e2⟩:=unhide HQ w1 hd;have HD:=hide hd;clear hd))
 go_wp2
 go_end0
 exact ⟨rfl,unhide HD⟩
end Go.Proofs.YtceappncglfciaaGreat
namespace Go.Proofs.YtceappncglfciaaGreat
open Go.RowKit
attribute [local go_sem ↓] Go.wp_at_zero Go.wp_at_succ
section
variable {W W':World} {bt:Nat} {pb bs:List Nat} {T:PTown}
theorem PR.evt (h:PR W bt pb bs T):∃ (bp capP:Nat) (way ev:Value),Box W bt #[.slice (some ⟨bp,0,none⟩) T.ps.length capP,.int .i64 T.wait,.int .i64 T.lease,.int .i64 T.net,.int .i64 T.now,way,ev] 81 ∧
  W.ownsRow 0 49 2 ev T.events.length (evCells T.events) ∧ ev.ownBlock ≠ some bt ∧
  ∀ (X w1:World) (g cap:Nat) (x:Int × Int),Below W.heap.size W X → X.grownBy w1 ev.ownBlock → w1.ownsRow 0 49 2 (.slice (some ⟨g,0,none⟩) (T.events.length + 1) cap) (T.events.length + 1) (evCells T.events ++ [.int .i64 x.1,.int .i64 x.2]) → (ev.ownBlock = some g ∨ W.heap.size ≤ g) →
   PDid W bt pb bs (w1.setCell ⟨bt,6,none⟩ (.slice (some ⟨g,0,none⟩) (T.events.length + 1) cap)) { T with events:=T.events ++ [x] }:=by
 obtain ⟨bp,capP,way,ev,hb,hw,he,C⟩:=h.turn
 have n1:ev.ownBlock ≠ some bt:=own_ne he hb (by decide)
 refine ⟨bp,capP,way,ev,hb,he,n1,?_⟩
 intro X w1 g cap x hX hgrow hown hat
 have keep:∀ k,k < W.heap.size → some k ≠ ev.ownBlock → w1.heap[k]? = W.heap[k]?:=fun k hk hne => (hgrow.block k (Nat.lt_of_lt_of_le hk hX.size) hne).trans (hX.block k hk)
 have t1:Box w1 bt _ 81:=(keep bt hb.lt (fun e => n1 e.symm)).trans hb
 have other:∀ k,k ≠ bt → (w1.setCell ⟨bt,6,none⟩ (.slice (some ⟨g,0,none⟩) (T.events.length + 1) cap)).heap[k]? = w1.heap[k]?:=fun k hk => Below.heap_setCell w1 _ _ k hk
 have gne:g ≠ bt:=by
  rcases hat with h1 | h1
  ·intro e;exact n1 (by rw [h1,e])
  ·have:=hb.lt;omega
 refine C _ T.now way (.slice (some ⟨g,0,none⟩) (T.events.length + 1) cap) T.way (T.events ++ [x]) ?_ ?_ ?_ ?_ (fun g hg => .inl hg) ?_
 ·exact t1.set 6 _
 ·refine own_same hw (fun b hb2 => ?_)
  have hlt:=(hw.lt b hb2).2
  have e1:=own_ne2 he hw (by decide) b hb2
  have e2:b ≠ bt:=fun e => own_ne hw hb (by decide) (by rw [hb2,e])
  exact (other b e2).trans (keep b hlt (fun e => e1 e.symm))
 ·have:=own_same hown (W':=w1.setCell ⟨bt,6,none⟩ (.slice (some ⟨g,0,none⟩) (T.events.length + 1) cap)) (fun b hb => by
   have:g = b:=by simpa [Value.ownBlock] using hb
   subst this
   exact other g gne)
  simpa [evCells] using this
 ·refine ⟨hgrow.os.trans hX.os,hgrow.tape.trans hX.tape,hgrow.output.trans hX.output,Nat.le_trans hX.size (Nat.le_trans hgrow.size (by simp)),fun k hk hn => ?_⟩
  simp only [List.mem_cons,List.mem_append,not_or,Option.mem_toList] at hn
  exact (other k hn.1).trans (keep k hk (fun e => hn.2.2 e.symm))
 ·intro g' hg'
  have:g = g':=by simpa [Value.ownBlock] using hg'
  subst this
  exact hat
end
section
variable {α:Type} {enc:α → Value} {W:World} {g:Nat} {l:List (Option α)}
theorem MapIs.len (h:MapIs Tryz.prog 3 enc W g l) {t e:TypeId} (ht:Tryz.prog.underlying t = some (.map 3 e)) (ty:TypeId):(Builtin.len_ #[t] ty #[.map (some g)]).run Tryz.prog W = .ok (.int .i64 (l.countP Option.isSome:Nat)) W:=by
 rw [h.1.len ht ty,data_size]
theorem countP7 (h:l.length = 7):l.countP Option.isSome ≤ 7:=by rw [← h];exact List.countP_le_length
end
end Go.Proofs.YtceappncglfciaaGreat
