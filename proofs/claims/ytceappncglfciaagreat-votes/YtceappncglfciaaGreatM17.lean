import Derived.Test.YtceappncglfciaaGreatM16
import Derived.Test.YtceappncglfciaaGreatM10
import Derived.Laws.BytesArg
import Derived.Lib.LazyBuf
set_option linter.unusedVariables false
set_option linter.unusedSimpArgs false
namespace Go.Proofs.YtceappncglfciaaGreat
open Go.RowKit
attribute [local go_sem ↓] Go.wp_at_zero Go.wp_at_succ
theorem PeerAt.byte {W:World} {bt i b:Nat} {q:PL} {p:PeerP} (h:PeerAt W bt i b q p) {j:Nat} (hj:j < 56):W.cell? ⟨b,2 + j,none⟩ = some (.int .u8 (p.disk.getD j 0)):=by
 have hd:=h.box.2
 rw [cell_of_row W b _ _ _ (0,0) h.box.1,List.getElem?_toArray,Nat.add_comm 2 j,pcells_disk hd hj]
 have hl:p.disk.length = 56:=by simpa [byteCells] using hd
 simp [byteCells,show j < p.disk.length from by omega]
theorem bytes_cells (l:List Int) (hb:BytesL l):((strOfNums l).data.toList.map fun x => Value.int .u8 (x.toNat:Int)) = byteCells l:=by
 rw [strOfNums_data,List.map_map]
 unfold byteCells
 refine List.map_congr_left (fun x hx => ?_)
 have:=hb x hx
 simp only [Function.comp,Value.int.injEq,true_and]
 rw [UInt8.toNat_ofNat_of_lt' (by show x.toNat < 256;omega)]
 omega
theorem byte_splice (d:List Int) (o:Nat) (e:List Int):byteCells (splice d o e) = splice (byteCells d) o (byteCells e):=by
 simp [byteCells,splice,List.map_take,List.map_drop]
theorem extract_nums (l:List Int) (hb:BytesL l) (a b:Nat):(strOfNums l).extract a b = strOfNums ((l.drop a).take (b - a)):=by
 rw [← strOfNums_numsOf ((strOfNums l).extract a b),numsOf_extract,numsOf_strOfNums hb]
theorem enc_bytes_bad {n p t e v:Int} (hbad:badB n p t e v = false):BytesL (encL n p t e v):=(bodyL_bytes hbad).app (num4_bytes (sumV_range _).1 (sumV_range _).2)
theorem dw_splice_28 (d:List Int) (c:CredM) (k:Nat) (x:NewM) (hx:x = newestL d) (hd:d.length = 56) (hp:(x.n + 1) % 2 = 0):diskWrite d c k = splice d 28 ((encL (x.n + 1) c.p c.t c.e c.v).take k):=by
 subst hx
 unfold diskWrite
 rw [if_pos hp]
 unfold splice
 rw [List.length_take,encL_len]
 by_cases h:k ≤ 28
 ·rw [Nat.min_eq_left h]
 ·rw [Nat.min_eq_right (by omega),List.drop_of_length_le (by omega),List.drop_of_length_le (by omega)]
theorem dw_splice_0 (d:List Int) (c:CredM) (k:Nat) (x:NewM) (hx:x = newestL d) (_:d.length = 56) (hp:¬ (x.n + 1) % 2 = 0) (hk:k ≤ 28):diskWrite d c k = splice d 0 ((encL (x.n + 1) c.p c.t c.e c.v).take k):=by
 subst hx
 unfold diskWrite
 rw [if_neg hp]
 unfold splice
 rw [List.length_take,encL_len,Nat.min_eq_left hk]
 simp
theorem PBox.setDisk {W:World} {b bt i:Nat} {d tl vs:List Value} (h:PBox W b bt i d tl) (o:Nat) (ho:o + vs.length ≤ 56):PBox (W.setCells b (2 + o) vs) b bt i (splice d o vs) tl:=by
 have hd:=h.2
 refine ⟨?_,by rw [splice_len _ _ _ (by omega)];exact hd⟩
 rw [heap_setCells b _ vs (2 + o) W _ h.1 (by simp [pcells,h.2];omega)]
 congr 2
 show (splice (pcells bt i d tl) (2 + o) vs).toArray = _
 congr 1
 unfold pcells
 rw [show (.pointer (some ⟨bt,0,none⟩) :: .int .i64 (i:Int) :: (d ++ tl):List Value) = [.pointer (some ⟨bt,0,none⟩),.int .i64 (i:Int)] ++ (d ++ tl) from rfl,splice_right _ _ _ _ (by simp),splice_left _ _ _ _ (by simp;omega)]
 simp
theorem PeerAt.disk {W:World} {bt i b:Nat} {q:PL} {p:PeerP} {pb bs:List Nat} {T:PTown} (hat:PeerAt W bt i b q p) (C:Close W bt i b q pb bs T) (o:Nat) (vs:List Value) (ho:o + vs.length ≤ 56) (d':List Int) (hd':byteCells d' = splice (byteCells p.disk) o vs) :
  PDid W bt pb bs (W.setCells b (2 + o) vs) (T.setP i { p with disk:=d' }):=by
 have hbn:=hat.b_notin
 obtain ⟨h7,h8⟩:=hat.cells (W':=W.setCells b (2 + o) vs) (q':=q) (p':={ p with disk:=d' }) (by
  show PBox _ _ _ _ (byteCells d') _
  rw [hd'];exact hat.box.setDisk o ho) (fun k hk => heap_setCells_other b k (fun e => by subst e;exact hbn hk) _ _ _) ⟨rfl,rfl,rfl⟩ (.inl ⟨rfl,rfl⟩) (.inl ⟨rfl,rfl⟩) (.inl ⟨rfl,rfl⟩) (.inl ⟨rfl,rfl⟩) (.inl ⟨rfl,rfl⟩)
 exact C _ _ _ h7 (fun x hx => .inl (h8 x hx)) (keeps_setCells _ _ (Keeps.refl _ _))
set_option maxRecDepth 100000 in
set_option maxHeartbeats 1000000 in
theorem pwrite_any (i b:Nat) (c:CredM) (W:World) (bt:Nat) (pb bs:List Nat) (T:PTown) (h:PR W bt pb bs T) (hb:pb[i]? = some b) (hby:BytesL (T.peer i).disk) (hbad:badB ((newestL (T.peer i).disk).n + 1) c.p c.t c.e c.v = false) (hn0:0 ≤ (newestL (T.peer i).disk).n) (hn1:(newestL (T.peer i).disk).n ≤ 4294967294)
  (hbt:(T.peer i).armed = true → 0 ≤ (T.peer i).bytes ∧ (T.peer i).bytes ≤ 28) :
  Calls Tryz.prog 70 #[.pointer (some ⟨b,0,none⟩),.agg #[.int .i64 c.p,.int .i64 c.t,.int .i64 c.e,.int .i64 c.v]] W fun o w' => o = .returned (.bool (!(T.peer i).armed)) ∧ PDid W bt pb bs w' (T.write i c):=by
 have hX:=(Below.refl W.heap.size W).alloc (Nat.le_refl _) (.cells #[.int .i64 c.p,.int .i64 c.t,.int .i64 c.e,.int .i64 c.v] 39)
 have HBX:Hid (Box (W.alloc (.cells #[.int .i64 c.p,.int .i64 c.t,.int .i64 c.e,.int .i64 c.v] 39)) W.heap.size #[.int .i64 c.p,.int .i64 c.t,.int .i64 c.e,.int .i64 c.v] 39):=Box.new _ _ _
 have HH:=hide (h.below hX)
 have HX:=hide (Links.of_below bs hX)
 have hbl:b < W.heap.size:=(h.at hb).2.choose_spec.1.box.lt
 clear h hX
 go_enter Tryz.func70,Tryz.ntmps70
 go_upto_region 1 with fail
 generalize W.alloc (.cells #[.int .i64 c.p,.int .i64 c.t,.int .i64 c.e,.int .i64 c.v] 39) = W1 at *
 obtain ⟨hi,q,hat,_,_,_,_,C⟩:=(unhide HH).at hb
 have hdl:(T.peer i).disk.length = 56:=by simpa [byteCells] using hat.box.2
 have hcv:=run_convert_bytes_arg (P:=Tryz.prog) (w:=W1) 116 5 Tryz.underlying116 Tryz.underlying5 b 2 56 56 (T.peer i).disk hdl (fun j hj => hat.byte hj) 9 Tryz.underlying9
 have HC:=hide (newest_L (T.peer i).disk hby hdl W1)
 obtain ⟨x,hx⟩:∃ x,x = newestL (T.peer i).disk:=⟨_,rfl⟩
 rw [← hx] at HC hbad hn0 hn1
 simp only [CredM.cells] at HC
 have HXX:=hide hx
 have HHAT:=hide hat
 clear hx hat C
 go_upto_region 2 with (go_at_call 22;refine (unhide HC).mono ?_;rintro o w2 ⟨rfl,hB2⟩)
 have hB3:=hB2.alloc hB2.size (.cells #[.int .i64 x.c.p,.int .i64 x.c.t,.int .i64 x.c.e,.int .i64 x.c.v] 39)
 generalize w2.alloc (.cells #[.int .i64 x.c.p,.int .i64 x.c.t,.int .i64 x.c.e,.int .i64 x.c.v] 39) = W3 at *
 have HH3:=hide ((unhide HH).below hB3)
 have HX3:=hide ((unhide HX).below hB3)
 have HBX3:=hide ((unhide HBX).keep hB3)
 clear hcv HC HH HX HBX HHAT hB2 hB3
 by_cases hpar:(x.n + 1) % 2 = 0
 ·have q1:True:=trivial
  have HDW:Hid (∀ k,k ≤ 28 → diskWrite (T.peer i).disk c k = splice (T.peer i).disk 28 ((encL (x.n + 1) c.p c.t c.e c.v).take k)):=fun k hk => dw_splice_28 (T.peer i).disk c k x (unhide HXX) hdl hpar
  have HEN:=hide (encode_L (x.n + 1) c hbad W3)
  simp only [CredM.cells] at HEN
  have b0:W3.cell? ⟨W.heap.size,0,none⟩ = some (.int .i64 c.p):=(unhide HBX3).cell 0
  have b1:W3.cell? ⟨W.heap.size,1,none⟩ = some (.int .i64 c.t):=(unhide HBX3).cell 1
  have b2:W3.cell? ⟨W.heap.size,2,none⟩ = some (.int .i64 c.e):=(unhide HBX3).cell 2
  have b3:W3.cell? ⟨W.heap.size,3,none⟩ = some (.int .i64 c.v):=(unhide HBX3).cell 3
  have HEB:=hide (enc_bytes_bad hbad)
  have HEL:=hide (encL_len (x.n + 1) c.p c.t c.e c.v)
  generalize encL (x.n + 1) c.p c.t c.e c.v = E at *
  go_upto_region 7 with (go_at_call 49;refine (unhide HEN).mono ?_;rintro o w4 ⟨rfl,hB4⟩)
  have HH4:=hide ((unhide HH3).below hB4)
  have HX4:=hide ((unhide HX3).below hB4)
  have HBX4:=hide ((unhide HBX3).keep hB4)
  have hbx4:W.heap.size < w4.heap.size:=(unhide HBX4).lt
  clear HEN HH3 HX3 HBX3 hB4 b0 b1 b2 b3 hpar hbad HXX
  obtain ⟨_,q4,hat4,_,_,_,_,C4⟩:=(unhide HH4).at hb
  have c62:=hat4.f62
  have c63:=hat4.f63
  have hbl4:b < w4.heap.size:=hat4.box.lt
  cases harm:(T.peer i).armed with
  | false =>
   rw [harm] at c62
   have hes:(strOfNums E).size = 28:=by rw [strOfNums_size];exact unhide HEL
   have hcp:∀ ty,(Builtin.copy_ #[116,9] ty #[.slice (some ⟨b,30,none⟩) 28 28,.string (strOfNums E)]).run Tryz.prog w4 = .ok (goInt (strOfNums E).size) (w4.setCells b 30 ((strOfNums E).data.toList.map fun x => Value.int .u8 (x.toNat:Int))):=fun ty =>
    run_copy_string (P:=Tryz.prog) w4 _ _ ty 5 b 30 28 28 (strOfNums E) Tryz.underlying116 (fun w => by rfl) (by omega) (fun j hj => (hat4.there 30 28 (by omega) j (by omega)).1) (fun j hj => hat4.fz _)
   rw [bytes_cells E (unhide HEB),hes] at hcp
   have hd5:=hat4.disk C4 28 (byteCells E) (by simp [byteCells,unhide HEL]) (splice (T.peer i).disk 28 E) (by rw [byte_splice])
   have HD5:=hide hd5
   have HBX5:Hid (Box (w4.setCells b 30 (byteCells E)) W.heap.size #[.int .i64 c.p,.int .i64 c.t,.int .i64 c.e,.int .i64 c.v] 39):=(heap_setCells_other b _ (by omega) _ _ _).trans (unhide HBX4)
   have hE28:E.take 28 = E:=List.take_of_length_le (by rw [unhide HEL];omega)
   have HT:Hid (T.write i c = (T.setP i { T.peer i with disk:=splice (T.peer i).disk 28 E }).setP i { (T.setP i { T.peer i with disk:=splice (T.peer i).disk 28 E }).peer i with c:=c }):=by
    show _ = _
    rw [PTown.set_set,PTown.peer_set hi]
    unfold PTown.write PeerP.writeP
    rw [if_neg (by rw [harm];simp),unhide HDW 28 (by omega),hE28]
   have n62:∀ w5,PDid w4 bt pb bs w5 (T.setP i { T.peer i with disk:=splice (T.peer i).disk 28 E }) → w5.cell? ⟨b,62,none⟩ = some (.bool false):=fun w5 hd => by
    obtain ⟨bs5,h5,_⟩:=hd.open
    rw [(h5.at hb).2.choose_spec.1.f62,PTown.peer_set hi]
    show some (Value.bool (T.peer i).armed) = _
    rw [harm]
   have d62:=n62 _ hd5
   clear n62 hd5 hat4 C4 hE28 HDW HEB HEL
   go_upto_region 10 with fail
   generalize w4.setCells b 30 (byteCells E) = w5 at *
   obtain ⟨bs5,h5,k5⟩:=(unhide HD5).open
   obtain ⟨_,q5,hat5,_,_,_,_,C5⟩:=h5.at hb
   have d64:=hat5.f64
   have d65:=hat5.f65
   have d66:=hat5.f66
   have d67:=hat5.f67
   have y64:=hat5.fz 64
   have y65:=hat5.fz 65
   have y66:=hat5.fz 66
   have y67:=hat5.fz 67
   have e0:w5.cell? ⟨W.heap.size,0,none⟩ = some (.int .i64 c.p):=(unhide HBX5).cell 0
   have e1:w5.cell? ⟨W.heap.size,1,none⟩ = some (.int .i64 c.t):=(unhide HBX5).cell 1
   have e2:w5.cell? ⟨W.heap.size,2,none⟩ = some (.int .i64 c.e):=(unhide HBX5).cell 2
   have e3:w5.cell? ⟨W.heap.size,3,none⟩ = some (.int .i64 c.v):=(unhide HBX5).cell 3
   have HF:=hide (((unhide HX4).trans k5).did (stores_close hat5 C5 [(64,.int .i64 c.p),(65,.int .i64 c.t),(66,.int .i64 c.e),(67,.int .i64 c.v)] q5 { (T.setP i { T.peer i with disk:=splice (T.peer i).disk 28 E }).peer i with c:=c } (by simp) rfl))
   simp only [sets] at HF
   clear hat5 C5 h5 k5 HD5 hcp HBX5 HBX4 HX4 HH4
   go_wp2
   go_ret
   exact ⟨by rfl,by rw [unhide HT];exact unhide HF⟩
  | true =>
   rw [harm] at c62
   obtain ⟨a0,a1⟩:=hbt harm
   obtain ⟨k,hk⟩:∃ k:Nat,(T.peer i).bytes = (k:Int):=⟨(T.peer i).bytes.toNat,by omega⟩
   have hk28:k ≤ 28:=by omega
   rw [hk] at c63
   have hes:(strOfNums E).size = 28:=by rw [strOfNums_size];exact unhide HEL
   have hek:(E.take k).length = k:=by rw [List.length_take,unhide HEL];omega
   have hex:(strOfNums E).extract 0 k = strOfNums (E.take k):=by rw [extract_nums E (unhide HEB)];simp
   have hbk:BytesL (E.take k):=fun y hy => unhide HEB y (List.mem_of_mem_take hy)
   have hsk:(strOfNums (E.take k)).size = k:=by rw [strOfNums_size];exact hek
   have hcp:∀ ty,(Builtin.copy_ #[116,9] ty #[.slice (some ⟨b,30,none⟩) 28 28,.string (strOfNums (E.take k))]).run Tryz.prog w4 = .ok (goInt (strOfNums (E.take k)).size) (w4.setCells b 30 ((strOfNums (E.take k)).data.toList.map fun x => Value.int .u8 (x.toNat:Int))):=fun ty =>
    run_copy_string (P:=Tryz.prog) w4 _ _ ty 5 b 30 28 28 (strOfNums (E.take k)) Tryz.underlying116 (fun w => by rfl) (by omega) (fun j hj => (hat4.there 30 28 (by omega) j (by omega)).1) (fun j hj => hat4.fz _)
   rw [bytes_cells (E.take k) hbk,hsk] at hcp
   have hd5:=hat4.disk C4 28 (byteCells (E.take k)) (by simp only [byteCells,List.length_map,hek];omega) (splice (T.peer i).disk 28 (E.take k)) (by rw [byte_splice])
   have HD5:=hide hd5
   have HT:Hid (T.write i c = (T.setP i { T.peer i with disk:=splice (T.peer i).disk 28 (E.take k) }).goDown i):=by
    show _ = _
    unfold PTown.goDown
    rw [PTown.set_set,PTown.peer_set hi]
    unfold PTown.write PeerP.writeP
    rw [harm,hk,Int.toNat_natCast,unhide HDW k hk28];rfl
   have n62:∀ w5,PDid w4 bt pb bs w5 (T.setP i { T.peer i with disk:=splice (T.peer i).disk 28 (E.take k) }) → w5.cell? ⟨b,62,none⟩ = some (.bool true):=fun w5 hd => by
    obtain ⟨bs5,h5,_⟩:=hd.open
    rw [(h5.at hb).2.choose_spec.1.f62,PTown.peer_set hi]
    show some (Value.bool (T.peer i).armed) = _
    rw [harm]
   have d62:=n62 _ hd5
   have hmin:min (k:Int) 28 = (k:Int):=by omega
   obtain ⟨bs5,h5,k5⟩:=hd5.open
   have HG:=hide (((unhide HX4).trans k5).calls (goDown_any i b _ bt pb bs5 _ h5 hb) (unhide HT))
   clear n62 hd5 hat4 C4 HDW HEB HEL HT h5 k5 HX4 HH4 HBX4 hk
   go_wp2_with fail
   refine (unhide HG).mono ?_
   rintro o w8 ⟨rfl,hd⟩
   have HE:=hide hd
   clear hd HG
   go_wp2
   go_ret
   exact ⟨by rw [harm];rfl,unhide HE⟩
 ·have q1:True:=trivial
  have HDW:Hid (∀ k,k ≤ 28 → diskWrite (T.peer i).disk c k = splice (T.peer i).disk 0 ((encL (x.n + 1) c.p c.t c.e c.v).take k)):=fun k hk => dw_splice_0 (T.peer i).disk c k x (unhide HXX) hdl hpar hk
  have HEN:=hide (encode_L (x.n + 1) c hbad W3)
  simp only [CredM.cells] at HEN
  have b0:W3.cell? ⟨W.heap.size,0,none⟩ = some (.int .i64 c.p):=(unhide HBX3).cell 0
  have b1:W3.cell? ⟨W.heap.size,1,none⟩ = some (.int .i64 c.t):=(unhide HBX3).cell 1
  have b2:W3.cell? ⟨W.heap.size,2,none⟩ = some (.int .i64 c.e):=(unhide HBX3).cell 2
  have b3:W3.cell? ⟨W.heap.size,3,none⟩ = some (.int .i64 c.v):=(unhide HBX3).cell 3
  have HEB:=hide (enc_bytes_bad hbad)
  have HEL:=hide (encL_len (x.n + 1) c.p c.t c.e c.v)
  generalize encL (x.n + 1) c.p c.t c.e c.v = E at *
  go_upto_region 7 with (go_at_call 49;refine (unhide HEN).mono ?_;rintro o w4 ⟨rfl,hB4⟩)
  have HH4:=hide ((unhide HH3).below hB4)
  have HX4:=hide ((unhide HX3).below hB4)
  have HBX4:=hide ((unhide HBX3).keep hB4)
  have hbx4:W.heap.size < w4.heap.size:=(unhide HBX4).lt
  clear HEN HH3 HX3 HBX3 hB4 b0 b1 b2 b3 hpar hbad HXX
  obtain ⟨_,q4,hat4,_,_,_,_,C4⟩:=(unhide HH4).at hb
  have c62:=hat4.f62
  have c63:=hat4.f63
  have hbl4:b < w4.heap.size:=hat4.box.lt
  cases harm:(T.peer i).armed with
  | false =>
   rw [harm] at c62
   have hes:(strOfNums E).size = 28:=by rw [strOfNums_size];exact unhide HEL
   have hcp:∀ ty,(Builtin.copy_ #[116,9] ty #[.slice (some ⟨b,2,none⟩) 56 56,.string (strOfNums E)]).run Tryz.prog w4 = .ok (goInt (strOfNums E).size) (w4.setCells b 2 ((strOfNums E).data.toList.map fun x => Value.int .u8 (x.toNat:Int))):=fun ty =>
    run_copy_string (P:=Tryz.prog) w4 _ _ ty 5 b 2 56 56 (strOfNums E) Tryz.underlying116 (fun w => by rfl) (by omega) (fun j hj => (hat4.there 2 28 (by omega) j (by omega)).1) (fun j hj => hat4.fz _)
   rw [bytes_cells E (unhide HEB),hes] at hcp
   have hd5:=hat4.disk C4 0 (byteCells E) (by simp [byteCells,unhide HEL]) (splice (T.peer i).disk 0 E) (by rw [byte_splice])
   have HD5:=hide hd5
   have HBX5:Hid (Box (w4.setCells b 2 (byteCells E)) W.heap.size #[.int .i64 c.p,.int .i64 c.t,.int .i64 c.e,.int .i64 c.v] 39):=(heap_setCells_other b _ (by omega) _ _ _).trans (unhide HBX4)
   have hE28:E.take 28 = E:=List.take_of_length_le (by rw [unhide HEL];omega)
   have HT:Hid (T.write i c = (T.setP i { T.peer i with disk:=splice (T.peer i).disk 0 E }).setP i { (T.setP i { T.peer i with disk:=splice (T.peer i).disk 0 E }).peer i with c:=c }):=by
    show _ = _
    rw [PTown.set_set,PTown.peer_set hi]
    unfold PTown.write PeerP.writeP
    rw [if_neg (by rw [harm];simp),unhide HDW 28 (by omega),hE28]
   have n62:∀ w5,PDid w4 bt pb bs w5 (T.setP i { T.peer i with disk:=splice (T.peer i).disk 0 E }) → w5.cell? ⟨b,62,none⟩ = some (.bool false):=fun w5 hd => by
    obtain ⟨bs5,h5,_⟩:=hd.open
    rw [(h5.at hb).2.choose_spec.1.f62,PTown.peer_set hi]
    show some (Value.bool (T.peer i).armed) = _
    rw [harm]
   have d62:=n62 _ hd5
   clear n62 hd5 hat4 C4 hE28 HDW HEB HEL
   go_upto_region 10 with fail
   generalize w4.setCells b 2 (byteCells E) = w5 at *
   obtain ⟨bs5,h5,k5⟩:=(unhide HD5).open
   obtain ⟨_,q5,hat5,_,_,_,_,C5⟩:=h5.at hb
   have d64:=hat5.f64
   have d65:=hat5.f65
   have d66:=hat5.f66
   have d67:=hat5.f67
   have y64:=hat5.fz 64
   have y65:=hat5.fz 65
   have y66:=hat5.fz 66
   have y67:=hat5.fz 67
   have e0:w5.cell? ⟨W.heap.size,0,none⟩ = some (.int .i64 c.p):=(unhide HBX5).cell 0
   have e1:w5.cell? ⟨W.heap.size,1,none⟩ = some (.int .i64 c.t):=(unhide HBX5).cell 1
   have e2:w5.cell? ⟨W.heap.size,2,none⟩ = some (.int .i64 c.e):=(unhide HBX5).cell 2
   have e3:w5.cell? ⟨W.heap.size,3,none⟩ = some (.int .i64 c.v):=(unhide HBX5).cell 3
   have HF:=hide (((unhide HX4).trans k5).did (stores_close hat5 C5 [(64,.int .i64 c.p),(65,.int .i64 c.t),(66,.int .i64 c.e),(67,.int .i64 c.v)] q5 { (T.setP i { T.peer i with disk:=splice (T.peer i).disk 0 E }).peer i with c:=c } (by simp) rfl))
   simp only [sets] at HF
   clear hat5 C5 h5 k5 HD5 hcp HBX5 HBX4 HX4 HH4
   go_wp2
   go_ret
   exact ⟨by rfl,by rw [unhide HT];exact unhide HF⟩
  | true =>
   rw [harm] at c62
   obtain ⟨a0,a1⟩:=hbt harm
   obtain ⟨k,hk⟩:∃ k:Nat,(T.peer i).bytes = (k:Int):=⟨(T.peer i).bytes.toNat,by omega⟩
   have hk28:k ≤ 28:=by omega
   rw [hk] at c63
   have hes:(strOfNums E).size = 28:=by rw [strOfNums_size];exact unhide HEL
   have hek:(E.take k).length = k:=by rw [List.length_take,unhide HEL];omega
   have hex:(strOfNums E).extract 0 k = strOfNums (E.take k):=by rw [extract_nums E (unhide HEB)];simp
   have hbk:BytesL (E.take k):=fun y hy => unhide HEB y (List.mem_of_mem_take hy)
   have hsk:(strOfNums (E.take k)).size = k:=by rw [strOfNums_size];exact hek
   have hcp:∀ ty,(Builtin.copy_ #[116,9] ty #[.slice (some ⟨b,2,none⟩) 56 56,.string (strOfNums (E.take k))]).run Tryz.prog w4 = .ok (goInt (strOfNums (E.take k)).size) (w4.setCells b 2 ((strOfNums (E.take k)).data.toList.map fun x => Value.int .u8 (x.toNat:Int))):=fun ty =>
    run_copy_string (P:=Tryz.prog) w4 _ _ ty 5 b 2 56 56 (strOfNums (E.take k)) Tryz.underlying116 (fun w => by rfl) (by omega) (fun j hj => (hat4.there 2 28 (by omega) j (by omega)).1) (fun j hj => hat4.fz _)
   rw [bytes_cells (E.take k) hbk,hsk] at hcp
   have hd5:=hat4.disk C4 0 (byteCells (E.take k)) (by simp only [byteCells,List.length_map,hek];omega) (splice (T.peer i).disk 0 (E.take k)) (by rw [byte_splice])
   have HD5:=hide hd5
   have HT:Hid (T.write i c = (T.setP i { T.peer i with disk:=splice (T.peer i).disk 0 (E.take k) }).goDown i):=by
    show _ = _
    unfold PTown.goDown
    rw [PTown.set_set,PTown.peer_set hi]
    unfold PTown.write PeerP.writeP
    rw [harm,hk,Int.toNat_natCast,unhide HDW k hk28];rfl
   have n62:∀ w5,PDid w4 bt pb bs w5 (T.setP i { T.peer i with disk:=splice (T.peer i).disk 0 (E.take k) }) → w5.cell? ⟨b,62,none⟩ = some (.bool true):=fun w5 hd => by
    obtain ⟨bs5,h5,_⟩:=hd.open
    rw [(h5.at hb).2.choose_spec.1.f62,PTown.peer_set hi]
    show some (Value.bool (T.peer i).armed) = _
    rw [harm]
   have d62:=n62 _ hd5
   have hmin:min (k:Int) 28 = (k:Int):=by omega
   obtain ⟨bs5,h5,k5⟩:=hd5.open
   have HG:=hide (((unhide HX4).trans k5).calls (goDown_any i b _ bt pb bs5 _ h5 hb) (unhide HT))
   clear n62 hd5 hat4 C4 HDW HEB HEL HT h5 k5 HX4 HH4 HBX4 hk
   go_wp2_with fail
   refine (unhide HG).mono ?_
   rintro o w8 ⟨rfl,hd⟩
   have HE:=hide hd
   clear hd HG
   go_wp2
   go_ret
   exact ⟨by rw [harm];rfl,unhide HE⟩
end Go.Proofs.YtceappncglfciaaGreat
namespace Go.Proofs.YtceappncglfciaaGreat
open Go.RowKit
attribute [local go_sem ↓] Go.wp_at_zero Go.wp_at_succ
def Wr (r:Nat) (p:PeerP):Prop:=(∃ n c0,DiskOK n c0 p.disk ∧ n + (r:Int) ≤ 4294967294) ∧ (p.armed = true → 0 ≤ p.bytes ∧ p.bytes ≤ 28)
theorem Wr.write {r:Nat} {p:PeerP} {c:CredM} (h:Wr (r + 1) p) (hc:c.ok) (ha:p.armed = false):Wr r (p.writeP c):=by
 obtain ⟨⟨n,c0,hd,hn⟩,hb⟩:=h
 unfold PeerP.writeP
 rw [if_neg (by rw [ha];simp)]
 exact ⟨⟨n + 1,c,hd.whole (by omega) hc,by omega⟩,hb⟩
theorem Wr.mono {r r':Nat} {p:PeerP} (h:Wr r p) (hr:r' ≤ r):Wr r' p:=by
 obtain ⟨⟨n,c0,hd,hn⟩,hb⟩:=h
 exact ⟨⟨n,c0,hd,by omega⟩,hb⟩
theorem Wr.of {r:Nat} {p p':PeerP} (h:Wr r p) (hd:p'.disk = p.disk) (ha:p'.armed = p.armed) (hb:p'.bytes = p.bytes):Wr r p':=by
 unfold Wr at *;rw [hd,ha,hb];exact h
theorem wr_any (i b:Nat) (c:CredM) (W:World) (bt:Nat) (pb bs:List Nat) (T:PTown) (h:PR W bt pb bs T) (hb:pb[i]? = some b) (hw:Wr 1 (T.peer i)) (hc:c.ok) :
  Calls Tryz.prog 70 #[.pointer (some ⟨b,0,none⟩),.agg #[.int .i64 c.p,.int .i64 c.t,.int .i64 c.e,.int .i64 c.v]] W fun o w' => o = .returned (.bool (!(T.peer i).armed)) ∧ PDid W bt pb bs w' (T.write i c):=by
 obtain ⟨⟨n,c0,hd,hn⟩,ha⟩:=hw
 have hnn:=hd.newest
 have h1:1 ≤ n:=hd.num.1
 have e:(newestL (T.peer i).disk).n = n:=by rw [hnn]
 exact pwrite_any i b c W bt pb bs T h hb hd.bytes (by rw [e];exact CredM.bad hc (by omega) (by omega)) (by omega) (by omega) ha
set_option maxHeartbeats 1000000 in
theorem hasPromised_any (i b:Nat) (e k:Int) (W:World) (bt:Nat) (pb bs:List Nat) (T:PTown) (h:PR W bt pb bs T) (hb:pb[i]? = some b) :
  Calls Tryz.prog 161 #[.pointer (some ⟨b,0,none⟩),.int .i64 e,.int .i64 k] W fun o w' => o = .returned (.bool ((T.peer i).hasPromised e k)) ∧ w' = W:=by
 obtain ⟨hi,q,hat,_,_,_,_,_⟩:=h.at hb
 have c64:=hat.f64
 have c65:=hat.f65
 clear h hat
 unfold PeerP.hasPromised
 by_cases h1:(T.peer i).c.p = e
 ·have q1:((T.peer i).c.p == e) = true:=by simp [h1]
  rw [q1]
  clear h1
  go_enter Tryz.func161,Tryz.ntmps161
  go_wp2
  go_ret
  exact ⟨by simp,rfl⟩
 ·have q1:((T.peer i).c.p == e) = false:=by simp [h1]
  rw [q1]
  clear h1
  go_enter Tryz.func161,Tryz.ntmps161
  go_wp2
  go_ret
  exact ⟨by simp,rfl⟩
set_option maxRecDepth 100000 in
set_option maxHeartbeats 1000000 in
theorem promise_any (i b:Nat) (e k:Int) (W:World) (bt:Nat) (pb bs:List Nat) (T:PTown) (h:PR W bt pb bs T) (hb:pb[i]? = some b) (hw:Wr 1 (T.peer i)) (hc:({ (T.peer i).c with p:=e,t:=k }:CredM).ok) :
  Calls Tryz.prog 159 #[.pointer (some ⟨b,0,none⟩),.int .i64 e,.int .i64 k] W fun o w' => o = .returned (.bool (!(T.peer i).armed)) ∧ PDid W bt pb bs w' (T.promise i e k):=by
 obtain ⟨hi,q,hat,_,_,_,_,_⟩:=h.at hb
 have c64:=hat.f64
 have c65:=hat.f65
 have c66:=hat.f66
 have c67:=hat.f67
 have hX:=(Below.refl W.heap.size W).alloc (Nat.le_refl _) (.cells #[.int .i64 e,.int .i64 k,.int .i64 (T.peer i).c.e,.int .i64 (T.peer i).c.v] 39)
 have HC:=hide ((Links.of_below bs hX).calls (wr_any i b { (T.peer i).c with p:=e,t:=k } _ bt pb bs T (h.below hX) hb hw hc) (T':=T.promise i e k) rfl)
 clear h hat hX
 go_enter Tryz.func159,Tryz.ntmps159
 go_wp2_with fail
 refine (unhide HC).mono ?_
 rintro o w8 ⟨rfl,hd⟩
 have HE:=hide hd
 clear hd HC
 go_wp2
 go_ret
 exact ⟨rfl,unhide HE⟩
set_option maxRecDepth 100000 in
set_option maxHeartbeats 1000000 in
theorem ack_any (i b:Nat) (m:MsgM) (W:World) (bt:Nat) (pb bs:List Nat) (T:PTown) (h:PR W bt pb bs T) (hb:pb[i]? = some b) (hn:T.net ≤ 1000) :
  Calls Tryz.prog 160 #[.pointer (some ⟨b,0,none⟩),m.val] W fun o w' => o = .returned (.tuple #[]) ∧ PDid W bt pb bs w' (T.ack i m):=by
 have hX:=(Below.refl W.heap.size W).alloc (Nat.le_refl _) (.cells m.cells.toArray 133)
 have HM:=hide (MBox.new W m)
 have HH:=hide (h.below hX)
 have HX:=hide (Links.of_below bs hX)
 have HN:=hide h.new_notin
 clear h hX
 unfold MsgM.val
 simp only [MsgM.cells] at HM HH HX
 go_enter Tryz.func160,Tryz.ntmps160
 go_upto_region 1 with fail
 generalize W.alloc (.cells #[.int .i64 m.kind,.int .i64 m.src,.int .i64 m.dst,.int .i64 m.round,.int .i64 m.state,.int .i64 m.vote.e,.int .i64 m.vote.n,.int .i64 m.vote.p,.int .i64 m.epoch,.int .i64 m.news] 133) = W1 at *
 have m1:=(unhide HM).m1
 have m8:=(unhide HM).m8
 have hW1:W.heap.size < W1.heap.size:=(unhide HM).lt
 have hb1:=(Below.refl W1.heap.size W1).drew
 have HQ:Hid (∀ w5:World,Below W1.heap.size W1 w5 → w5.cell? ⟨W.heap.size,1,none⟩ = some (.int .i64 m.src) ∧ w5.cell? ⟨W.heap.size,8,none⟩ = some (.int .i64 m.epoch)):=fun w5 hB => ⟨(hB.cell (p:=⟨W.heap.size,1,none⟩) hW1).trans m1,(hB.cell (p:=⟨W.heap.size,8,none⟩) hW1).trans m8⟩
 have HS:Hid (∀ w5:World,Below W1.heap.size W1 w5 → Calls Tryz.prog 138 #[.pointer (some ⟨b,0,none⟩)] w5 fun o w' => o = .returned (.agg #[.int .i64 (T.forItself i).e,.int .i64 (T.forItself i).n,.int .i64 (T.forItself i).p]) ∧ Below W1.heap.size W1 w'):=fun w5 hB =>
  (forItself_any i b w5 bt pb bs T ((unhide HH).below hB) hb).mono (fun o w' hh => ⟨hh.1,below_then hB hh.2⟩)
 have HD:Hid (∀ w5:World,Below W1.heap.size W1 w5 → Calls Tryz.prog 114 #[.pointer (some ⟨b,0,none⟩),(⟨4,0,0,0,0,T.forItself i,m.epoch,0⟩:MsgM).val,.slice (some ⟨w5.heap.size,0,none⟩) 1 1] (w5.alloc (.cells #[.int .i64 m.src] 3)) fun o w' => o = .returned (.tuple #[]) ∧ PDid W1 bt pb bs w' (T.ack i m)):=fun w5 hB => by
  have hb2:=hB.alloc hB.size (.cells #[.int .i64 m.src] 3)
  exact (Links.of_below bs hb2).calls (send_any i b _ _ bt pb bs T ((unhide HH).below hb2) hb hn [m.src] _ (to_one w5 m.src) (by simp)) rfl
 obtain ⟨W2,hW2⟩:∃ W2,W2 = (W1.alloc (.cells #[.int .i64 m.src] 3)).drew:=⟨_,rfl⟩
 have hb2:Below W1.heap.size W1 W2:=by rw [hW2];exact ((Below.refl W1.heap.size W1).alloc (Nat.le_refl _) _).drew
 have HS2:Hid (Calls Tryz.prog 138 #[.pointer (some ⟨b,0,none⟩)] W2 fun o w' => o = .returned (.agg #[.int .i64 (T.forItself i).e,.int .i64 (T.forItself i).n,.int .i64 (T.forItself i).p]) ∧ Below W2.heap.size W2 w') :=
  forItself_any i b W2 bt pb bs T ((unhide HH).below hb2) hb
 have HD2:Hid (∀ w5:World,Below W2.heap.size W2 w5 → Calls Tryz.prog 114 #[.pointer (some ⟨b,0,none⟩),(⟨4,0,0,0,0,T.forItself i,m.epoch,0⟩:MsgM).val,.slice (some ⟨W1.heap.size,0,none⟩) 1 1] w5 fun o w' => o = .returned (.tuple #[]) ∧ PDid W1 bt pb bs w' (T.ack i m)):=fun w5 hB => by
  have hb3:=below_then hb2 hB
  have hrow:ToRow w5 (.slice (some ⟨W1.heap.size,0,none⟩) 1 1) [m.src]:=by
   refine own_same (W:=W2) (by rw [hW2];exact to_one W1 m.src) (fun g hg => hB.block g ?_)
   have:W1.heap.size = g:=by simpa [Value.ownBlock] using hg
   rw [← this,hW2]
   show W1.heap.size < (W1.alloc _).heap.size
   simp
  exact (Links.of_below bs hb3).calls (send_any i b _ _ bt pb bs T ((unhide HH).below hb3) hb hn [m.src] _ hrow (by simp)) rfl
 have HQ2:Hid (∀ w5:World,Below W2.heap.size W2 w5 → w5.cell? ⟨W.heap.size,1,none⟩ = some (.int .i64 m.src) ∧ w5.cell? ⟨W.heap.size,8,none⟩ = some (.int .i64 m.epoch)):=fun w5 hB => unhide HQ w5 (below_then hb2 hB)
 rw [hW2] at HS2 HD2 HQ2
 clear hb2 hW2
 simp only [MsgM.val] at HD HD2
 have HB0:=hide hb1
 have HQ6:Hid (∀ w6 T6,PDid W1 bt pb bs w6 T6 → w6.cell? ⟨W.heap.size,1,none⟩ = some (.int .i64 m.src) ∧ w6.cell? ⟨W.heap.size,8,none⟩ = some (.int .i64 m.epoch)):=fun w6 T6 hd => by
  obtain ⟨bs6,h6,k6⟩:=hd.open
  have:=(unhide HM).links k6 (unhide HN)
  exact ⟨this.m1,this.m8⟩
 clear HM HH hb1
 go_region_held3 (fun w' => w'.cell? ⟨W.heap.size,1,none⟩ = some (.int .i64 m.src) ∧ w'.cell? ⟨W.heap.size,8,none⟩ = some (.int .i64 m.epoch)) (go_keep) (first | (go_at_call 138;refine (unhide HS _ (unhide HB0)).mono ?_;rintro o w5 ⟨rfl,hB5⟩;obtain ⟨e0,e1⟩:=unhide HQ w5 hB5;have HB5:=hide hB5;clear hB5) | (go_at_call 138;refine (unhide HS2).mono ?_;rintro o w5 ⟨rfl,hB5⟩;obtain ⟨e0,e1⟩:=unhide HQ2 w5 hB5;have HB6:=hide hB5;clear hB5) | (go_at_call 114;refine (unhide HD2 _ (unhide HB6)).mono ?_;rintro o w6 ⟨rfl,hd6⟩;obtain ⟨g0,g1⟩:=unhide HQ6 w6 _ hd6;have HD6:=hide hd6;clear hd6) | (go_at_call 114;refine (unhide HD _ (unhide HB5)).mono ?_;rintro o w6 ⟨rfl,hd6⟩;obtain ⟨g0,g1⟩:=unhide HQ6 w6 _ hd6;have HD6:=hide hd6;clear hd6))
 all_goals
  go_wp2
  go_end0
  exact ⟨rfl,(unhide HX).did (unhide HD6)⟩
end Go.Proofs.YtceappncglfciaaGreat
namespace Go.Proofs.YtceappncglfciaaGreat
open Go.RowKit
attribute [local go_sem ↓] Go.wp_at_zero Go.wp_at_succ
set_option maxRecDepth 100000 in
set_option maxHeartbeats 1000000 in
theorem answerPropose_any (i b:Nat) (m:MsgM) (W:World) (bt:Nat) (pb bs:List Nat) (T:PTown) (h:PR W bt pb bs T) (hb:pb[i]? = some b) (hp:T.ps.length ≤ 7) (hn:T.net ≤ 1000) (hr:0 ≤ (T.peer i).round ∧ (T.peer i).round ≤ 4611686018427387904) (hw:Wr 1 (T.peer i)) (hc:({ (T.peer i).c with p:=m.epoch,t:=m.src }:CredM).ok) :
  Calls Tryz.prog 146 #[.pointer (some ⟨b,0,none⟩),m.val] W fun o w' => o = .returned (.tuple #[]) ∧ PDid W bt pb bs w' (T.answerPropose i m):=by
 have hX:=(Below.refl W.heap.size W).alloc (Nat.le_refl _) (.cells m.cells.toArray 133)
 have HM:=hide (MBox.new W m)
 have HH:=hide (h.below hX)
 have HX:=hide (Links.of_below bs hX)
 have HN:=hide h.new_notin
 have hi:i < T.ps.length:=(h.at hb).1
 clear h hX
 unfold MsgM.val
 simp only [MsgM.cells] at HM HH HX
 go_enter Tryz.func146,Tryz.ntmps146
 go_upto_region 2 with fail
 generalize W.alloc (.cells #[.int .i64 m.kind,.int .i64 m.src,.int .i64 m.dst,.int .i64 m.round,.int .i64 m.state,.int .i64 m.vote.e,.int .i64 m.vote.n,.int .i64 m.vote.p,.int .i64 m.epoch,.int .i64 m.news] 133) = W1 at *
 obtain ⟨_,q,hat,_,_,_,_,_⟩:=(unhide HH).at hb
 have c64:=hat.f64
 have m8:=(unhide HM).m8
 clear hat
 by_cases hgt:(T.peer i).c.p < m.epoch
 ·have d1:decide ((T.peer i).c.p < m.epoch) = true:=by simpa using hgt
  have HT:Hid (T.answerPropose i m = if (T.peer i).armed = true then T.promise i m.epoch m.src else (T.promise i m.epoch m.src).ack i m):=by
   show _ = _
   unfold PTown.answerPropose;rw [if_pos hgt]
  clear hgt
  go_quiet (fail)
  have hbr:=below_drewN (Below.refl W1.heap.size W1) nq
  have HH2:=hide ((unhide HH).below hbr)
  have HX2:=hide ((unhide HX).below hbr)
  have HM2:=hide ((unhide HM).keep hbr)
  clear HH HX HM c64 m8 hbr
  generalize W1.drewN nq = W2 at *
  have m0:=(unhide HM2).m0
  have m1:=(unhide HM2).m1
  have m2:=(unhide HM2).m2
  have m3:=(unhide HM2).m3
  have m4:=(unhide HM2).m4
  have m5:=(unhide HM2).m5
  have m6:=(unhide HM2).m6
  have m7:=(unhide HM2).m7
  have m8:=(unhide HM2).m8
  have m9:=(unhide HM2).m9
  have hW2:W.heap.size < W2.heap.size:=(unhide HM2).lt
  have HC:=hide (promise_any i b m.epoch m.src W2 bt pb bs T (unhide HH2) hb hw hc)
  cases harm:(T.peer i).armed with
  | true =>
   rw [harm] at HC HT
   simp only [if_true] at HT
   go_wp2_with (go_at_call 159;refine (unhide HC).mono ?_;rintro o w8 ⟨rfl,hd⟩)
   go_end0
   exact ⟨rfl,by rw [unhide HT];exact (unhide HX2).did hd⟩
  | false =>
   rw [harm] at HC HT
   simp only [if_false,Bool.false_eq_true] at HT
   go_upto_region 4 with (go_at_call 159;refine (unhide HC).mono ?_;rintro o w5 ⟨rfl,hd⟩)
   obtain ⟨bs5,h5,k5⟩:=hd.open
   have HM5:=hide ((unhide HM2).links k5 (unhide HN))
   clear m0 m1 m2 m3 m4 m5 m6 m7 m8 m9
   have m0:=(unhide HM5).m0
   have m1:=(unhide HM5).m1
   have m2:=(unhide HM5).m2
   have m3:=(unhide HM5).m3
   have m4:=(unhide HM5).m4
   have m5:=(unhide HM5).m5
   have m6:=(unhide HM5).m6
   have m7:=(unhide HM5).m7
   have m8:=(unhide HM5).m8
   have m9:=(unhide HM5).m9
   have HA:=hide (((unhide HX2).trans k5).calls (ack_any i b m w5 bt pb bs5 _ h5 hb hn) (unhide HT))
   simp only [MsgM.val] at HA
   clear hd h5 k5 HC HT HM5 HM2 HX2 HH2
   go_wp2_with fail
   refine (unhide HA).mono ?_
   rintro o w8 ⟨rfl,hd⟩
   have HE:=hide hd
   clear hd HA
   go_wp2
   go_end0
   exact ⟨rfl,unhide HE⟩
 ·have d1:decide ((T.peer i).c.p < m.epoch) = false:=by simpa using hgt
  have HT:Hid (T.answerPropose i m = if (T.peer i).hasPromised m.epoch m.src = true then T.ack i m else T.look i):=by
   show _ = _
   unfold PTown.answerPropose;rw [if_neg hgt]
  clear hgt
  go_quiet (fail)
  have hbr:=below_drewN (Below.refl W1.heap.size W1) nq
  have HH2:=hide ((unhide HH).below hbr)
  have HX2:=hide ((unhide HX).below hbr)
  have HM2:=hide ((unhide HM).keep hbr)
  clear HH HX HM c64 m8 hbr
  generalize W1.drewN nq = W2 at *
  have m0:=(unhide HM2).m0
  have m1:=(unhide HM2).m1
  have m2:=(unhide HM2).m2
  have m3:=(unhide HM2).m3
  have m4:=(unhide HM2).m4
  have m5:=(unhide HM2).m5
  have m6:=(unhide HM2).m6
  have m7:=(unhide HM2).m7
  have m8:=(unhide HM2).m8
  have m9:=(unhide HM2).m9
  have HC:=hide (hasPromised_any i b m.epoch m.src W2 bt pb bs T (unhide HH2) hb)
  have HA:=hide ((unhide HX2).calls (ack_any i b m W2 bt pb bs T (unhide HH2) hb hn) rfl)
  have HL:=hide ((unhide HX2).calls (look_any i b W2 bt pb bs T (unhide HH2) hb hp hn hr) rfl)
  simp only [MsgM.val] at HA
  clear HM2 HX2 HH2
  cases hpr:(T.peer i).hasPromised m.epoch m.src with
  | true =>
   rw [hpr] at HC HT
   simp only [if_true] at HT
   rw [← unhide HT] at HA
   clear HL hpr
   go_wp2_with (go_at_call 161;refine (unhide HC).mono ?_;rintro o w5 ⟨rfl,rfl⟩)
   refine (unhide HA).mono ?_
   rintro o w8 ⟨rfl,hd⟩
   have HE:=hide hd
   clear hd HA
   go_wp2
   go_end0
   exact ⟨rfl,unhide HE⟩
  | false =>
   rw [hpr] at HC HT
   simp only [if_false,Bool.false_eq_true] at HT
   rw [← unhide HT] at HL
   clear HA hpr
   go_wp2_with (go_at_call 161;refine (unhide HC).mono ?_;rintro o w5 ⟨rfl,rfl⟩)
   refine (unhide HL).mono ?_
   rintro o w8 ⟨rfl,hd⟩
   have HE:=hide hd
   clear hd HL
   go_wp2
   go_end0
   exact ⟨rfl,unhide HE⟩
end Go.Proofs.YtceappncglfciaaGreat
