import Derived.Test.YtceappncglfciaaGreatM00
set_option linter.unusedVariables false
set_option linter.unusedSimpArgs false
namespace Go.Proofs.YtceappncglfciaaGreat
def mixL (x y:List Int) (j:Nat):List Int:=x.take j ++ y.drop j
theorem mixL_len {x y:List Int} (h:x.length = y.length) (j:Nat):(mixL x y j).length = y.length:=by
 unfold mixL
 rw [List.length_append,List.length_take,List.length_drop];omega
theorem mixL_get {x y:List Int} (h:x.length = y.length) (j i:Nat):(mixL x y j)[i]? = if i < j then x[i]? else y[i]?:=by
 unfold mixL
 by_cases hj:j ≤ x.length
 ·have hl:(x.take j).length = j:=by rw [List.length_take];omega
  by_cases hi:i < j
  ·rw [if_pos hi,List.getElem?_append_left (by omega),List.getElem?_take_of_lt hi]
  ·rw [if_neg hi,List.getElem?_append_right (by omega),hl,List.getElem?_drop]
   congr 1;omega
 ·rw [List.take_of_length_le (by omega),List.drop_of_length_le (by omega),List.append_nil]
  by_cases hi:i < j
  ·rw [if_pos hi]
  ·rw [if_neg hi,List.getElem?_eq_none (by omega),List.getElem?_eq_none (by omega)]
theorem mixL_mix {x y:List Int} (h:x.length = y.length) (j k:Nat):mixL x (mixL x y j) k = mixL x y (max j k):=by
 apply List.ext_getElem?
 intro i
 rw [mixL_get (by rw [mixL_len h,h]),mixL_get h,mixL_get h]
 by_cases h1:i < k
 ·rw [if_pos h1,if_pos (by omega)]
 ·rw [if_neg h1]
  by_cases h2:i < j
  ·rw [if_pos h2,if_pos (by omega)]
  ·rw [if_neg h2,if_neg (by omega)]
theorem mixL_part {x y:List Int} (h:x.length = y.length) (k a b:Nat):((mixL x y k).drop a).take b = mixL ((x.drop a).take b) ((y.drop a).take b) (k - a):=by
 apply List.ext_getElem?
 intro i
 rw [mixL_get (by rw [List.length_take,List.length_take,List.length_drop,List.length_drop,h])]
 by_cases hb:i < b
 ·rw [List.getElem?_take_of_lt hb,List.getElem?_drop,mixL_get h,List.getElem?_take_of_lt hb,List.getElem?_take_of_lt hb,List.getElem?_drop,List.getElem?_drop]
  by_cases h1:i < k - a
  ·rw [if_pos h1,if_pos (by omega)]
  ·rw [if_neg h1,if_neg (by omega)]
 ·rw [List.getElem?_eq_none (by rw [List.length_take];omega)]
  split <;> rw [List.getElem?_eq_none (by rw [List.length_take];omega)]
theorem mixL_all {x y:List Int} (h:x.length = y.length) {j:Nat} (hj:x.length ≤ j):mixL x y j = x:=by
 unfold mixL
 rw [List.take_of_length_le hj,List.drop_of_length_le (by omega),List.append_nil]
theorem mixL_zero (x y:List Int):mixL x y 0 = y:=by simp [mixL]
theorem mixL_bytes {x y:List Int} (hx:BytesL x) (hy:BytesL y) (j:Nat):BytesL (mixL x y j):=by
 intro z hz
 rcases List.mem_append.1 hz with h | h
 ·exact hx z (List.mem_of_mem_take h)
 ·exact hy z (List.mem_of_mem_drop h)
def CredM.ok (c:CredM):Prop:=(0 ≤ c.p ∧ c.p ≤ 4294967295) ∧ (0 ≤ c.t ∧ c.t ≤ 4294967295) ∧ (0 ≤ c.e ∧ c.e ≤ 4294967295) ∧ (0 ≤ c.v ∧ c.v ≤ 4294967295)
theorem CredM.bad {c:CredM} (h:c.ok) {n:Int} (h0:1 ≤ n) (h1:n ≤ 4294967295):badB n c.p c.t c.e c.v = false:=by
 obtain ⟨⟨a0,a1⟩,⟨b0,b1⟩,⟨c0,c1⟩,d0,d1⟩:=h
 simp [badB,wideB]
 omega
def CredM.slot (c:CredM) (n:Int):List Int:=encL n c.p c.t c.e c.v
theorem slot_len (c:CredM) (n:Int):(c.slot n).length = 28:=encL_len _ _ _ _ _
theorem slot_bytes {c:CredM} (h:c.ok) {n:Int} (h0:1 ≤ n) (h1:n ≤ 4294967295):BytesL (c.slot n):=(bodyL_bytes (CredM.bad h h0 h1)).app (num4_bytes (sumV_range _).1 (sumV_range _).2)
theorem slot_head (c:CredM) (n:Int):(c.slot n).take 4 = num4 n:=rfl
theorem slot_tail (c:CredM) (n:Int):((c.slot n).drop 20).take 4 = num4 n:=rfl
theorem slot_sum (c:CredM) (n:Int):(c.slot n).drop 24 = num4 (sumV ((c.slot n).take 24)):=by
 unfold CredM.slot encL
 have e1:(bodyL n c.p c.t c.e c.v ++ num4 (sumV (bodyL n c.p c.t c.e c.v))).drop 24 = num4 (sumV (bodyL n c.p c.t c.e c.v)):=List.drop_left (l₁:=bodyL n c.p c.t c.e c.v) (l₂:=num4 (sumV (bodyL n c.p c.t c.e c.v)))
 have e2:(bodyL n c.p c.t c.e c.v ++ num4 (sumV (bodyL n c.p c.t c.e c.v))).take 24 = bodyL n c.p c.t c.e c.v:=List.take_left (l₁:=bodyL n c.p c.t c.e c.v) (l₂:=num4 (sumV (bodyL n c.p c.t c.e c.v)))
 rw [e1,e2]
theorem slot_right (c:CredM) {n:Int} (h:1 ≤ n):rightL (c.slot n) = true:=by
 unfold rightL
 rw [slot_head,slot_tail,← slot_sum,valL_num4]
 simp
 omega
theorem slot_field0 (c:CredM) (n:Int):fieldL (c.slot n) 0 = n:=valL_num4 n
theorem slot_field1 (c:CredM) (n:Int):fieldL (c.slot n) 1 = c.p:=valL_num4 c.p
theorem slot_field2 (c:CredM) (n:Int):fieldL (c.slot n) 2 = c.t:=valL_num4 c.t
theorem slot_field3 (c:CredM) (n:Int):fieldL (c.slot n) 3 = c.e:=valL_num4 c.e
theorem slot_field4 (c:CredM) (n:Int):fieldL (c.slot n) 4 = c.v:=valL_num4 c.v
theorem part4 {s:List Int} (hl:s.length = 28) (i:Nat) (hi:i ≤ 6):((s.drop (i * 4)).take 4).length = 4:=by
 rw [List.length_take,List.length_drop];omega
theorem field_num4 {s:List Int} (hl:s.length = 28) (hb:BytesL s) (i:Nat) (hi:i ≤ 6):num4 (fieldL s i) = (s.drop (i * 4)).take 4 :=
 num4_valL4 (fun x hx => hb x (List.mem_of_mem_drop (List.mem_of_mem_take hx))) (part4 hl i hi)
theorem field_range {s:List Int} (hl:s.length = 28) (hb:BytesL s) (i:Nat) (hi:i ≤ 6):0 ≤ fieldL s i ∧ fieldL s i ≤ 4294967295 :=
 valL_range4 (fun x hx => hb x (List.mem_of_mem_drop (List.mem_of_mem_take hx))) (part4 hl i hi)
def credOf (s:List Int):CredM:=⟨fieldL s 1,fieldL s 2,fieldL s 3,fieldL s 4⟩
theorem credOf_ok {s:List Int} (hl:s.length = 28) (hb:BytesL s):(credOf s).ok:=⟨field_range hl hb 1 (by omega),field_range hl hb 2 (by omega),field_range hl hb 3 (by omega),field_range hl hb 4 (by omega)⟩
theorem cut4 (l:List Int) (a:Nat):l.take (4 + a) = l.take 4 ++ (l.drop 4).take a:=List.take_add
theorem right_slot {s:List Int} (hl:s.length = 28) (hb:BytesL s) (h:rightL s = true):s = (credOf s).slot (fieldL s 0):=by
 unfold rightL at h
 simp only [Bool.and_eq_true,decide_eq_true_eq] at h
 obtain ⟨_,h1,h2⟩:=h
 have e0:=field_num4 hl hb 0 (by omega)
 have e1:=field_num4 hl hb 1 (by omega)
 have e2:=field_num4 hl hb 2 (by omega)
 have e3:=field_num4 hl hb 3 (by omega)
 have e4:=field_num4 hl hb 4 (by omega)
 have f20:s.take 20 = s.take 4 ++ ((s.drop 4).take 4 ++ ((s.drop 8).take 4 ++ ((s.drop 12).take 4 ++ (s.drop 16).take 4))):=by
  rw [show (20:Nat) = 4 + (4 + (4 + (4 + 4))) from rfl,cut4,cut4,cut4,cut4]
  simp [List.drop_drop]
 have f24:s.take 24 = s.take 20 ++ (s.drop 20).take 4:=by rw [show (24:Nat) = 20 + 4 from rfl,List.take_add]
 have hbody:bodyL (fieldL s 0) (fieldL s 1) (fieldL s 2) (fieldL s 3) (fieldL s 4) = s.take 24:=by
  unfold bodyL
  rw [e0,e1,e2,e3,e4,f24,← h1,f20]
  simp
 unfold CredM.slot encL credOf
 rw [hbody,← h2,List.take_append_drop]
def joinS (b:Bool) (x y:List Int):List Int:=if b = true then y ++ x else x ++ y
theorem joinS_len (b:Bool) {x y:List Int} (hx:x.length = 28) (hy:y.length = 28):(joinS b x y).length = 56:=by
 unfold joinS;split <;> simp [hx,hy]
theorem slotL_join (b:Bool) {x y:List Int} (hx:x.length = 28) (hy:y.length = 28):slotL (joinS b x y) b = x:=by
 have d1:=List.drop_left (l₁:=y) (l₂:=x)
 have t1:=List.take_left (l₁:=x) (l₂:=y)
 rw [hy] at d1;rw [hx] at t1
 cases b <;> simp [slotL,joinS,d1,t1]
theorem slotL_join' (b:Bool) {x y:List Int} (hx:x.length = 28) (hy:y.length = 28):slotL (joinS b x y) (!b) = y:=by
 have d1:=List.drop_left (l₁:=x) (l₂:=y)
 have t1:=List.take_left (l₁:=y) (l₂:=x)
 rw [hx] at d1;rw [hy] at t1
 cases b <;> simp [slotL,joinS,d1,t1]
structure Other (n:Int) (s:List Int):Prop where
 len:s.length = 28
 bytes:BytesL s
 nums:∃ j j',s.take 4 = mixL (num4 (n + 1)) (num4 (n - 1)) j ∧ (s.drop 20).take 4 = mixL (num4 (n + 1)) (num4 (n - 1)) j' ∧ (j' = 0 ∨ 4 ≤ j)
 not:rightL s = true → fieldL s 0 ≠ n + 1
structure DiskOK (n:Int) (c:CredM) (d:List Int):Prop where
 num:1 ≤ n ∧ n ≤ 4294967294
 cred:c.ok
 is:∃ s,Other n s ∧ d = joinS (decide (n % 2 = 0)) (c.slot n) s
theorem Other.num {n:Int} {s:List Int} (h:Other n s) (hr:rightL s = true):fieldL s 0 = n - 1:=by
 obtain ⟨j,j',h1,h2,h3⟩:=h.nums
 have hf:fieldL s 0 = valL (s.take 4):=rfl
 have he:s.take 4 = (s.drop 20).take 4:=by
  unfold rightL at hr
  simp only [Bool.and_eq_true,decide_eq_true_eq] at hr
  exact hr.2.1
 rcases h3 with h4 | h4
 ·subst h4
  rw [mixL_zero] at h2
  rw [hf,he,h2,valL_num4]
 ·rw [mixL_all (x:=num4 (n + 1)) (y:=num4 (n - 1)) rfl h4] at h1
  exact absurd (by rw [hf,h1,valL_num4]) (h.not hr)
theorem newStep_other {d:List Int} {x:NewM} {b:Bool} {n:Int} (h:Other n (slotL d b)) (hx:n - 1 ≤ x.n):newStep d x b = x:=by
 unfold newStep
 rw [if_neg]
 intro hc
 rw [Bool.and_eq_true,decide_eq_true_eq] at hc
 have:=h.num hc.1
 omega
theorem newStep_other' {d:List Int} {b:Bool} {n:Int} (h:Other n (slotL d b)) (hn:1 ≤ n):(newStep d newZ b).n < n:=by
 unfold newStep
 split
 ·rename_i hc
  rw [Bool.and_eq_true] at hc
  have:=h.num hc.1
  show fieldL (slotL d b) 0 < n
  omega
 ·show (0:Int) < n
  omega
theorem newStep_right {d:List Int} {x:NewM} {b:Bool} {n:Int} {c:CredM} (h:slotL d b = c.slot n) (hn:1 ≤ n) (hx:x.n < n):newStep d x b = ⟨c,n,if b = true then 28 else 0⟩:=by
 unfold newStep
 rw [h,slot_field0,slot_field1,slot_field2,slot_field3,slot_field4,slot_right c hn,if_pos (by simp [hx])]
theorem DiskOK.newest {n:Int} {c:CredM} {d:List Int} (h:DiskOK n c d):newestL d = ⟨c,n,if n % 2 = 0 then 28 else 0⟩:=by
 obtain ⟨s,hs,rfl⟩:=h.is
 have hn:=h.num.1
 have l1:=slotL_join (decide (n % 2 = 0)) (slot_len c n) hs.len
 have l2:=slotL_join' (decide (n % 2 = 0)) (slot_len c n) hs.len
 unfold newestL
 rw [if_pos (joinS_len _ (slot_len c n) hs.len)]
 by_cases hp:n % 2 = 0
 ·rw [if_pos hp]
  simp only [hp,decide_true,Bool.not_true] at l1 l2 ⊢
  have ho:Other n (slotL (joinS true (c.slot n) s) false):=by rw [l2];exact hs
  rw [newStep_right l1 hn (newStep_other' ho hn),if_pos rfl]
 ·rw [if_neg hp]
  simp only [hp,decide_false,Bool.not_false] at l1 l2 ⊢
  have ho:Other n (slotL (joinS false (c.slot n) s) true):=by rw [l2];exact hs
  rw [newStep_right l1 hn (show newZ.n < n by show (0:Int) < n;omega)]
  rw [newStep_other ho (by show n - 1 ≤ n;omega)]
  rfl
theorem DiskOK.len {n:Int} {c:CredM} {d:List Int} (h:DiskOK n c d):d.length = 56:=by
 obtain ⟨s,hs,rfl⟩:=h.is
 exact joinS_len _ (slot_len c n) hs.len
theorem DiskOK.bytes {n:Int} {c:CredM} {d:List Int} (h:DiskOK n c d):BytesL d:=by
 obtain ⟨s,hs,rfl⟩:=h.is
 have:=slot_bytes h.cred h.num.1 (by have:=h.num.2;omega)
 unfold joinS
 split
 ·exact hs.bytes.app this
 ·exact this.app hs.bytes
theorem diskWrite_join {n:Int} {c:CredM} {s:List Int} (hs:Other n s) (c':CredM) {k:Nat} (hk:k ≤ 28) (hd:newestL (joinS (decide (n % 2 = 0)) (c.slot n) s) = ⟨c,n,if n % 2 = 0 then 28 else 0⟩) :
  diskWrite (joinS (decide (n % 2 = 0)) (c.slot n) s) c' k = joinS (decide (n % 2 = 0)) (c.slot n) (mixL (c'.slot (n + 1)) s k):=by
 unfold diskWrite
 rw [hd]
 show (if (n + 1) % 2 = 0 then _ else _) = _
 have hl:=slot_len c n
 by_cases hp:n % 2 = 0
 ·rw [if_neg (by omega)]
  simp only [hp,decide_true,joinS,if_true]
  unfold mixL
  rw [List.drop_append_of_le_length (by rw [hs.len];omega),List.append_assoc]
  rfl
 ·rw [if_pos (by omega)]
  simp only [hp,decide_false,joinS,Bool.false_eq_true,if_false]
  have t1:=List.take_left (l₁:=c.slot n) (l₂:=s)
  rw [hl] at t1
  have d1:=List.drop_append (l₁:=c.slot n) (l₂:=s) (i:=28 + k)
  rw [hl,List.drop_of_length_le (l:=c.slot n) (by omega),List.nil_append,show 28 + k - 28 = k from by omega] at d1
  rw [t1,d1]
  rfl
theorem Other.mix {n:Int} {s:List Int} (hs:Other n s) (hn:1 ≤ n) (hn2:n ≤ 4294967294) {c':CredM} (hc:c'.ok) {k:Nat} (_hk:k ≤ 28) (hnot:¬ (rightL (mixL (c'.slot (n + 1)) s k) = true ∧ fieldL (mixL (c'.slot (n + 1)) s k) 0 = n + 1)) :
  Other n (mixL (c'.slot (n + 1)) s k):=by
 have hll:(c'.slot (n + 1)).length = s.length:=by rw [slot_len,hs.len]
 obtain ⟨j,j',h1,h2,h3⟩:=hs.nums
 refine ⟨by rw [mixL_len hll,hs.len],mixL_bytes (slot_bytes hc (by omega) (by omega)) hs.bytes k,⟨max j k,max j' (k - 20),?_,?_,?_⟩,fun hr hf => hnot ⟨hr,hf⟩⟩
 ·have e:=mixL_part hll k 0 4
  rw [List.drop_zero,List.drop_zero,List.drop_zero,slot_head,h1,mixL_mix (x:=num4 (n + 1)) (y:=num4 (n - 1)) rfl,Nat.sub_zero] at e
  exact e
 ·have e:=mixL_part hll k 20 4
  rw [slot_tail,h2,mixL_mix (x:=num4 (n + 1)) (y:=num4 (n - 1)) rfl] at e
  exact e
 ·omega
theorem DiskOK.write {n:Int} {c:CredM} {d:List Int} (h:DiskOK n c d) (hn:n + 1 ≤ 4294967294) {c':CredM} (hc:c'.ok) {k:Nat} (hk:k ≤ 28):DiskOK n c (diskWrite d c' k) ∨ ∃ c'',DiskOK (n + 1) c'' (diskWrite d c' k):=by
 have hnew:=h.newest
 obtain ⟨s,hs,rfl⟩:=h.is
 have hn1:=h.num.1
 rw [diskWrite_join hs c' hk hnew]
 have hll:(c'.slot (n + 1)).length = s.length:=by rw [slot_len,hs.len]
 have hml:(mixL (c'.slot (n + 1)) s k).length = 28:=by rw [mixL_len hll,hs.len]
 have hmb:BytesL (mixL (c'.slot (n + 1)) s k):=mixL_bytes (slot_bytes hc (by omega) (by omega)) hs.bytes k
 by_cases hr:rightL (mixL (c'.slot (n + 1)) s k) = true ∧ fieldL (mixL (c'.slot (n + 1)) s k) 0 = n + 1
 ·right
  refine ⟨credOf (mixL (c'.slot (n + 1)) s k),⟨⟨by omega,hn⟩,credOf_ok hml hmb,c.slot n,?_,?_⟩⟩
  ·refine ⟨slot_len c n,slot_bytes h.cred h.num.1 (by have:=h.num.2;omega),⟨0,0,?_,?_,.inl rfl⟩,fun _ => ?_⟩
   ·rw [mixL_zero,slot_head,show n + 1 - 1 = n from by omega]
   ·rw [mixL_zero,slot_tail,show n + 1 - 1 = n from by omega]
   ·rw [slot_field0];omega
  ·have e:=right_slot hml hmb hr.1
   rw [hr.2] at e
   rw [← e]
   by_cases hp:n % 2 = 0
   ·have hq:¬ (n + 1) % 2 = 0:=by omega
    simp only [hp,hq,decide_true,decide_false,joinS,Bool.false_eq_true,if_true,if_false]
   ·have hq:(n + 1) % 2 = 0:=by omega
    simp only [hp,hq,decide_true,decide_false,joinS,Bool.false_eq_true,if_true,if_false]
 ·left
  exact ⟨h.num,h.cred,_,hs.mix hn1 (by omega) hc hk hr,rfl⟩
theorem DiskOK.whole {n:Int} {c:CredM} {d:List Int} (h:DiskOK n c d) (hn:n + 1 ≤ 4294967294) {c':CredM} (hc:c'.ok):DiskOK (n + 1) c' (diskWrite d c' 28):=by
 have hnew:=h.newest
 obtain ⟨s,hs,rfl⟩:=h.is
 have hn1:=h.num.1
 rw [diskWrite_join hs c' (Nat.le_refl _) hnew,mixL_all (by rw [slot_len,hs.len]) (by rw [slot_len];omega)]
 refine ⟨⟨by omega,hn⟩,hc,c.slot n,?_,?_⟩
 ·refine ⟨slot_len c n,slot_bytes h.cred h.num.1 (by have:=h.num.2;omega),⟨0,0,?_,?_,.inl rfl⟩,fun _ => ?_⟩
  ·rw [mixL_zero,slot_head,show n + 1 - 1 = n from by omega]
  ·rw [mixL_zero,slot_tail,show n + 1 - 1 = n from by omega]
  ·rw [slot_field0];omega
 ·by_cases hp:n % 2 = 0
  ·have hq:¬ (n + 1) % 2 = 0:=by omega
   simp only [hp,hq,decide_true,decide_false,joinS,Bool.false_eq_true,if_true,if_false]
  ·have hq:(n + 1) % 2 = 0:=by omega
   simp only [hp,hq,decide_true,decide_false,joinS,Bool.false_eq_true,if_true,if_false]
theorem DiskOK.first {c:CredM} (hc:c.ok):DiskOK 1 c (c.slot 1 ++ List.replicate 28 0):=by
 refine ⟨⟨by omega,by omega⟩,hc,List.replicate 28 0,⟨by simp,fun x hx => by rw [(List.mem_replicate.1 hx).2];omega,⟨0,0,?_,?_,.inl rfl⟩,fun hr => ?_⟩,by simp [joinS]⟩
 ·rw [mixL_zero];decide
 ·rw [mixL_zero];decide
 ·exact absurd hr (by decide)
end Go.Proofs.YtceappncglfciaaGreat
