import Derived.Maps.RangeWalk
import Derived.Maps.OwnSet
import Derived.Lib.SlKeysI
import Derived.Laws.BytesArg
import Derived.RowKit
import Derived.Laws.BitsAllLaws
import Derived.Laws.BitsLemmas
set_option linter.unusedVariables false
set_option linter.unusedSimpArgs false
namespace Go.Proofs.YtceappncglfciaaGreat
open Go.RowKit Go.Maps
def rawElem (v:Value):Option (DataW Value × List MemPlace):=some (.held v,[])
theorem rawElem_inv {v:Value} {y:DataW Value × List MemPlace} (h:rawElem v = some y):y = (.held v,[]):=by
 simp only [rawElem,Option.some.injEq] at h;exact h.symm
section
variable {α:Type} (enc:α → Value)
def entriesOf:Nat → List (Option α) → List (Lit × DataW Value)
 | _,[] => []
 | k,none :: r => entriesOf (k + 1) r
 | k,some v :: r => (.int .i64 (k:Int),.held (enc v)) :: entriesOf (k + 1) r
def dataOf (l:List (Option α)):DataW Value:=.map (entriesOf enc 0 l)
theorem entries_ge:∀ (l:List (Option α)) (k:Nat),∀ p ∈ entriesOf enc k l,∃ j:Nat,k ≤ j ∧ p.1 = .int .i64 (j:Int)
 | [],_,p,hp => by simp [entriesOf] at hp
 | none :: r,k,p,hp => by
  obtain ⟨j,h1,h2⟩:=entries_ge r (k + 1) p (by simpa [entriesOf] using hp)
  exact ⟨j,by omega,h2⟩
 | some v :: r,k,p,hp => by
  simp only [entriesOf,List.mem_cons] at hp
  rcases hp with rfl | hp
  ·exact ⟨k,Nat.le_refl _,rfl⟩
  ·obtain ⟨j,h1,h2⟩:=entries_ge r (k + 1) p hp
   exact ⟨j,by omega,h2⟩
theorem same_int (a b:Int):(Lit.int .i64 a).sameKey (.int .i64 b) = decide (a = b):=by simp [Lit.sameKey]
theorem entries_find:∀ (l:List (Option α)) (k j:Nat),(entriesOf enc k l).find? (fun p => p.1.sameKey (.int .i64 ((k + j:Nat):Int))) = (l[j]?.join).map (fun v => (.int .i64 ((k + j:Nat):Int),.held (enc v)))
 | [],_,_ => by simp [entriesOf]
 | none :: r,k,0 => by
  rw [entriesOf]
  have:(entriesOf enc (k + 1) r).find? (fun p => p.1.sameKey (.int .i64 ((k + 0:Nat):Int))) = none:=by
   rw [List.find?_eq_none]
   intro p hp
   obtain ⟨j,h1,h2⟩:=entries_ge enc r (k + 1) p hp
   rw [h2,same_int];simp;omega
  rw [this];simp
 | none :: r,k,j + 1 => by
  rw [entriesOf,show k + (j + 1) = k + 1 + j from by omega,entries_find r (k + 1) j];simp
 | some v :: r,k,0 => by
  simp [entriesOf,same_int]
 | some v :: r,k,j + 1 => by
  rw [entriesOf,List.find?_cons_of_neg (by rw [same_int];simp;omega),show k + (j + 1) = k + 1 + j from by omega,entries_find r (k + 1) j];simp
theorem data_at (l:List (Option α)) (k:Nat) (z:DataW Value):(dataOf enc l).atKey (.int .i64 (k:Int)) z = match l[k]?.join with | some v => .held (enc v) | none => z:=by
 have:=entries_find enc l 0 k
 simp only [Nat.zero_add] at this
 unfold dataOf DataW.atKey
 simp only [this]
 cases l[k]?.join <;> rfl
theorem data_has (l:List (Option α)) (k:Nat):Maps.has (dataOf enc l) (.int .i64 (k:Int)) = (l[k]?.join).isSome:=by
 have:=entries_find enc l 0 k
 simp only [Nat.zero_add] at this
 unfold dataOf
 rw [Maps.has_eq,List.any_eq_not_all_not]
 have h2:(entriesOf enc 0 l).any (fun p => p.1.sameKey (.int .i64 (k:Int))) = ((entriesOf enc 0 l).find? (fun p => p.1.sameKey (.int .i64 (k:Int)))).isSome:=by
  rw [List.isSome_find?]
 rw [← List.any_eq_not_all_not,h2,this]
 simp
theorem data_key (l:List (Option α)) {kl:Lit} (h:Maps.has (dataOf enc l) kl = true):∃ k v,kl = .int .i64 ((k:Nat):Int) ∧ k < l.length ∧ l[k]? = some (some v):=by
 unfold dataOf at h
 rw [Maps.has_eq,List.any_eq_true] at h
 obtain ⟨p,hp,hs⟩:=h
 obtain ⟨j,_,h2⟩:=entries_ge enc l 0 p hp
 have h3:p.1 = kl:=WideAt.sameKey_eq hs
 have h4:kl = .int .i64 (j:Int):=h3.symm.trans h2
 have h5:=data_has enc l j
 rw [← h4] at h5
 have h6:Maps.has (dataOf enc l) kl = true:=by
  unfold dataOf;rw [Maps.has_eq,List.any_eq_true];exact ⟨p,hp,hs⟩
 rw [h6] at h5
 have h7:(l[j]?.join).isSome = true:=h5.symm
 obtain ⟨v,hv⟩:=Option.isSome_iff_exists.1 h7
 cases hl:l[j]? with
 | none => rw [hl] at hv;simp at hv
 | some o =>
  rw [hl] at hv
  have ho:o = some v:=by simpa using hv
  rw [ho] at hl
  exact ⟨j,v,h4,(List.getElem?_eq_some_iff.1 hl).1,hl⟩
theorem insert_min {x:Lit × DataW Value} {l:List (Lit × DataW Value)} (h:∀ y ∈ l,x.1.before y.1 = true):DataW.insert x l = x :: l:=by
 cases l with
 | nil => rfl
 | cons y r => simp [DataW.insert,h y (by simp)]
theorem entries_put:∀ (l:List (Option α)) (k j:Nat) (v:α),j < l.length → ChangeMaps.putKey (.int .i64 ((k + j:Nat):Int)) (.held (enc v)) (entriesOf enc k l) = entriesOf enc k (l.set j (some v))
 | [],_,_,_,h => by simp at h
 | x :: r,k,0,v,_ => by
  have hf:(entriesOf enc (k + 1) r).filter (ChangeMaps.notKey (.int .i64 (k:Int))) = entriesOf enc (k + 1) r:=by
   rw [List.filter_eq_self]
   intro p hp
   obtain ⟨j,h1,h2⟩:=entries_ge enc r (k + 1) p hp
   simp only [ChangeMaps.notKey,h2,same_int]
   simp;omega
  have hb:∀ y ∈ entriesOf enc (k + 1) r,(Lit.int .i64 (k:Int)).before y.1 = true:=by
   intro p hp
   obtain ⟨j,h1,h2⟩:=entries_ge enc r (k + 1) p hp
   rw [h2];simp [Lit.before];omega
  have hs:(x :: r).set 0 (some v) = some v :: r:=rfl
  rw [hs]
  simp only [Nat.add_zero]
  cases x with
  | none =>
   simp only [entriesOf,ChangeMaps.putKey]
   rw [hf,insert_min hb]
  | some u =>
   simp only [entriesOf,ChangeMaps.putKey]
   rw [List.filter_cons_of_neg (by simp [ChangeMaps.notKey,same_int]),hf,insert_min hb]
 | none :: r,k,j + 1,v,h => by
  have:=entries_put r (k + 1) j v (by simpa using h)
  rw [List.set_cons_succ,entriesOf,entriesOf,show k + (j + 1) = k + 1 + j from by omega]
  exact this
 | some u :: r,k,j + 1,v,h => by
  have:=entries_put r (k + 1) j v (by simpa using h)
  rw [List.set_cons_succ,entriesOf,entriesOf,show k + (j + 1) = k + 1 + j from by omega,← this]
  unfold ChangeMaps.putKey
  rw [List.filter_cons_of_pos (by simp only [ChangeMaps.notKey,same_int];simp;omega)]
  show DataW.insert _ (_ :: _) = _
  rw [DataW.insert,if_neg (by simp [Lit.before];omega)]
theorem data_put (l:List (Option α)) (k:Nat) (v:α) (h:k < l.length):(dataOf enc l).put (.int .i64 (k:Int)) (.held (enc v)) = dataOf enc (l.set k (some v)):=by
 have:=entries_put enc l 0 k v h
 simp only [Nat.zero_add] at this
 unfold dataOf
 rw [DataW.put_eq,this]
theorem entries_len:∀ (l:List (Option α)) (k:Nat),(entriesOf enc k l).length = l.countP Option.isSome
 | [],_ => rfl
 | none :: r,k => by rw [entriesOf,entries_len r];simp
 | some v :: r,k => by rw [entriesOf,List.length_cons,entries_len r];simp
theorem data_size (l:List (Option α)):Maps.size (dataOf enc l) = l.countP Option.isSome:=entries_len enc l 0
def keysOf:Nat → List (Option α) → List Int
 | _,[] => []
 | k,none :: r => keysOf (k + 1) r
 | k,some _ :: r => (k:Int) :: keysOf (k + 1) r
theorem entries_keys:∀ (l:List (Option α)) (k:Nat),(entriesOf enc k l).map (fun p => intOf p.1) = keysOf k l
 | [],_ => rfl
 | none :: r,k => by rw [entriesOf,keysOf,entries_keys r]
 | some v :: r,k => by rw [entriesOf,keysOf,List.map_cons,entries_keys r];rfl
theorem data_keys (l:List (Option α)):intKeys (dataOf enc l) = keysOf 0 l:=entries_keys enc l 0
theorem keys_ge:∀ (l:List (Option α)) (k:Nat),∀ x ∈ keysOf k l,(k:Int) ≤ x
 | [],_,x,h => by simp [keysOf] at h
 | none :: r,k,x,h => by have:=keys_ge r (k + 1) x (by simpa [keysOf] using h);omega
 | some v :: r,k,x,h => by
  simp only [keysOf,List.mem_cons] at h
  rcases h with rfl | h
  ·omega
  ·have:=keys_ge r (k + 1) x h;omega
theorem keys_sorted:∀ (l:List (Option α)) (k:Nat),(keysOf k l).Pairwise (· ≤ ·)
 | [],_ => by simp [keysOf]
 | none :: r,k => by rw [keysOf];exact keys_sorted r (k + 1)
 | some v :: r,k => by
  rw [keysOf,List.pairwise_cons]
  exact ⟨fun x hx => by have:=keys_ge r (k + 1) x hx;omega,keys_sorted r (k + 1)⟩
theorem keys_len:∀ (l:List (Option α)) (k:Nat),(keysOf k l).length = l.countP Option.isSome
 | [],_ => rfl
 | none :: r,k => by rw [keysOf,keys_len r];simp
 | some v :: r,k => by rw [keysOf,List.length_cons,keys_len r];simp
theorem keys_merge (l:List (Option α)) (ss:List Int) (h:ss.Perm (keysOf 0 l)):ss.mergeSort (fun x y => decide (x ≤ y)) = keysOf 0 l:=by
 have h1:(ss.mergeSort (fun x y => decide (x ≤ y))).Pairwise (fun a b => a ≤ b):=by
  have:=List.pairwise_mergeSort (le:=fun x y:Int => decide (x ≤ y)) (fun a b c => by simp;omega) (fun a b => by simp;omega) ss
  exact this.imp (fun h => by simpa using h)
 have h2:(ss.mergeSort (fun x y => decide (x ≤ y))).Perm (keysOf 0 l):=(List.mergeSort_perm _ _).trans h
 exact h2.eq_of_pairwise (fun a b _ _ h1 h2 => by omega) h1 (keys_sorted l 0)
end
section
variable {P:Program} {kT:TypeId} {W W':World} {b n:Nat} {α:Type} {enc:α → Value} {l:List (Option α)}
theorem ownsMap_exact {D:DataW Value} {R:Value → Option (DataW Value × List MemPlace)} (h:W.ownsMap P kT R b n D):W.ownsMap P kT R b (Maps.size D) D:=by
 obtain ⟨es,clock,hb,F,_,rfl⟩:=h
 exact ⟨es,clock,hb,F,by simp [Maps.size,length_sorted],rfl⟩
theorem ownsMap_same {D:DataW Value} {R:Value → Option (DataW Value × List MemPlace)} (h:W.ownsMap P kT R b n D) (hs:W'.heap[b]? = W.heap[b]?):W'.ownsMap P kT R b n D:=by
 obtain ⟨es,clock,hb,F,h1,rfl⟩:=h
 exact ⟨es,clock,hs.trans hb,F,h1,rfl⟩
def MapIs (P:Program) (kT:TypeId) (enc:α → Value) (W:World) (b:Nat) (l:List (Option α)):Prop:=W.ownsMap P kT rawElem b 7 (dataOf enc l) ∧ l.length = 7
theorem MapIs.of (h:W.ownsMap P kT rawElem b n (dataOf enc l)) (hl:l.length = 7):MapIs P kT enc W b l:=by
 refine ⟨(ownsMap_exact h).mono ?_,hl⟩
 rw [data_size,← hl];exact List.countP_le_length
theorem MapIs.same (h:MapIs P kT enc W b l) (hs:W'.heap[b]? = W.heap[b]?):MapIs P kT enc W' b l:=⟨ownsMap_same h.1 hs,h.2⟩
theorem MapIs.lt (h:MapIs P kT enc W b l):b < W.heap.size:=h.1.lt
theorem MapIs.obj (h:MapIs P kT enc W b l):∃ es clock,W.heap[b]? = some (.map es clock):=by
 obtain ⟨es,clock,hb,_⟩:=h.1;exact ⟨es,clock,hb⟩
theorem MapIs.made (W:World):MapIs P kT enc (W.alloc (.map #[] 0)) W.heap.size (List.replicate 7 none) :=
 MapIs.of (n:=0) (World.ownsMap_made W P kT rawElem) (by simp)
def behind (left:Lit → Bool) (f:Nat → Bool):Nat → Nat
 | 0 => 0
 | k + 1 => if (!left (.int .i64 (k:Int)) && f k) = true then behind left f k + 1 else behind left f k
theorem behind_none (left:Lit → Bool) (f:Nat → Bool):∀ n,(∀ k,k < n → f k = true → left (.int .i64 (k:Int)) = true) → behind left f n = 0
 | 0,_ => rfl
 | n + 1,h => by
  rw [behind,behind_none left f n (fun k hk => h k (by omega)),if_neg]
  intro hc
  simp only [Bool.and_eq_true,Bool.not_eq_true'] at hc
  rw [h n (by omega) hc.2] at hc
  exact absurd hc.1 (by simp)
theorem behind_all (left:Lit → Bool) (f:Nat → Bool) (h:∀ kl,left kl = false):∀ n,behind left f n = behind (fun _ => false) f n
 | 0 => rfl
 | n + 1 => by simp only [behind,behind_all left f h n,h]
theorem behind_step (left:Lit → Bool) (f:Nat → Bool) (k:Nat) (hk:left (.int .i64 (k:Int)) = true):∀ n,behind (fun z => left z && !z.sameKey (.int .i64 (k:Int))) f n = behind left f n + (if (decide (k < n) && f k) = true then 1 else 0)
 | 0 => by simp [behind]
 | n + 1 => by
  have ih:=behind_step left f k hk n
  simp only [behind,same_int]
  by_cases hn:n = k
  ·subst hn
   rw [ih]
   simp [hk]
   split <;> rfl
  ·have h1:decide ((n:Int) = (k:Int)) = false:=by simp;omega
   have h2:decide (k < n + 1) = decide (k < n):=by simp;omega
   rw [h1,h2,ih]
   simp only [Bool.not_false,Bool.and_true]
   split <;> omega
end
end Go.Proofs.YtceappncglfciaaGreat
namespace Go.Proofs.YtceappncglfciaaGreat
def num4 (n:Int):List Int:=[n / 16777216,n / 65536 % 256,n / 256 % 256,n % 256]
def adStep (p:Int × Int) (x:Int):Int × Int:=((p.1 + x) % 65521,(p.2 + (p.1 + x) % 65521) % 65521)
def ad (l:List Int):Int × Int:=l.foldl adStep (1,0)
def sumV (l:List Int):Int:=65536 * (ad l).2 + (ad l).1
def bodyL (n p t e w:Int):List Int:=num4 n ++ (num4 p ++ (num4 t ++ (num4 e ++ (num4 w ++ num4 n))))
def encL (n p t e w:Int):List Int:=bodyL n p t e w ++ num4 (sumV (bodyL n p t e w))
def wideB (n:Int):Bool:=decide (n < 0) || decide (4294967295 < n)
def badB (n p t e w:Int):Bool:=wideB n || wideB p || wideB t || wideB e || wideB w || n == 0
def numsOf (s:ByteArray):List Int:=s.data.toList.map fun b => (b.toNat:Int)
def BytesL (l:List Int):Prop:=∀ x ∈ l,0 ≤ x ∧ x ≤ 255
theorem num4_len (n:Int):(num4 n).length = 4:=rfl
theorem bodyL_len (n p t e w:Int):(bodyL n p t e w).length = 24:=rfl
theorem encL_len (n p t e w:Int):(encL n p t e w).length = 28:=by simp [encL,bodyL_len,num4_len]
theorem num4_bytes {n:Int} (h0:0 ≤ n) (h1:n ≤ 4294967295):BytesL (num4 n):=by
 intro x hx
 simp [num4] at hx
 rcases hx with rfl | rfl | rfl | rfl <;> omega
theorem BytesL.app {a b:List Int} (ha:BytesL a) (hb:BytesL b):BytesL (a ++ b):=by
 intro x hx
 rcases List.mem_append.1 hx with h | h
 ·exact ha x h
 ·exact hb x h
theorem bodyL_bytes {n p t e w:Int} (h:badB n p t e w = false):BytesL (bodyL n p t e w):=by
 simp [badB,wideB] at h
 obtain ⟨⟨⟨⟨⟨⟨a0,a1⟩,b0,b1⟩,c0,c1⟩,d0,d1⟩,e0,e1⟩,_⟩:=h
 exact (num4_bytes a0 a1).app ((num4_bytes b0 b1).app ((num4_bytes c0 c1).app ((num4_bytes d0 d1).app ((num4_bytes e0 e1).app (num4_bytes a0 a1)))))
theorem adStep_range {p:Int × Int} {x:Int}:0 ≤ (adStep p x).1 ∧ (adStep p x).1 ≤ 65520 ∧ 0 ≤ (adStep p x).2 ∧ (adStep p x).2 ≤ 65520:=by
 unfold adStep;dsimp only;omega
theorem ad_snoc (l:List Int) (x:Int):ad (l ++ [x]) = adStep (ad l) x:=by simp [ad]
theorem ad_fold_range (l:List Int):∀ p:Int × Int,(0 ≤ p.1 ∧ p.1 ≤ 65520 ∧ 0 ≤ p.2 ∧ p.2 ≤ 65520) → 0 ≤ (l.foldl adStep p).1 ∧ (l.foldl adStep p).1 ≤ 65520 ∧ 0 ≤ (l.foldl adStep p).2 ∧ (l.foldl adStep p).2 ≤ 65520:=by
 induction l with
 | nil => intro p h;exact h
 | cons x l ih => intro p _;exact ih _ adStep_range
theorem ad_range (l:List Int):0 ≤ (ad l).1 ∧ (ad l).1 ≤ 65520 ∧ 0 ≤ (ad l).2 ∧ (ad l).2 ≤ 65520:=ad_fold_range l _ (by decide)
theorem sumV_range (l:List Int):0 ≤ sumV l ∧ sumV l ≤ 4294967295:=by
 have:=ad_range l
 unfold sumV;omega
theorem strOfNums_append (a b:List Int):strOfNums a ++ strOfNums b = strOfNums (a ++ b):=by
 have h:(strOfNums a ++ strOfNums b).data = (strOfNums (a ++ b)).data:=by
  rw [ByteArray.data_append];simp [strOfNums]
 cases hx:strOfNums a ++ strOfNums b
 cases hy:strOfNums (a ++ b)
 rw [hx,hy] at h
 simpa using h
theorem numsOf_strOfNums {l:List Int} (h:BytesL l):numsOf (strOfNums l) = l:=by
 unfold numsOf
 rw [strOfNums_data,List.map_map]
 conv => rhs;rw [← List.map_id l]
 apply List.map_congr_left
 intro x hx
 have:=h x hx
 simp [UInt8.toNat_ofNat']
 omega
theorem strOfNums_numsOf (s:ByteArray):strOfNums (numsOf s) = s:=by
 have h:(strOfNums (numsOf s)).data.toList = s.data.toList:=by
  rw [strOfNums_data]
  unfold numsOf
  rw [List.map_map]
  conv => rhs;rw [← List.map_id s.data.toList]
  apply List.map_congr_left
  intro x _
  simp
 cases s with
 | mk d =>
  cases hx:strOfNums (numsOf ⟨d⟩) with
  | mk d' =>
   rw [hx] at h
   simp at h
   rw [h]
theorem numsOf_bytes (s:ByteArray):BytesL (numsOf s):=by
 intro x hx
 simp [numsOf] at hx
 obtain ⟨b,_,rfl⟩:=hx
 have:=b.toNat_lt
 omega
theorem numsOf_len (s:ByteArray):(numsOf s).length = s.size:=by
 unfold numsOf
 rw [List.length_map,Array.length_toList]
 rfl
theorem wrap64_in {x:Int} (h0:-9223372036854775808 ≤ x) (h1:x ≤ 9223372036854775807):Go.RowKit.wrap64 x = x:=by
 unfold Go.RowKit.wrap64;omega
theorem numsOf_take (s:ByteArray) (k:Nat) (h:k < s.size):(numsOf s).take (k + 1) = (numsOf s).take k ++ [(s[k].toNat:Int)]:=by
 have h':k < (numsOf s).length:=by rw [numsOf_len];exact h
 rw [List.take_succ_eq_append_getElem h']
 congr 2
 simp [numsOf]
 rfl
theorem ad_round (s:ByteArray) (k:Nat) (h:k < s.size) :
  (Go.RowKit.wrap64 ((ad ((numsOf s).take k)).fst + Go.RowKit.wrap64 (s[k].toNat:Int))).tmod 65521 = (ad ((numsOf s).take (k + 1))).fst ∧
  (Go.RowKit.wrap64 ((ad ((numsOf s).take k)).snd + (Go.RowKit.wrap64 ((ad ((numsOf s).take k)).fst + Go.RowKit.wrap64 (s[k].toNat:Int))).tmod 65521)).tmod 65521 = (ad ((numsOf s).take (k + 1))).snd:=by
 rw [numsOf_take s k h,ad_snoc]
 have hr:=ad_range ((numsOf s).take k)
 have hb:=(s[k]).toNat_lt
 generalize (s[k].toNat) = x at *
 generalize ad ((numsOf s).take k) = q at *
 unfold adStep
 dsimp only
 rw [wrap64_in (x:=(x:Int)) (by omega) (by omega),wrap64_in (x:=q.fst + (x:Int)) (by omega) (by omega)]
 have e1:(q.fst + (x:Int)).tmod 65521 = (q.fst + (x:Int)) % 65521:=Int.tmod_eq_emod_of_nonneg (by omega)
 rw [e1,wrap64_in (by omega) (by omega)]
 exact ⟨rfl,Int.tmod_eq_emod_of_nonneg (by omega)⟩
theorem wraps_u32 (n:Int) (h0:0 ≤ n) (h1:n < 2 ^ 32):IntKind.u32.wrap n = n:=by
 rw [IntKind.wrap_u32'];omega
theorem u32_or16 (b a:Int) (h0:0 ≤ b) (h1:b ≤ 65535) (h2:0 ≤ a) (h3:a ≤ 65535):bits .or .u32 (b * 65536) a = b * 65536 + a :=
 bits_join .u32 32 (by decide) wraps_u32 16 (b * 65536) a (by omega) (by omega) (by omega) h2 (by omega) (by omega)
theorem u32_or8 (b a:Int) (h0:0 ≤ b) (h1:b ≤ 16777215) (h2:0 ≤ a) (h3:a ≤ 255):bits .or .u32 (b * 256) a = b * 256 + a :=
 bits_join .u32 32 (by decide) wraps_u32 8 (b * 256) a (by omega) (by omega) (by omega) h2 (by omega) (by omega)
theorem ad_roundP (l:List Int) (k:Nat) (h:k < l.length) (hby:BytesL l) :
  ((ad (l.take k)).fst + l[k]) % 4294967296 % 65521 = (ad (l.take (k + 1))).fst ∧
  ((ad (l.take k)).snd + ((ad (l.take k)).fst + l[k]) % 4294967296 % 65521) % 65521 = (ad (l.take (k + 1))).snd:=by
 rw [List.take_succ_eq_append_getElem h,ad_snoc]
 have hr:=ad_range (l.take k)
 have hb:=hby l[k] (List.getElem_mem h)
 generalize l[k] = x at *
 generalize ad (l.take k) = q at *
 unfold adStep
 dsimp only
 have e1:(q.fst + x) % 4294967296 = q.fst + x:=by omega
 rw [e1]
 exact ⟨rfl,rfl⟩
def valL (l:List Int):Int:=l.foldl (fun n x => n * 256 + x) 0
theorem valL_snoc (l:List Int) (x:Int):valL (l ++ [x]) = valL l * 256 + x:=by simp [valL]
theorem valL_range:∀ l:List Int,BytesL l → l.length ≤ 3 → 0 ≤ valL l ∧ valL l ≤ 16777215
 | [],_,_ => by decide
 | [a],h,_ => by
  have ha:=h a (by simp)
  simp [valL];omega
 | [a,b],h,_ => by
  have ha:=h a (by simp)
  have hb:=h b (by simp)
  simp [valL];omega
 | [a,b,c],h,_ => by
  have ha:=h a (by simp)
  have hb:=h b (by simp)
  have hc:=h c (by simp)
  simp [valL];omega
 | _ :: _ :: _ :: _ :: _,_,hl => by simp at hl
theorem num4_valL (a b c d:Int) (_ha:0 ≤ a ∧ a ≤ 255) (hb:0 ≤ b ∧ b ≤ 255) (hc:0 ≤ c ∧ c ≤ 255) (hd:0 ≤ d ∧ d ≤ 255):num4 (valL [a,b,c,d]) = [a,b,c,d]:=by
 have e:valL [a,b,c,d] = ((a * 256 + b) * 256 + c) * 256 + d:=by simp [valL]
 rw [e]
 unfold num4
 have e1:(((a * 256 + b) * 256 + c) * 256 + d) / 16777216 = a:=by omega
 have e2:(((a * 256 + b) * 256 + c) * 256 + d) / 65536 % 256 = b:=by omega
 have e3:(((a * 256 + b) * 256 + c) * 256 + d) / 256 % 256 = c:=by omega
 have e4:(((a * 256 + b) * 256 + c) * 256 + d) % 256 = d:=by omega
 rw [e1,e2,e3,e4]
theorem valL_num4 (n:Int):valL (num4 n) = n:=by
 simp [valL,num4];omega
theorem valL4_range (a b c d:Int) (ha:0 ≤ a ∧ a ≤ 255) (hb:0 ≤ b ∧ b ≤ 255) (hc:0 ≤ c ∧ c ≤ 255) (hd:0 ≤ d ∧ d ≤ 255):0 ≤ valL [a,b,c,d] ∧ valL [a,b,c,d] ≤ 4294967295:=by
 simp [valL];omega
theorem any_at {l:List Int} {k:Nat} (h:k < l.length) (hx:wideB l[k] = true):l.any wideB = true :=
 List.any_eq_true.2 ⟨l[k],List.getElem_mem h,hx⟩
theorem any_next {l:List Int} {k:Nat} (h:k < l.length) (h0:(l.take k).any wideB = false) (hx:wideB l[k] = false):(l.take (k + 1)).any wideB = false:=by
 rw [List.take_succ_eq_append_getElem h,List.any_append,h0]
 simp [hx]
theorem numsOf_extract (s:ByteArray) (a b:Nat):numsOf (s.extract a b) = ((numsOf s).drop a).take (b - a):=by
 unfold numsOf
 rw [ByteArray.data_extract,Array.toList_extract,List.map_take,List.map_drop]
theorem getD_numsOf (s:ByteArray) (k:Nat):((s.data.toList.getD k 0).toNat:Int) = (numsOf s).getD k 0:=by
 unfold numsOf
 simp only [List.getD_eq_getElem?_getD,List.getElem?_map]
 cases s.data.toList[k]? <;> rfl
theorem valL_round (l:List Int) (k:Nat) (h:k < l.length):valL (l.take (k + 1)) = valL (l.take k) * 256 + l[k]:=by
 rw [List.take_succ_eq_append_getElem h,valL_snoc]
theorem list4 {l:List Int} (hl:l.length = 4):∃ a b c d,l = [a,b,c,d]:=by
 match l,hl with
 | [a,b,c,d],_ => exact ⟨a,b,c,d,rfl⟩
theorem valL_range4 {l:List Int} (h:BytesL l) (hl:l.length = 4):0 ≤ valL l ∧ valL l ≤ 4294967295:=by
 obtain ⟨a,b,c,d,rfl⟩:=list4 hl
 exact valL4_range a b c d (h a (by simp)) (h b (by simp)) (h c (by simp)) (h d (by simp))
theorem num4_valL4 {l:List Int} (h:BytesL l) (hl:l.length = 4):num4 (valL l) = l:=by
 obtain ⟨a,b,c,d,rfl⟩:=list4 hl
 exact num4_valL a b c d (h a (by simp)) (h b (by simp)) (h c (by simp)) (h d (by simp))
end Go.Proofs.YtceappncglfciaaGreat
namespace Go.Proofs.YtceappncglfciaaGreat
structure VoteM where
 e:Int
 n:Int
 p:Int
structure MsgM where
 kind:Int
 src:Int
 dst:Int
 round:Int
 state:Int
 vote:VoteM
 epoch:Int
 news:Int
structure KnownM where
 is:Bool
 vote:VoteM
 state:Int
structure MemM where
 joined:Bool
 acked:Bool
 heard:Bool
 promised:Int
 at_:Int
structure CredM where
 p:Int
 t:Int
 e:Int
 v:Int
structure PeerM where
 disk:List Int
 up:Bool
 armed:Int
 state:Int
 c:CredM
 round:Int
 vote:VoteM
 votes:List KnownM
 settled:List KnownM
 waits:Bool
 since:Int
 epoch:Int
 mem:List MemM
 stands:Bool
structure TownM where
 wait:Int
 lease:Int
 net:Int
 ps:List PeerM
 now:Int
 way:List MsgM
 events:List (Int × Int)
def voteZ:VoteM:=⟨0,0,0⟩
def knownZ:KnownM:=⟨false,voteZ,0⟩
def memZ:MemM:=⟨false,false,false,0,0⟩
def credZ:CredM:=⟨0,0,0,0⟩
def msgZ:MsgM:=⟨0,0,0,0,0,voteZ,0,0⟩
def known7:List KnownM:=List.replicate 7 knownZ
def mem7:List MemM:=List.replicate 7 memZ
def peerZ:PeerM:=⟨[],false,0,0,credZ,0,voteZ,known7,known7,false,0,0,mem7,false⟩
def VoteM.eqb (a b:VoteM):Bool:=a.e == b.e && (a.n == b.n && a.p == b.p)
def VoteM.better (a b:VoteM):Bool:=if (a.e == b.e) = false then decide (b.e < a.e) else if (a.n == b.n) = false then decide (b.n < a.n) else decide (b.p < a.p)
def CredM.vote (c:CredM) (i:Nat):VoteM:=⟨c.e,c.v,i⟩
def rightL (s:List Int):Bool:=decide (valL (s.take 4) ≠ 0) && (decide (s.take 4 = (s.drop 20).take 4) && decide (s.drop 24 = num4 (sumV (s.take 24))))
structure NewM where
 c:CredM
 n:Int
 at_:Int
def newZ:NewM:=⟨credZ,0,-1⟩
def fieldL (s:List Int) (i:Nat):Int:=valL ((s.drop (i * 4)).take 4)
def slotL (d:List Int) (b:Bool):List Int:=if b = true then d.drop 28 else d.take 28
def newStep (d:List Int) (x:NewM) (b:Bool):NewM :=
 if (rightL (slotL d b) && decide (x.n < fieldL (slotL d b) 0)) = true then ⟨⟨fieldL (slotL d b) 1,fieldL (slotL d b) 2,fieldL (slotL d b) 3,fieldL (slotL d b) 4⟩,fieldL (slotL d b) 0,if b = true then 28 else 0⟩ else x
def newestL (d:List Int):NewM:=if d.length = 56 then newStep d (newStep d newZ false) true else newZ
def diskWrite (d:List Int) (c:CredM) (k:Nat):List Int :=
 if ((newestL d).n + 1) % 2 = 0 then d.take 28 ++ ((encL ((newestL d).n + 1) c.p c.t c.e c.v).take k ++ d.drop (28 + k))
 else (encL ((newestL d).n + 1) c.p c.t c.e c.v).take k ++ d.drop k
namespace TownM
def peer (T:TownM) (i:Nat):PeerM:=T.ps.getD i peerZ
def setPeer (T:TownM) (i:Nat) (p:PeerM):TownM:={ T with ps:=T.ps.set i p }
def most (T:TownM) (n:Int):Bool:=decide ((T.ps.length:Int) < 2 * n)
def send (T:TownM) (m:MsgM):TownM:=if (T.way.length:Int) < T.net then { T with way:=T.way ++ [m] } else T
def own (T:TownM) (i:Nat):VoteM:=(T.peer i).c.vote i
def noticeOf (T:TownM) (i:Nat) (k:Int):MsgM:=⟨1,i,k,(T.peer i).round,(T.peer i).state,(T.peer i).vote,0,0⟩
def notice (T:TownM) (i:Nat) (k:Int):TownM:=T.send (T.noticeOf i k)
def noticesTo (T:TownM) (i:Nat):Nat → TownM
 | 0 => T
 | k + 1 => if k = i then T.noticesTo i k else (T.noticesTo i k).notice i k
def notices (T:TownM) (i:Nat):TownM:=T.noticesTo i T.ps.length
def countTo (T:TownM) (i:Nat):Nat → Int
 | 0 => 1
 | k + 1 => if (!(decide (k = i)) && (((T.peer i).votes.getD k knownZ).is && ((T.peer i).votes.getD k knownZ).vote.eqb (T.peer i).vote)) = true then T.countTo i k + 1 else T.countTo i k
def count (T:TownM) (i:Nat):TownM :=
 T.setPeer i { T.peer i with since:=if (T.most (T.countTo i T.ps.length) && !(T.peer i).waits) = true then T.now else (T.peer i).since,waits:=T.most (T.countTo i T.ps.length) }
def look (T:TownM) (i:Nat):TownM :=
 ((T.setPeer i { T.peer i with state:=0,round:=(T.peer i).round + 1,vote:=T.own i,waits:=false,votes:=known7,settled:=known7 }).notices i).count i
def write (T:TownM) (i:Nat):TownM :=
 T.setPeer i (if (T.peer i).armed < 0 then { T.peer i with disk:=diskWrite (T.peer i).disk (T.peer i).c 28 } else { T.peer i with disk:=diskWrite (T.peer i).disk (T.peer i).c (T.peer i).armed.toNat,up:=false,armed:=-1 })
def ackedTo (T:TownM) (i:Nat):Nat → Int
 | 0 => 1
 | k + 1 => if ((T.peer i).mem.getD k memZ).acked = true then T.ackedTo i k + 1 else T.ackedTo i k
def joinedTo (T:TownM) (i:Nat):Nat → Int
 | 0 => 1
 | k + 1 => if ((T.peer i).mem.getD k memZ).joined = true then T.joinedTo i k + 1 else T.joinedTo i k
def heardTo (T:TownM) (i:Nat):Nat → Int
 | 0 => 1
 | k + 1 => if (((T.peer i).mem.getD k memZ).heard && decide (T.now - ((T.peer i).mem.getD k memZ).at_ < T.lease)) = true then T.heardTo i k + 1 else T.heardTo i k
def bestTo (T:TownM) (i:Nat):Nat → Int
 | 0 => (T.peer i).c.p
 | k + 1 => if (((T.peer i).mem.getD k memZ).joined && decide (T.bestTo i k < ((T.peer i).mem.getD k memZ).promised)) = true then ((T.peer i).mem.getD k memZ).promised else T.bestTo i k
def welcome (T:TownM) (i:Nat) (k:Int):TownM:=T.send ⟨5,i,k,0,0,voteZ,(T.peer i).epoch,(T.peer i).c.v⟩
def welcomesTo (T:TownM) (i:Nat):Nat → TownM
 | 0 => T
 | k + 1 => if ((T.peer i).mem.getD k memZ).acked = true then (T.welcomesTo i k).welcome i k else T.welcomesTo i k
def proposesTo (T:TownM) (i:Nat) (e:Int):Nat → TownM
 | 0 => T
 | k + 1 => if ((T.peer i).mem.getD k memZ).joined = true then (T.proposesTo i e k).send ⟨3,i,k,0,0,voteZ,e,0⟩ else T.proposesTo i e k
def pingsTo (T:TownM) (i:Nat):Nat → TownM
 | 0 => T
 | k + 1 => if ((T.peer i).mem.getD k memZ).joined = true then (T.pingsTo i k).send ⟨6,i,k,0,0,voteZ,0,0⟩ else T.pingsTo i k
def stand (T:TownM) (i:Nat):TownM :=
 { T.setPeer i { T.peer i with stands:=true,c:={ (T.peer i).c with e:=(T.peer i).epoch } } with events:=T.events ++ [((i:Int),(T.peer i).epoch)] }
def check (T:TownM) (i:Nat):TownM :=
 if ((T.peer i).stands || !T.most (T.ackedTo i T.ps.length)) = true then T
 else if (T.peer i).armed < 0 then ((T.stand i).write i).welcomesTo i T.ps.length else (T.stand i).write i
def propose (T:TownM) (i:Nat):TownM :=
 if 1000 ≤ T.bestTo i T.ps.length then T.look i
 else if (T.peer i).armed < 0 then
  ((((T.setPeer i { T.peer i with c:={ (T.peer i).c with p:=T.bestTo i T.ps.length + 1,t:=i } }).write i).setPeer i { ((T.setPeer i { T.peer i with c:={ (T.peer i).c with p:=T.bestTo i T.ps.length + 1,t:=i } }).write i).peer i with epoch:=T.bestTo i T.ps.length + 1 }).proposesTo i (T.bestTo i T.ps.length + 1) T.ps.length).check i
 else (T.setPeer i { T.peer i with c:={ (T.peer i).c with p:=T.bestTo i T.ps.length + 1,t:=i } }).write i
def lead0 (T:TownM) (i:Nat):TownM:=T.setPeer i { T.peer i with state:=2,epoch:=0,mem:=mem7,stands:=false,since:=T.now }
def lead (T:TownM) (i:Nat):TownM:=if T.ps.length = 1 then (T.lead0 i).propose i else T.lead0 i
def follow (T:TownM) (i:Nat) (v:VoteM):TownM :=
 (T.setPeer i { T.peer i with state:=1,vote:=v,since:=T.now }).send ⟨2,i,v.p,0,0,voteZ,(T.peer i).c.p,0⟩
def base (T:TownM) (i:Nat) (m:MsgM):VoteM:=if (T.peer i).round < m.round then T.own i else (T.peer i).vote
def good (T:TownM) (i:Nat) (m:MsgM):Bool:=m.vote.better (T.base i m)
def voteOn (T:TownM) (i:Nat) (m:MsgM):VoteM:=if T.good i m = true then m.vote else T.base i m
def fresh (T:TownM) (i:Nat) (m:MsgM):Bool:=decide ((T.peer i).round < m.round) || T.good i m
def votesOn (T:TownM) (i:Nat) (m:MsgM):List KnownM:=if (T.peer i).round < m.round then known7 else (T.peer i).votes
def take1 (T:TownM) (i:Nat) (m:MsgM):TownM:=T.setPeer i { T.peer i with round:=m.round,votes:=T.votesOn i m,vote:=T.voteOn i m,waits:=(T.peer i).waits && !T.fresh i m }
def take2 (T:TownM) (i:Nat) (m:MsgM):TownM:=if T.fresh i m = true then (T.take1 i m).notices i else T.take1 i m
def know (T:TownM) (i:Nat) (m:MsgM):TownM:=T.setPeer i { T.peer i with votes:=(T.peer i).votes.set m.src.toNat ⟨true,m.vote,0⟩ }
def looking (T:TownM) (i:Nat) (m:MsgM):TownM:=if m.round < (T.peer i).round then T.notice i m.src else ((T.take2 i m).know i m).count i
def settledTo (p:PeerM) (x:Nat):Nat → Int
 | 0 => 0
 | k + 1 => if ((p.settled.getD k knownZ).is && (p.settled.getD k knownZ).vote.p == (x:Int)) = true then settledTo p x k + 1 else settledTo p x k
def leads (T:TownM) (i x:Nat):Bool :=
 !(decide (x = i)) && (T.most (settledTo (T.peer i) x T.ps.length) && (((T.peer i).settled.getD x knownZ).is && (((T.peer i).settled.getD x knownZ).state == 2 && ((T.peer i).settled.getD x knownZ).vote.p == (x:Int))))
def settled (T:TownM) (i:Nat) (m:MsgM):TownM :=
 let T1:=T.setPeer i { T.peer i with settled:=(T.peer i).settled.set m.src.toNat ⟨true,m.vote,m.state⟩ }
 match (List.range T.ps.length).find? (T1.leads i) with
 | some x => T1.follow i ((T1.peer i).settled.getD x knownZ).vote
 | none => T1
def hearOf (T:TownM) (i:Nat) (k:Nat):TownM:=T.setPeer i { T.peer i with mem:=(T.peer i).mem.set k { (T.peer i).mem.getD k memZ with heard:=true,at_:=T.now } }
def join (T:TownM) (i:Nat) (m:MsgM):TownM :=
 let T1:=T.setPeer i { T.peer i with mem:=(T.peer i).mem.set m.src.toNat { (T.peer i).mem.getD m.src.toNat memZ with heard:=true,at_:=T.now,joined:=true,promised:=m.epoch } }
 if 0 < (T.peer i).epoch then
  if (T.peer i).epoch < m.epoch then T1.look i else T1.send ⟨3,i,m.src,0,0,voteZ,(T.peer i).epoch,0⟩
 else if T1.most (T1.joinedTo i T.ps.length) = true then T1.propose i else T1
def ack (T:TownM) (i:Nat) (m:MsgM):TownM :=
 let T1:=T.hearOf i m.src.toNat
 if (!(T.peer i).stands && (decide ((T.peer i).c.e < m.vote.e) || (m.vote.e == (T.peer i).c.e && decide ((T.peer i).c.v < m.vote.n)))) = true then T1.look i
 else
  let T2:=T1.setPeer i { T1.peer i with mem:=(T1.peer i).mem.set m.src.toNat { (T1.peer i).mem.getD m.src.toNat memZ with acked:=true } }
  if (T.peer i).stands = true then T2.welcome i m.src else T2.check i
def leading (T:TownM) (i:Nat) (m:MsgM):TownM :=
 if m.kind = 2 then T.join i m
 else if m.kind = 7 then T.hearOf i m.src.toNat
 else if m.kind = 4 ∧ m.epoch = (T.peer i).epoch then T.ack i m
 else T
def touch (T:TownM) (i:Nat):TownM:=T.setPeer i { T.peer i with since:=T.now }
def ackTo (T:TownM) (i:Nat) (m:MsgM):TownM:=T.send ⟨4,i,m.src,0,0,T.own i,m.epoch,0⟩
def following (T:TownM) (i:Nat) (m:MsgM):TownM :=
 if m.kind = 6 then (T.touch i).send ⟨7,i,m.src,0,0,voteZ,0,0⟩
 else if m.kind = 5 then
  if (T.peer i).c.p = m.epoch ∧ (T.peer i).c.t = m.src ∧ (T.peer i).c.e ≠ m.epoch then
   (T.setPeer i { T.peer i with since:=T.now,c:={ (T.peer i).c with e:=m.epoch,v:=m.news } }).write i
  else T
 else if m.kind = 3 then
  if (T.peer i).c.p < m.epoch then
   let T1:=(T.setPeer i { T.peer i with since:=T.now,c:={ (T.peer i).c with p:=m.epoch,t:=m.src } }).write i
   if (T.peer i).armed < 0 then T1.ackTo i m else T1
  else if (T.peer i).c.p = m.epoch ∧ (T.peer i).c.t = m.src then (T.touch i).ackTo i m
  else (T.touch i).look i
 else T
def hears (T:TownM) (i:Nat) (m:MsgM):TownM :=
 if m.kind = 1 then
  if (T.peer i).state = 0 then (if m.state = 0 then T.looking i m else T.settled i m)
  else if m.state = 0 then T.notice i m.src else T
 else if (T.peer i).state = 2 then T.leading i m
 else if (T.peer i).state = 1 ∧ (T.peer i).vote.p = m.src then T.following i m
 else T
def tick (T:TownM) (i:Nat):TownM :=
 if (T.peer i).state = 0 then
  if (T.peer i).waits = true ∧ T.wait ≤ T.now - (T.peer i).since then (if (T.peer i).vote.p = (i:Int) then T.lead i else T.follow i (T.peer i).vote) else T
 else if (T.peer i).state = 1 then (if T.lease ≤ T.now - (T.peer i).since then T.look i else T)
 else if (T.peer i).state = 2 then
  if T.lease ≤ T.now - (T.peer i).since ∧ T.most (T.heardTo i T.ps.length) = false then T.look i
  else if T.now.tmod (T.lease.tdiv 4) = 0 then T.pingsTo i T.ps.length else T
 else T
def tickAt (T:TownM) (i:Nat):TownM:=if (T.peer i).up = true ∧ (T.peer i).state ≠ 3 then T.tick i else T
def ticksTo (T:TownM):Nat → TownM
 | 0 => T
 | k + 1 => (T.ticksTo k).tickAt k
def tick1 (T:TownM):TownM:=({ T with now:=T.now + 1 }:TownM).ticksTo T.ps.length
def tickN (T:TownM):Nat → TownM
 | 0 => T
 | k + 1 => (T.tickN k).tick1
def come (T:TownM) (i:Nat):TownM :=
 let x:=newestL (T.peer i).disk
 let T1:=T.setPeer i ⟨(T.peer i).disk,true,-1,3,x.c,0,voteZ,known7,known7,false,0,0,mem7,false⟩
 if 0 ≤ x.at_ then T1.look i else T1
def comesTo (T:TownM):Nat → TownM
 | 0 => T
 | k + 1 => (T.comesTo k).come k
def newPeer (c:CredM):PeerM:={ peerZ with disk:=encL 1 c.p c.t c.e c.v ++ List.replicate 28 0,armed:=-1 }
def new (wait lease net:Int) (l:List CredM):TownM:=TownM.comesTo ⟨wait,lease,net,l.map newPeer,0,[],[]⟩ l.length
def there (T:TownM) (i:Int):Bool:=decide (0 ≤ i) && decide (i < T.way.length)
def thereE (T:TownM) (i:Int):Int:=if T.there i = true then 0 else 4
def tickE (n:Int):Int:=if 1 ≤ n ∧ n ≤ 1000 then 0 else 1
def is (T:TownM) (i:Int):Bool:=decide (0 ≤ i) && decide (i < T.ps.length)
def isE (T:TownM) (i:Int):Int:=if T.is i = true then 0 else 1
def drop (T:TownM) (i:Int):TownM:=if T.there i = true then { T with way:=T.way.eraseIdx i.toNat } else T
def deliver (T:TownM) (i:Int):TownM :=
 if T.there i = true then
  let m:=T.way.getD i.toNat msgZ
  let T1:TownM:={ T with way:=T.way.eraseIdx i.toNat }
  if (T.peer m.dst.toNat).up = true ∧ (T.peer m.dst.toNat).state ≠ 3 then T1.hears m.dst.toNat m else T1
 else T
def copy (T:TownM) (i:Int):TownM:=if T.there i = true ∧ (T.way.length:Int) < T.net then { T with way:=T.way ++ [T.way.getD i.toNat msgZ] } else T
def copyE (T:TownM) (i:Int):Int:=if T.there i = true then (if (T.way.length:Int) < T.net then 0 else 3) else 4
def tickC (T:TownM) (n:Int):TownM:=if 1 ≤ n ∧ n ≤ 1000 then T.tickN n.toNat else T
def upE (T:TownM) (i:Int) (up:Bool):Int:=if T.is i = true then (if (T.peer i.toNat).up = up then 0 else 2) else 1
def hearE (T:TownM) (i:Int):Int :=
 if T.upE i true = 0 then (if (T.peer i.toNat).state = 2 ∧ (T.peer i.toNat).stands = true then (if 1000000000 ≤ (T.peer i.toNat).c.v then 3 else 0) else 5) else T.upE i true
def hear (T:TownM) (i:Int):TownM :=
 if T.hearE i = 0 then (T.setPeer i.toNat { T.peer i.toNat with c:={ (T.peer i.toNat).c with v:=(T.peer i.toNat).c.v + 1 } }).write i.toNat else T
def crash (T:TownM) (i:Int):TownM:=if T.upE i true = 0 then T.setPeer i.toNat { T.peer i.toNat with up:=false,armed:=-1 } else T
def armE (T:TownM) (i n:Int):Int:=if T.is i = true ∧ 0 ≤ n ∧ n ≤ 28 then (if (T.peer i.toNat).up = true then 0 else 2) else 1
def arm (T:TownM) (i n:Int):TownM:=if T.armE i n = 0 then T.setPeer i.toNat { T.peer i.toNat with armed:=n } else T
def restart (T:TownM) (i:Int):TownM:=if T.upE i false = 0 then T.come i.toNat else T
def stateOf (T:TownM) (i:Int):Int:=if T.upE i true = 0 then (T.peer i.toNat).state else 0
def diskOf (T:TownM) (i:Int):List Int:=if T.is i = true then (T.peer i.toNat).disk else []
end TownM
end Go.Proofs.YtceappncglfciaaGreat
