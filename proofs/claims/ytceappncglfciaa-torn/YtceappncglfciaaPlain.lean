/-
  The plain mathematics of a slot: numbers in four bytes, the sum, the slot as a list of bytes. Nothing of the program.
-/
import Derived.Laws.BytesArg
import Derived.RowKit
import Derived.Laws.BitsAllLaws
import Derived.Laws.BitsLemmas
namespace Go.Proofs.Ytceappncglfciaa

def num4 (n : Int) : List Int := [n / 16777216, n / 65536 % 256, n / 256 % 256, n % 256]
def adStep (p : Int × Int) (x : Int) : Int × Int := ((p.1 + x) % 65521, (p.2 + (p.1 + x) % 65521) % 65521)
def ad (l : List Int) : Int × Int := l.foldl adStep (1, 0)
def sumV (l : List Int) : Int := 65536 * (ad l).2 + (ad l).1
def bodyL (n p t e w : Int) : List Int := num4 n ++ (num4 p ++ (num4 t ++ (num4 e ++ (num4 w ++ num4 n))))
def encL (n p t e w : Int) : List Int := bodyL n p t e w ++ num4 (sumV (bodyL n p t e w))
def wideB (n : Int) : Bool := decide (n < 0) || decide (4294967295 < n)
def badB (n p t e w : Int) : Bool := wideB n || wideB p || wideB t || wideB e || wideB w || n == 0
def numsOf (s : ByteArray) : List Int := s.data.toList.map fun b => (b.toNat : Int)
/-- All of a list are bytes. -/
def BytesL (l : List Int) : Prop := ∀ x ∈ l, 0 ≤ x ∧ x ≤ 255

theorem num4_len (n : Int) : (num4 n).length = 4 := rfl
theorem bodyL_len (n p t e w : Int) : (bodyL n p t e w).length = 24 := rfl
theorem encL_len (n p t e w : Int) : (encL n p t e w).length = 28 := by simp [encL, bodyL_len, num4_len]
theorem num4_bytes {n : Int} (h0 : 0 ≤ n) (h1 : n ≤ 4294967295) : BytesL (num4 n) := by
  intro x hx
  simp [num4] at hx
  rcases hx with rfl | rfl | rfl | rfl <;> omega
theorem BytesL.app {a b : List Int} (ha : BytesL a) (hb : BytesL b) : BytesL (a ++ b) := by
  intro x hx
  rcases List.mem_append.1 hx with h | h
  · exact ha x h
  · exact hb x h
theorem bodyL_bytes {n p t e w : Int} (h : badB n p t e w = false) : BytesL (bodyL n p t e w) := by
  simp [badB, wideB] at h
  obtain ⟨⟨⟨⟨⟨⟨a0, a1⟩, b0, b1⟩, c0, c1⟩, d0, d1⟩, e0, e1⟩, _⟩ := h
  exact (num4_bytes a0 a1).app ((num4_bytes b0 b1).app ((num4_bytes c0 c1).app ((num4_bytes d0 d1).app ((num4_bytes e0 e1).app (num4_bytes a0 a1)))))

theorem adStep_range {p : Int × Int} {x : Int} : 0 ≤ (adStep p x).1 ∧ (adStep p x).1 ≤ 65520 ∧ 0 ≤ (adStep p x).2 ∧ (adStep p x).2 ≤ 65520 := by
  unfold adStep; dsimp only; omega
theorem ad_snoc (l : List Int) (x : Int) : ad (l ++ [x]) = adStep (ad l) x := by simp [ad]
theorem ad_fold_range (l : List Int) : ∀ p : Int × Int, (0 ≤ p.1 ∧ p.1 ≤ 65520 ∧ 0 ≤ p.2 ∧ p.2 ≤ 65520) → 0 ≤ (l.foldl adStep p).1 ∧ (l.foldl adStep p).1 ≤ 65520 ∧ 0 ≤ (l.foldl adStep p).2 ∧ (l.foldl adStep p).2 ≤ 65520 := by
  induction l with
  | nil => intro p h; exact h
  | cons x l ih => intro p _; exact ih _ adStep_range
theorem ad_range (l : List Int) : 0 ≤ (ad l).1 ∧ (ad l).1 ≤ 65520 ∧ 0 ≤ (ad l).2 ∧ (ad l).2 ≤ 65520 := ad_fold_range l _ (by decide)
theorem sumV_range (l : List Int) : 0 ≤ sumV l ∧ sumV l ≤ 4294967295 := by
  have := ad_range l
  unfold sumV; omega

theorem strOfNums_append (a b : List Int) : strOfNums a ++ strOfNums b = strOfNums (a ++ b) := by
  have h : (strOfNums a ++ strOfNums b).data = (strOfNums (a ++ b)).data := by
    rw [ByteArray.data_append]; simp [strOfNums]
  cases hx : strOfNums a ++ strOfNums b
  cases hy : strOfNums (a ++ b)
  rw [hx, hy] at h
  simpa using h
theorem numsOf_strOfNums {l : List Int} (h : BytesL l) : numsOf (strOfNums l) = l := by
  unfold numsOf
  rw [strOfNums_data, List.map_map]
  conv => rhs; rw [← List.map_id l]
  apply List.map_congr_left
  intro x hx
  have := h x hx
  simp [UInt8.toNat_ofNat']
  omega
theorem strOfNums_numsOf (s : ByteArray) : strOfNums (numsOf s) = s := by
  have h : (strOfNums (numsOf s)).data.toList = s.data.toList := by
    rw [strOfNums_data]
    unfold numsOf
    rw [List.map_map]
    conv => rhs; rw [← List.map_id s.data.toList]
    apply List.map_congr_left
    intro x _
    simp
  cases s with
  | mk d =>
    cases hx : strOfNums (numsOf ⟨d⟩) with
    | mk d' =>
      rw [hx] at h
      simp at h
      rw [h]
theorem numsOf_bytes (s : ByteArray) : BytesL (numsOf s) := by
  intro x hx
  simp [numsOf] at hx
  obtain ⟨b, _, rfl⟩ := hx
  have := b.toNat_lt
  omega
theorem numsOf_len (s : ByteArray) : (numsOf s).length = s.size := by
  unfold numsOf
  rw [List.length_map, Array.length_toList]
  rfl

theorem wrap64_in {x : Int} (h0 : -9223372036854775808 ≤ x) (h1 : x ≤ 9223372036854775807) : Go.RowKit.wrap64 x = x := by
  unfold Go.RowKit.wrap64; omega
theorem numsOf_take (s : ByteArray) (k : Nat) (h : k < s.size) : (numsOf s).take (k + 1) = (numsOf s).take k ++ [(s[k].toNat : Int)] := by
  have h' : k < (numsOf s).length := by rw [numsOf_len]; exact h
  rw [List.take_succ_eq_append_getElem h']
  congr 2
  simp [numsOf]
  rfl
/-- A round of the reference's sum, as the walk writes it. -/
theorem ad_round (s : ByteArray) (k : Nat) (h : k < s.size) :
    (Go.RowKit.wrap64 ((ad ((numsOf s).take k)).fst + Go.RowKit.wrap64 (s[k].toNat : Int))).tmod 65521 = (ad ((numsOf s).take (k + 1))).fst ∧
    (Go.RowKit.wrap64 ((ad ((numsOf s).take k)).snd + (Go.RowKit.wrap64 ((ad ((numsOf s).take k)).fst + Go.RowKit.wrap64 (s[k].toNat : Int))).tmod 65521)).tmod 65521 = (ad ((numsOf s).take (k + 1))).snd := by
  rw [numsOf_take s k h, ad_snoc]
  have hr := ad_range ((numsOf s).take k)
  have hb := (s[k]).toNat_lt
  generalize (s[k].toNat) = x at *
  generalize ad ((numsOf s).take k) = q at *
  unfold adStep
  dsimp only
  rw [wrap64_in (x := (x : Int)) (by omega) (by omega), wrap64_in (x := q.fst + (x : Int)) (by omega) (by omega)]
  have e1 : (q.fst + (x : Int)).tmod 65521 = (q.fst + (x : Int)) % 65521 := Int.tmod_eq_emod_of_nonneg (by omega)
  rw [e1, wrap64_in (by omega) (by omega)]
  exact ⟨rfl, Int.tmod_eq_emod_of_nonneg (by omega)⟩

theorem wraps_u32 (n : Int) (h0 : 0 ≤ n) (h1 : n < 2 ^ 32) : IntKind.u32.wrap n = n := by
  rw [IntKind.wrap_u32']; omega
theorem u32_or16 (b a : Int) (h0 : 0 ≤ b) (h1 : b ≤ 65535) (h2 : 0 ≤ a) (h3 : a ≤ 65535) : bits .or .u32 (b * 65536) a = b * 65536 + a :=
  bits_join .u32 32 (by decide) wraps_u32 16 (b * 65536) a (by omega) (by omega) (by omega) h2 (by omega) (by omega)
theorem u32_or8 (b a : Int) (h0 : 0 ≤ b) (h1 : b ≤ 16777215) (h2 : 0 ≤ a) (h3 : a ≤ 255) : bits .or .u32 (b * 256) a = b * 256 + a :=
  bits_join .u32 32 (by decide) wraps_u32 8 (b * 256) a (by omega) (by omega) (by omega) h2 (by omega) (by omega)
/-- A round of the program's sum, as the walk writes it. -/
theorem ad_roundP (l : List Int) (k : Nat) (h : k < l.length) (hby : BytesL l) :
    ((ad (l.take k)).fst + l[k]) % 4294967296 % 65521 = (ad (l.take (k + 1))).fst ∧
    ((ad (l.take k)).snd + ((ad (l.take k)).fst + l[k]) % 4294967296 % 65521) % 65521 = (ad (l.take (k + 1))).snd := by
  rw [List.take_succ_eq_append_getElem h, ad_snoc]
  have hr := ad_range (l.take k)
  have hb := hby l[k] (List.getElem_mem h)
  generalize l[k] = x at *
  generalize ad (l.take k) = q at *
  unfold adStep
  dsimp only
  have e1 : (q.fst + x) % 4294967296 = q.fst + x := by omega
  rw [e1]
  exact ⟨rfl, rfl⟩

/-- The number that some bytes make. -/
def valL (l : List Int) : Int := l.foldl (fun n x => n * 256 + x) 0
theorem valL_snoc (l : List Int) (x : Int) : valL (l ++ [x]) = valL l * 256 + x := by simp [valL]
theorem valL_range : ∀ l : List Int, BytesL l → l.length ≤ 3 → 0 ≤ valL l ∧ valL l ≤ 16777215
  | [], _, _ => by decide
  | [a], h, _ => by
    have ha := h a (by simp)
    simp [valL]; omega
  | [a, b], h, _ => by
    have ha := h a (by simp)
    have hb := h b (by simp)
    simp [valL]; omega
  | [a, b, c], h, _ => by
    have ha := h a (by simp)
    have hb := h b (by simp)
    have hc := h c (by simp)
    simp [valL]; omega
  | _ :: _ :: _ :: _ :: _, _, hl => by simp at hl
theorem num4_valL (a b c d : Int) (_ha : 0 ≤ a ∧ a ≤ 255) (hb : 0 ≤ b ∧ b ≤ 255) (hc : 0 ≤ c ∧ c ≤ 255) (hd : 0 ≤ d ∧ d ≤ 255) : num4 (valL [a, b, c, d]) = [a, b, c, d] := by
  have e : valL [a, b, c, d] = ((a * 256 + b) * 256 + c) * 256 + d := by simp [valL]
  rw [e]
  unfold num4
  have e1 : (((a * 256 + b) * 256 + c) * 256 + d) / 16777216 = a := by omega
  have e2 : (((a * 256 + b) * 256 + c) * 256 + d) / 65536 % 256 = b := by omega
  have e3 : (((a * 256 + b) * 256 + c) * 256 + d) / 256 % 256 = c := by omega
  have e4 : (((a * 256 + b) * 256 + c) * 256 + d) % 256 = d := by omega
  rw [e1, e2, e3, e4]
theorem valL_num4 (n : Int) : valL (num4 n) = n := by
  simp [valL, num4]; omega
theorem valL4_range (a b c d : Int) (ha : 0 ≤ a ∧ a ≤ 255) (hb : 0 ≤ b ∧ b ≤ 255) (hc : 0 ≤ c ∧ c ≤ 255) (hd : 0 ≤ d ∧ d ≤ 255) : 0 ≤ valL [a, b, c, d] ∧ valL [a, b, c, d] ≤ 4294967295 := by
  simp [valL]; omega

theorem any_at {l : List Int} {k : Nat} (h : k < l.length) (hx : wideB l[k] = true) : l.any wideB = true :=
  List.any_eq_true.2 ⟨l[k], List.getElem_mem h, hx⟩
theorem any_next {l : List Int} {k : Nat} (h : k < l.length) (h0 : (l.take k).any wideB = false) (hx : wideB l[k] = false) : (l.take (k + 1)).any wideB = false := by
  rw [List.take_succ_eq_append_getElem h, List.any_append, h0]
  simp [hx]

theorem numsOf_extract (s : ByteArray) (a b : Nat) : numsOf (s.extract a b) = ((numsOf s).drop a).take (b - a) := by
  unfold numsOf
  rw [ByteArray.data_extract, Array.toList_extract, List.map_take, List.map_drop]
theorem getD_numsOf (s : ByteArray) (k : Nat) : ((s.data.toList.getD k 0).toNat : Int) = (numsOf s).getD k 0 := by
  unfold numsOf
  simp only [List.getD_eq_getElem?_getD, List.getElem?_map]
  cases s.data.toList[k]? <;> rfl
theorem valL_round (l : List Int) (k : Nat) (h : k < l.length) : valL (l.take (k + 1)) = valL (l.take k) * 256 + l[k] := by
  rw [List.take_succ_eq_append_getElem h, valL_snoc]

theorem list4 {l : List Int} (hl : l.length = 4) : ∃ a b c d, l = [a, b, c, d] := by
  match l, hl with
  | [a, b, c, d], _ => exact ⟨a, b, c, d, rfl⟩
theorem valL_range4 {l : List Int} (h : BytesL l) (hl : l.length = 4) : 0 ≤ valL l ∧ valL l ≤ 4294967295 := by
  obtain ⟨a, b, c, d, rfl⟩ := list4 hl
  exact valL4_range a b c d (h a (by simp)) (h b (by simp)) (h c (by simp)) (h d (by simp))
theorem num4_valL4 {l : List Int} (h : BytesL l) (hl : l.length = 4) : num4 (valL l) = l := by
  obtain ⟨a, b, c, d, rfl⟩ := list4 hl
  exact num4_valL a b c d (h a (by simp)) (h b (by simp)) (h c (by simp)) (h d (by simp))

end Go.Proofs.Ytceappncglfciaa
