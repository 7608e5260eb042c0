/-
  A torn write, in bytes alone.
-/
import Derived.Test.YtceappncglfciaaLawB
namespace Go.Proofs.Ytceappncglfciaa

theorem numsOf_append (a b : ByteArray) : numsOf (a ++ b) = numsOf a ++ numsOf b := by
  unfold numsOf
  rw [ByteArray.data_append, Array.toList_append, List.map_append]
theorem numsOf_inj {a b : ByteArray} (h : numsOf a = numsOf b) : a = b := by
  rw [← strOfNums_numsOf a, ← strOfNums_numsOf b, h]
theorem slot_first (a b : ByteArray) (ha : a.size = 28) : slotOf (a ++ b) false = a := by
  apply numsOf_inj
  show numsOf ((a ++ b).extract 0 28) = _
  rw [numsOf_extract, numsOf_append, List.drop_zero, List.take_append_of_le_length (by rw [numsOf_len]; omega), List.take_of_length_le (by rw [numsOf_len]; omega)]
theorem slot_second (a b : ByteArray) (ha : a.size = 28) (hb : b.size = 28) : slotOf (a ++ b) true = b := by
  apply numsOf_inj
  show numsOf ((a ++ b).extract 28 56) = _
  have e : (numsOf a ++ numsOf b).drop 28 = numsOf b := by
    have := List.drop_left (l₁ := numsOf a) (l₂ := numsOf b)
    rw [numsOf_len, ha] at this
    exact this
  rw [numsOf_extract, numsOf_append, e, List.take_of_length_le (by rw [numsOf_len]; omega)]

/-- A slot that was written. -/
structure Written (s : ByteArray) (n p t e v : Int) : Prop where
  size : s.size = 28
  list : numsOf s = encL n p t e v
  pos : 0 < n
  ok : badB n p t e v = false
theorem written_of {n p t e v : Int} (h : badB n p t e v = false) (hn : 0 < n) : Written (strOfNums (encL n p t e v)) n p t e v := by
  have hb : BytesL (encL n p t e v) := (bodyL_bytes h).app (num4_bytes (sumV_range _).1 (sumV_range _).2)
  exact ⟨by rw [strOfNums_size, encL_len], numsOf_strOfNums hb, hn, h⟩
theorem Written.at0 {s : ByteArray} {n p t e v : Int} (h : Written s n p t e v) : at4 s 0 = n := by
  unfold at4
  rw [h.list]
  exact valL_num4 n
theorem Written.at1 {s : ByteArray} {n p t e v : Int} (h : Written s n p t e v) : at4 s 1 = p := by
  unfold at4
  rw [h.list]
  exact valL_num4 p
theorem Written.at2 {s : ByteArray} {n p t e v : Int} (h : Written s n p t e v) : at4 s 2 = t := by
  unfold at4
  rw [h.list]
  exact valL_num4 t
theorem Written.at3 {s : ByteArray} {n p t e v : Int} (h : Written s n p t e v) : at4 s 3 = e := by
  unfold at4
  rw [h.list]
  exact valL_num4 e
theorem Written.at4' {s : ByteArray} {n p t e v : Int} (h : Written s n p t e v) : at4 s 4 = v := by
  unfold at4
  rw [h.list]
  exact valL_num4 v
theorem Written.right {s : ByteArray} {n p t e v : Int} (h : Written s n p t e v) : rightP s = true := by
  unfold rightP
  rw [h.at0, h.at1, h.at2, h.at3, h.at4']
  unfold encE encS
  rw [h.ok, str_beq, h.list]
  have hb : BytesL (encL n p t e v) := (bodyL_bytes h.ok).app (num4_bytes (sumV_range _).1 (sumV_range _).2)
  simp [numsOf_strOfNums hb]

/-- What Newest answers of two slots, the second written. -/
theorem newest_two (x now : ByteArray) (hx : x.size = 28) {m p t e v : Int} (hw : Written now m p t e v) :
    newestOf (x ++ now) = if (rightP x && decide (0 < at4 x 0)) = true then (if at4 x 0 < m then ⟨p, t, e, v, m, 28⟩ else ⟨at4 x 1, at4 x 2, at4 x 3, at4 x 4, at4 x 0, 0⟩) else ⟨p, t, e, v, m, 28⟩ := by
  have hs : (x ++ now).size = 56 := by rw [ByteArray.size_append, hx, hw.size]
  unfold newestOf
  rw [if_pos hs]
  simp only [nwOf, List.foldl_cons, List.foldl_nil]
  unfold nwStep
  rw [slot_first x now hx, slot_second x now hx hw.size, hw.right, hw.at0, hw.at1, hw.at2, hw.at3, hw.at4']
  have hp := hw.pos
  cases hc : (rightP x && decide (0 < at4 x 0)) with
  | true =>
    have h1 : (rightP x && decide (nw0.n < at4 x 0)) = true := hc
    rw [if_pos h1]
    simp [placeOf]
  | false =>
    have h1 : ¬ (rightP x && decide (nw0.n < at4 x 0)) = true := by
      have : (rightP x && decide (nw0.n < at4 x 0)) = false := hc
      rw [this]; exact Bool.false_ne_true
    rw [if_neg h1]
    simp [placeOf, nw0, hp]

theorem newest_both (old now : ByteArray) {n p t e v m p' t' e' v' : Int} (ho : Written old n p t e v) (hw : Written now m p' t' e' v') (hlt : n < m) :
    newestOf (old ++ now) = ⟨p', t', e', v', m, 28⟩ := by
  rw [newest_two old now ho.size hw, ho.right, ho.at0]
  have := ho.pos
  simp [this, hlt]
theorem newest_whole (next now : ByteArray) {n p t e v m p' t' e' v' : Int} (ho : Written next n p t e v) (hw : Written now m p' t' e' v') (hlt : m < n) :
    newestOf (next ++ now) = ⟨p, t, e, v, n, 0⟩ := by
  rw [newest_two next now ho.size hw, ho.right, ho.at0, ho.at1, ho.at2, ho.at3, ho.at4']
  have := ho.pos
  have h2 : ¬ n < m := by omega
  simp [this, h2]

theorem torn_list {X O : List Int} (hX : X.length = 28) (k : Nat) (hk : k ≤ 28) {a b : Int} (hXa : X.take 4 = num4 a) (hOb : (O.drop 20).take 4 = num4 b) (hab : a = b + 2)
    (hXs : X.drop 24 = num4 (sumV (X.take 24))) (h1 : (X.take k ++ O.drop k).take 4 = ((X.take k ++ O.drop k).drop 20).take 4)
    (h2 : (X.take k ++ O.drop k).drop 24 = num4 (sumV ((X.take k ++ O.drop k).take 24))) :
    (X.take k ++ O.drop k).take 4 = num4 b ∨ X.take k ++ O.drop k = X := by
  have hlk : (X.take k).length = k := by rw [List.length_take]; omega
  rcases Nat.lt_or_ge k 4 with h4 | h4
  · left
    rw [h1, ← hOb]
    congr 1
    rw [List.drop_append, List.drop_of_length_le (by omega), List.nil_append, hlk, List.drop_drop]
    congr 1
    omega
  · rcases Nat.lt_or_ge k 24 with h24 | h24
    · exfalso
      have g1 : ((X.take k ++ O.drop k).take 4)[3]? = some (a % 256) := by
        rw [List.take_append_of_le_length (by omega), List.take_take, Nat.min_eq_left h4, hXa]
        rfl
      have g2 : (((X.take k ++ O.drop k).drop 20).take 4)[3]? = some (b % 256) := by
        rw [List.getElem?_take_of_lt (by omega), List.getElem?_drop, List.getElem?_append_right (by omega), hlk, List.getElem?_drop]
        have : ((O.drop 20).take 4)[3]? = some (b % 256) := by rw [hOb]; rfl
        rw [List.getElem?_take_of_lt (by omega), List.getElem?_drop] at this
        rw [← this]
        congr 1
        omega
      rw [h1, g2] at g1
      have : b % 256 = a % 256 := by simpa using g1
      omega
    · right
      have g : (X.take k ++ O.drop k).take 24 = X.take 24 := by
        rw [List.take_append_of_le_length (by omega), List.take_take, Nat.min_eq_left h24]
      rw [g, ← hXs] at h2
      rw [← List.take_append_drop 24 (X.take k ++ O.drop k), g, h2, List.take_append_drop]

theorem enc_head (n p t e v : Int) : (encL n p t e v).take 4 = num4 n := rfl
theorem enc_tail (n p t e v : Int) : ((encL n p t e v).drop 20).take 4 = num4 n := rfl
theorem enc_sum (n p t e v : Int) : (encL n p t e v).drop 24 = num4 (sumV ((encL n p t e v).take 24)) := by
  unfold encL
  have e1 : (bodyL n p t e v ++ num4 (sumV (bodyL n p t e v))).drop 24 = num4 (sumV (bodyL n p t e v)) := List.drop_left (l₁ := bodyL n p t e v) (l₂ := num4 (sumV (bodyL n p t e v)))
  have e2 : (bodyL n p t e v ++ num4 (sumV (bodyL n p t e v))).take 24 = bodyL n p t e v := List.take_left (l₁ := bodyL n p t e v) (l₂ := num4 (sumV (bodyL n p t e v)))
  rw [e1, e2]

/-- Behind a torn write that is not whole the one that was is the newest. -/
theorem newest_torn (next old now : ByteArray) (k : Nat) (hk : k ≤ 28) {n p t e v p' t' e' v' p2 t2 e2 v2 : Int} (ho : Written old n p t e v) (hw : Written now (n + 1) p' t' e' v') (hx : Written next (n + 2) p2 t2 e2 v2)
    (hne : next.extract 0 k ++ old.extract k 28 ≠ next) : newestOf (next.extract 0 k ++ old.extract k 28 ++ now) = ⟨p', t', e', v', n + 1, 28⟩ := by
  have hsz : (next.extract 0 k ++ old.extract k 28).size = 28 := by
    rw [ByteArray.size_append, ByteArray.size_extract, ByteArray.size_extract, hx.size, ho.size]
    omega
  have hL : numsOf (next.extract 0 k ++ old.extract k 28) = (encL (n + 2) p2 t2 e2 v2).take k ++ (encL n p t e v).drop k := by
    rw [numsOf_append, numsOf_extract, numsOf_extract, hx.list, ho.list, List.drop_zero, Nat.sub_zero]
    congr 1
    exact List.take_of_length_le (by rw [List.length_drop, encL_len]; omega)
  rw [newest_two _ now hsz hw]
  cases hr : rightP (next.extract 0 k ++ old.extract k 28) with
  | false => simp
  | true =>
    rw [right_eq _ hsz] at hr
    unfold rightR at hr
    rw [str_beq, str_beq, numsOf_strOfNums (num4_bytes (sumV_range _).1 (sumV_range _).2)] at hr
    simp only [numsOf_extract, hL, Bool.and_eq_true, decide_eq_true_eq, List.drop_zero, Nat.sub_zero, show 24 - 20 = 4 from rfl] at hr
    obtain ⟨_, h1, h2⟩ := hr
    rw [List.take_of_length_le (i := 4) (by rw [List.length_drop, List.length_append, List.length_take, List.length_drop, encL_len, encL_len]; omega)] at h2
    rcases torn_list (encL_len _ _ _ _ _) k hk (enc_head _ _ _ _ _) (enc_tail _ _ _ _ _) rfl (enc_sum _ _ _ _ _) h1 h2 with h | h
    · have h0 : at4 (next.extract 0 k ++ old.extract k 28) 0 = n := by
        unfold at4
        rw [hL, Nat.zero_mul, List.drop_zero, h]
        exact valL_num4 n
      rw [h0]
      have hlt : n < n + 1 := by omega
      simp [hlt]
    · exfalso
      apply hne
      apply numsOf_inj
      rw [hL, h, hx.list]
end Go.Proofs.Ytceappncglfciaa
