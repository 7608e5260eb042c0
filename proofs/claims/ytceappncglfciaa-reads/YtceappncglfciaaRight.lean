/-
  The two ways to ask whether a slot is right are one.
-/
import Derived.Test.YtceappncglfciaaRefC
import Derived.Laws.Strings
namespace Go.Proofs.Ytceappncglfciaa

theorem str_beq (a b : ByteArray) : (a.toList == b.toList) = decide (numsOf a = numsOf b) := by
  rw [Bool.eq_iff_iff, beq_iff_eq, decide_eq_true_iff]
  constructor
  · intro h
    rw [ByteArray.toList_eq, ByteArray.toList_eq] at h
    unfold numsOf
    rw [h]
  · intro h
    rw [← strOfNums_numsOf a, ← strOfNums_numsOf b, h]
theorem BytesL.take {l : List Int} (h : BytesL l) (n : Nat) : BytesL (l.take n) := fun x hx => h x (List.mem_of_mem_take hx)
theorem BytesL.drop {l : List Int} (h : BytesL l) (n : Nat) : BytesL (l.drop n) := fun x hx => h x (List.mem_of_mem_drop hx)
theorem part_len {l : List Int} (hl : l.length = 28) {i : Nat} (hi : i ≤ 5) : ((l.drop (i * 4)).take 4).length = 4 := by
  rw [List.length_take, List.length_drop]; omega

theorem at4_num4 (s : ByteArray) (hs : s.size = 28) {i : Nat} (hi : i ≤ 5) : num4 (at4 s i) = ((numsOf s).drop (i * 4)).take 4 := by
  have hl : (numsOf s).length = 28 := by rw [numsOf_len]; exact hs
  exact num4_valL4 (((numsOf_bytes s).drop _).take _) (part_len hl hi)
theorem at4_range (s : ByteArray) (hs : s.size = 28) {i : Nat} (hi : i ≤ 5) : wideB (at4 s i) = false := by
  have hl : (numsOf s).length = 28 := by rw [numsOf_len]; exact hs
  have := valL_range4 (((numsOf_bytes s).drop (i * 4)).take 4) (part_len hl hi)
  unfold wideB at4
  simp
  omega
theorem body_of (s : ByteArray) (hs : s.size = 28) : bodyL (at4 s 0) (at4 s 1) (at4 s 2) (at4 s 3) (at4 s 4) = (numsOf s).take 20 ++ (numsOf s).take 4 := by
  have e : (numsOf s).take 20 = ((numsOf s).drop 0).take 4 ++ (((numsOf s).drop 4).take 4 ++ (((numsOf s).drop 8).take 4 ++ (((numsOf s).drop 12).take 4 ++ ((numsOf s).drop 16).take 4))) := by
    have f : ∀ (l : List Int) (a : Nat), l.take (4 + a) = l.take 4 ++ (l.drop 4).take a := fun l a => List.take_add
    rw [show (20 : Nat) = 4 + (4 + (4 + (4 + 4))) from rfl, f, f, f, f]
    simp [List.drop_drop]
  unfold bodyL
  rw [at4_num4 s hs (i := 0) (by omega), at4_num4 s hs (i := 1) (by omega), at4_num4 s hs (i := 2) (by omega), at4_num4 s hs (i := 3) (by omega), at4_num4 s hs (i := 4) (by omega), e]
  simp
theorem bad_of (s : ByteArray) (hs : s.size = 28) : badB (at4 s 0) (at4 s 1) (at4 s 2) (at4 s 3) (at4 s 4) = (at4 s 0 == 0) := by
  unfold badB
  rw [at4_range s hs (i := 0) (by omega), at4_range s hs (i := 1) (by omega), at4_range s hs (i := 2) (by omega), at4_range s hs (i := 3) (by omega), at4_range s hs (i := 4) (by omega)]
  simp

theorem right_list (l : List Int) (hl : l.length = 28) : (l.take 20 ++ l.take 4 ++ num4 (sumV (l.take 20 ++ l.take 4)) = l) ↔ (l.take 4 = (l.drop 20).take 4 ∧ l.drop 24 = num4 (sumV (l.take 24))) := by
  have e1 : l = l.take 20 ++ ((l.drop 20).take 4 ++ l.drop 24) := by
    have := List.take_append_drop 4 (l.drop 20)
    rw [List.drop_drop] at this
    rw [this, List.take_append_drop]
  have e2 : l.take 24 = l.take 20 ++ (l.drop 20).take 4 := by
    rw [show (24 : Nat) = 20 + 4 from rfl, List.take_add]
  have h4 : (l.take 4).length = 4 := by rw [List.length_take]; omega
  have h4' : ((l.drop 20).take 4).length = 4 := by rw [List.length_take, List.length_drop]; omega
  constructor
  · intro h
    have h' : l.take 20 ++ (l.take 4 ++ num4 (sumV (l.take 20 ++ l.take 4))) = l.take 20 ++ ((l.drop 20).take 4 ++ l.drop 24) := by
      rw [← List.append_assoc, h, ← e1]
    have h2 := List.append_cancel_left h'
    obtain ⟨h3, h5⟩ := List.append_inj h2 (by rw [h4, h4'])
    refine ⟨h3, ?_⟩
    rw [e2, ← h3, ← h5]
  · rintro ⟨h3, h5⟩
    rw [h3, ← e2, ← h5]
    exact List.take_append_drop 24 l

theorem right_eq (s : ByteArray) (hs : s.size = 28) : rightP s = rightR s := by
  have hl : (numsOf s).length = 28 := by rw [numsOf_len]; exact hs
  have hbody := body_of s hs
  have hbad := bad_of s hs
  unfold rightP rightR
  cases h0 : (at4 s 0 == 0) with
  | true =>
    rw [h0] at hbad
    have : encE (at4 s 0) (at4 s 1) (at4 s 2) (at4 s 3) (at4 s 4) = 1 := by unfold encE; rw [hbad]; rfl
    rw [this]
    rfl
  | false =>
    rw [h0] at hbad
    have he : encE (at4 s 0) (at4 s 1) (at4 s 2) (at4 s 3) (at4 s 4) = 0 := by unfold encE; rw [hbad]; rfl
    have hS : encS (at4 s 0) (at4 s 1) (at4 s 2) (at4 s 3) (at4 s 4) = strOfNums ((numsOf s).take 20 ++ (numsOf s).take 4 ++ num4 (sumV ((numsOf s).take 20 ++ (numsOf s).take 4))) := by
      unfold encS encL; rw [hbad, hbody]; rfl
    have hbb : BytesL ((numsOf s).take 20 ++ (numsOf s).take 4 ++ num4 (sumV ((numsOf s).take 20 ++ (numsOf s).take 4))) :=
      (((numsOf_bytes s).take _).app ((numsOf_bytes s).take _)).app (num4_bytes (sumV_range _).1 (sumV_range _).2)
    rw [he, hS, str_beq, str_beq, str_beq, numsOf_strOfNums hbb, numsOf_strOfNums (num4_bytes (sumV_range _).1 (sumV_range _).2)]
    simp only [numsOf_extract]
    rw [List.drop_zero]
    have ht : ((numsOf s).drop 24).take (28 - 24) = (numsOf s).drop 24 := List.take_of_length_le (by rw [List.length_drop]; omega)
    rw [ht]
    have hr := right_list (numsOf s) hl
    simp only [Nat.sub_zero, show 24 - 20 = 4 from rfl]
    rw [Bool.eq_iff_iff]
    simpa [List.append_assoc] using hr

theorem step_eq (disk : ByteArray) (hd : disk.size = 56) (st : Nw) (b : Bool) : rStep disk st b = nwStep disk st b := by
  unfold rStep nwStep
  rw [right_eq _ (slotOf_size disk hd b)]
theorem newest_eq (disk : ByteArray) (hd : disk.size = 56) : rStep disk (rStep disk nw0 false) true = nwOf disk [false, true] := by
  rw [step_eq disk hd, step_eq disk hd]
  simp only [nwOf, List.foldl_cons, List.foldl_nil]
end Go.Proofs.Ytceappncglfciaa
