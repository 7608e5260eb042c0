import Derived.Test.YtceappncglfciaaSlotA
import Derived.Lib.ConvBytes
namespace Go.Proofs.Ytceappncglfciaa
open Go.RowKit

theorem laid6 (n p t e v : Int) : laid [n, p, t, e, v, n] = bodyL n p t e v := by
  simp [laid, bodyL]
theorem any5 (n p t e v : Int) (h : n ≠ 0) : ([n, p, t, e, v].any wideB) = badB n p t e v := by
  have : (n == 0) = false := by simpa using h
  simp [badB, Bool.or_assoc, this]
theorem cells_new (w : World) (l : List Int) (t : TypeId) : ∀ i, i < l.length → (w.alloc (.cells (l.map (Value.int .i64)).toArray t)).cell? ⟨w.heap.size, i, none⟩ = some (.int .i64 (l.getD i 0)) := by
  intro i hi
  rw [World.cell?_alloc_at _ _ _ _ rfl]
  simp [hi]

set_option maxHeartbeats 1000000 in
theorem encode_zero (p t e v : Int) (w : World) :
    Calls Try.prog 7 #[.int .i64 0, .agg #[.int .i64 p, .int .i64 t, .int .i64 e, .int .i64 v]] w fun o w' => o = .returned (.tuple #[.string ⟨#[]⟩, .int .i64 1]) ∧ Below w.heap.size w w' := by
  go_enter Try.func7, Try.ntmps7
  go_wp2
  go_ret2
  exact ⟨rfl, (Below.refl _ _).alloc (Nat.le_refl _) _⟩

set_option maxHeartbeats 1000000 in
theorem encode_bad (n p t e v : Int) (w : World) (hn : (n == 0) = false) (hb : badB n p t e v = true) :
    Calls Try.prog 7 #[.int .i64 n, .agg #[.int .i64 p, .int .i64 t, .int .i64 e, .int .i64 v]] w fun o w' => o = .returned (.tuple #[.string ⟨#[]⟩, .int .i64 1]) ∧ Below w.heap.size w w' := by
  have hf : Calls Try.prog 14 #[.slice (some ⟨w.heap.size + 1, 0, none⟩) 5 5] ((w.alloc (.cells #[.int .i64 p, .int .i64 t, .int .i64 e, .int .i64 v] 23)).alloc (.cells #[.int .i64 n, .int .i64 p, .int .i64 t, .int .i64 e, .int .i64 v] 3)) fun o w' => o = .returned (.bool (!([n, p, t, e, v].any wideB))) ∧ w' = ((w.alloc (.cells #[.int .i64 p, .int .i64 t, .int .i64 e, .int .i64 v] 23)).alloc (.cells #[.int .i64 n, .int .i64 p, .int .i64 t, .int .i64 e, .int .i64 v] 3)) := fit_any (w.heap.size + 1) 5 [n, p, t, e, v] _ (by simp) (fun i hi => by
    have := cells_new (w.alloc (.cells #[.int .i64 p, .int .i64 t, .int .i64 e, .int .i64 v] 23)) [n, p, t, e, v] 3 i hi
    rw [World.size_alloc] at this
    exact this)
  rw [any5 n p t e v (by simpa using hn), hb] at hf
  have HF := hide hf
  clear hf hb
  go_enter Try.func7, Try.ntmps7
  go_wp2_with fail
  refine (unhide HF).mono ?_
  rintro o w1 ⟨rfl, rfl⟩
  go_wp2
  go_ret2
  exact ⟨rfl, ((Below.refl _ _).alloc (Nat.le_refl _) _).alloc (by simp) _⟩

set_option maxHeartbeats 1000000 in
theorem encode_good (n p t e v : Int) (w : World) (hb : badB n p t e v = false) :
    Calls Try.prog 7 #[.int .i64 n, .agg #[.int .i64 p, .int .i64 t, .int .i64 e, .int .i64 v]] w fun o w' => o = .returned (.tuple #[.string (strOfNums (encL n p t e v)), .int .i64 0]) ∧ Below w.heap.size w w' := by
  have hn : (n == 0) = false := by
    simp only [badB, Bool.or_eq_false_iff] at hb
    exact hb.2
  have hf : Calls Try.prog 14 #[.slice (some ⟨w.heap.size + 1, 0, none⟩) 5 5] ((w.alloc (.cells #[.int .i64 p, .int .i64 t, .int .i64 e, .int .i64 v] 23)).alloc (.cells #[.int .i64 n, .int .i64 p, .int .i64 t, .int .i64 e, .int .i64 v] 3)) fun o w' => o = .returned (.bool (!([n, p, t, e, v].any wideB))) ∧ w' = ((w.alloc (.cells #[.int .i64 p, .int .i64 t, .int .i64 e, .int .i64 v] 23)).alloc (.cells #[.int .i64 n, .int .i64 p, .int .i64 t, .int .i64 e, .int .i64 v] 3)) := fit_any (w.heap.size + 1) 5 [n, p, t, e, v] _ (by simp) (fun i hi => by
    have := cells_new (w.alloc (.cells #[.int .i64 p, .int .i64 t, .int .i64 e, .int .i64 v] 23)) [n, p, t, e, v] 3 i hi
    rw [World.size_alloc] at this
    exact this)
  rw [any5 n p t e v (by simpa using hn), hb] at hf
  have HF := hide hf
  have hby := bodyL_bytes hb
  have hrange : ∀ x ∈ [n, p, t, e, v, n], 0 ≤ x ∧ x ≤ 4294967295 := by
    simp [badB, wideB] at hb
    intro x hx
    simp at hx
    rcases hx with rfl | rfl | rfl | rfl | rfl | rfl <;> omega
  have HW : Hid (∀ W : World, Calls Try.prog 15 #[.slice (some ⟨W.heap.size, 0, none⟩) 6 6] (W.alloc (.cells #[.int .i64 n, .int .i64 p, .int .i64 t, .int .i64 e, .int .i64 v, .int .i64 n] 3)) fun o w' => o = .returned (.string (strOfNums (encL n p t e v))) ∧ Below (W.alloc (.cells #[.int .i64 n, .int .i64 p, .int .i64 t, .int .i64 e, .int .i64 v, .int .i64 n] 3)).heap.size (W.alloc (.cells #[.int .i64 n, .int .i64 p, .int .i64 t, .int .i64 e, .int .i64 v, .int .i64 n] 3)) w') := by
    intro W
    have := write_any W.heap.size 6 [n, p, t, e, v, n] (W.alloc (.cells #[.int .i64 n, .int .i64 p, .int .i64 t, .int .i64 e, .int .i64 v, .int .i64 n] 3)) (by simp) (by simp) (by simp) hrange (by rw [laid6]; exact hby) (fun i hi => cells_new W [n, p, t, e, v, n] 3 i hi)
    rw [laid6] at this
    exact this
  clear hf hb hby hrange
  go_enter Try.func7, Try.ntmps7
  go_wp2_with fail
  refine (unhide HF).mono ?_
  rintro o w1 ⟨rfl, rfl⟩
  go_wp2_with fail
  have hw := HW.out ((w.alloc (.cells #[.int .i64 p, .int .i64 t, .int .i64 e, .int .i64 v] 23)).alloc (.cells #[.int .i64 n, .int .i64 p, .int .i64 t, .int .i64 e, .int .i64 v] 3))
  simp only [World.size_alloc] at hw
  refine hw.mono ?_
  rintro o w1 ⟨rfl, hb1⟩
  have hB : Below w.heap.size w w1 := ((((Below.refl _ w).alloc (Nat.le_refl _) _).alloc (by simp) _).alloc (by simp; omega) _).trans (hb1.mono (by omega))
  clear hw hb1 HW HF
  go_wp2
  go_ret2
  exact ⟨rfl, hB⟩

set_option maxHeartbeats 1000000 in
theorem numberAt_any (s : ByteArray) (i : Nat) (w : World) (hs : s.size = 28) (hi : i ≤ 4) :
    Calls Try.prog 25 #[.string s, .int .i64 i] w fun o w' => o = .returned (.int .i64 (valL (((numsOf s).drop (i * 4)).take 4))) ∧ Below w.heap.size w w' := by
  have hsz : (s.extract (i * 4) ((i + 1) * 4)).size = 4 := by rw [ByteArray.size_extract]; omega
  have hnx : Hid (numsOf (s.extract (i * 4) ((i + 1) * 4)) = ((numsOf s).drop (i * 4)).take 4) := by
    show _ = _
    rw [numsOf_extract, show (i + 1) * 4 - i * 4 = 4 by omega]
  have hcv := Lib.run_convert_string_bytes (P := Try.prog) w 9 48 5 (s.extract (i * 4) ((i + 1) * 4)) Try.underlying9 Try.underlying48 Try.underlying5
  rw [hsz] at hcv
  have hcell : Hid (∀ k, k < 4 → (Lib.bytesWorld w 5 (s.extract (i * 4) ((i + 1) * 4))).cell? ⟨w.heap.size, k, none⟩ = some (.int .u8 ((numsOf (s.extract (i * 4) ((i + 1) * 4))).getD k 0))) := by
    intro k hk
    rw [Lib.bytesWorld_cell w 5 _ k (by omega), getD_numsOf]
  have hbel : Hid (Below w.heap.size w (Lib.bytesWorld w 5 (s.extract (i * 4) ((i + 1) * 4)))) :=
    ⟨rfl, rfl, rfl, by rw [Lib.bytesWorld_size]; omega, fun k hk => Lib.bytesWorld_at_old _ _ _ k hk⟩
  have hlen : (numsOf (s.extract (i * 4) ((i + 1) * 4))).length = 4 := by rw [numsOf_len]; exact hsz
  have hbyt := numsOf_bytes (s.extract (i * 4) ((i + 1) * 4))
  have HBY : Hid _ := hbyt
  have HLEN : Hid _ := hlen
  clear hsz hbyt hlen
  go_enter Try.func25, Try.ntmps25
  go_wp2
  clear hcv
  generalize numsOf (s.extract (i * 4) ((i + 1) * 4)) = l at *
  generalize Lib.bytesWorld w 5 (s.extract (i * 4) ((i + 1) * 4)) = W at *
  have hlen := HLEN.out
  go_loop [5, 17] (fun n j => ∃ k : Nat, k ≤ 4 ∧ j = .int .i64 k ∧ n = .int .u32 (valL (l.take k))) (fun _ j => 4 - (intOf j).toNat)
  case atStart => exact ⟨0, Nat.zero_le _, rfl, rfl⟩
  case round =>
    obtain ⟨k, hk, rfl, rfl⟩ := hrel
    by_cases hlt : k < 4
    · have hck := hcell.out k hlt
      have hkl : k < l.length := by omega
      have hbk := HBY.out l[k] (List.getElem_mem hkl)
      obtain ⟨b0, b1⟩ := hbk
      have hv := valL_range (l.take k) (fun x hx => HBY.out x (List.mem_of_mem_take hx)) (by rw [List.length_take]; omega)
      obtain ⟨v0, v1⟩ := hv
      have Q : Hid (bits .or .u32 (valL (l.take k) * 256) l[k] = valL (l.take (k + 1))) := by
        show _ = _
        rw [u32_or8 _ _ v0 v1 b0 b1, valL_round l k hkl]
      clear hlen
      go_wp2
      go_round
      case rel => exact ⟨k + 1, by omega, by go_num, by rw [Q.out]⟩
      case measure => simp [intOf]; omega
    · have hk4 : l.take k = l := List.take_of_length_le (by omega)
      rw [hk4]
      clear hk4
      have hv := valL_range4 HBY.out HLEN.out
      obtain ⟨v0, v1⟩ := hv
      clear hlen
      go_wp2
      go_ret
      rw [← hnx.out]
      exact ⟨rfl, hbel.out⟩
end Go.Proofs.Ytceappncglfciaa
