import Derived.Test.YtceappncglfciaaSlotB
import Derived.Test.YtceappncglfciaaRefB
import Derived.BigQuiet
import Derived.Deep.QuietTactic
namespace Go.Proofs.Ytceappncglfciaa
open Go.RowKit

/-- What Encode answers. -/
def encS (n p t e v : Int) : ByteArray := if badB n p t e v then ⟨#[]⟩ else strOfNums (encL n p t e v)
def encE (n p t e v : Int) : Int := if badB n p t e v then 1 else 0

theorem encode_any (n p t e v : Int) (w : World) :
    Calls Try.prog 7 #[.int .i64 n, .agg #[.int .i64 p, .int .i64 t, .int .i64 e, .int .i64 v]] w fun o w' => o = .returned (.tuple #[.string (encS n p t e v), .int .i64 (encE n p t e v)]) ∧ Below w.heap.size w w' := by
  unfold encS encE
  cases hb : badB n p t e v with
  | true =>
    by_cases hn : n = 0
    · subst hn
      exact encode_zero p t e v w
    · exact encode_bad n p t e v w (by simpa using hn) hb
  | false => exact encode_good n p t e v w hb

theorem rEncode_any (n p t e v : Int) (w : World) :
    Calls Try.prog 8 #[.int .i64 n, .agg #[.int .i64 p, .int .i64 t, .int .i64 e, .int .i64 v]] w fun o w' => o = .returned (.tuple #[.string (encS n p t e v), .int .i64 (encE n p t e v)]) ∧ Below w.heap.size w w' := by
  unfold encS encE
  cases hb : badB n p t e v with
  | true => exact rEncode_bad n p t e v w hb
  | false => exact rEncode_good n p t e v w hb

theorem encE_one : encE 1 0 0 0 0 = 0 := by decide +kernel
theorem encS_one : (encS 1 0 0 0 0).size = 28 ∧ (((encS 1 0 0 0 0).extract 0 4).toList == [0, 0, 0, 1]) = true ∧ (((encS 1 0 0 0 0).extract 20 28).toList == [0, 0, 0, 1, 0, 46, 0, 3]) = true := by
  have e : encS 1 0 0 0 0 = ⟨#[0, 0, 0, 1, 0, 0, 0, 0, 0, 0, 0, 0, 0, 0, 0, 0, 0, 0, 0, 0, 0, 0, 0, 1, 0, 46, 0, 3]⟩ := by decide +kernel
  rw [e]
  decide +kernel

set_option maxHeartbeats 1000000 in
theorem shown_any (w : World) :
    Calls Try.prog 6 #[] w fun o w' => o = .returned (.bool true) ∧ Below w.heap.size w w' := by
  have he := fun w => encode_any 1 0 0 0 0 w
  rw [encE_one] at he
  have HE := hide he
  clear he
  obtain ⟨hs0, hs1, hs2⟩ := encS_one
  generalize encS 1 0 0 0 0 = s at *
  go_enter Try.func6, Try.ntmps6
  go_wp2_with fail
  refine (unhide HE _).mono ?_
  rintro o w1 ⟨rfl, hB⟩
  go_wp2
  go_ret
  exact ⟨rfl, hB⟩

/-- A box of four cells, new. -/
theorem box_new (w : World) (p t e v : Int) : (w.alloc (.cells #[.int .i64 p, .int .i64 t, .int .i64 e, .int .i64 v] 23)).cell? ⟨w.heap.size, 0, none⟩ = some (.int .i64 p) ∧ (w.alloc (.cells #[.int .i64 p, .int .i64 t, .int .i64 e, .int .i64 v] 23)).cell? ⟨w.heap.size, 1, none⟩ = some (.int .i64 t) ∧ (w.alloc (.cells #[.int .i64 p, .int .i64 t, .int .i64 e, .int .i64 v] 23)).cell? ⟨w.heap.size, 2, none⟩ = some (.int .i64 e) ∧ (w.alloc (.cells #[.int .i64 p, .int .i64 t, .int .i64 e, .int .i64 v] 23)).cell? ⟨w.heap.size, 3, none⟩ = some (.int .i64 v) ∧ w.heap.size < (w.alloc (.cells #[.int .i64 p, .int .i64 t, .int .i64 e, .int .i64 v] 23)).heap.size ∧ Below w.heap.size w (w.alloc (.cells #[.int .i64 p, .int .i64 t, .int .i64 e, .int .i64 v] 23)) := by
  refine ⟨?_, ?_, ?_, ?_, by simp, (Below.refl _ _).alloc (Nat.le_refl _) _⟩ <;> (rw [World.cell?_alloc_at _ _ _ _ rfl]; rfl)

set_option maxHeartbeats 1000000 in
theorem encodes_any (n p t e v : Int) (w : World) :
    Calls Try.prog 3 #[.int .i64 n, .agg #[.int .i64 p, .int .i64 t, .int .i64 e, .int .i64 v]] w fun o w' => o = .returned (.bool true) ∧ Below w.heap.size w w' := by
  have HN := hide (num_any (encE n p t e v))
  have H1 := hide (encode_any n p t e v)
  have H2 := hide (rEncode_any n p t e v)
  generalize encS n p t e v = s at *
  generalize encE n p t e v = x at *
  have hss : (s.toList == s.toList) = true := by simp
  have hxx : (x == x) = true := by simp
  have K0 := hide (box_new w p t e v)
  go_enter Try.func3, Try.ntmps3
  go_wp2_with fail
  refine (shown_any _).mono ?_
  rintro o w1 ⟨rfl, hB1⟩
  have k1 := box_keep (unhide K0) hB1
  have K1 := hide k1
  obtain ⟨c0, c1, c2, c3, hz, _⟩ := k1
  clear hB1 K0
  go_wp2_with fail
  refine (unhide H1 _).mono ?_
  rintro o w2 ⟨rfl, hB2⟩
  have k2 := box_keep (unhide K1) hB2
  have K2 := hide k2
  clear c0 c1 c2 c3 hz hB2 K1
  obtain ⟨c0, c1, c2, c3, hz, _⟩ := k2
  go_wp2_with fail
  refine (unhide H2 _).mono ?_
  rintro o w3 ⟨rfl, hB3⟩
  have k3 := hide (box_keep (unhide K2) hB3).2.2.2.2.2
  clear c0 c1 c2 c3 hz hB3 K2
  go_wp2_with fail
  refine (unhide HN _).mono ?_
  rintro o w4 ⟨rfl, rfl⟩
  go_wp2_with fail
  refine (unhide HN _).mono ?_
  rintro o w4 ⟨rfl, rfl⟩
  go_wp2
  go_ret
  exact ⟨rfl, unhide k3⟩
end Go.Proofs.Ytceappncglfciaa
