import Derived.Test.YtceappncglfciaaRefA
import Derived.Maps.AppendAt
namespace Go.Proofs.Ytceappncglfciaa
open Go.RowKit

theorem Try.info5 : (Try.prog.info? 5).map (fun i => (i.zero, i.size, i.bytes)) = some (some (.int .u8 0), 1, 1) := by kernel_rfl

/-- The cells of a list of bytes. -/
def u8s (l : List Int) : List Value := l.map (Value.int .u8)

set_option maxHeartbeats 400000 in
theorem appendNumber_any (B : Nat) (v : Value) (l : List Int) (n : Int) (w : World) (h0 : 0 ≤ n) (h1 : n ≤ 4294967295) (hl : l.length ≤ 100) (hB : B ≤ w.heap.size)
    (hown : w.ownsRow B 5 1 v l.length (u8s l)) :
    Calls Try.prog 22 #[v, .int .u32 n] w fun e w' => ∃ v', e = .returned v' ∧ w'.ownsRow B 5 1 v' (l ++ num4 n).length (u8s (l ++ num4 n)) ∧ Below B w w' := by
  obtain ⟨i0, hi, hz0, hz1, hz2⟩ := info_parts Try.info5
  go_enter Try.func22, Try.ntmps22
  go_wp2_with (at_builtin; refine wpList_append_own _ rfl _ _ 48 rfl B 5 i0 (.int .u8 0) 1 1 Try.underlying48 hi hz0 hz1 hz2 rfl (by decide) _ _ _ rfl (hown.alloc _) ⟨w.heap.size, 0, none⟩ 4 4 (u8s (num4 n)) rfl rfl ?c1 ?c2 ?c3 ?c4 ?c5 ?_)
  case c1 =>
    intro j u hj
    rw [show (⟨w.heap.size, 0, none⟩ : Addr).add j = ⟨w.heap.size, j, none⟩ from by unfold Addr.add; split <;> simp_all]
    rw [World.cell?_alloc_at _ _ _ _ rfl]
    simpa [u8s, num4] using hj
  case c2 =>
    intro u hu
    simp [u8s, num4] at hu
    rcases hu with rfl | rfl | rfl | rfl <;> rfl
  case c3 => unfold maxLen; omega
  case c4 => omega
  case c5 => simp; omega
  intro v' w1 hown' hgrow _
  have hB2 : Below B w w1 := ((Below.refl B w).alloc hB _).grown hgrow (by simp; omega) (fun k hk => (hown.lt k hk).1)
  go_wp2
  go_ret
  exact ⟨v', rfl, by simpa [u8s, num4_len] using hown', hB2⟩

set_option maxHeartbeats 400000 in
theorem psum_any (b cap : Nat) (l : List Int) (w : World) (hl : l.length ≤ 100) (hby : BytesL l)
    (hc : ∀ i, i < l.length → w.cell? ⟨b, i, none⟩ = some (.int .u8 (l.getD i 0))) :
    Calls Try.prog 23 #[.slice (some ⟨b, 0, none⟩) l.length cap] w fun e w' => e = .returned (.int .u32 (sumV l)) ∧ w' = w := by
  go_enter Try.func23, Try.ntmps23
  go_wp2
  go_loop [3, 4, 9] (fun a b i => ∃ k : Nat, k ≤ l.length ∧ i = .int .i64 k ∧ a = .int .u32 (ad (l.take k)).1 ∧ b = .int .u32 (ad (l.take k)).2) (fun _ _ i => l.length - (intOf i).toNat)
  case atStart => exact ⟨0, Nat.zero_le _, rfl, rfl, rfl⟩
  case round =>
    obtain ⟨k, hk, rfl, rfl, rfl⟩ := hrel
    have hd := ad_range (l.take k)
    obtain ⟨d1, d2, d3, d4⟩ := hd
    by_cases hlt : k < l.length
    · have hck := hc k hlt
      obtain ⟨q1, q2⟩ := ad_roundP l k hlt hby
      have Q1 : Hid _ := q1
      have Q2 : Hid _ := q2
      clear q1 q2
      go_wp2
      go_round
      case rel => exact ⟨k + 1, by omega, by go_num, by rw [Q1.out], by rw [Q2.out]⟩
      case measure => simp [intOf]; omega
    · have hk' : k = l.length := by omega
      have HE : Hid (bits BinOp.or IntKind.u32 ((ad (l.take k)).snd * 65536) (ad (l.take k)).fst = sumV l) := by
        show _ = _
        rw [u32_or16 _ _ d3 (by omega) d1 (by omega), hk', List.take_length]
        unfold sumV; omega
      clear hk'
      go_wp2
      go_ret
      rw [HE.out]
      exact ⟨rfl, rfl⟩

set_option maxHeartbeats 400000 in
theorem fit_any (b cap : Nat) (l : List Int) (w : World) (hl : l.length ≤ 100)
    (hc : ∀ i, i < l.length → w.cell? ⟨b, i, none⟩ = some (.int .i64 (l.getD i 0))) :
    Calls Try.prog 14 #[.slice (some ⟨b, 0, none⟩) l.length cap] w fun e w' => e = .returned (.bool (!l.any wideB)) ∧ w' = w := by
  go_enter Try.func14, Try.ntmps14
  go_wp2
  go_loop [4, 7] (fun _ i => ∃ k : Nat, k ≤ l.length ∧ i = .int .i64 k ∧ (l.take k).any wideB = false) (fun _ i => l.length - (intOf i).toNat)
  case atStart => exact ⟨0, Nat.zero_le _, rfl, rfl⟩
  case round =>
    obtain ⟨k, hk, rfl, hno⟩ := hrel
    have HN : Hid _ := hno
    clear hno
    by_cases hlt : k < l.length
    · have hck := hc k hlt
      by_cases h1 : l[k] < 0
      · have Y : Hid (l.any wideB = true) := any_at hlt (by simp [wideB, h1])
        go_wp2
        go_ret
        exact ⟨ret_bool (by rw [Y.out]; rfl), rfl⟩
      · by_cases h2 : 4294967295 < l[k]
        · have Y : Hid (l.any wideB = true) := any_at hlt (by simp [wideB, h2])
          go_wp2
          go_ret
          exact ⟨ret_bool (by rw [Y.out]; rfl), rfl⟩
        · have Y : Hid ((l.take (k + 1)).any wideB = false) := any_next hlt HN.out (by simp [wideB]; omega)
          go_wp2
          go_round
          case rel => exact ⟨k + 1, by omega, by go_num, Y.out⟩
          case measure => simp [intOf]; omega
    · have Y : Hid (l.any wideB = false) := by
        have := HN.out
        rw [List.take_of_length_le (by omega)] at this
        exact this
      go_wp2
      go_ret
      exact ⟨ret_bool (by rw [Y.out]; rfl), rfl⟩

/-- What the rounds of 'write' have laid. -/
def laid (l : List Int) : List Int := l.flatMap num4
theorem laid_snoc (l : List Int) (x : Int) : laid (l ++ [x]) = laid l ++ num4 x := by simp [laid]
theorem laid_len (l : List Int) : (laid l).length = 4 * l.length := by
  induction l with
  | nil => rfl
  | cons x l ih => simp [laid, num4_len] at ih ⊢; omega

def zero28 : Array Value := Array.replicate 28 (.int .u8 0)
theorem make28 (w : World) : (Instr.makeSlice 48 (.int .i64 0) (.int .i64 28)).run Try.prog w = .ok (.slice (some ⟨w.heap.size, 0, none⟩) 0 28) (w.alloc (.cells zero28 5)) := by kernel_rfl

/-- What a row that is owned reads as. -/
theorem row_cells {w : World} {B : Nat} {v : Value} {l : List Int} (h : w.ownsRow B 5 1 v l.length (u8s l)) (hp : 0 < l.length) :
    ∃ g cap, v = .slice (some ⟨g, 0, none⟩) l.length cap ∧ B ≤ g ∧ g < w.heap.size ∧ ∀ i, i < l.length → w.cell? ⟨g, i, none⟩ = some (.int .u8 (l.getD i 0)) := by
  rcases h.2 with ⟨_, h0⟩ | ⟨g, cap, cur, rfl, hb, hg, _, _, _, ht⟩
  · omega
  · refine ⟨g, cap, rfl, hb, ?_, ?_⟩
    · rcases Nat.lt_or_ge g w.heap.size with hlt | hge
      · exact hlt
      · rw [Array.getElem?_eq_none hge] at hg; cases hg
    · intro i hi
      rw [cell_of_row w g i cur 5 (0, 0) hg]
      have e : (cur.toList.take (l.length * 1))[i]? = (u8s l)[i]? := by rw [ht]
      rw [List.getElem?_take_of_lt (by omega)] at e
      rw [← Array.getElem?_toList, e]
      simp [u8s, hi]

set_option maxHeartbeats 1000000 in
theorem write_any (b cap : Nat) (l : List Int) (w : World) (hl : l.length ≤ 10) (hp : 0 < l.length) (hb : b < w.heap.size) (hr : ∀ x ∈ l, 0 ≤ x ∧ x ≤ 4294967295) (hby : BytesL (laid l))
    (hc : ∀ i, i < l.length → w.cell? ⟨b, i, none⟩ = some (.int .i64 (l.getD i 0))) :
    Calls Try.prog 15 #[.slice (some ⟨b, 0, none⟩) l.length cap] w fun e w' => e = .returned (.string (strOfNums (laid l ++ num4 (sumV (laid l))))) ∧ Below w.heap.size w w' := by
  have hmk := make28
  go_enter Try.func15, Try.ntmps15
  go_wp2
  clear hmk
  go_loopw [3, 9] (fun v i wr => ∃ k : Nat, k ≤ l.length ∧ i = .int .i64 k ∧ wr.ownsRow w.heap.size 5 1 v (laid (l.take k)).length (u8s (laid (l.take k))) ∧ Below w.heap.size w wr) (fun _ i _ => l.length - (intOf i).toNat)
  case atStart => exact ⟨0, Nat.zero_le _, rfl, World.ownsRow_made _ _ _ (Nat.le_refl _) (by decide) rfl, (Below.refl _ _).alloc (Nat.le_refl _) _⟩
  case round =>
    obtain ⟨k, hk, rfl, hown, hB⟩ := hrel
    by_cases hlt : k < l.length
    · have hck := (hB.cell (p := ⟨b, k, none⟩) hb).trans (hc k hlt)
      have hrk := hr l[k] (List.getElem_mem hlt)
      obtain ⟨r0, r1⟩ := hrk
      have hlk : (laid (l.take k)).length ≤ 100 := by rw [laid_len, List.length_take]; omega
      have hsn : Hid (laid (l.take (k + 1)) = laid (l.take k) ++ num4 l[k]) := by
        show _ = _
        rw [List.take_succ_eq_append_getElem hlt, laid_snoc]
      go_wp2_with fail
      refine (appendNumber_any w.heap.size u3 (laid (l.take k)) l[k] wr r0 r1 hlk hB.size hown).mono ?_
      rintro e w1 ⟨v', rfl, hown', hB'⟩
      have hB2 := hB.trans hB'
      clear hown hB hB' hck
      go_wp2
      go_roundw
      case rel => exact ⟨k + 1, by omega, by go_num, by rw [hsn.out]; exact hown', hB2⟩
      case measure => simp [intOf]; omega
    · have hk' : l.take k = l := List.take_of_length_le (by omega)
      rw [hk'] at hown
      clear hk'
      have hlen := laid_len l
      obtain ⟨g, cp, rfl, hg0, hg1, hgc⟩ := row_cells hown (by omega)
      have hsr := sumV_range (laid l)
      obtain ⟨s0, s1⟩ := hsr
      have HL : Hid _ := hlen
      have HOWN : Hid _ := hown
      have HGC : Hid _ := hgc
      have hl40 : (laid l).length ≤ 40 := by omega
      clear hlen hown hgc
      go_wp2_with fail
      refine (psum_any g cp (laid l) wr (by omega) hby HGC.out).mono ?_
      rintro e w1 ⟨rfl, rfl⟩
      go_wp2_with fail
      refine (appendNumber_any w.heap.size _ (laid l) (sumV (laid l)) _ s0 s1 (by omega) hB.size HOWN.out).mono ?_
      rintro e w2 ⟨v', rfl, hown', hB'⟩
      obtain ⟨g2, cp2, rfl, _, _, hgc2⟩ := row_cells hown' (by simp [num4_len])
      have hcv := run_convert_bytes_arg (P := Try.prog) w2 48 5 Try.underlying48 Try.underlying5 g2 0 _ cp2 _ rfl (fun i hi => by rw [Nat.zero_add]; exact hgc2 i hi) 9 Try.underlying9
      have hB2 := hB.trans hB'
      clear hgc2 hown' hB hB' HGC HOWN HL hc hr hby
      generalize hL2 : laid l ++ num4 (sumV (laid l)) = L2 at *
      have HL2 : Hid _ := hL2
      clear hL2
      go_wp2
      go_ret
      rw [HL2.out]
      exact ⟨rfl, hB2⟩
end Go.Proofs.Ytceappncglfciaa
