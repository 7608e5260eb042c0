import Derived.Test.YtceappncglfciaaGreatM11
import Derived.Test.YtceappncglfciaaGreatM03
import Derived.Test.YtceappncglfciaaGreatM08
import Derived.Deep.LoopGhost
import Derived.Deep.CutBlock
import Derived.Deep.DeepCutAuto
set_option linter.unusedVariables false
set_option linter.unusedSimpArgs false
/-
  The statements' own small functions: pick, credential.
-/
namespace Go.Proofs.YtceappncglfciaaGreat
open Go.RowKit
attribute [local go_sem ↓] Go.wp_at_zero Go.wp_at_succ

set_option maxHeartbeats 400000 in
theorem pick_any (c n : Int) (w : World) (h : 0 < n) (h2 : n ≤ 4294967290) (hc : -9223372036854775808 ≤ c) (hc2 : c ≤ 9223372036854775807) :
    Calls Tryz.prog 15 #[.int .i64 c, .int .i64 n] w fun o w' => o = .returned (.int .i64 (pickI c n)) ∧ w' = w := by
  by_cases h0 : c < 0
  · have HP : Hid (pickI c n = -((c + 1).tmod n)) := by unfold pickI; rw [if_pos h0]; rfl
    go_enter Tryz.func15, Tryz.ntmps15
    go_wp2
    go_ret
    exact ⟨ret_int (unhide HP).symm, rfl⟩
  · have HP : Hid (pickI c n = c % n) := by unfold pickI; rw [if_neg h0]; rfl
    go_enter Tryz.func15, Tryz.ntmps15
    go_wp2
    go_ret
    exact ⟨ret_int (unhide HP).symm, rfl⟩

end Go.Proofs.YtceappncglfciaaGreat

/-
  The statements' own small functions: credential.
-/
namespace Go.Proofs.YtceappncglfciaaGreat
open Go.RowKit
attribute [local go_sem ↓] Go.wp_at_zero Go.wp_at_succ

set_option maxHeartbeats 1000000 in
theorem credential_any (p t e v m : Int) (w : World) (hm : 0 < m) (hm2 : m ≤ 100)
    (p0 : -9223372036854775808 ≤ p) (p1 : p ≤ 9223372036854775807) (t0 : -9223372036854775808 ≤ t) (t1 : t ≤ 9223372036854775807)
    (e0 : -9223372036854775808 ≤ e) (e1 : e ≤ 9223372036854775807) (v0 : -9223372036854775808 ≤ v) (v1 : v ≤ 9223372036854775807) :
    Calls Tryz.prog 31 #[.agg #[.int .i64 p, .int .i64 t, .int .i64 e, .int .i64 v], .int .i64 m] w fun o w' => o = .returned (.agg #[.int .i64 (pickI p 20), .int .i64 (pickI t m), .int .i64 (pickI e (pickI p 20 + 1)), .int .i64 (pickI v 5)]) ∧ Below w.heap.size w w' := by
  have hr := pickI_range p 20 (by omega)
  have H0 := hide (fun w => pick_any p 20 w (by omega) (by omega) p0 p1)
  have H1 := hide (fun w => pick_any t m w hm (by omega) t0 t1)
  have H2 := hide (fun w => pick_any e (pickI p 20 + 1) w (by omega) (by omega) e0 e1)
  have H3 := hide (fun w => pick_any v 5 w (by omega) (by omega) v0 v1)
  generalize pickI v 5 = x3 at *
  generalize pickI e (pickI p 20 + 1) = x2 at *
  generalize pickI t m = x1 at *
  generalize pickI p 20 = x0 at *
  obtain ⟨r0, r1⟩ := hr
  clear p0 p1 t0 t1 e0 e1 v0 v1
  have hwr : IntKind.i64.wrap (x0 + 1) = x0 + 1 := by rw [IntKind.wrap_i64]; omega
  go_enter Tryz.func31, Tryz.ntmps31
  go_wp2_with fail
  refine (unhide H0 _).mono ?_
  rintro o w1 ⟨rfl, rfl⟩
  go_wp2_with fail
  go_region_held3 (fun W => W.cell? ⟨w.heap.size, 1, none⟩ = some (.int .i64 t) ∧ W.cell? ⟨w.heap.size, 2, none⟩ = some (.int .i64 e) ∧ W.cell? ⟨w.heap.size, 3, none⟩ = some (.int .i64 v)) (refine ⟨?_, ?_, ?_⟩ <;> (simp; done)) ((first | (go_at_call_of 15 (Value.int .i64 t); refine (unhide H1 _).mono ?_; rintro o w1 ⟨rfl, rfl⟩) | (go_at_call_of 15 (Value.int .i64 e); refine (unhide H2 _).mono ?_; rintro o w1 ⟨rfl, rfl⟩) | (go_at_call_of 15 (Value.int .i64 v); refine (unhide H3 _).mono ?_; rintro o w1 ⟨rfl, rfl⟩)))
  go_wp2
  exact bodyPost_ret (v := .agg #[.int .i64 x0, .int .i64 x1, .int .i64 x2, .int .i64 x3]) (by simp [results, Tryz.results31, go_sem]) rfl ⟨rfl, (((Below.refl _ _).alloc (Nat.le_refl _) _).alloc (by simp) _).drew⟩

end Go.Proofs.YtceappncglfciaaGreat

/-
  What the statements ask of the program's town: how it lies is left open; what each call does is told by the plain town.
-/
namespace Go.Proofs.YtceappncglfciaaGreat
open Go.RowKit

/-- How a town lies: where its own block is, and which blocks are its. -/
structure TownRep where
  R : World → Nat → List Nat → TownM → Prop
  lt : ∀ {W : World} {bt : Nat} {bs : List Nat} {T : TownM}, R W bt bs T → ∀ k ∈ bs, k < W.heap.size
  keep : ∀ {W W' : World} {bt : Nat} {bs : List Nat} {T : TownM}, R W bt bs T → (∀ k ∈ bs, W'.heap[k]? = W.heap[k]?) → R W' bt bs T
/-- Behind a call: the town is so; nothing but its blocks has turned. -/
def TDid (S : TownRep) (W : World) (bt : Nat) (bs : List Nat) (w' : World) (T' : TownM) : Prop :=
  ∃ bs', S.R w' bt bs' T' ∧ Keeps bs W w' ∧ ∀ x ∈ bs', x ∈ bs ∨ W.heap.size ≤ x
section
variable {S : TownRep} {W W' w1 w2 : World} {bt : Nat} {bs bs' : List Nat} {T T' : TownM}
theorem TownRep.below (h : S.R W bt bs T) (hb : Below W.heap.size W W') : S.R W' bt bs T := S.keep h (fun k hk => hb.block k (S.lt h k hk))
theorem TDid.rfl' (h : S.R W bt bs T) : TDid S W bt bs W T := ⟨bs, h, Keeps.refl _ _, fun _ hx => .inl hx⟩
theorem TDid.of_below (h : S.R W bt bs T) (hb : Below W.heap.size W w1) : TDid S W bt bs w1 T := ⟨bs, S.below h hb, Keeps.of_below hb, fun _ hx => .inl hx⟩
theorem TDid.pre (h : TDid S W' bt bs w2 T) (hb : Below W.heap.size W W') : TDid S W bt bs w2 T := by
  obtain ⟨b2, hr, hk, hbl⟩ := h
  refine ⟨b2, hr, (Keeps.of_below (fp := bs) hb).trans hk (fun x hx => .inl hx), fun x hx => ?_⟩
  rcases hbl x hx with h1 | h1
  · exact .inl h1
  · exact .inr (Nat.le_trans hb.size h1)
theorem TDid.next (hk : Keeps bs W w1) (hbl : ∀ x ∈ bs', x ∈ bs ∨ W.heap.size ≤ x) (h : TDid S w1 bt bs' w2 T') : TDid S W bt bs w2 T' := by
  obtain ⟨b2, hr2, hk2, hb2⟩ := h
  refine ⟨b2, hr2, hk.trans hk2 hbl, fun x hx => ?_⟩
  rcases hb2 x hx with h1 | h1
  · exact hbl x h1
  · exact .inr (Nat.le_trans hk.size h1)
theorem TDid.post (h : TDid S W bt bs w1 T) (hb : Below w1.heap.size w1 w2) : TDid S W bt bs w2 T := by
  obtain ⟨b2, hr, hk, hbl⟩ := h
  exact TDid.next hk hbl (TDid.of_below hr hb)
end

def credCells (c : CredM) : List Value := [.int .i64 c.p, .int .i64 c.t, .int .i64 c.e, .int .i64 c.v]
/-- What each call of the program does (those that every statement asks). -/
structure Does1 (S : TownRep) : Prop where
  deliver : ∀ (i : Int) (W : World) (bt : Nat) (bs : List Nat) (T : TownM) (K : Int), S.R W bt bs T → Fits K T → K + 2 ≤ 4294967294 → I64 i →
    Calls Tryz.prog 37 #[.pointer (some ⟨bt, 0, none⟩), .int .i64 i] W fun o w' => o = .returned (.int .i64 (T.thereE i)) ∧ TDid S W bt bs w' (T.deliver i)
  tick : ∀ (n : Int) (W : World) (bt : Nat) (bs : List Nat) (T : TownM) (K : Int), S.R W bt bs T → Fits K T → (1 ≤ n ∧ n ≤ 1000 → K + 15 * n ≤ 4294967294) → I64 n →
    Calls Tryz.prog 18 #[.pointer (some ⟨bt, 0, none⟩), .int .i64 n] W fun o w' => o = .returned (.int .i64 (TownM.tickE n)) ∧ TDid S W bt bs w' (T.tickC n)
  state : ∀ (i : Int) (W : World) (bt : Nat) (bs : List Nat) (T : TownM) (K : Int), S.R W bt bs T → Fits K T → K + 2 ≤ 4294967294 → I64 i →
    Calls Tryz.prog 20 #[.pointer (some ⟨bt, 0, none⟩), .int .i64 i] W fun o w' => o = .returned (.tuple #[.int .i64 (T.stateOf i), .int .i64 (T.upE i true)]) ∧ TDid S W bt bs w' T
  disk : ∀ (i : Int) (W : World) (bt : Nat) (bs : List Nat) (T : TownM) (K : Int), S.R W bt bs T → Fits K T → K + 2 ≤ 4294967294 → I64 i →
    Calls Tryz.prog 21 #[.pointer (some ⟨bt, 0, none⟩), .int .i64 i] W fun o w' => o = .returned (.tuple #[.string (strOfNums (T.diskOf i)), .int .i64 (T.isE i)]) ∧ TDid S W bt bs w' T
  messages : ∀ (W : World) (bt : Nat) (bs : List Nat) (T : TownM) (K : Int), S.R W bt bs T → Fits K T →
    Calls Tryz.prog 32 #[.pointer (some ⟨bt, 0, none⟩)] W fun o w' => ∃ a cap, o = .returned (.slice a T.way.length cap) ∧ w'.ownsRow W.heap.size 133 10 (.slice a T.way.length cap) T.way.length (T.way.flatMap MsgM.cells) ∧ TDid S W bt bs w' T ∧
      ∀ g, (Value.slice a T.way.length cap).ownBlock = some g → W.heap.size ≤ g
  new : ∀ (W : World) (g cap : Nat) (l : List CredM) (wait lease net : Int) (cur : Array Value) (t : TypeId), 1 ≤ l.length → l.length ≤ 7 → 1 ≤ wait ∧ wait ≤ 20 → 4 ≤ lease ∧ lease ≤ 100 → 1 ≤ net ∧ net ≤ 1000 → (∀ c ∈ l, c.may l.length) →
    W.heap[g]? = some (.cells cur t (0, 0)) → cur.toList.take (l.length * 4) = l.flatMap credCells → l.length ≤ cap →
    Calls Tryz.prog 16 #[.agg #[.slice (some ⟨g, 0, none⟩) l.length cap, .int .i64 wait, .int .i64 lease, .int .i64 net]] W fun o w' => ∃ bt bs, o = .returned (.tuple #[.pointer (some ⟨bt, 0, none⟩), .int .i64 0]) ∧ S.R w' bt bs (TownM.new wait lease net l) ∧ Below W.heap.size W w' ∧ ∀ x ∈ bs, W.heap.size ≤ x
end Go.Proofs.YtceappncglfciaaGreat

/-
  All messages are delivered, the first one first.
-/
namespace Go.Proofs.YtceappncglfciaaGreat
open Go.RowKit
attribute [local go_sem ↓] Go.wp_at_zero Go.wp_at_succ

theorem flush_none {T : TownM} {f : Nat} (h : T.way.length = 0) : flush (f + 1) T = (true, T) := by
  unfold flush; rw [if_pos h]
theorem flush_many {T : TownM} {f : Nat} (h : T.way.length ≠ 0) (h2 : 950 < T.way.length) : flush (f + 1) T = (false, T) := by
  unfold flush; rw [if_neg h, if_pos h2]
theorem flush_next {T : TownM} {f : Nat} (h : T.way.length ≠ 0) (h2 : ¬ 950 < T.way.length) : flush (f + 1) T = flush f (T.deliver 0) := by
  conv => lhs; unfold flush
  rw [if_neg h, if_neg h2]
set_option maxRecDepth 100000 in
set_option maxHeartbeats 1000000 in
theorem deliverAll_any (S : TownRep) (D : Does1 S) (W : World) (bt : Nat) (bs : List Nat) (T : TownM) (K : Int) (hR : S.R W bt bs T) (hF : Fits K T) (hK : K + 6010 ≤ 4294967294) :
    Calls Tryz.prog 17 #[.pointer (some ⟨bt, 0, none⟩)] W fun o w' => o = .returned (.bool (flush 3000 T).1) ∧ TDid S W bt bs w' (flush 3000 T).2 := by
  have HST := hide (show ∃ T', flush (3000 - 0) T' = flush 3000 T ∧ Fits (K + 2 * ((0 : Nat) : Int)) T' ∧ TDid S W bt bs W T' from ⟨T, rfl, hF.mono (by omega), TDid.rfl' hR⟩)
  have HD := hide D
  clear hR hF D
  go_enter Tryz.func17, Tryz.ntmps17
  go_wp2_with fail
  go_loopg [3] 3000 (fun g i wr => ∃ k : Nat, k ≤ 3000 ∧ g = 3000 - k ∧ i = .int .i64 k ∧ ∃ T', flush (3000 - k) T' = flush 3000 T ∧ Fits (K + 2 * (k : Int)) T' ∧ TDid S W bt bs wr T')
  case atStart => exact ⟨0, by omega, rfl, rfl, unhide HST⟩
  case round =>
    obtain ⟨k, hk, rfl, rfl, T', hfl, hF, hd⟩ := hrel
    clear HST
    by_cases hlt : k < 3000
    · obtain ⟨bs2, hR2, hk2, hb2⟩ := hd
      have HM := hide ((unhide HD).messages wr bt bs2 T' (K + 2 * k) hR2 hF)
      have HNX := hide (fun w' T2 (h : TDid S wr bt bs2 w' T2) => TDid.next hk2 hb2 h)
      have hfk : 3000 - k = (3000 - (k + 1)) + 1 := by omega
      rw [hfk] at hfl
      have HFL := hide hfl
      have HF := hide hF
      clear hR2 hk2 hb2 hfl hF hfk
      have q3 : (k : Int) < 3000 := by omega
      go_wp2_with fail
      refine (unhide HM).mono ?_
      rintro o w2 ⟨sa, cap, rfl, _, hd, _⟩
      have HD2 := hide hd
      clear hd HM
      by_cases h0 : T'.way.length = 0
      · have fin : Hid ((flush 3000 T).1 = true ∧ (flush 3000 T).2 = T') := by
          have := unhide HFL
          rw [flush_none h0] at this
          exact ⟨by rw [← this], by rw [← this]⟩
        have fin2 := hide (unhide HNX _ _ (unhide HD2))
        rw [h0]
        clear HNX HD2 HFL HF HD h0
        go_wp2
        go_ret
        rw [(unhide fin).1, (unhide fin).2]
        exact ⟨rfl, unhide fin2⟩
      · have q0 : ¬ ((T'.way.length : Int) = 0) := by omega
        by_cases h9 : 950 < T'.way.length
        · have fin : Hid ((flush 3000 T).1 = false ∧ (flush 3000 T).2 = T') := by
            have := unhide HFL
            rw [flush_many h0 h9] at this
            exact ⟨by rw [← this], by rw [← this]⟩
          have fin2 := hide (unhide HNX _ _ (unhide HD2))
          have q9 : (950 : Int) < (T'.way.length : Int) := by omega
          clear HNX HD2 HFL HF HD
          go_wp2
          go_ret
          rw [(unhide fin).1, (unhide fin).2]
          exact ⟨rfl, unhide fin2⟩
        · obtain ⟨bs3, hR3, hk3, hb3⟩ := unhide HD2
          have HDL := hide ((unhide HD).deliver 0 w2 bt bs3 T' (K + 2 * k) hR3 (unhide HF) (by omega) ⟨by omega, by omega⟩)
          have HN3 := hide (fun w' T2 (h : TDid S w2 bt bs3 w' T2) => unhide HNX w' T2 (TDid.next hk3 hb3 h))
          have HFL2 : Hid (flush (3000 - (k + 1)) (T'.deliver 0) = flush 3000 T ∧ Fits (K + 2 * ((k + 1 : Nat) : Int)) (T'.deliver 0)) := by
            have h1 := unhide HFL
            rw [flush_next h0 h9] at h1
            have h2 := (unhide HF).deliver 0 (by omega)
            exact ⟨h1, by rw [show K + 2 * ((k + 1 : Nat) : Int) = K + 2 * (k : Int) + 2 from by omega]; exact h2⟩
          have q9 : ¬ (950 : Int) < (T'.way.length : Int) := by omega
          clear HNX HD2 HFL HF HD hR3 hk3 hb3
          go_wp2_with fail
          refine (unhide HDL).mono ?_
          rintro o w3 ⟨rfl, hd⟩
          have fin := hide (unhide HN3 _ _ hd)
          clear hd HDL HN3
          go_wp2
          go_roundg (3000 - (k + 1))
          case measure => omega
          case rel => exact ⟨k + 1, by omega, rfl, by simp, _, (unhide HFL2).1, (unhide HFL2).2, unhide fin⟩
    · have hke : k = 3000 := by omega
      subst hke
      have fin : Hid ((flush 3000 T).1 = false ∧ (flush 3000 T).2 = T') := by
        have h1 : flush 0 T' = flush 3000 T := hfl
        exact ⟨by rw [← h1]; rfl, by rw [← h1]; rfl⟩
      have fin2 := hide hd
      clear hfl hF hd HD
      go_wp2
      go_ret
      rw [(unhide fin).1, (unhide fin).2]
      exact ⟨rfl, unhide fin2⟩
end Go.Proofs.YtceappncglfciaaGreat

/-
  What the other calls of the program do.
-/
namespace Go.Proofs.YtceappncglfciaaGreat
open Go.RowKit

structure Does2 (S : TownRep) : Prop where
  drop : ∀ (i : Int) (W : World) (bt : Nat) (bs : List Nat) (T : TownM) (K : Int), S.R W bt bs T → Fits K T → K + 2 ≤ 4294967294 → I64 i →
    Calls Tryz.prog 35 #[.pointer (some ⟨bt, 0, none⟩), .int .i64 i] W fun o w' => o = .returned (.int .i64 (T.thereE i)) ∧ TDid S W bt bs w' (T.drop i)
  copy : ∀ (i : Int) (W : World) (bt : Nat) (bs : List Nat) (T : TownM) (K : Int), S.R W bt bs T → Fits K T → K + 2 ≤ 4294967294 → I64 i →
    Calls Tryz.prog 36 #[.pointer (some ⟨bt, 0, none⟩), .int .i64 i] W fun o w' => o = .returned (.int .i64 (T.copyE i)) ∧ TDid S W bt bs w' (T.copy i)
  hear : ∀ (i : Int) (W : World) (bt : Nat) (bs : List Nat) (T : TownM) (K : Int), S.R W bt bs T → Fits K T → K + 2 ≤ 4294967294 → I64 i →
    Calls Tryz.prog 34 #[.pointer (some ⟨bt, 0, none⟩), .int .i64 i] W fun o w' => o = .returned (.int .i64 (T.hearE i)) ∧ TDid S W bt bs w' (T.hear i)
  crash : ∀ (i : Int) (W : World) (bt : Nat) (bs : List Nat) (T : TownM) (K : Int), S.R W bt bs T → Fits K T → K + 2 ≤ 4294967294 → I64 i →
    Calls Tryz.prog 23 #[.pointer (some ⟨bt, 0, none⟩), .int .i64 i] W fun o w' => o = .returned (.int .i64 (T.upE i true)) ∧ TDid S W bt bs w' (T.crash i)
  arm : ∀ (i n : Int) (W : World) (bt : Nat) (bs : List Nat) (T : TownM) (K : Int), S.R W bt bs T → Fits K T → K + 2 ≤ 4294967294 → I64 i → I64 n →
    Calls Tryz.prog 33 #[.pointer (some ⟨bt, 0, none⟩), .int .i64 i, .int .i64 n] W fun o w' => o = .returned (.int .i64 (T.armE i n)) ∧ TDid S W bt bs w' (T.arm i n)
  restart : ∀ (i : Int) (W : World) (bt : Nat) (bs : List Nat) (T : TownM) (K : Int), S.R W bt bs T → Fits K T → K + 2 ≤ 4294967294 → I64 i →
    Calls Tryz.prog 24 #[.pointer (some ⟨bt, 0, none⟩), .int .i64 i] W fun o w' => o = .returned (.int .i64 (T.upE i false)) ∧ TDid S W bt bs w' (T.restart i)
structure Does (S : TownRep) : Prop extends Does1 S, Does2 S
end Go.Proofs.YtceappncglfciaaGreat
