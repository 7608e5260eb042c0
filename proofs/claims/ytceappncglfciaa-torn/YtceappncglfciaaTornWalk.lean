import Derived.Test.YtceappncglfciaaTornPlain
import Derived.Deep.RegionHeld3
import Derived.Deep.DrawnRows
namespace Go.Proofs.Ytceappncglfciaa
open Go.RowKit
attribute [local go_sem ↓] Go.wp_at_zero Go.wp_at_succ

def pickI (c n : Int) : Int := if c < 0 then -((c + 1).tmod n) else c % n
theorem pickI_range (c n : Int) (hn : 0 < n) : 0 ≤ pickI c n ∧ pickI c n < n := by
  unfold pickI
  split
  · rename_i h
    have e : -((c + 1).tmod n) = (-(c + 1)) % n := by
      rw [← Int.neg_tmod, Int.tmod_eq_emod_of_nonneg (by omega)]
    rw [e]
    exact ⟨Int.emod_nonneg _ (by omega), Int.emod_lt_of_pos _ hn⟩
  · exact ⟨Int.emod_nonneg _ (by omega), Int.emod_lt_of_pos _ hn⟩

set_option maxHeartbeats 400000 in
theorem pick_any (c n : Int) (w : World) (h : 0 < n) (h2 : n ≤ 4294967290) (hc : -9223372036854775808 ≤ c) (hc2 : c ≤ 9223372036854775807) :
    Calls Try.prog 12 #[.int .i64 c, .int .i64 n] w fun o w' => o = .returned (.int .i64 (pickI c n)) ∧ w' = w := by
  by_cases h0 : c < 0
  · have HP : Hid (pickI c n = -((c + 1).tmod n)) := by unfold pickI; rw [if_pos h0]; rfl
    go_enter Try.func12, Try.ntmps12
    go_wp2
    go_ret
    exact ⟨ret_int (unhide HP).symm, rfl⟩
  · have HP : Hid (pickI c n = c % n) := by unfold pickI; rw [if_neg h0]; rfl
    go_enter Try.func12, Try.ntmps12
    go_wp2
    go_ret
    exact ⟨ret_int (unhide HP).symm, rfl⟩

set_option maxHeartbeats 1000000 in
theorem credential_any (p t e v m : Int) (w : World) (hm : 0 < m) (hm2 : m ≤ 100)
    (p0 : -9223372036854775808 ≤ p) (p1 : p ≤ 9223372036854775807) (t0 : -9223372036854775808 ≤ t) (t1 : t ≤ 9223372036854775807)
    (e0 : -9223372036854775808 ≤ e) (e1 : e ≤ 9223372036854775807) (v0 : -9223372036854775808 ≤ v) (v1 : v ≤ 9223372036854775807) :
    Calls Try.prog 13 #[.agg #[.int .i64 p, .int .i64 t, .int .i64 e, .int .i64 v], .int .i64 m] w fun o w' => o = .returned (.agg #[.int .i64 (pickI p 20), .int .i64 (pickI t m), .int .i64 (pickI e (pickI p 20 + 1)), .int .i64 (pickI v 5)]) ∧ Below w.heap.size w w' := by
  have hr := pickI_range p 20 (by omega)
  have H0 := hide (fun w => pick_any p 20 w (by omega) (by omega) p0 p1)
  have H1 := hide (fun w => pick_any t m w hm (by omega) t0 t1)
  have H2 := hide (fun w => pick_any e (pickI p 20 + 1) w (by omega) (by omega) e0 e1)
  have H3 := hide (fun w => pick_any v 5 w (by omega) (by omega) v0 v1)
  generalize pickI v 5 = x3 at *
  generalize pickI e (pickI p 20 + 1) = x2 at *
  generalize pickI t m = x1 at *
  generalize pickI p 20 = x0 at *
  obtain ⟨r0, r1⟩ := hr
  clear p0 p1 t0 t1 e0 e1 v0 v1
  have hwr : IntKind.i64.wrap (x0 + 1) = x0 + 1 := by rw [IntKind.wrap_i64]; omega
  go_enter Try.func13, Try.ntmps13
  go_wp2_with fail
  refine (unhide H0 _).mono ?_
  rintro o w1 ⟨rfl, rfl⟩
  go_wp2_with fail
  go_region_held3 (fun W => W.cell? ⟨w.heap.size, 1, none⟩ = some (.int .i64 t) ∧ W.cell? ⟨w.heap.size, 2, none⟩ = some (.int .i64 e) ∧ W.cell? ⟨w.heap.size, 3, none⟩ = some (.int .i64 v)) (refine ⟨?_, ?_, ?_⟩ <;> (simp; done)) ((first | (go_at_call_of 12 (Value.int .i64 t); refine (unhide H1 _).mono ?_; rintro o w1 ⟨rfl, rfl⟩) | (go_at_call_of 12 (Value.int .i64 e); refine (unhide H2 _).mono ?_; rintro o w1 ⟨rfl, rfl⟩) | (go_at_call_of 12 (Value.int .i64 v); refine (unhide H3 _).mono ?_; rintro o w1 ⟨rfl, rfl⟩)))
  go_wp2
  exact bodyPost_ret (v := .agg #[.int .i64 x0, .int .i64 x1, .int .i64 x2, .int .i64 x3]) (by simp [results, Try.results13, go_sem]) rfl ⟨rfl, (((Below.refl _ _).alloc (Nat.le_refl _) _).alloc (by simp) _).drew⟩

/-- Four cells and their marks. -/
theorem Box.four {W : World} {b : Nat} {a0 a1 a2 a3 : Value} {t : TypeId} (h : Box W b #[a0, a1, a2, a3] t) :
    (W.cell? ⟨b, 0, none⟩ = some a0 ∧ W.cell? ⟨b, 1, none⟩ = some a1 ∧ W.cell? ⟨b, 2, none⟩ = some a2 ∧ W.cell? ⟨b, 3, none⟩ = some a3) ∧ W.frozen? ⟨b, 0, none⟩ = false ∧ W.frozen? ⟨b, 1, none⟩ = false ∧ W.frozen? ⟨b, 2, none⟩ = false ∧ W.frozen? ⟨b, 3, none⟩ = false :=
  ⟨⟨h.cell 0, h.cell 1, h.cell 2, h.cell 3⟩, h.frozen 0, h.frozen 1, h.frozen 2, h.frozen 3⟩
/-- A whole struct stored into its box. -/
theorem Box.set4 {W : World} {b : Nat} {a0 a1 a2 a3 : Value} {t : TypeId} (h : Box W b #[a0, a1, a2, a3] t) (b0 b1 b2 b3 : Value) :
    Box ((((W.setCell ⟨b, 0, none⟩ b0).setCell ⟨b, 1, none⟩ b1).setCell ⟨b, 2, none⟩ b2).setCell ⟨b, 3, none⟩ b3) b #[b0, b1, b2, b3] t :=
  (((h.set 0 b0).set 1 b1).set 2 b2).set 3 b3
theorem Box.other4 {W : World} {b c : Nat} {cs : Array Value} {t : TypeId} (h : Box W b cs t) (hne : b ≠ c) (b0 b1 b2 b3 : Value) :
    Box ((((W.setCell ⟨c, 0, none⟩ b0).setCell ⟨c, 1, none⟩ b1).setCell ⟨c, 2, none⟩ b2).setCell ⟨c, 3, none⟩ b3) b cs t :=
  (((h.setOther (a := ⟨c, 0, none⟩) hne b0).setOther (a := ⟨c, 1, none⟩) hne b1).setOther (a := ⟨c, 2, none⟩) hne b2).setOther (a := ⟨c, 3, none⟩) hne b3
theorem below_set4 {w W : World} {B c : Nat} (h : Below B w W) (hc : B ≤ c) (b0 b1 b2 b3 : Value) :
    Below B w ((((W.setCell ⟨c, 0, none⟩ b0).setCell ⟨c, 1, none⟩ b1).setCell ⟨c, 2, none⟩ b2).setCell ⟨c, 3, none⟩ b3) :=
  (((h.setCell (p := ⟨c, 0, none⟩) hc b0).setCell (p := ⟨c, 1, none⟩) hc b1).setCell (p := ⟨c, 2, none⟩) hc b2).setCell (p := ⟨c, 3, none⟩) hc b3
/-- What Torn holds of its worlds: its three boxes. -/
def InvT (w : World) (a0 a1 a2 a3 b0 b1 b2 b3 c0 c1 c2 c3 : Int) (W : World) : Prop :=
  Box W w.heap.size #[.int .i64 a0, .int .i64 a1, .int .i64 a2, .int .i64 a3] 23 ∧ Box W (w.heap.size + 1) #[.int .i64 b0, .int .i64 b1, .int .i64 b2, .int .i64 b3] 23 ∧ Box W (w.heap.size + 1 + 1) #[.int .i64 c0, .int .i64 c1, .int .i64 c2, .int .i64 c3] 23 ∧ Below w.heap.size w W
section
variable {w W W' : World} {a0 a1 a2 a3 b0 b1 b2 b3 c0 c1 c2 c3 : Int}
theorem InvT.keep (h : InvT w a0 a1 a2 a3 b0 b1 b2 b3 c0 c1 c2 c3 W) (hb : Below W.heap.size W W') : InvT w a0 a1 a2 a3 b0 b1 b2 b3 c0 c1 c2 c3 W' :=
  ⟨h.1.keep hb, h.2.1.keep hb, h.2.2.1.keep hb, h.2.2.2.trans (hb.mono h.2.2.2.size)⟩
theorem InvT.alloc (h : InvT w a0 a1 a2 a3 b0 b1 b2 b3 c0 c1 c2 c3 W) (o : Obj) : InvT w a0 a1 a2 a3 b0 b1 b2 b3 c0 c1 c2 c3 (W.alloc o) := h.keep ((Below.refl _ _).alloc (Nat.le_refl _) _)
theorem InvT.drew (h : InvT w a0 a1 a2 a3 b0 b1 b2 b3 c0 c1 c2 c3 W) : InvT w a0 a1 a2 a3 b0 b1 b2 b3 c0 c1 c2 c3 W.drew := h.keep (Below.refl _ _).drew
theorem InvT.setA (h : InvT w a0 a1 a2 a3 b0 b1 b2 b3 c0 c1 c2 c3 W) (x0 x1 x2 x3 : Int) : InvT w x0 x1 x2 x3 b0 b1 b2 b3 c0 c1 c2 c3 ((((W.setCell ⟨w.heap.size, 0, none⟩ (.int .i64 x0)).setCell ⟨w.heap.size, 1, none⟩ (.int .i64 x1)).setCell ⟨w.heap.size, 2, none⟩ (.int .i64 x2)).setCell ⟨w.heap.size, 3, none⟩ (.int .i64 x3)) :=
  ⟨h.1.set4 _ _ _ _, h.2.1.other4 (by omega) _ _ _ _, h.2.2.1.other4 (by omega) _ _ _ _, below_set4 h.2.2.2 (by omega) _ _ _ _⟩
theorem InvT.setB (h : InvT w a0 a1 a2 a3 b0 b1 b2 b3 c0 c1 c2 c3 W) (x0 x1 x2 x3 : Int) : InvT w a0 a1 a2 a3 x0 x1 x2 x3 c0 c1 c2 c3 ((((W.setCell ⟨w.heap.size + 1, 0, none⟩ (.int .i64 x0)).setCell ⟨w.heap.size + 1, 1, none⟩ (.int .i64 x1)).setCell ⟨w.heap.size + 1, 2, none⟩ (.int .i64 x2)).setCell ⟨w.heap.size + 1, 3, none⟩ (.int .i64 x3)) :=
  ⟨h.1.other4 (by omega) _ _ _ _, h.2.1.set4 _ _ _ _, h.2.2.1.other4 (by omega) _ _ _ _, below_set4 h.2.2.2 (by omega) _ _ _ _⟩
theorem InvT.setC (h : InvT w a0 a1 a2 a3 b0 b1 b2 b3 c0 c1 c2 c3 W) (x0 x1 x2 x3 : Int) : InvT w a0 a1 a2 a3 b0 b1 b2 b3 x0 x1 x2 x3 ((((W.setCell ⟨w.heap.size + 1 + 1, 0, none⟩ (.int .i64 x0)).setCell ⟨w.heap.size + 1 + 1, 1, none⟩ (.int .i64 x1)).setCell ⟨w.heap.size + 1 + 1, 2, none⟩ (.int .i64 x2)).setCell ⟨w.heap.size + 1 + 1, 3, none⟩ (.int .i64 x3)) :=
  ⟨h.1.other4 (by omega) _ _ _ _, h.2.1.other4 (by omega) _ _ _ _, h.2.2.1.set4 _ _ _ _, below_set4 h.2.2.2 (by omega) _ _ _ _⟩
end
end Go.Proofs.Ytceappncglfciaa
