import Derived.Test.YtceappncglfciaaSlotC
import Derived.RangeFuncNested
import Derived.RangeFuncBound
import Derived.RangeFuncCalls
import Derived.RangeFuncLeaves
import Derived.Shelf.Abstract
import Derived.Shelf.RegionOpen
import Derived.OwnWalkIn
import Derived.TacticsInMore
import Derived.LoopNIn
import Derived.LoopIn
namespace Go.Proofs.Ytceappncglfciaa
open Go.RowKit Go.Shelf
attribute [local go_sem] Oper.semAt_some

def slotOf (disk : ByteArray) (b : Bool) : ByteArray := cond b (disk.extract 28 56) (disk.extract 0 28)
def placeOf (b : Bool) : Int := cond b 28 0
def encsOf (disk : ByteArray) (b : Bool) : Array Value := #[.int .i64 (placeOf b), .string (slotOf disk b)]
/-- What a round that goes on keeps: the disk's own cell. -/
def KpD (Bs : Nat) (A B : World) : Prop := B.cell? ⟨Bs, 0, none⟩ = A.cell? ⟨Bs, 0, none⟩

set_option maxHeartbeats 1000000 in
theorem each_in (F : Fence) (n : Nat) (h : F.fn 19) (hro : F.round = none) (disk : ByteArray) (w : World) :
    CallsIn F n Try.prog 19 #[.string disk] w fun e w' => e = .returned (.func (.func 24) #[] #[.pointer (some ⟨w.heap.size, 0, none⟩)]) ∧ w' = w.alloc (.cells #[.string disk] 9) := by
  refine callsIn_of_wp Try.func19 rfl h ?_ hro
  simp only [Try.ntmps19, List.size_toArray, List.length_cons, List.length_nil, Nat.reduceAdd, Nat.reduceSub, Array.replicate_succ, Array.replicate_zero, List.push_toArray, List.append_toArray, List.nil_append, List.cons_append]
  gi_wp2
  go_ret
  exact ⟨rfl, rfl⟩

set_option maxRecDepth 100000 in
set_option maxHeartbeats 2000000 in
theorem each1_in (F : Fence) (n : Nat) (h : F.fn 24) (hro : F.round = none) (hn : 1 ≤ n) (l Bs : Nat) (disk : ByteArray) (hd : disk.size = 56) (J Jx : List Bool → World → Prop)
    (hY : ∀ pre x W, J pre W → pre.length < 2 → YieldAt F (n - 1) Try.prog l (encsOf disk x) W fun e W' =>
      (e = .returned (.bool true) ∧ J (pre ++ [x]) W' ∧ KpD Bs W W') ∨ (e = .returned (.bool false) ∧ Jx (pre ++ [x]) W'))
    (W : World) (hB : W.cell? ⟨Bs, 0, none⟩ = some (.string disk)) (h0 : J [] W) :
    CallsIn F n Try.prog 24 #[.func (.yield l) #[] #[], .pointer (some ⟨Bs, 0, none⟩)] W fun e W' => (∃ v, e = .returned v) ∧
      ((∃ ys, ys = [false, true] ∧ J ys W') ∨ (∃ pre, True ∧ Jx pre W')) := by
  refine callsIn_of_wp Try.func24 rfl h ?_ hro
  simp only [Try.ntmps24, List.size_toArray, List.length_cons, List.length_nil, Nat.reduceAdd, Nat.reduceSub, Array.replicate_succ, Array.replicate_zero, List.push_toArray, List.append_toArray, List.nil_append, List.cons_append]
  gi_wp2
  gi_loopw [3] (fun i wr => wr.cell? ⟨Bs, 0, none⟩ = some (.string disk) ∧ ((i = .int .i64 0 ∧ J [] wr) ∨ (i = .int .i64 28 ∧ J [false] wr) ∨ (i = .int .i64 56 ∧ J [false, true] wr)))
    (fun i _ => 56 - (intOf i).toNat)
  case atStart => exact ⟨hB, .inl ⟨rfl, h0⟩⟩
  case round =>
    obtain ⟨hBr, hrel⟩ := hrel
    rcases hrel with ⟨rfl, hJs⟩ | ⟨rfl, hJs⟩ | ⟨rfl, hJs⟩
    · obtain ⟨fn, tmps, assign, body, hy, hR⟩ := hY _ false wr hJs (by simp)
      dsimp only [encsOf, placeOf, slotOf, cond_false] at hy
      gi_wp2
      refine hR.mono ?_
      rintro e W3 (⟨rfl, hJ3, hk3⟩ | ⟨rfl, hJx3⟩)
      · gi_wp2
        go_roundw
        case rel => exact ⟨Eq.trans hk3 hBr, .inr (.inl ⟨rfl, hJ3⟩)⟩
        case measure => simp [intOf]
      · gi_wp2
        refine bodyPost_ret (results_none rfl _ _ _) rfl ?_
        exact ⟨⟨_, rfl⟩, .inr ⟨_, trivial, hJx3⟩⟩
    · obtain ⟨fn, tmps, assign, body, hy, hR⟩ := hY _ true wr hJs (by simp)
      dsimp only [encsOf, placeOf, slotOf, cond_true] at hy
      gi_wp2
      refine hR.mono ?_
      rintro e W3 (⟨rfl, hJ3, hk3⟩ | ⟨rfl, hJx3⟩)
      · gi_wp2
        go_roundw
        case rel => exact ⟨Eq.trans hk3 hBr, .inr (.inr ⟨rfl, hJ3⟩)⟩
        case measure => simp [intOf]
      · gi_wp2
        refine bodyPost_ret (results_none rfl _ _ _) rfl ?_
        exact ⟨⟨_, rfl⟩, .inr ⟨_, trivial, hJx3⟩⟩
    · gi_wp2
      go_end0
      exact ⟨⟨_, rfl⟩, .inl ⟨_, rfl, hJs⟩⟩

theorem each_stops (F : Fence) (n : Nat) (h : F.fn 24) (hro : F.round = none) (hn : 1 ≤ n) (Bs : Nat) (disk : ByteArray) (hd : disk.size = 56) (w : World) (hlt : Bs < w.heap.size) (hB : w.cell? ⟨Bs, 0, none⟩ = some (.string disk)) :
    SeqStopsK F n Try.prog 24 #[.pointer (some ⟨Bs, 0, none⟩)] (encsOf disk) (KpD Bs) (fun ys => ys = [false, true]) (fun _ => True) 2 w := fun l J Jx W hW _ _ hY h0 =>
  each1_in F n h hro hn l Bs disk hd J Jx hY W ((hW.cell (p := ⟨Bs, 0, none⟩) hlt).trans hB) h0
end Go.Proofs.Ytceappncglfciaa
