/-
  No cell of these rows narrows 'for every input' (looked for: loops, veiled, ifaces, maps, wideKeys, modest, calm, conditions, laid).
  DERIVED. THE GIVEN ROWS OF THIS SEAT. 6 by the template 'for every input the law returns true; each argument reads behind the call as it read before'; 0 by the template 'total and deterministic' (their statements: YtceappncglfciaaGreatTotals.lean).
  GIVEN WITH THE SEED: the statements are not yours to turn. If you find one false, say at which input.
  Laid BY PROGRAM, IN A SANDBOX (cutbox-rows.mjs): the forced cells as the released guide's own fill.sh prints them over the translation da79e691fa104c7f… (all of the seat's roots in one cut). By AI agents, Wed Nov 11 2026. No macro, syntax, notation, axiom, sorry.
-/
import Derived.Test.YtceappncglfciaaGreatChecked
import GoSem.Claim
import GoSem.ClaimJoined
import GoSem.ClaimMapViews
import Derived.JoinedTies
import Derived.KernelRfl
namespace Go.Proofs.YtceappncglfciaaGreat
/- THE CELL 'sum', in the pinned program and in every row, IS THE sha256 OF THE DUMP (.gsa) THAT YtceappncglfciaaGreatProg.lean LOADS. Nothing in Lean hashes anything: it is a label: what it is worth is what the hold of that sum in a sandbox is worth. -/
noncomputable def Tryz.pinned : Pinned := { name := "ytceappncglfciaagreat", sum := "da79e691fa104c7fc7b3522ca2d2e08c65e57a9bcb28d5dfa6a5c0cd3c0b52af", checked := Tryz.checked }
namespace Rows
def none {H : Type} : Left H := { results := [], args := [] }

/-- 'hustingslaw.Votes': WHATEVER THE INPUT: true; the input reads as it did. -/
def votesSpec : ChangeSpec := { name := "votes", fn := fun _ => fun
  | [d1, d2, d3] => { results := [.lit (.bool true)], args := [d1, d2, d3] }
  | _ => none }
def votesRow : OpenClaim := { program := "ytceappncglfciaagreat", sum := "da79e691fa104c7fc7b3522ca2d2e08c65e57a9bcb28d5dfa6a5c0cd3c0b52af", func := "hustings/hustingslaw.Votes", spec := "votes", unfollowed := true, recurses := true, apart := false }
def VotesSaid : Prop := votesRow.holds Tryz.pinned (OpenSpec.ofChange votesSpec)

/-- ITS FALSE NEIGHBOUR: 'it returns false'. Refute it at one input. -/
def votesWrong : ChangeSpec := { name := "votes", fn := fun _ => fun
  | [d1, d2, d3] => { results := [.lit (.bool false)], args := [d1, d2, d3] }
  | _ => none }
def VotesWrongFalsely : Prop := votesRow.holds Tryz.pinned (OpenSpec.ofChange votesWrong)

/-- 'hustingslaw.All': WHATEVER THE INPUT: true; the input reads as it did. -/
def allSpec : ChangeSpec := { name := "all", fn := fun _ => fun
  | [d1, d2, d3] => { results := [.lit (.bool true)], args := [d1, d2, d3] }
  | _ => none }
def allRow : OpenClaim := { program := "ytceappncglfciaagreat", sum := "da79e691fa104c7fc7b3522ca2d2e08c65e57a9bcb28d5dfa6a5c0cd3c0b52af", func := "hustings/hustingslaw.All", spec := "all", unfollowed := true, recurses := true, apart := false }
def AllSaid : Prop := allRow.holds Tryz.pinned (OpenSpec.ofChange allSpec)

/-- ITS FALSE NEIGHBOUR: 'it returns false'. Refute it at one input. -/
def allWrong : ChangeSpec := { name := "all", fn := fun _ => fun
  | [d1, d2, d3] => { results := [.lit (.bool false)], args := [d1, d2, d3] }
  | _ => none }
def AllWrongFalsely : Prop := allRow.holds Tryz.pinned (OpenSpec.ofChange allWrong)

/-- 'hustingskeep.Once': WHATEVER THE INPUT: true; the input reads as it did. -/
def onceSpec : ChangeSpec := { name := "once", fn := fun _ => fun
  | [d1, d2, d3, d4] => { results := [.lit (.bool true)], args := [d1, d2, d3, d4] }
  | _ => none }
def onceRow : OpenClaim := { program := "ytceappncglfciaagreat", sum := "da79e691fa104c7fc7b3522ca2d2e08c65e57a9bcb28d5dfa6a5c0cd3c0b52af", func := "hustings/hustingskeep.Once", spec := "once", unfollowed := true, recurses := true, apart := false }
def OnceSaid : Prop := onceRow.holds Tryz.pinned (OpenSpec.ofChange onceSpec)

/-- ITS FALSE NEIGHBOUR: 'it returns false'. Refute it at one input. -/
def onceWrong : ChangeSpec := { name := "once", fn := fun _ => fun
  | [d1, d2, d3, d4] => { results := [.lit (.bool false)], args := [d1, d2, d3, d4] }
  | _ => none }
def OnceWrongFalsely : Prop := onceRow.holds Tryz.pinned (OpenSpec.ofChange onceWrong)

/-- 'hustingskeep.Chosen': WHATEVER THE INPUT: true; the input reads as it did. -/
def chosenSpec : ChangeSpec := { name := "chosen", fn := fun _ => fun
  | [d1, d2, d3, d4] => { results := [.lit (.bool true)], args := [d1, d2, d3, d4] }
  | _ => none }
def chosenRow : OpenClaim := { program := "ytceappncglfciaagreat", sum := "da79e691fa104c7fc7b3522ca2d2e08c65e57a9bcb28d5dfa6a5c0cd3c0b52af", func := "hustings/hustingskeep.Chosen", spec := "chosen", unfollowed := true, recurses := true, apart := false }
def ChosenSaid : Prop := chosenRow.holds Tryz.pinned (OpenSpec.ofChange chosenSpec)

/-- ITS FALSE NEIGHBOUR: 'it returns false'. Refute it at one input. -/
def chosenWrong : ChangeSpec := { name := "chosen", fn := fun _ => fun
  | [d1, d2, d3, d4] => { results := [.lit (.bool false)], args := [d1, d2, d3, d4] }
  | _ => none }
def ChosenWrongFalsely : Prop := chosenRow.holds Tryz.pinned (OpenSpec.ofChange chosenWrong)

/-- 'hustingskeep.Lost': WHATEVER THE INPUT: true; the input reads as it did. -/
def lostSpec : ChangeSpec := { name := "lost", fn := fun _ => fun
  | [d1, d2] => { results := [.lit (.bool true)], args := [d1, d2] }
  | _ => none }
def lostRow : OpenClaim := { program := "ytceappncglfciaagreat", sum := "da79e691fa104c7fc7b3522ca2d2e08c65e57a9bcb28d5dfa6a5c0cd3c0b52af", func := "hustings/hustingskeep.Lost", spec := "lost", unfollowed := true, recurses := true, apart := false }
def LostSaid : Prop := lostRow.holds Tryz.pinned (OpenSpec.ofChange lostSpec)

/-- ITS FALSE NEIGHBOUR: 'it returns false'. Refute it at one input. -/
def lostWrong : ChangeSpec := { name := "lost", fn := fun _ => fun
  | [d1, d2] => { results := [.lit (.bool false)], args := [d1, d2] }
  | _ => none }
def LostWrongFalsely : Prop := lostRow.holds Tryz.pinned (OpenSpec.ofChange lostWrong)

/-- 'hustingskeep.Stays': WHATEVER THE INPUT: true; the input reads as it did. -/
def staysSpec : ChangeSpec := { name := "stays", fn := fun _ => fun
  | [d1, d2, d3, d4] => { results := [.lit (.bool true)], args := [d1, d2, d3, d4] }
  | _ => none }
def staysRow : OpenClaim := { program := "ytceappncglfciaagreat", sum := "da79e691fa104c7fc7b3522ca2d2e08c65e57a9bcb28d5dfa6a5c0cd3c0b52af", func := "hustings/hustingskeep.Stays", spec := "stays", unfollowed := true, recurses := true, apart := false }
def StaysSaid : Prop := staysRow.holds Tryz.pinned (OpenSpec.ofChange staysSpec)

/-- ITS FALSE NEIGHBOUR: 'it returns false'. Refute it at one input. -/
def staysWrong : ChangeSpec := { name := "stays", fn := fun _ => fun
  | [d1, d2, d3, d4] => { results := [.lit (.bool false)], args := [d1, d2, d3, d4] }
  | _ => none }
def StaysWrongFalsely : Prop := staysRow.holds Tryz.pinned (OpenSpec.ofChange staysWrong)

/- THE SECOND FORM. 'bulk': how many values and letters a reading holds, each counted each time it is reached (what is shared counts as often as it is met; a slice's spare places count too). A statement '..UptoSaid' is the law's where the arguments, and the package variables that the reading takes, are together of bulk at most 1048576: NARROWER than '..Said'. Prove '..Said' where nothing that the law and all that it calls make is longer than what came in: it says more and counts as full. Else prove '..UptoSaid'. A law counts once. -/
mutual
def uptoBulk {H : Type} : DataW H → Nat
  | .lit (.string bytes) => bytes.length + 1
  | .lit _ => 1
  | .nil => 1
  | .ptr d => uptoBulk d + 1
  | .slice elems spare => uptoBulkAll elems + uptoBulkAll spare + 1
  | .agg parts => uptoBulkAll parts + 1
  | .iface _ d => uptoBulk d + 1
  | .map entries => uptoBulkEntries entries + 1
  | .held _ => 1
def uptoBulkAll {H : Type} : List (DataW H) → Nat
  | [] => 0
  | d :: r => uptoBulk d + uptoBulkAll r
def uptoBulkEntries {H : Type} : List (Lit × DataW H) → Nat
  | [] => 0
  | x :: r => uptoBulkEntry x + uptoBulkEntries r
def uptoBulkEntry {H : Type} : Lit × DataW H → Nat
  | (.string bytes, d) => bytes.length + uptoBulk d + 1
  | (_, d) => uptoBulk d + 1
 end
def uptoSmall : (H : Type) → List (DataW H) → Bool := fun _ ds => decide (uptoBulkAll ds ≤ 1048576)
def OpenSpec.upto (s : _root_.Go.ChangeSpec) : _root_.Go.OpenSpec := { _root_.Go.OpenSpec.ofChange s with cond := some uptoSmall }

/-- 'hustingslaw.Votes', WHERE WHAT IT READS IS OF BULK AT MOST 1048576: true; the input reads as it did. -/
def votesUptoRow : OpenClaim := { program := "ytceappncglfciaagreat", sum := "da79e691fa104c7fc7b3522ca2d2e08c65e57a9bcb28d5dfa6a5c0cd3c0b52af", func := "hustings/hustingslaw.Votes", spec := "votes", unfollowed := true, recurses := true, apart := false, narrowed := true }
def VotesUptoSaid : Prop := votesUptoRow.holds Tryz.pinned (OpenSpec.upto votesSpec)

/-- 'hustingslaw.All', WHERE WHAT IT READS IS OF BULK AT MOST 1048576: true; the input reads as it did. -/
def allUptoRow : OpenClaim := { program := "ytceappncglfciaagreat", sum := "da79e691fa104c7fc7b3522ca2d2e08c65e57a9bcb28d5dfa6a5c0cd3c0b52af", func := "hustings/hustingslaw.All", spec := "all", unfollowed := true, recurses := true, apart := false, narrowed := true }
def AllUptoSaid : Prop := allUptoRow.holds Tryz.pinned (OpenSpec.upto allSpec)

/-- 'hustingskeep.Once', WHERE WHAT IT READS IS OF BULK AT MOST 1048576: true; the input reads as it did. -/
def onceUptoRow : OpenClaim := { program := "ytceappncglfciaagreat", sum := "da79e691fa104c7fc7b3522ca2d2e08c65e57a9bcb28d5dfa6a5c0cd3c0b52af", func := "hustings/hustingskeep.Once", spec := "once", unfollowed := true, recurses := true, apart := false, narrowed := true }
def OnceUptoSaid : Prop := onceUptoRow.holds Tryz.pinned (OpenSpec.upto onceSpec)

/-- 'hustingskeep.Chosen', WHERE WHAT IT READS IS OF BULK AT MOST 1048576: true; the input reads as it did. -/
def chosenUptoRow : OpenClaim := { program := "ytceappncglfciaagreat", sum := "da79e691fa104c7fc7b3522ca2d2e08c65e57a9bcb28d5dfa6a5c0cd3c0b52af", func := "hustings/hustingskeep.Chosen", spec := "chosen", unfollowed := true, recurses := true, apart := false, narrowed := true }
def ChosenUptoSaid : Prop := chosenUptoRow.holds Tryz.pinned (OpenSpec.upto chosenSpec)

/-- 'hustingskeep.Lost', WHERE WHAT IT READS IS OF BULK AT MOST 1048576: true; the input reads as it did. -/
def lostUptoRow : OpenClaim := { program := "ytceappncglfciaagreat", sum := "da79e691fa104c7fc7b3522ca2d2e08c65e57a9bcb28d5dfa6a5c0cd3c0b52af", func := "hustings/hustingskeep.Lost", spec := "lost", unfollowed := true, recurses := true, apart := false, narrowed := true }
def LostUptoSaid : Prop := lostUptoRow.holds Tryz.pinned (OpenSpec.upto lostSpec)

/-- 'hustingskeep.Stays', WHERE WHAT IT READS IS OF BULK AT MOST 1048576: true; the input reads as it did. -/
def staysUptoRow : OpenClaim := { program := "ytceappncglfciaagreat", sum := "da79e691fa104c7fc7b3522ca2d2e08c65e57a9bcb28d5dfa6a5c0cd3c0b52af", func := "hustings/hustingskeep.Stays", spec := "stays", unfollowed := true, recurses := true, apart := false, narrowed := true }
def StaysUptoSaid : Prop := staysUptoRow.holds Tryz.pinned (OpenSpec.upto staysSpec)

end Rows
end Go.Proofs.YtceappncglfciaaGreat
