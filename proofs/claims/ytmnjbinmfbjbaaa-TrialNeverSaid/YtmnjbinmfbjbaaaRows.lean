/-
  No cell of these rows narrows 'for every input' (looked for: loops, veiled, ifaces, maps, wideKeys, modest, calm, conditions, laid).
  DERIVED. THE GIVEN ROWS OF THIS SEAT. 2 by the template 'for every input the law returns true; each argument reads behind the call as it read before'; 0 by the template 'total and deterministic' (their statements: YtmnjbinmfbjbaaaTotals.lean).
  GIVEN WITH THE SEED: the statements are not yours to turn. If you find one false, say at which input.
  Laid BY PROGRAM, IN A SANDBOX (cutbox-rows.mjs): the forced cells as the released guide's own fill.sh prints them over the translation 6284f4ed0d6174ce… (all of the seat's roots in one cut). By AI agents, Wed Nov 11 2026. No macro, syntax, notation, axiom, sorry.
-/
import Derived.Test.YtmnjbinmfbjbaaaChecked
import GoSem.Claim
import GoSem.ClaimJoined
import GoSem.ClaimMapViews
import Derived.JoinedTies
import Derived.KernelRfl
namespace Go.Proofs.Ytmnjbinmfbjbaaa
/- THE CELL 'sum', in the pinned program and in every row, IS THE sha256 OF THE DUMP (.gsa) THAT YtmnjbinmfbjbaaaProg.lean LOADS. Nothing in Lean hashes anything: it is a label: what it is worth is what the hold of that sum in a sandbox is worth. -/
noncomputable def Try.pinned : Pinned := { name := "ytmnjbinmfbjbaaa", sum := "6284f4ed0d6174ce2f78d5344d3e8c05055c5bc8930145581e3fa6bdb937bccd", checked := Try.checked }
namespace Rows
def none {H : Type} : Left H := { results := [], args := [] }

/-- 'socagelaw11.TrialTells': WHATEVER THE INPUT: true; the input reads as it did. -/
def trialTellsSpec : ChangeSpec := { name := "trialTells", fn := fun _ => fun
  | [d1, d2, d3] => { results := [.lit (.bool true)], args := [d1, d2, d3] }
  | _ => none }
def trialTellsRow : OpenClaim := { program := "ytmnjbinmfbjbaaa", sum := "6284f4ed0d6174ce2f78d5344d3e8c05055c5bc8930145581e3fa6bdb937bccd", func := "socage/socagelaw11.TrialTells", spec := "trialTells", unfollowed := true, recurses := true, apart := false }
def TrialTellsSaid : Prop := trialTellsRow.holds Try.pinned (OpenSpec.ofChange trialTellsSpec)

/-- ITS FALSE NEIGHBOUR: 'it returns false'. Refute it at one input. -/
def trialTellsWrong : ChangeSpec := { name := "trialTells", fn := fun _ => fun
  | [d1, d2, d3] => { results := [.lit (.bool false)], args := [d1, d2, d3] }
  | _ => none }
def TrialTellsWrongFalsely : Prop := trialTellsRow.holds Try.pinned (OpenSpec.ofChange trialTellsWrong)

/-- 'socagelaw11.TrialNever': WHATEVER THE INPUT: true; the input reads as it did. -/
def trialNeverSpec : ChangeSpec := { name := "trialNever", fn := fun _ => fun
  | [d1, d2, d3] => { results := [.lit (.bool true)], args := [d1, d2, d3] }
  | _ => none }
def trialNeverRow : OpenClaim := { program := "ytmnjbinmfbjbaaa", sum := "6284f4ed0d6174ce2f78d5344d3e8c05055c5bc8930145581e3fa6bdb937bccd", func := "socage/socagelaw11.TrialNever", spec := "trialNever", unfollowed := true, recurses := true, apart := false }
def TrialNeverSaid : Prop := trialNeverRow.holds Try.pinned (OpenSpec.ofChange trialNeverSpec)

/-- ITS FALSE NEIGHBOUR: 'it returns false'. Refute it at one input. -/
def trialNeverWrong : ChangeSpec := { name := "trialNever", fn := fun _ => fun
  | [d1, d2, d3] => { results := [.lit (.bool false)], args := [d1, d2, d3] }
  | _ => none }
def TrialNeverWrongFalsely : Prop := trialNeverRow.holds Try.pinned (OpenSpec.ofChange trialNeverWrong)

/- THE SECOND FORM. 'bulk': how many values and letters a reading holds, each counted each time it is reached (what is shared counts as often as it is met; a slice's spare places count too). A statement '..UptoSaid' is the law's where the arguments, and the package variables that the reading takes, are together of bulk at most 1048576: NARROWER than '..Said'. Prove '..Said' where nothing that the law and all that it calls make is longer than what came in: it says more and counts as full. Else prove '..UptoSaid'. A law counts once. -/
mutual
def uptoBulk {H : Type} : DataW H → Nat
  | .lit (.string bytes) => bytes.length + 1
  | .lit _ => 1
  | .nil => 1
  | .ptr d => uptoBulk d + 1
  | .slice elems spare => uptoBulkAll elems + uptoBulkAll spare + 1
  | .agg parts => uptoBulkAll parts + 1
  | .iface _ d => uptoBulk d + 1
  | .map entries => uptoBulkEntries entries + 1
  | .held _ => 1
def uptoBulkAll {H : Type} : List (DataW H) → Nat
  | [] => 0
  | d :: r => uptoBulk d + uptoBulkAll r
def uptoBulkEntries {H : Type} : List (Lit × DataW H) → Nat
  | [] => 0
  | x :: r => uptoBulkEntry x + uptoBulkEntries r
def uptoBulkEntry {H : Type} : Lit × DataW H → Nat
  | (.string bytes, d) => bytes.length + uptoBulk d + 1
  | (_, d) => uptoBulk d + 1
 end
def uptoSmall : (H : Type) → List (DataW H) → Bool := fun _ ds => decide (uptoBulkAll ds ≤ 1048576)
def OpenSpec.upto (s : _root_.Go.ChangeSpec) : _root_.Go.OpenSpec := { _root_.Go.OpenSpec.ofChange s with cond := some uptoSmall }

/-- 'socagelaw11.TrialTells', WHERE WHAT IT READS IS OF BULK AT MOST 1048576: true; the input reads as it did. -/
def trialTellsUptoRow : OpenClaim := { program := "ytmnjbinmfbjbaaa", sum := "6284f4ed0d6174ce2f78d5344d3e8c05055c5bc8930145581e3fa6bdb937bccd", func := "socage/socagelaw11.TrialTells", spec := "trialTells", unfollowed := true, recurses := true, apart := false, narrowed := true }
def TrialTellsUptoSaid : Prop := trialTellsUptoRow.holds Try.pinned (OpenSpec.upto trialTellsSpec)

/-- 'socagelaw11.TrialNever', WHERE WHAT IT READS IS OF BULK AT MOST 1048576: true; the input reads as it did. -/
def trialNeverUptoRow : OpenClaim := { program := "ytmnjbinmfbjbaaa", sum := "6284f4ed0d6174ce2f78d5344d3e8c05055c5bc8930145581e3fa6bdb937bccd", func := "socage/socagelaw11.TrialNever", spec := "trialNever", unfollowed := true, recurses := true, apart := false, narrowed := true }
def TrialNeverUptoSaid : Prop := trialNeverUptoRow.holds Try.pinned (OpenSpec.upto trialNeverSpec)

end Rows
end Go.Proofs.Ytmnjbinmfbjbaaa
