/-
  NARROWER THAN 'FOR EVERY INPUT', by the rows' own cells (each row's printed sentence says how): HeapPlays: laid · HeapCounted: laid · HeapCovered: laid.
  DERIVED. THE GIVEN ROWS OF THIS SEAT. 3 by the template 'for every input the law returns true; each argument reads behind the call as it read before'; 0 by the template 'total and deterministic' (their statements: YtbpdgonpmfbpoaaGreatDoorTotals.lean).
  GIVEN WITH THE SEED: the statements are not yours to turn. If you find one false, say at which input.
  Laid BY PROGRAM, IN A SANDBOX (cutbox-rows.mjs): the forced cells as the released guide's own fill.sh prints them over the translation 52283961b13ca9b4… (all of the seat's roots in one cut). By AI agents, Wed Nov 11 2026. No macro, syntax, notation, axiom, sorry.
-/
import Derived.Test.YtbpdgonpmfbpoaaGreatDoorChecked
import GoSem.Claim
import GoSem.ClaimJoined
import GoSem.ClaimMapViews
import Derived.JoinedTies
import Derived.KernelRfl
namespace Go.Proofs.YtbpdgonpmfbpoaaGreatDoor
/- THE CELL 'sum', in the pinned program and in every row, IS THE sha256 OF THE DUMP (.gsa) THAT YtbpdgonpmfbpoaaGreatDoorProg.lean LOADS. Nothing in Lean hashes anything: it is a label: what it is worth is what the hold of that sum in a sandbox is worth. -/
noncomputable def Tryz.pinned : Pinned := { name := "ytbpdgonpmfbpoaagreatdoor", sum := "52283961b13ca9b4bc2afb1be93386bb4f8b0a95e65f06127636c4953be635f3", checked := Tryz.checked }
namespace Rows
def none {H : Type} : Left H := { results := [], args := [] }

/- WHAT THE LISTED PACKAGE-LEVEL VARIABLES READ AS WHEN THE CALL BEGINS. Each datum BY PROGRAM (the guide's laid-datum.mjs) off the statement by which the dump's own 'gosem.cut.vars' lays the variable. In a bare row this is a premise. The card (YtbpdgonpmfbpoaaGreatDoorCards.lean) ties it to the program's text. -/
def laid_socage_conf_slots {H : Type} : DataW H := .agg [.lit (.int .i64 1), .lit (.int .i64 2), .lit (.int .i64 4)]

/-- 'socagelaw13.HeapPlays': WHATEVER THE INPUT: true; the input reads as it did. -/
def heapPlaysSpec : ChangeSpec := { name := "heapPlays", fn := fun _ => fun
  | [d1, d2] => { results := [.lit (.bool true)], args := [d1, d2] }
  | _ => none }
def heapPlaysRow : OpenClaim := { program := "ytbpdgonpmfbpoaagreatdoor", sum := "52283961b13ca9b4bc2afb1be93386bb4f8b0a95e65f06127636c4953be635f3", func := "socage/socagelaw13.HeapPlays", spec := "heapPlays", unfollowed := true, recurses := true, named := ["socage/conf.slots"], apart := false, laid := [("socage/conf.slots", laid_socage_conf_slots)] }
def HeapPlaysSaid : Prop := heapPlaysRow.holds Tryz.pinned (OpenSpec.ofChange heapPlaysSpec)

/-- ITS FALSE NEIGHBOUR: 'it returns false'. Refute it at one input. -/
def heapPlaysWrong : ChangeSpec := { name := "heapPlays", fn := fun _ => fun
  | [d1, d2] => { results := [.lit (.bool false)], args := [d1, d2] }
  | _ => none }
def HeapPlaysWrongFalsely : Prop := heapPlaysRow.holds Tryz.pinned (OpenSpec.ofChange heapPlaysWrong)

/-- 'socagelaw13.HeapCounted': WHATEVER THE INPUT: true; the input reads as it did. -/
def heapCountedSpec : ChangeSpec := { name := "heapCounted", fn := fun _ => fun
  | [d1, d2] => { results := [.lit (.bool true)], args := [d1, d2] }
  | _ => none }
def heapCountedRow : OpenClaim := { program := "ytbpdgonpmfbpoaagreatdoor", sum := "52283961b13ca9b4bc2afb1be93386bb4f8b0a95e65f06127636c4953be635f3", func := "socage/socagelaw13.HeapCounted", spec := "heapCounted", unfollowed := true, recurses := true, named := ["socage/conf.slots"], apart := false, laid := [("socage/conf.slots", laid_socage_conf_slots)] }
def HeapCountedSaid : Prop := heapCountedRow.holds Tryz.pinned (OpenSpec.ofChange heapCountedSpec)

/-- ITS FALSE NEIGHBOUR: 'it returns false'. Refute it at one input. -/
def heapCountedWrong : ChangeSpec := { name := "heapCounted", fn := fun _ => fun
  | [d1, d2] => { results := [.lit (.bool false)], args := [d1, d2] }
  | _ => none }
def HeapCountedWrongFalsely : Prop := heapCountedRow.holds Tryz.pinned (OpenSpec.ofChange heapCountedWrong)

/-- 'socagelaw13.HeapCovered': WHATEVER THE INPUT: true; the input reads as it did. -/
def heapCoveredSpec : ChangeSpec := { name := "heapCovered", fn := fun _ => fun
  | [d1, d2] => { results := [.lit (.bool true)], args := [d1, d2] }
  | _ => none }
def heapCoveredRow : OpenClaim := { program := "ytbpdgonpmfbpoaagreatdoor", sum := "52283961b13ca9b4bc2afb1be93386bb4f8b0a95e65f06127636c4953be635f3", func := "socage/socagelaw13.HeapCovered", spec := "heapCovered", unfollowed := true, recurses := true, named := ["socage/conf.slots"], apart := false, laid := [("socage/conf.slots", laid_socage_conf_slots)] }
def HeapCoveredSaid : Prop := heapCoveredRow.holds Tryz.pinned (OpenSpec.ofChange heapCoveredSpec)

/-- ITS FALSE NEIGHBOUR: 'it returns false'. Refute it at one input. -/
def heapCoveredWrong : ChangeSpec := { name := "heapCovered", fn := fun _ => fun
  | [d1, d2] => { results := [.lit (.bool false)], args := [d1, d2] }
  | _ => none }
def HeapCoveredWrongFalsely : Prop := heapCoveredRow.holds Tryz.pinned (OpenSpec.ofChange heapCoveredWrong)

/- THE SECOND FORM. 'bulk': how many values and letters a reading holds, each counted each time it is reached (what is shared counts as often as it is met; a slice's spare places count too). A statement '..UptoSaid' is the law's where the arguments, and the package variables that the reading takes, are together of bulk at most 1048576: NARROWER than '..Said'. Prove '..Said' where nothing that the law and all that it calls make is longer than what came in: it says more and counts as full. Else prove '..UptoSaid'. A law counts once. -/
mutual
def uptoBulk {H : Type} : DataW H → Nat
  | .lit (.string bytes) => bytes.length + 1
  | .lit _ => 1
  | .nil => 1
  | .ptr d => uptoBulk d + 1
  | .slice elems spare => uptoBulkAll elems + uptoBulkAll spare + 1
  | .agg parts => uptoBulkAll parts + 1
  | .iface _ d => uptoBulk d + 1
  | .map entries => uptoBulkEntries entries + 1
  | .held _ => 1
def uptoBulkAll {H : Type} : List (DataW H) → Nat
  | [] => 0
  | d :: r => uptoBulk d + uptoBulkAll r
def uptoBulkEntries {H : Type} : List (Lit × DataW H) → Nat
  | [] => 0
  | x :: r => uptoBulkEntry x + uptoBulkEntries r
def uptoBulkEntry {H : Type} : Lit × DataW H → Nat
  | (.string bytes, d) => bytes.length + uptoBulk d + 1
  | (_, d) => uptoBulk d + 1
 end
def uptoSmall : (H : Type) → List (DataW H) → Bool := fun _ ds => decide (uptoBulkAll ds ≤ 1048576)
def OpenSpec.upto (s : _root_.Go.ChangeSpec) : _root_.Go.OpenSpec := { _root_.Go.OpenSpec.ofChange s with cond := some uptoSmall }

/-- 'socagelaw13.HeapPlays', WHERE WHAT IT READS IS OF BULK AT MOST 1048576: true; the input reads as it did. -/
def heapPlaysUptoRow : OpenClaim := { program := "ytbpdgonpmfbpoaagreatdoor", sum := "52283961b13ca9b4bc2afb1be93386bb4f8b0a95e65f06127636c4953be635f3", func := "socage/socagelaw13.HeapPlays", spec := "heapPlays", unfollowed := true, recurses := true, named := ["socage/conf.slots"], apart := false, laid := [("socage/conf.slots", laid_socage_conf_slots)], narrowed := true }
def HeapPlaysUptoSaid : Prop := heapPlaysUptoRow.holds Tryz.pinned (OpenSpec.upto heapPlaysSpec)

/-- 'socagelaw13.HeapCounted', WHERE WHAT IT READS IS OF BULK AT MOST 1048576: true; the input reads as it did. -/
def heapCountedUptoRow : OpenClaim := { program := "ytbpdgonpmfbpoaagreatdoor", sum := "52283961b13ca9b4bc2afb1be93386bb4f8b0a95e65f06127636c4953be635f3", func := "socage/socagelaw13.HeapCounted", spec := "heapCounted", unfollowed := true, recurses := true, named := ["socage/conf.slots"], apart := false, laid := [("socage/conf.slots", laid_socage_conf_slots)], narrowed := true }
def HeapCountedUptoSaid : Prop := heapCountedUptoRow.holds Tryz.pinned (OpenSpec.upto heapCountedSpec)

/-- 'socagelaw13.HeapCovered', WHERE WHAT IT READS IS OF BULK AT MOST 1048576: true; the input reads as it did. -/
def heapCoveredUptoRow : OpenClaim := { program := "ytbpdgonpmfbpoaagreatdoor", sum := "52283961b13ca9b4bc2afb1be93386bb4f8b0a95e65f06127636c4953be635f3", func := "socage/socagelaw13.HeapCovered", spec := "heapCovered", unfollowed := true, recurses := true, named := ["socage/conf.slots"], apart := false, laid := [("socage/conf.slots", laid_socage_conf_slots)], narrowed := true }
def HeapCoveredUptoSaid : Prop := heapCoveredUptoRow.holds Tryz.pinned (OpenSpec.upto heapCoveredSpec)

end Rows
end Go.Proofs.YtbpdgonpmfbpoaaGreatDoor
