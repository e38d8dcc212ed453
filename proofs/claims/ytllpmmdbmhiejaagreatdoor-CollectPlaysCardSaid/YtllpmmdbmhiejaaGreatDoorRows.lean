/-
  NARROWER THAN 'FOR EVERY INPUT', by the rows' own cells (each row's printed sentence says how): CollectPlays: laid · CollectNever: laid · CollectAll: laid · CollectLittle: laid.
  DERIVED. THE GIVEN ROWS OF THIS SEAT. 4 by the template 'for every input the law returns true; each argument reads behind the call as it read before'; 0 by the template 'total and deterministic' (their statements: YtllpmmdbmhiejaaGreatDoorTotals.lean).
  GIVEN WITH THE SEED: the statements are not yours to turn. If you find one false, say at which input.
  Laid BY PROGRAM, IN A SANDBOX (cutbox-rows.mjs): the forced cells as the released guide's own fill.sh prints them over the translation a96ae0086917c502… (all of the seat's roots in one cut). By AI agents, Wed Nov 11 2026. No macro, syntax, notation, axiom, sorry.
-/
import Derived.Test.YtllpmmdbmhiejaaGreatDoorChecked
import GoSem.Claim
import GoSem.ClaimJoined
import GoSem.ClaimMapViews
import Derived.JoinedTies
import Derived.KernelRfl
namespace Go.Proofs.YtllpmmdbmhiejaaGreatDoor
/- THE CELL 'sum', in the pinned program and in every row, IS THE sha256 OF THE DUMP (.gsa) THAT YtllpmmdbmhiejaaGreatDoorProg.lean LOADS. Nothing in Lean hashes anything: it is a label: what it is worth is what the hold of that sum in a sandbox is worth. -/
noncomputable def Tryz.pinned : Pinned := { name := "ytllpmmdbmhiejaagreatdoor", sum := "a96ae0086917c502fd82bf50719ebf8944e38d1ff3bd812a7cbedaf690cae847", checked := Tryz.checked }
namespace Rows
def none {H : Type} : Left H := { results := [], args := [] }

/- WHAT THE LISTED PACKAGE-LEVEL VARIABLES READ AS WHEN THE CALL BEGINS. Each datum BY PROGRAM (the guide's laid-datum.mjs) off the statement by which the dump's own 'gosem.cut.vars' lays the variable. In a bare row this is a premise. The card (YtllpmmdbmhiejaaGreatDoorCards.lean) ties it to the program's text. -/
def laid_socage_conf_slots {H : Type} : DataW H := .agg [.lit (.int .i64 1), .lit (.int .i64 2), .lit (.int .i64 4)]

/-- 'socagelaw14.CollectPlays': WHATEVER THE INPUT: true; the input reads as it did. -/
def collectPlaysSpec : ChangeSpec := { name := "collectPlays", fn := fun _ => fun
  | [d1, d2, d3] => { results := [.lit (.bool true)], args := [d1, d2, d3] }
  | _ => none }
def collectPlaysRow : OpenClaim := { program := "ytllpmmdbmhiejaagreatdoor", sum := "a96ae0086917c502fd82bf50719ebf8944e38d1ff3bd812a7cbedaf690cae847", func := "socage/socagelaw14.CollectPlays", spec := "collectPlays", inPlace := ["maps.clone"], unfollowed := true, recurses := true, named := ["socage/conf.slots"], apart := false, laid := [("socage/conf.slots", laid_socage_conf_slots)] }
def CollectPlaysSaid : Prop := collectPlaysRow.holds Tryz.pinned (OpenSpec.ofChange collectPlaysSpec)

/-- ITS FALSE NEIGHBOUR: 'it returns false'. Refute it at one input. -/
def collectPlaysWrong : ChangeSpec := { name := "collectPlays", fn := fun _ => fun
  | [d1, d2, d3] => { results := [.lit (.bool false)], args := [d1, d2, d3] }
  | _ => none }
def CollectPlaysWrongFalsely : Prop := collectPlaysRow.holds Tryz.pinned (OpenSpec.ofChange collectPlaysWrong)

/-- 'socagelaw14.CollectNever': WHATEVER THE INPUT: true; the input reads as it did. -/
def collectNeverSpec : ChangeSpec := { name := "collectNever", fn := fun _ => fun
  | [d1, d2] => { results := [.lit (.bool true)], args := [d1, d2] }
  | _ => none }
def collectNeverRow : OpenClaim := { program := "ytllpmmdbmhiejaagreatdoor", sum := "a96ae0086917c502fd82bf50719ebf8944e38d1ff3bd812a7cbedaf690cae847", func := "socage/socagelaw14.CollectNever", spec := "collectNever", inPlace := ["maps.clone"], unfollowed := true, recurses := true, named := ["socage/conf.slots"], apart := false, laid := [("socage/conf.slots", laid_socage_conf_slots)] }
def CollectNeverSaid : Prop := collectNeverRow.holds Tryz.pinned (OpenSpec.ofChange collectNeverSpec)

/-- ITS FALSE NEIGHBOUR: 'it returns false'. Refute it at one input. -/
def collectNeverWrong : ChangeSpec := { name := "collectNever", fn := fun _ => fun
  | [d1, d2] => { results := [.lit (.bool false)], args := [d1, d2] }
  | _ => none }
def CollectNeverWrongFalsely : Prop := collectNeverRow.holds Tryz.pinned (OpenSpec.ofChange collectNeverWrong)

/-- 'socagelaw14.CollectAll': WHATEVER THE INPUT: true; the input reads as it did. -/
def collectAllSpec : ChangeSpec := { name := "collectAll", fn := fun _ => fun
  | [d1, d2, d3] => { results := [.lit (.bool true)], args := [d1, d2, d3] }
  | _ => none }
def collectAllRow : OpenClaim := { program := "ytllpmmdbmhiejaagreatdoor", sum := "a96ae0086917c502fd82bf50719ebf8944e38d1ff3bd812a7cbedaf690cae847", func := "socage/socagelaw14.CollectAll", spec := "collectAll", inPlace := ["maps.clone"], unfollowed := true, recurses := true, named := ["socage/conf.slots"], apart := false, laid := [("socage/conf.slots", laid_socage_conf_slots)] }
def CollectAllSaid : Prop := collectAllRow.holds Tryz.pinned (OpenSpec.ofChange collectAllSpec)

/-- ITS FALSE NEIGHBOUR: 'it returns false'. Refute it at one input. -/
def collectAllWrong : ChangeSpec := { name := "collectAll", fn := fun _ => fun
  | [d1, d2, d3] => { results := [.lit (.bool false)], args := [d1, d2, d3] }
  | _ => none }
def CollectAllWrongFalsely : Prop := collectAllRow.holds Tryz.pinned (OpenSpec.ofChange collectAllWrong)

/-- 'socagelaw14.CollectLittle': WHATEVER THE INPUT: true; the input reads as it did. -/
def collectLittleSpec : ChangeSpec := { name := "collectLittle", fn := fun _ => fun
  | [d1, d2] => { results := [.lit (.bool true)], args := [d1, d2] }
  | _ => none }
def collectLittleRow : OpenClaim := { program := "ytllpmmdbmhiejaagreatdoor", sum := "a96ae0086917c502fd82bf50719ebf8944e38d1ff3bd812a7cbedaf690cae847", func := "socage/socagelaw14.CollectLittle", spec := "collectLittle", inPlace := ["maps.clone"], unfollowed := true, recurses := true, named := ["socage/conf.slots"], apart := false, laid := [("socage/conf.slots", laid_socage_conf_slots)] }
def CollectLittleSaid : Prop := collectLittleRow.holds Tryz.pinned (OpenSpec.ofChange collectLittleSpec)

/-- ITS FALSE NEIGHBOUR: 'it returns false'. Refute it at one input. -/
def collectLittleWrong : ChangeSpec := { name := "collectLittle", fn := fun _ => fun
  | [d1, d2] => { results := [.lit (.bool false)], args := [d1, d2] }
  | _ => none }
def CollectLittleWrongFalsely : Prop := collectLittleRow.holds Tryz.pinned (OpenSpec.ofChange collectLittleWrong)

/- THE SECOND FORM. 'bulk': how many values and letters a reading holds, each counted each time it is reached (what is shared counts as often as it is met; a slice's spare places count too). A statement '..UptoSaid' is the law's where the arguments, and the package variables that the reading takes, are together of bulk at most 1048576: NARROWER than '..Said'. Prove '..Said' where nothing that the law and all that it calls make is longer than what came in: it says more and counts as full. Else prove '..UptoSaid'. A law counts once. -/
mutual
def uptoBulk {H : Type} : DataW H → Nat
  | .lit (.string bytes) => bytes.length + 1
  | .lit _ => 1
  | .nil => 1
  | .ptr d => uptoBulk d + 1
  | .slice elems spare => uptoBulkAll elems + uptoBulkAll spare + 1
  | .agg parts => uptoBulkAll parts + 1
  | .iface _ d => uptoBulk d + 1
  | .map entries => uptoBulkEntries entries + 1
  | .held _ => 1
def uptoBulkAll {H : Type} : List (DataW H) → Nat
  | [] => 0
  | d :: r => uptoBulk d + uptoBulkAll r
def uptoBulkEntries {H : Type} : List (Lit × DataW H) → Nat
  | [] => 0
  | x :: r => uptoBulkEntry x + uptoBulkEntries r
def uptoBulkEntry {H : Type} : Lit × DataW H → Nat
  | (.string bytes, d) => bytes.length + uptoBulk d + 1
  | (_, d) => uptoBulk d + 1
 end
def uptoSmall : (H : Type) → List (DataW H) → Bool := fun _ ds => decide (uptoBulkAll ds ≤ 1048576)
def OpenSpec.upto (s : _root_.Go.ChangeSpec) : _root_.Go.OpenSpec := { _root_.Go.OpenSpec.ofChange s with cond := some uptoSmall }

/-- 'socagelaw14.CollectPlays', WHERE WHAT IT READS IS OF BULK AT MOST 1048576: true; the input reads as it did. -/
def collectPlaysUptoRow : OpenClaim := { program := "ytllpmmdbmhiejaagreatdoor", sum := "a96ae0086917c502fd82bf50719ebf8944e38d1ff3bd812a7cbedaf690cae847", func := "socage/socagelaw14.CollectPlays", spec := "collectPlays", inPlace := ["maps.clone"], unfollowed := true, recurses := true, named := ["socage/conf.slots"], apart := false, laid := [("socage/conf.slots", laid_socage_conf_slots)], narrowed := true }
def CollectPlaysUptoSaid : Prop := collectPlaysUptoRow.holds Tryz.pinned (OpenSpec.upto collectPlaysSpec)

/-- 'socagelaw14.CollectNever', WHERE WHAT IT READS IS OF BULK AT MOST 1048576: true; the input reads as it did. -/
def collectNeverUptoRow : OpenClaim := { program := "ytllpmmdbmhiejaagreatdoor", sum := "a96ae0086917c502fd82bf50719ebf8944e38d1ff3bd812a7cbedaf690cae847", func := "socage/socagelaw14.CollectNever", spec := "collectNever", inPlace := ["maps.clone"], unfollowed := true, recurses := true, named := ["socage/conf.slots"], apart := false, laid := [("socage/conf.slots", laid_socage_conf_slots)], narrowed := true }
def CollectNeverUptoSaid : Prop := collectNeverUptoRow.holds Tryz.pinned (OpenSpec.upto collectNeverSpec)

/-- 'socagelaw14.CollectAll', WHERE WHAT IT READS IS OF BULK AT MOST 1048576: true; the input reads as it did. -/
def collectAllUptoRow : OpenClaim := { program := "ytllpmmdbmhiejaagreatdoor", sum := "a96ae0086917c502fd82bf50719ebf8944e38d1ff3bd812a7cbedaf690cae847", func := "socage/socagelaw14.CollectAll", spec := "collectAll", inPlace := ["maps.clone"], unfollowed := true, recurses := true, named := ["socage/conf.slots"], apart := false, laid := [("socage/conf.slots", laid_socage_conf_slots)], narrowed := true }
def CollectAllUptoSaid : Prop := collectAllUptoRow.holds Tryz.pinned (OpenSpec.upto collectAllSpec)

/-- 'socagelaw14.CollectLittle', WHERE WHAT IT READS IS OF BULK AT MOST 1048576: true; the input reads as it did. -/
def collectLittleUptoRow : OpenClaim := { program := "ytllpmmdbmhiejaagreatdoor", sum := "a96ae0086917c502fd82bf50719ebf8944e38d1ff3bd812a7cbedaf690cae847", func := "socage/socagelaw14.CollectLittle", spec := "collectLittle", inPlace := ["maps.clone"], unfollowed := true, recurses := true, named := ["socage/conf.slots"], apart := false, laid := [("socage/conf.slots", laid_socage_conf_slots)], narrowed := true }
def CollectLittleUptoSaid : Prop := collectLittleUptoRow.holds Tryz.pinned (OpenSpec.upto collectLittleSpec)

end Rows
end Go.Proofs.YtllpmmdbmhiejaaGreatDoor
