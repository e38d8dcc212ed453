/-
  NARROWER THAN 'FOR EVERY INPUT', by the rows' own cells (each row's printed sentence says how): WorldPlays: laid · WorldApart: laid · WorldIssued: laid · WorldWeak: laid.
  DERIVED. THE GIVEN ROWS OF THIS SEAT. 4 by the template 'for every input the law returns true; each argument reads behind the call as it read before'; 0 by the template 'total and deterministic' (their statements: YtdhgpmndgcggfaaGreatDoorTotals.lean).
  GIVEN WITH THE SEED: the statements are not yours to turn. If you find one false, say at which input.
  Laid BY PROGRAM, IN A SANDBOX (cutbox-rows.mjs): the forced cells as the released guide's own fill.sh prints them over the translation 78442a44a69f5b36… (all of the seat's roots in one cut). By AI agents, Wed Nov 11 2026. No macro, syntax, notation, axiom, sorry.
-/
import Derived.Test.YtdhgpmndgcggfaaGreatDoorChecked
import GoSem.Claim
import GoSem.ClaimJoined
import GoSem.ClaimMapViews
import Derived.JoinedTies
import Derived.KernelRfl
namespace Go.Proofs.YtdhgpmndgcggfaaGreatDoor
/- THE CELL 'sum', in the pinned program and in every row, IS THE sha256 OF THE DUMP (.gsa) THAT YtdhgpmndgcggfaaGreatDoorProg.lean LOADS. Nothing in Lean hashes anything: it is a label: what it is worth is what the hold of that sum in a sandbox is worth. -/
noncomputable def Tryz.pinned : Pinned := { name := "ytdhgpmndgcggfaagreatdoor", sum := "78442a44a69f5b361f4783c65f58aa1d93b358c2bce78845711627a3ac755dcc", checked := Tryz.checked }
namespace Rows
def none {H : Type} : Left H := { results := [], args := [] }

/- WHAT THE LISTED PACKAGE-LEVEL VARIABLES READ AS WHEN THE CALL BEGINS. Each datum BY PROGRAM (the guide's laid-datum.mjs) off the statement by which the dump's own 'gosem.cut.vars' lays the variable. In a bare row this is a premise. The card (YtdhgpmndgcggfaaGreatDoorCards.lean) ties it to the program's text. -/
def laid_socage_conf_slots {H : Type} : DataW H := .agg [.lit (.int .i64 1), .lit (.int .i64 2), .lit (.int .i64 4)]

/-- 'socagelaw17.WorldPlays': WHATEVER THE INPUT: true; the input reads as it did. -/
def worldPlaysSpec : ChangeSpec := { name := "worldPlays", fn := fun _ => fun
  | [d1, d2] => { results := [.lit (.bool true)], args := [d1, d2] }
  | _ => none }
def worldPlaysRow : OpenClaim := { program := "ytdhgpmndgcggfaagreatdoor", sum := "78442a44a69f5b361f4783c65f58aa1d93b358c2bce78845711627a3ac755dcc", func := "socage/socagelaw17.WorldPlays", spec := "worldPlays", unfollowed := true, recurses := true, named := ["socage/conf.slots"], plainKeys := false, apart := false, laid := [("socage/conf.slots", laid_socage_conf_slots)] }
def WorldPlaysSaid : Prop := worldPlaysRow.holds Tryz.pinned (OpenSpec.ofChange worldPlaysSpec)

/-- ITS FALSE NEIGHBOUR: 'it returns false'. Refute it at one input. -/
def worldPlaysWrong : ChangeSpec := { name := "worldPlays", fn := fun _ => fun
  | [d1, d2] => { results := [.lit (.bool false)], args := [d1, d2] }
  | _ => none }
def WorldPlaysWrongFalsely : Prop := worldPlaysRow.holds Tryz.pinned (OpenSpec.ofChange worldPlaysWrong)

/-- 'socagelaw17.WorldApart': WHATEVER THE INPUT: true; the input reads as it did. -/
def worldApartSpec : ChangeSpec := { name := "worldApart", fn := fun _ => fun
  | [d1, d2, d3] => { results := [.lit (.bool true)], args := [d1, d2, d3] }
  | _ => none }
def worldApartRow : OpenClaim := { program := "ytdhgpmndgcggfaagreatdoor", sum := "78442a44a69f5b361f4783c65f58aa1d93b358c2bce78845711627a3ac755dcc", func := "socage/socagelaw17.WorldApart", spec := "worldApart", unfollowed := true, recurses := true, named := ["socage/conf.slots"], plainKeys := false, apart := false, laid := [("socage/conf.slots", laid_socage_conf_slots)] }
def WorldApartSaid : Prop := worldApartRow.holds Tryz.pinned (OpenSpec.ofChange worldApartSpec)

/-- ITS FALSE NEIGHBOUR: 'it returns false'. Refute it at one input. -/
def worldApartWrong : ChangeSpec := { name := "worldApart", fn := fun _ => fun
  | [d1, d2, d3] => { results := [.lit (.bool false)], args := [d1, d2, d3] }
  | _ => none }
def WorldApartWrongFalsely : Prop := worldApartRow.holds Tryz.pinned (OpenSpec.ofChange worldApartWrong)

/-- 'socagelaw17.WorldIssued': WHATEVER THE INPUT: true; the input reads as it did. -/
def worldIssuedSpec : ChangeSpec := { name := "worldIssued", fn := fun _ => fun
  | [d1, d2] => { results := [.lit (.bool true)], args := [d1, d2] }
  | _ => none }
def worldIssuedRow : OpenClaim := { program := "ytdhgpmndgcggfaagreatdoor", sum := "78442a44a69f5b361f4783c65f58aa1d93b358c2bce78845711627a3ac755dcc", func := "socage/socagelaw17.WorldIssued", spec := "worldIssued", unfollowed := true, recurses := true, named := ["socage/conf.slots"], plainKeys := false, apart := false, laid := [("socage/conf.slots", laid_socage_conf_slots)] }
def WorldIssuedSaid : Prop := worldIssuedRow.holds Tryz.pinned (OpenSpec.ofChange worldIssuedSpec)

/-- ITS FALSE NEIGHBOUR: 'it returns false'. Refute it at one input. -/
def worldIssuedWrong : ChangeSpec := { name := "worldIssued", fn := fun _ => fun
  | [d1, d2] => { results := [.lit (.bool false)], args := [d1, d2] }
  | _ => none }
def WorldIssuedWrongFalsely : Prop := worldIssuedRow.holds Tryz.pinned (OpenSpec.ofChange worldIssuedWrong)

/-- 'socagelaw17.WorldWeak': WHATEVER THE INPUT: true; the input reads as it did. -/
def worldWeakSpec : ChangeSpec := { name := "worldWeak", fn := fun _ => fun
  | [d1, d2] => { results := [.lit (.bool true)], args := [d1, d2] }
  | _ => none }
def worldWeakRow : OpenClaim := { program := "ytdhgpmndgcggfaagreatdoor", sum := "78442a44a69f5b361f4783c65f58aa1d93b358c2bce78845711627a3ac755dcc", func := "socage/socagelaw17.WorldWeak", spec := "worldWeak", unfollowed := true, recurses := true, named := ["socage/conf.slots"], plainKeys := false, apart := false, laid := [("socage/conf.slots", laid_socage_conf_slots)] }
def WorldWeakSaid : Prop := worldWeakRow.holds Tryz.pinned (OpenSpec.ofChange worldWeakSpec)

/-- ITS FALSE NEIGHBOUR: 'it returns false'. Refute it at one input. -/
def worldWeakWrong : ChangeSpec := { name := "worldWeak", fn := fun _ => fun
  | [d1, d2] => { results := [.lit (.bool false)], args := [d1, d2] }
  | _ => none }
def WorldWeakWrongFalsely : Prop := worldWeakRow.holds Tryz.pinned (OpenSpec.ofChange worldWeakWrong)

/- THE SECOND FORM. 'bulk': how many values and letters a reading holds, each counted each time it is reached (what is shared counts as often as it is met; a slice's spare places count too). A statement '..UptoSaid' is the law's where the arguments, and the package variables that the reading takes, are together of bulk at most 1048576: NARROWER than '..Said'. Prove '..Said' where nothing that the law and all that it calls make is longer than what came in: it says more and counts as full. Else prove '..UptoSaid'. A law counts once. -/
mutual
def uptoBulk {H : Type} : DataW H → Nat
  | .lit (.string bytes) => bytes.length + 1
  | .lit _ => 1
  | .nil => 1
  | .ptr d => uptoBulk d + 1
  | .slice elems spare => uptoBulkAll elems + uptoBulkAll spare + 1
  | .agg parts => uptoBulkAll parts + 1
  | .iface _ d => uptoBulk d + 1
  | .map entries => uptoBulkEntries entries + 1
  | .held _ => 1
def uptoBulkAll {H : Type} : List (DataW H) → Nat
  | [] => 0
  | d :: r => uptoBulk d + uptoBulkAll r
def uptoBulkEntries {H : Type} : List (Lit × DataW H) → Nat
  | [] => 0
  | x :: r => uptoBulkEntry x + uptoBulkEntries r
def uptoBulkEntry {H : Type} : Lit × DataW H → Nat
  | (.string bytes, d) => bytes.length + uptoBulk d + 1
  | (_, d) => uptoBulk d + 1
 end
def uptoSmall : (H : Type) → List (DataW H) → Bool := fun _ ds => decide (uptoBulkAll ds ≤ 1048576)
def OpenSpec.upto (s : _root_.Go.ChangeSpec) : _root_.Go.OpenSpec := { _root_.Go.OpenSpec.ofChange s with cond := some uptoSmall }

/-- 'socagelaw17.WorldPlays', WHERE WHAT IT READS IS OF BULK AT MOST 1048576: true; the input reads as it did. -/
def worldPlaysUptoRow : OpenClaim := { program := "ytdhgpmndgcggfaagreatdoor", sum := "78442a44a69f5b361f4783c65f58aa1d93b358c2bce78845711627a3ac755dcc", func := "socage/socagelaw17.WorldPlays", spec := "worldPlays", unfollowed := true, recurses := true, named := ["socage/conf.slots"], plainKeys := false, apart := false, laid := [("socage/conf.slots", laid_socage_conf_slots)], narrowed := true }
def WorldPlaysUptoSaid : Prop := worldPlaysUptoRow.holds Tryz.pinned (OpenSpec.upto worldPlaysSpec)

/-- 'socagelaw17.WorldApart', WHERE WHAT IT READS IS OF BULK AT MOST 1048576: true; the input reads as it did. -/
def worldApartUptoRow : OpenClaim := { program := "ytdhgpmndgcggfaagreatdoor", sum := "78442a44a69f5b361f4783c65f58aa1d93b358c2bce78845711627a3ac755dcc", func := "socage/socagelaw17.WorldApart", spec := "worldApart", unfollowed := true, recurses := true, named := ["socage/conf.slots"], plainKeys := false, apart := false, laid := [("socage/conf.slots", laid_socage_conf_slots)], narrowed := true }
def WorldApartUptoSaid : Prop := worldApartUptoRow.holds Tryz.pinned (OpenSpec.upto worldApartSpec)

/-- 'socagelaw17.WorldIssued', WHERE WHAT IT READS IS OF BULK AT MOST 1048576: true; the input reads as it did. -/
def worldIssuedUptoRow : OpenClaim := { program := "ytdhgpmndgcggfaagreatdoor", sum := "78442a44a69f5b361f4783c65f58aa1d93b358c2bce78845711627a3ac755dcc", func := "socage/socagelaw17.WorldIssued", spec := "worldIssued", unfollowed := true, recurses := true, named := ["socage/conf.slots"], plainKeys := false, apart := false, laid := [("socage/conf.slots", laid_socage_conf_slots)], narrowed := true }
def WorldIssuedUptoSaid : Prop := worldIssuedUptoRow.holds Tryz.pinned (OpenSpec.upto worldIssuedSpec)

/-- 'socagelaw17.WorldWeak', WHERE WHAT IT READS IS OF BULK AT MOST 1048576: true; the input reads as it did. -/
def worldWeakUptoRow : OpenClaim := { program := "ytdhgpmndgcggfaagreatdoor", sum := "78442a44a69f5b361f4783c65f58aa1d93b358c2bce78845711627a3ac755dcc", func := "socage/socagelaw17.WorldWeak", spec := "worldWeak", unfollowed := true, recurses := true, named := ["socage/conf.slots"], plainKeys := false, apart := false, laid := [("socage/conf.slots", laid_socage_conf_slots)], narrowed := true }
def WorldWeakUptoSaid : Prop := worldWeakUptoRow.holds Tryz.pinned (OpenSpec.upto worldWeakSpec)

end Rows
end Go.Proofs.YtdhgpmndgcggfaaGreatDoor
