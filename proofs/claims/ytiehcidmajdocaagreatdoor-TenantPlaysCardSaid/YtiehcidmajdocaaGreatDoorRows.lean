/-
  NARROWER THAN 'FOR EVERY INPUT', by the rows' own cells (each row's printed sentence says how): TenantPlays: laid · TenantIssued: laid · TenantErrors: laid.
  DERIVED. THE GIVEN ROWS OF THIS SEAT. 3 by the template 'for every input the law returns true; each argument reads behind the call as it read before'; 0 by the template 'total and deterministic' (their statements: YtiehcidmajdocaaGreatDoorTotals.lean).
  GIVEN WITH THE SEED: the statements are not yours to turn. If you find one false, say at which input.
  Laid BY PROGRAM, IN A SANDBOX (cutbox-rows.mjs): the forced cells as the released guide's own fill.sh prints them over the translation 1ae11fe776d470ba… (all of the seat's roots in one cut). By AI agents, Wed Nov 11 2026. No macro, syntax, notation, axiom, sorry.
-/
import Derived.Test.YtiehcidmajdocaaGreatDoorChecked
import GoSem.Claim
import GoSem.ClaimJoined
import GoSem.ClaimMapViews
import Derived.JoinedTies
import Derived.KernelRfl
namespace Go.Proofs.YtiehcidmajdocaaGreatDoor
/- THE CELL 'sum', in the pinned program and in every row, IS THE sha256 OF THE DUMP (.gsa) THAT YtiehcidmajdocaaGreatDoorProg.lean LOADS. Nothing in Lean hashes anything: it is a label: what it is worth is what the hold of that sum in a sandbox is worth. -/
noncomputable def Tryz.pinned : Pinned := { name := "ytiehcidmajdocaagreatdoor", sum := "1ae11fe776d470ba2b7ad6cb016cabdc77b132ca9a5ebc49dc327b0f9c1982b0", checked := Tryz.checked }
namespace Rows
def none {H : Type} : Left H := { results := [], args := [] }

/- WHAT THE LISTED PACKAGE-LEVEL VARIABLES READ AS WHEN THE CALL BEGINS. Each datum BY PROGRAM (the guide's laid-datum.mjs) off the statement by which the dump's own 'gosem.cut.vars' lays the variable. In a bare row this is a premise. The card (YtiehcidmajdocaaGreatDoorCards.lean) ties it to the program's text. -/
def laid_socage_conf_slots {H : Type} : DataW H := .agg [.lit (.int .i64 1), .lit (.int .i64 2), .lit (.int .i64 4)]

/-- 'socagelaw16.TenantPlays': WHATEVER THE INPUT: true; the input reads as it did. -/
def tenantPlaysSpec : ChangeSpec := { name := "tenantPlays", fn := fun _ => fun
  | [d1, d2, d3] => { results := [.lit (.bool true)], args := [d1, d2, d3] }
  | _ => none }
def tenantPlaysRow : OpenClaim := { program := "ytiehcidmajdocaagreatdoor", sum := "1ae11fe776d470ba2b7ad6cb016cabdc77b132ca9a5ebc49dc327b0f9c1982b0", func := "socage/socagelaw16.TenantPlays", spec := "tenantPlays", unfollowed := true, recurses := true, named := ["socage/conf.slots"], apart := false, laid := [("socage/conf.slots", laid_socage_conf_slots)] }
def TenantPlaysSaid : Prop := tenantPlaysRow.holds Tryz.pinned (OpenSpec.ofChange tenantPlaysSpec)

/-- ITS FALSE NEIGHBOUR: 'it returns false'. Refute it at one input. -/
def tenantPlaysWrong : ChangeSpec := { name := "tenantPlays", fn := fun _ => fun
  | [d1, d2, d3] => { results := [.lit (.bool false)], args := [d1, d2, d3] }
  | _ => none }
def TenantPlaysWrongFalsely : Prop := tenantPlaysRow.holds Tryz.pinned (OpenSpec.ofChange tenantPlaysWrong)

/-- 'socagelaw16.TenantIssued': WHATEVER THE INPUT: true; the input reads as it did. -/
def tenantIssuedSpec : ChangeSpec := { name := "tenantIssued", fn := fun _ => fun
  | [d1, d2, d3] => { results := [.lit (.bool true)], args := [d1, d2, d3] }
  | _ => none }
def tenantIssuedRow : OpenClaim := { program := "ytiehcidmajdocaagreatdoor", sum := "1ae11fe776d470ba2b7ad6cb016cabdc77b132ca9a5ebc49dc327b0f9c1982b0", func := "socage/socagelaw16.TenantIssued", spec := "tenantIssued", unfollowed := true, recurses := true, named := ["socage/conf.slots"], apart := false, laid := [("socage/conf.slots", laid_socage_conf_slots)] }
def TenantIssuedSaid : Prop := tenantIssuedRow.holds Tryz.pinned (OpenSpec.ofChange tenantIssuedSpec)

/-- ITS FALSE NEIGHBOUR: 'it returns false'. Refute it at one input. -/
def tenantIssuedWrong : ChangeSpec := { name := "tenantIssued", fn := fun _ => fun
  | [d1, d2, d3] => { results := [.lit (.bool false)], args := [d1, d2, d3] }
  | _ => none }
def TenantIssuedWrongFalsely : Prop := tenantIssuedRow.holds Tryz.pinned (OpenSpec.ofChange tenantIssuedWrong)

/-- 'socagelaw16.TenantErrors': WHATEVER THE INPUT: true; the input reads as it did. -/
def tenantErrorsSpec : ChangeSpec := { name := "tenantErrors", fn := fun _ => fun
  | [d1, d2, d3] => { results := [.lit (.bool true)], args := [d1, d2, d3] }
  | _ => none }
def tenantErrorsRow : OpenClaim := { program := "ytiehcidmajdocaagreatdoor", sum := "1ae11fe776d470ba2b7ad6cb016cabdc77b132ca9a5ebc49dc327b0f9c1982b0", func := "socage/socagelaw16.TenantErrors", spec := "tenantErrors", unfollowed := true, recurses := true, named := ["socage/conf.slots"], apart := false, laid := [("socage/conf.slots", laid_socage_conf_slots)] }
def TenantErrorsSaid : Prop := tenantErrorsRow.holds Tryz.pinned (OpenSpec.ofChange tenantErrorsSpec)

/-- ITS FALSE NEIGHBOUR: 'it returns false'. Refute it at one input. -/
def tenantErrorsWrong : ChangeSpec := { name := "tenantErrors", fn := fun _ => fun
  | [d1, d2, d3] => { results := [.lit (.bool false)], args := [d1, d2, d3] }
  | _ => none }
def TenantErrorsWrongFalsely : Prop := tenantErrorsRow.holds Tryz.pinned (OpenSpec.ofChange tenantErrorsWrong)

/- THE SECOND FORM. 'bulk': how many values and letters a reading holds, each counted each time it is reached (what is shared counts as often as it is met; a slice's spare places count too). A statement '..UptoSaid' is the law's where the arguments, and the package variables that the reading takes, are together of bulk at most 1048576: NARROWER than '..Said'. Prove '..Said' where nothing that the law and all that it calls make is longer than what came in: it says more and counts as full. Else prove '..UptoSaid'. A law counts once. -/
mutual
def uptoBulk {H : Type} : DataW H → Nat
  | .lit (.string bytes) => bytes.length + 1
  | .lit _ => 1
  | .nil => 1
  | .ptr d => uptoBulk d + 1
  | .slice elems spare => uptoBulkAll elems + uptoBulkAll spare + 1
  | .agg parts => uptoBulkAll parts + 1
  | .iface _ d => uptoBulk d + 1
  | .map entries => uptoBulkEntries entries + 1
  | .held _ => 1
def uptoBulkAll {H : Type} : List (DataW H) → Nat
  | [] => 0
  | d :: r => uptoBulk d + uptoBulkAll r
def uptoBulkEntries {H : Type} : List (Lit × DataW H) → Nat
  | [] => 0
  | x :: r => uptoBulkEntry x + uptoBulkEntries r
def uptoBulkEntry {H : Type} : Lit × DataW H → Nat
  | (.string bytes, d) => bytes.length + uptoBulk d + 1
  | (_, d) => uptoBulk d + 1
 end
def uptoSmall : (H : Type) → List (DataW H) → Bool := fun _ ds => decide (uptoBulkAll ds ≤ 1048576)
def OpenSpec.upto (s : _root_.Go.ChangeSpec) : _root_.Go.OpenSpec := { _root_.Go.OpenSpec.ofChange s with cond := some uptoSmall }

/-- 'socagelaw16.TenantPlays', WHERE WHAT IT READS IS OF BULK AT MOST 1048576: true; the input reads as it did. -/
def tenantPlaysUptoRow : OpenClaim := { program := "ytiehcidmajdocaagreatdoor", sum := "1ae11fe776d470ba2b7ad6cb016cabdc77b132ca9a5ebc49dc327b0f9c1982b0", func := "socage/socagelaw16.TenantPlays", spec := "tenantPlays", unfollowed := true, recurses := true, named := ["socage/conf.slots"], apart := false, laid := [("socage/conf.slots", laid_socage_conf_slots)], narrowed := true }
def TenantPlaysUptoSaid : Prop := tenantPlaysUptoRow.holds Tryz.pinned (OpenSpec.upto tenantPlaysSpec)

/-- 'socagelaw16.TenantIssued', WHERE WHAT IT READS IS OF BULK AT MOST 1048576: true; the input reads as it did. -/
def tenantIssuedUptoRow : OpenClaim := { program := "ytiehcidmajdocaagreatdoor", sum := "1ae11fe776d470ba2b7ad6cb016cabdc77b132ca9a5ebc49dc327b0f9c1982b0", func := "socage/socagelaw16.TenantIssued", spec := "tenantIssued", unfollowed := true, recurses := true, named := ["socage/conf.slots"], apart := false, laid := [("socage/conf.slots", laid_socage_conf_slots)], narrowed := true }
def TenantIssuedUptoSaid : Prop := tenantIssuedUptoRow.holds Tryz.pinned (OpenSpec.upto tenantIssuedSpec)

/-- 'socagelaw16.TenantErrors', WHERE WHAT IT READS IS OF BULK AT MOST 1048576: true; the input reads as it did. -/
def tenantErrorsUptoRow : OpenClaim := { program := "ytiehcidmajdocaagreatdoor", sum := "1ae11fe776d470ba2b7ad6cb016cabdc77b132ca9a5ebc49dc327b0f9c1982b0", func := "socage/socagelaw16.TenantErrors", spec := "tenantErrors", unfollowed := true, recurses := true, named := ["socage/conf.slots"], apart := false, laid := [("socage/conf.slots", laid_socage_conf_slots)], narrowed := true }
def TenantErrorsUptoSaid : Prop := tenantErrorsUptoRow.holds Tryz.pinned (OpenSpec.upto tenantErrorsSpec)

end Rows
end Go.Proofs.YtiehcidmajdocaaGreatDoor
