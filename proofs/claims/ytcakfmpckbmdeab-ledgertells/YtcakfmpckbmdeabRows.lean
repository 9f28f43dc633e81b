/-
  No cell of these rows narrows 'for every input' (looked for: loops, veiled, ifaces, maps, wideKeys, modest, calm, conditions, laid).
  DERIVED. THE GIVEN ROWS OF THIS SEAT. 6 by the template 'for every input the law returns true; each argument reads behind the call as it read before'; 0 by the template 'total and deterministic' (their statements: YtcakfmpckbmdeabTotals.lean).
  GIVEN WITH THE SEED: the statements are not yours to turn. If you find one false, say at which input.
  Laid BY PROGRAM, IN A SANDBOX (cutbox-rows.mjs): the forced cells as the released guide's own fill.sh prints them over the translation a5bb6455b2adf168… (all of the seat's roots in one cut). By AI agents, Wed Nov 11 2026. No macro, syntax, notation, axiom, sorry.
-/
import Derived.Test.YtcakfmpckbmdeabChecked
import GoSem.Claim
import GoSem.ClaimJoined
import GoSem.ClaimMapViews
import Derived.JoinedTies
import Derived.KernelRfl
namespace Go.Proofs.Ytcakfmpckbmdeab
/- THE CELL 'sum', in the pinned program and in every row, IS THE sha256 OF THE DUMP (.gsa) THAT YtcakfmpckbmdeabProg.lean LOADS. Nothing in Lean hashes anything: it is a label: what it is worth is what the hold of that sum in a sandbox is worth. -/
noncomputable def Try.pinned : Pinned := { name := "ytcakfmpckbmdeab", sum := "a5bb6455b2adf168cfe3e243370acb6c363384e98d0bdfbd6ef3b7388e8a30b0", checked := Try.checked }
namespace Rows
def none {H : Type} : Left H := { results := [], args := [] }

/-- 'leeboardlaw.CodeApart': WHATEVER THE INPUT: true; the input reads as it did. -/
def codeApartSpec : ChangeSpec := { name := "codeApart", fn := fun _ => fun
  | [d1, d2] => { results := [.lit (.bool true)], args := [d1, d2] }
  | _ => none }
def codeApartRow : OpenClaim := { program := "ytcakfmpckbmdeab", sum := "a5bb6455b2adf168cfe3e243370acb6c363384e98d0bdfbd6ef3b7388e8a30b0", func := "leeboard/leeboardlaw.CodeApart", spec := "codeApart", inPlace := ["internal/bytealg.IndexByteString"], unfollowed := true, recurses := true, apart := false }
def CodeApartSaid : Prop := codeApartRow.holds Try.pinned (OpenSpec.ofChange codeApartSpec)

/-- ITS FALSE NEIGHBOUR: 'it returns false'. Refute it at one input. -/
def codeApartWrong : ChangeSpec := { name := "codeApart", fn := fun _ => fun
  | [d1, d2] => { results := [.lit (.bool false)], args := [d1, d2] }
  | _ => none }
def CodeApartWrongFalsely : Prop := codeApartRow.holds Try.pinned (OpenSpec.ofChange codeApartWrong)

/-- 'leeboardlaw.RuleTells': WHATEVER THE INPUT: true; the input reads as it did. -/
def ruleTellsSpec : ChangeSpec := { name := "ruleTells", fn := fun _ => fun
  | [d1, d2, d3, d4] => { results := [.lit (.bool true)], args := [d1, d2, d3, d4] }
  | _ => none }
def ruleTellsRow : OpenClaim := { program := "ytcakfmpckbmdeab", sum := "a5bb6455b2adf168cfe3e243370acb6c363384e98d0bdfbd6ef3b7388e8a30b0", func := "leeboard/leeboardlaw.RuleTells", spec := "ruleTells", unfollowed := true, recurses := true, apart := false }
def RuleTellsSaid : Prop := ruleTellsRow.holds Try.pinned (OpenSpec.ofChange ruleTellsSpec)

/-- ITS FALSE NEIGHBOUR: 'it returns false'. Refute it at one input. -/
def ruleTellsWrong : ChangeSpec := { name := "ruleTells", fn := fun _ => fun
  | [d1, d2, d3, d4] => { results := [.lit (.bool false)], args := [d1, d2, d3, d4] }
  | _ => none }
def RuleTellsWrongFalsely : Prop := ruleTellsRow.holds Try.pinned (OpenSpec.ofChange ruleTellsWrong)

/-- 'leeboardlaw.RuleSpends': WHATEVER THE INPUT: true; the input reads as it did. -/
def ruleSpendsSpec : ChangeSpec := { name := "ruleSpends", fn := fun _ => fun
  | [d1, d2, d3, d4] => { results := [.lit (.bool true)], args := [d1, d2, d3, d4] }
  | _ => none }
def ruleSpendsRow : OpenClaim := { program := "ytcakfmpckbmdeab", sum := "a5bb6455b2adf168cfe3e243370acb6c363384e98d0bdfbd6ef3b7388e8a30b0", func := "leeboard/leeboardlaw.RuleSpends", spec := "ruleSpends", unfollowed := true, recurses := true, apart := false }
def RuleSpendsSaid : Prop := ruleSpendsRow.holds Try.pinned (OpenSpec.ofChange ruleSpendsSpec)

/-- ITS FALSE NEIGHBOUR: 'it returns false'. Refute it at one input. -/
def ruleSpendsWrong : ChangeSpec := { name := "ruleSpends", fn := fun _ => fun
  | [d1, d2, d3, d4] => { results := [.lit (.bool false)], args := [d1, d2, d3, d4] }
  | _ => none }
def RuleSpendsWrongFalsely : Prop := ruleSpendsRow.holds Try.pinned (OpenSpec.ofChange ruleSpendsWrong)

/-- 'leeboardlaw.RuleGoesOn': WHATEVER THE INPUT: true; the input reads as it did. -/
def ruleGoesOnSpec : ChangeSpec := { name := "ruleGoesOn", fn := fun _ => fun
  | [d1, d2, d3] => { results := [.lit (.bool true)], args := [d1, d2, d3] }
  | _ => none }
def ruleGoesOnRow : OpenClaim := { program := "ytcakfmpckbmdeab", sum := "a5bb6455b2adf168cfe3e243370acb6c363384e98d0bdfbd6ef3b7388e8a30b0", func := "leeboard/leeboardlaw.RuleGoesOn", spec := "ruleGoesOn", unfollowed := true, recurses := true, apart := false }
def RuleGoesOnSaid : Prop := ruleGoesOnRow.holds Try.pinned (OpenSpec.ofChange ruleGoesOnSpec)

/-- ITS FALSE NEIGHBOUR: 'it returns false'. Refute it at one input. -/
def ruleGoesOnWrong : ChangeSpec := { name := "ruleGoesOn", fn := fun _ => fun
  | [d1, d2, d3] => { results := [.lit (.bool false)], args := [d1, d2, d3] }
  | _ => none }
def RuleGoesOnWrongFalsely : Prop := ruleGoesOnRow.holds Try.pinned (OpenSpec.ofChange ruleGoesOnWrong)

/-- 'leeboardlaw.LedgerTells': WHATEVER THE INPUT: true; the input reads as it did. -/
def ledgerTellsSpec : ChangeSpec := { name := "ledgerTells", fn := fun _ => fun
  | [d1, d2, d3, d4] => { results := [.lit (.bool true)], args := [d1, d2, d3, d4] }
  | _ => none }
def ledgerTellsRow : OpenClaim := { program := "ytcakfmpckbmdeab", sum := "a5bb6455b2adf168cfe3e243370acb6c363384e98d0bdfbd6ef3b7388e8a30b0", func := "leeboard/leeboardlaw.LedgerTells", spec := "ledgerTells", unfollowed := true, recurses := true, apart := false }
def LedgerTellsSaid : Prop := ledgerTellsRow.holds Try.pinned (OpenSpec.ofChange ledgerTellsSpec)

/-- ITS FALSE NEIGHBOUR: 'it returns false'. Refute it at one input. -/
def ledgerTellsWrong : ChangeSpec := { name := "ledgerTells", fn := fun _ => fun
  | [d1, d2, d3, d4] => { results := [.lit (.bool false)], args := [d1, d2, d3, d4] }
  | _ => none }
def LedgerTellsWrongFalsely : Prop := ledgerTellsRow.holds Try.pinned (OpenSpec.ofChange ledgerTellsWrong)

/-- 'leeboardlaw.LedgerRides': WHATEVER THE INPUT: true; the input reads as it did. -/
def ledgerRidesSpec : ChangeSpec := { name := "ledgerRides", fn := fun _ => fun
  | [d1, d2] => { results := [.lit (.bool true)], args := [d1, d2] }
  | _ => none }
def ledgerRidesRow : OpenClaim := { program := "ytcakfmpckbmdeab", sum := "a5bb6455b2adf168cfe3e243370acb6c363384e98d0bdfbd6ef3b7388e8a30b0", func := "leeboard/leeboardlaw.LedgerRides", spec := "ledgerRides", unfollowed := true, recurses := true, apart := false }
def LedgerRidesSaid : Prop := ledgerRidesRow.holds Try.pinned (OpenSpec.ofChange ledgerRidesSpec)

/-- ITS FALSE NEIGHBOUR: 'it returns false'. Refute it at one input. -/
def ledgerRidesWrong : ChangeSpec := { name := "ledgerRides", fn := fun _ => fun
  | [d1, d2] => { results := [.lit (.bool false)], args := [d1, d2] }
  | _ => none }
def LedgerRidesWrongFalsely : Prop := ledgerRidesRow.holds Try.pinned (OpenSpec.ofChange ledgerRidesWrong)

/- THE SECOND FORM. 'bulk': how many values and letters a reading holds, each counted each time it is reached (what is shared counts as often as it is met; a slice's spare places count too). A statement '..UptoSaid' is the law's where the arguments, and the package variables that the reading takes, are together of bulk at most 1048576: NARROWER than '..Said'. Prove '..Said' where nothing that the law and all that it calls make is longer than what came in: it says more and counts as full. Else prove '..UptoSaid'. A law counts once. -/
mutual
def uptoBulk {H : Type} : DataW H → Nat
  | .lit (.string bytes) => bytes.length + 1
  | .lit _ => 1
  | .nil => 1
  | .ptr d => uptoBulk d + 1
  | .slice elems spare => uptoBulkAll elems + uptoBulkAll spare + 1
  | .agg parts => uptoBulkAll parts + 1
  | .iface _ d => uptoBulk d + 1
  | .map entries => uptoBulkEntries entries + 1
  | .held _ => 1
def uptoBulkAll {H : Type} : List (DataW H) → Nat
  | [] => 0
  | d :: r => uptoBulk d + uptoBulkAll r
def uptoBulkEntries {H : Type} : List (Lit × DataW H) → Nat
  | [] => 0
  | x :: r => uptoBulkEntry x + uptoBulkEntries r
def uptoBulkEntry {H : Type} : Lit × DataW H → Nat
  | (.string bytes, d) => bytes.length + uptoBulk d + 1
  | (_, d) => uptoBulk d + 1
 end
def uptoSmall : (H : Type) → List (DataW H) → Bool := fun _ ds => decide (uptoBulkAll ds ≤ 1048576)
def OpenSpec.upto (s : _root_.Go.ChangeSpec) : _root_.Go.OpenSpec := { _root_.Go.OpenSpec.ofChange s with cond := some uptoSmall }

/-- 'leeboardlaw.CodeApart', WHERE WHAT IT READS IS OF BULK AT MOST 1048576: true; the input reads as it did. -/
def codeApartUptoRow : OpenClaim := { program := "ytcakfmpckbmdeab", sum := "a5bb6455b2adf168cfe3e243370acb6c363384e98d0bdfbd6ef3b7388e8a30b0", func := "leeboard/leeboardlaw.CodeApart", spec := "codeApart", inPlace := ["internal/bytealg.IndexByteString"], unfollowed := true, recurses := true, apart := false, narrowed := true }
def CodeApartUptoSaid : Prop := codeApartUptoRow.holds Try.pinned (OpenSpec.upto codeApartSpec)

/-- 'leeboardlaw.RuleTells', WHERE WHAT IT READS IS OF BULK AT MOST 1048576: true; the input reads as it did. -/
def ruleTellsUptoRow : OpenClaim := { program := "ytcakfmpckbmdeab", sum := "a5bb6455b2adf168cfe3e243370acb6c363384e98d0bdfbd6ef3b7388e8a30b0", func := "leeboard/leeboardlaw.RuleTells", spec := "ruleTells", unfollowed := true, recurses := true, apart := false, narrowed := true }
def RuleTellsUptoSaid : Prop := ruleTellsUptoRow.holds Try.pinned (OpenSpec.upto ruleTellsSpec)

/-- 'leeboardlaw.RuleSpends', WHERE WHAT IT READS IS OF BULK AT MOST 1048576: true; the input reads as it did. -/
def ruleSpendsUptoRow : OpenClaim := { program := "ytcakfmpckbmdeab", sum := "a5bb6455b2adf168cfe3e243370acb6c363384e98d0bdfbd6ef3b7388e8a30b0", func := "leeboard/leeboardlaw.RuleSpends", spec := "ruleSpends", unfollowed := true, recurses := true, apart := false, narrowed := true }
def RuleSpendsUptoSaid : Prop := ruleSpendsUptoRow.holds Try.pinned (OpenSpec.upto ruleSpendsSpec)

/-- 'leeboardlaw.RuleGoesOn', WHERE WHAT IT READS IS OF BULK AT MOST 1048576: true; the input reads as it did. -/
def ruleGoesOnUptoRow : OpenClaim := { program := "ytcakfmpckbmdeab", sum := "a5bb6455b2adf168cfe3e243370acb6c363384e98d0bdfbd6ef3b7388e8a30b0", func := "leeboard/leeboardlaw.RuleGoesOn", spec := "ruleGoesOn", unfollowed := true, recurses := true, apart := false, narrowed := true }
def RuleGoesOnUptoSaid : Prop := ruleGoesOnUptoRow.holds Try.pinned (OpenSpec.upto ruleGoesOnSpec)

/-- 'leeboardlaw.LedgerTells', WHERE WHAT IT READS IS OF BULK AT MOST 1048576: true; the input reads as it did. -/
def ledgerTellsUptoRow : OpenClaim := { program := "ytcakfmpckbmdeab", sum := "a5bb6455b2adf168cfe3e243370acb6c363384e98d0bdfbd6ef3b7388e8a30b0", func := "leeboard/leeboardlaw.LedgerTells", spec := "ledgerTells", unfollowed := true, recurses := true, apart := false, narrowed := true }
def LedgerTellsUptoSaid : Prop := ledgerTellsUptoRow.holds Try.pinned (OpenSpec.upto ledgerTellsSpec)

/-- 'leeboardlaw.LedgerRides', WHERE WHAT IT READS IS OF BULK AT MOST 1048576: true; the input reads as it did. -/
def ledgerRidesUptoRow : OpenClaim := { program := "ytcakfmpckbmdeab", sum := "a5bb6455b2adf168cfe3e243370acb6c363384e98d0bdfbd6ef3b7388e8a30b0", func := "leeboard/leeboardlaw.LedgerRides", spec := "ledgerRides", unfollowed := true, recurses := true, apart := false, narrowed := true }
def LedgerRidesUptoSaid : Prop := ledgerRidesUptoRow.holds Try.pinned (OpenSpec.upto ledgerRidesSpec)

end Rows
end Go.Proofs.Ytcakfmpckbmdeab
