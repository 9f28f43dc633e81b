/-
  No cell of these rows narrows 'for every input' (looked for: loops, veiled, ifaces, maps, wideKeys, modest, calm, conditions, laid).
  DERIVED. THE GIVEN ROWS OF THIS SEAT. 6 by the template 'for every input the law returns true; each argument reads behind the call as it read before'; 0 by the template 'total and deterministic' (their statements: YtcakfmpckbmdeacTotals.lean).
  GIVEN WITH THE SEED: the statements are not yours to turn. If you find one false, say at which input.
  Laid BY PROGRAM, IN A SANDBOX (cutbox-rows.mjs): the forced cells as the released guide's own fill.sh prints them over the translation e67d5674e3a05191… (all of the seat's roots in one cut). By AI agents, Wed Nov 11 2026. No macro, syntax, notation, axiom, sorry.
-/
import Derived.Test.YtcakfmpckbmdeacChecked
import GoSem.Claim
import GoSem.ClaimJoined
import GoSem.ClaimMapViews
import Derived.JoinedTies
import Derived.KernelRfl
namespace Go.Proofs.Ytcakfmpckbmdeac
/- THE CELL 'sum', in the pinned program and in every row, IS THE sha256 OF THE DUMP (.gsa) THAT YtcakfmpckbmdeacProg.lean LOADS. Nothing in Lean hashes anything: it is a label: what it is worth is what the hold of that sum in a sandbox is worth. -/
noncomputable def Try.pinned : Pinned := { name := "ytcakfmpckbmdeac", sum := "e67d5674e3a0519108f3520edf5d0defcd7885423106bc4f15cf94c7caa24fba", checked := Try.checked }
namespace Rows
def none {H : Type} : Left H := { results := [], args := [] }

/-- 'leeboardlaw.LedgerParts': WHATEVER THE INPUT: true; the input reads as it did. -/
def ledgerPartsSpec : ChangeSpec := { name := "ledgerParts", fn := fun _ => fun
  | [d1, d2, d3] => { results := [.lit (.bool true)], args := [d1, d2, d3] }
  | _ => none }
def ledgerPartsRow : OpenClaim := { program := "ytcakfmpckbmdeac", sum := "e67d5674e3a0519108f3520edf5d0defcd7885423106bc4f15cf94c7caa24fba", func := "leeboard/leeboardlaw.LedgerParts", spec := "ledgerParts", unfollowed := true, recurses := true, apart := false }
def LedgerPartsSaid : Prop := ledgerPartsRow.holds Try.pinned (OpenSpec.ofChange ledgerPartsSpec)

/-- ITS FALSE NEIGHBOUR: 'it returns false'. Refute it at one input. -/
def ledgerPartsWrong : ChangeSpec := { name := "ledgerParts", fn := fun _ => fun
  | [d1, d2, d3] => { results := [.lit (.bool false)], args := [d1, d2, d3] }
  | _ => none }
def LedgerPartsWrongFalsely : Prop := ledgerPartsRow.holds Try.pinned (OpenSpec.ofChange ledgerPartsWrong)

/-- 'leeboardlaw.LedgerGoesOn': WHATEVER THE INPUT: true; the input reads as it did. -/
def ledgerGoesOnSpec : ChangeSpec := { name := "ledgerGoesOn", fn := fun _ => fun
  | [d1, d2, d3] => { results := [.lit (.bool true)], args := [d1, d2, d3] }
  | _ => none }
def ledgerGoesOnRow : OpenClaim := { program := "ytcakfmpckbmdeac", sum := "e67d5674e3a0519108f3520edf5d0defcd7885423106bc4f15cf94c7caa24fba", func := "leeboard/leeboardlaw.LedgerGoesOn", spec := "ledgerGoesOn", unfollowed := true, recurses := true, apart := false }
def LedgerGoesOnSaid : Prop := ledgerGoesOnRow.holds Try.pinned (OpenSpec.ofChange ledgerGoesOnSpec)

/-- ITS FALSE NEIGHBOUR: 'it returns false'. Refute it at one input. -/
def ledgerGoesOnWrong : ChangeSpec := { name := "ledgerGoesOn", fn := fun _ => fun
  | [d1, d2, d3] => { results := [.lit (.bool false)], args := [d1, d2, d3] }
  | _ => none }
def LedgerGoesOnWrongFalsely : Prop := ledgerGoesOnRow.holds Try.pinned (OpenSpec.ofChange ledgerGoesOnWrong)

/-- 'leeboardlaw.DeniedTells': WHATEVER THE INPUT: true; the input reads as it did. -/
def deniedTellsSpec : ChangeSpec := { name := "deniedTells", fn := fun _ => fun
  | [d1, d2, d3] => { results := [.lit (.bool true)], args := [d1, d2, d3] }
  | _ => none }
def deniedTellsRow : OpenClaim := { program := "ytcakfmpckbmdeac", sum := "e67d5674e3a0519108f3520edf5d0defcd7885423106bc4f15cf94c7caa24fba", func := "leeboard/leeboardlaw.DeniedTells", spec := "deniedTells", unfollowed := true, recurses := true, apart := false }
def DeniedTellsSaid : Prop := deniedTellsRow.holds Try.pinned (OpenSpec.ofChange deniedTellsSpec)

/-- ITS FALSE NEIGHBOUR: 'it returns false'. Refute it at one input. -/
def deniedTellsWrong : ChangeSpec := { name := "deniedTells", fn := fun _ => fun
  | [d1, d2, d3] => { results := [.lit (.bool false)], args := [d1, d2, d3] }
  | _ => none }
def DeniedTellsWrongFalsely : Prop := deniedTellsRow.holds Try.pinned (OpenSpec.ofChange deniedTellsWrong)

/-- 'leeboardlaw.DeniedStays': WHATEVER THE INPUT: true; the input reads as it did. -/
def deniedStaysSpec : ChangeSpec := { name := "deniedStays", fn := fun _ => fun
  | [d1, d2, d3] => { results := [.lit (.bool true)], args := [d1, d2, d3] }
  | _ => none }
def deniedStaysRow : OpenClaim := { program := "ytcakfmpckbmdeac", sum := "e67d5674e3a0519108f3520edf5d0defcd7885423106bc4f15cf94c7caa24fba", func := "leeboard/leeboardlaw.DeniedStays", spec := "deniedStays", unfollowed := true, recurses := true, apart := false }
def DeniedStaysSaid : Prop := deniedStaysRow.holds Try.pinned (OpenSpec.ofChange deniedStaysSpec)

/-- ITS FALSE NEIGHBOUR: 'it returns false'. Refute it at one input. -/
def deniedStaysWrong : ChangeSpec := { name := "deniedStays", fn := fun _ => fun
  | [d1, d2, d3] => { results := [.lit (.bool false)], args := [d1, d2, d3] }
  | _ => none }
def DeniedStaysWrongFalsely : Prop := deniedStaysRow.holds Try.pinned (OpenSpec.ofChange deniedStaysWrong)

/-- 'leeboardlaw.DeniedOrder': WHATEVER THE INPUT: true; the input reads as it did. -/
def deniedOrderSpec : ChangeSpec := { name := "deniedOrder", fn := fun _ => fun
  | [d1, d2, d3] => { results := [.lit (.bool true)], args := [d1, d2, d3] }
  | _ => none }
def deniedOrderRow : OpenClaim := { program := "ytcakfmpckbmdeac", sum := "e67d5674e3a0519108f3520edf5d0defcd7885423106bc4f15cf94c7caa24fba", func := "leeboard/leeboardlaw.DeniedOrder", spec := "deniedOrder", unfollowed := true, recurses := true, apart := false }
def DeniedOrderSaid : Prop := deniedOrderRow.holds Try.pinned (OpenSpec.ofChange deniedOrderSpec)

/-- ITS FALSE NEIGHBOUR: 'it returns false'. Refute it at one input. -/
def deniedOrderWrong : ChangeSpec := { name := "deniedOrder", fn := fun _ => fun
  | [d1, d2, d3] => { results := [.lit (.bool false)], args := [d1, d2, d3] }
  | _ => none }
def DeniedOrderWrongFalsely : Prop := deniedOrderRow.holds Try.pinned (OpenSpec.ofChange deniedOrderWrong)

/-- 'leeboardlaw.GateTells': WHATEVER THE INPUT: true; the input reads as it did. -/
def gateTellsSpec : ChangeSpec := { name := "gateTells", fn := fun _ => fun
  | [d1, d2, d3, d4] => { results := [.lit (.bool true)], args := [d1, d2, d3, d4] }
  | _ => none }
def gateTellsRow : OpenClaim := { program := "ytcakfmpckbmdeac", sum := "e67d5674e3a0519108f3520edf5d0defcd7885423106bc4f15cf94c7caa24fba", func := "leeboard/leeboardlaw.GateTells", spec := "gateTells", unfollowed := true, recurses := true, apart := false }
def GateTellsSaid : Prop := gateTellsRow.holds Try.pinned (OpenSpec.ofChange gateTellsSpec)

/-- ITS FALSE NEIGHBOUR: 'it returns false'. Refute it at one input. -/
def gateTellsWrong : ChangeSpec := { name := "gateTells", fn := fun _ => fun
  | [d1, d2, d3, d4] => { results := [.lit (.bool false)], args := [d1, d2, d3, d4] }
  | _ => none }
def GateTellsWrongFalsely : Prop := gateTellsRow.holds Try.pinned (OpenSpec.ofChange gateTellsWrong)

/- THE SECOND FORM. 'bulk': how many values and letters a reading holds, each counted each time it is reached (what is shared counts as often as it is met; a slice's spare places count too). A statement '..UptoSaid' is the law's where the arguments, and the package variables that the reading takes, are together of bulk at most 1048576: NARROWER than '..Said'. Prove '..Said' where nothing that the law and all that it calls make is longer than what came in: it says more and counts as full. Else prove '..UptoSaid'. A law counts once. -/
mutual
def uptoBulk {H : Type} : DataW H → Nat
  | .lit (.string bytes) => bytes.length + 1
  | .lit _ => 1
  | .nil => 1
  | .ptr d => uptoBulk d + 1
  | .slice elems spare => uptoBulkAll elems + uptoBulkAll spare + 1
  | .agg parts => uptoBulkAll parts + 1
  | .iface _ d => uptoBulk d + 1
  | .map entries => uptoBulkEntries entries + 1
  | .held _ => 1
def uptoBulkAll {H : Type} : List (DataW H) → Nat
  | [] => 0
  | d :: r => uptoBulk d + uptoBulkAll r
def uptoBulkEntries {H : Type} : List (Lit × DataW H) → Nat
  | [] => 0
  | x :: r => uptoBulkEntry x + uptoBulkEntries r
def uptoBulkEntry {H : Type} : Lit × DataW H → Nat
  | (.string bytes, d) => bytes.length + uptoBulk d + 1
  | (_, d) => uptoBulk d + 1
 end
def uptoSmall : (H : Type) → List (DataW H) → Bool := fun _ ds => decide (uptoBulkAll ds ≤ 1048576)
def OpenSpec.upto (s : _root_.Go.ChangeSpec) : _root_.Go.OpenSpec := { _root_.Go.OpenSpec.ofChange s with cond := some uptoSmall }

/-- 'leeboardlaw.LedgerParts', WHERE WHAT IT READS IS OF BULK AT MOST 1048576: true; the input reads as it did. -/
def ledgerPartsUptoRow : OpenClaim := { program := "ytcakfmpckbmdeac", sum := "e67d5674e3a0519108f3520edf5d0defcd7885423106bc4f15cf94c7caa24fba", func := "leeboard/leeboardlaw.LedgerParts", spec := "ledgerParts", unfollowed := true, recurses := true, apart := false, narrowed := true }
def LedgerPartsUptoSaid : Prop := ledgerPartsUptoRow.holds Try.pinned (OpenSpec.upto ledgerPartsSpec)

/-- 'leeboardlaw.LedgerGoesOn', WHERE WHAT IT READS IS OF BULK AT MOST 1048576: true; the input reads as it did. -/
def ledgerGoesOnUptoRow : OpenClaim := { program := "ytcakfmpckbmdeac", sum := "e67d5674e3a0519108f3520edf5d0defcd7885423106bc4f15cf94c7caa24fba", func := "leeboard/leeboardlaw.LedgerGoesOn", spec := "ledgerGoesOn", unfollowed := true, recurses := true, apart := false, narrowed := true }
def LedgerGoesOnUptoSaid : Prop := ledgerGoesOnUptoRow.holds Try.pinned (OpenSpec.upto ledgerGoesOnSpec)

/-- 'leeboardlaw.DeniedTells', WHERE WHAT IT READS IS OF BULK AT MOST 1048576: true; the input reads as it did. -/
def deniedTellsUptoRow : OpenClaim := { program := "ytcakfmpckbmdeac", sum := "e67d5674e3a0519108f3520edf5d0defcd7885423106bc4f15cf94c7caa24fba", func := "leeboard/leeboardlaw.DeniedTells", spec := "deniedTells", unfollowed := true, recurses := true, apart := false, narrowed := true }
def DeniedTellsUptoSaid : Prop := deniedTellsUptoRow.holds Try.pinned (OpenSpec.upto deniedTellsSpec)

/-- 'leeboardlaw.DeniedStays', WHERE WHAT IT READS IS OF BULK AT MOST 1048576: true; the input reads as it did. -/
def deniedStaysUptoRow : OpenClaim := { program := "ytcakfmpckbmdeac", sum := "e67d5674e3a0519108f3520edf5d0defcd7885423106bc4f15cf94c7caa24fba", func := "leeboard/leeboardlaw.DeniedStays", spec := "deniedStays", unfollowed := true, recurses := true, apart := false, narrowed := true }
def DeniedStaysUptoSaid : Prop := deniedStaysUptoRow.holds Try.pinned (OpenSpec.upto deniedStaysSpec)

/-- 'leeboardlaw.DeniedOrder', WHERE WHAT IT READS IS OF BULK AT MOST 1048576: true; the input reads as it did. -/
def deniedOrderUptoRow : OpenClaim := { program := "ytcakfmpckbmdeac", sum := "e67d5674e3a0519108f3520edf5d0defcd7885423106bc4f15cf94c7caa24fba", func := "leeboard/leeboardlaw.DeniedOrder", spec := "deniedOrder", unfollowed := true, recurses := true, apart := false, narrowed := true }
def DeniedOrderUptoSaid : Prop := deniedOrderUptoRow.holds Try.pinned (OpenSpec.upto deniedOrderSpec)

/-- 'leeboardlaw.GateTells', WHERE WHAT IT READS IS OF BULK AT MOST 1048576: true; the input reads as it did. -/
def gateTellsUptoRow : OpenClaim := { program := "ytcakfmpckbmdeac", sum := "e67d5674e3a0519108f3520edf5d0defcd7885423106bc4f15cf94c7caa24fba", func := "leeboard/leeboardlaw.GateTells", spec := "gateTells", unfollowed := true, recurses := true, apart := false, narrowed := true }
def GateTellsUptoSaid : Prop := gateTellsUptoRow.holds Try.pinned (OpenSpec.upto gateTellsSpec)

end Rows
end Go.Proofs.Ytcakfmpckbmdeac
