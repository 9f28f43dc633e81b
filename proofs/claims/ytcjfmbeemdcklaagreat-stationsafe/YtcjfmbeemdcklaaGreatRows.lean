/-
  No cell of these rows narrows 'for every input' (looked for: loops, veiled, ifaces, maps, wideKeys, modest, calm, conditions, laid).
  DERIVED. THE GIVEN ROWS OF THIS SEAT. 4 by the template 'for every input the law returns true; each argument reads behind the call as it read before'; 0 by the template 'total and deterministic' (their statements: YtcjfmbeemdcklaaGreatTotals.lean).
  GIVEN WITH THE SEED: the statements are not yours to turn. If you find one false, say at which input.
  Laid BY PROGRAM, IN A SANDBOX (cutbox-rows.mjs): the forced cells as the released guide's own fill.sh prints them over the translation f182139a7b0ab262… (all of the seat's roots in one cut). By AI agents, Wed Nov 11 2026. No macro, syntax, notation, axiom, sorry.
-/
import Derived.Test.YtcjfmbeemdcklaaGreatChecked
import GoSem.Claim
import GoSem.ClaimJoined
import GoSem.ClaimMapViews
import Derived.JoinedTies
import Derived.KernelRfl
namespace Go.Proofs.YtcjfmbeemdcklaaGreat
/- THE CELL 'sum', in the pinned program and in every row, IS THE sha256 OF THE DUMP (.gsa) THAT YtcjfmbeemdcklaaGreatProg.lean LOADS. Nothing in Lean hashes anything: it is a label: what it is worth is what the hold of that sum in a sandbox is worth. -/
noncomputable def Tryz.pinned : Pinned := { name := "ytcjfmbeemdcklaagreat", sum := "f182139a7b0ab262ccdeb06b97bd04adc60b7265cc198bc0bc6f3226c9ef908b", checked := Tryz.checked }
namespace Rows
def none {H : Type} : Left H := { results := [], args := [] }

/-- 'leeboardlaw.StationAlone': WHATEVER THE INPUT: true; the input reads as it did. -/
def stationAloneSpec : ChangeSpec := { name := "stationAlone", fn := fun _ => fun
  | [d1, d2, d3, d4] => { results := [.lit (.bool true)], args := [d1, d2, d3, d4] }
  | _ => none }
def stationAloneRow : OpenClaim := { program := "ytcjfmbeemdcklaagreat", sum := "f182139a7b0ab262ccdeb06b97bd04adc60b7265cc198bc0bc6f3226c9ef908b", func := "leeboard/leeboardlaw.StationAlone", spec := "stationAlone", unfollowed := true, recurses := true, apart := false }
def StationAloneSaid : Prop := stationAloneRow.holds Tryz.pinned (OpenSpec.ofChange stationAloneSpec)

/-- ITS FALSE NEIGHBOUR: 'it returns false'. Refute it at one input. -/
def stationAloneWrong : ChangeSpec := { name := "stationAlone", fn := fun _ => fun
  | [d1, d2, d3, d4] => { results := [.lit (.bool false)], args := [d1, d2, d3, d4] }
  | _ => none }
def StationAloneWrongFalsely : Prop := stationAloneRow.holds Tryz.pinned (OpenSpec.ofChange stationAloneWrong)

/-- 'leeboardlaw.StationTells': WHATEVER THE INPUT: true; the input reads as it did. -/
def stationTellsSpec : ChangeSpec := { name := "stationTells", fn := fun _ => fun
  | [d1, d2, d3, d4, d5] => { results := [.lit (.bool true)], args := [d1, d2, d3, d4, d5] }
  | _ => none }
def stationTellsRow : OpenClaim := { program := "ytcjfmbeemdcklaagreat", sum := "f182139a7b0ab262ccdeb06b97bd04adc60b7265cc198bc0bc6f3226c9ef908b", func := "leeboard/leeboardlaw.StationTells", spec := "stationTells", unfollowed := true, recurses := true, apart := false }
def StationTellsSaid : Prop := stationTellsRow.holds Tryz.pinned (OpenSpec.ofChange stationTellsSpec)

/-- ITS FALSE NEIGHBOUR: 'it returns false'. Refute it at one input. -/
def stationTellsWrong : ChangeSpec := { name := "stationTells", fn := fun _ => fun
  | [d1, d2, d3, d4, d5] => { results := [.lit (.bool false)], args := [d1, d2, d3, d4, d5] }
  | _ => none }
def StationTellsWrongFalsely : Prop := stationTellsRow.holds Tryz.pinned (OpenSpec.ofChange stationTellsWrong)

/-- 'leeboardlaw.StationFound': WHATEVER THE INPUT: true; the input reads as it did. -/
def stationFoundSpec : ChangeSpec := { name := "stationFound", fn := fun _ => fun
  | [d1, d2, d3] => { results := [.lit (.bool true)], args := [d1, d2, d3] }
  | _ => none }
def stationFoundRow : OpenClaim := { program := "ytcjfmbeemdcklaagreat", sum := "f182139a7b0ab262ccdeb06b97bd04adc60b7265cc198bc0bc6f3226c9ef908b", func := "leeboard/leeboardlaw.StationFound", spec := "stationFound", unfollowed := true, recurses := true, apart := false }
def StationFoundSaid : Prop := stationFoundRow.holds Tryz.pinned (OpenSpec.ofChange stationFoundSpec)

/-- ITS FALSE NEIGHBOUR: 'it returns false'. Refute it at one input. -/
def stationFoundWrong : ChangeSpec := { name := "stationFound", fn := fun _ => fun
  | [d1, d2, d3] => { results := [.lit (.bool false)], args := [d1, d2, d3] }
  | _ => none }
def StationFoundWrongFalsely : Prop := stationFoundRow.holds Tryz.pinned (OpenSpec.ofChange stationFoundWrong)

/-- 'leeboardlaw.StationSafe': WHATEVER THE INPUT: true; the input reads as it did. -/
def stationSafeSpec : ChangeSpec := { name := "stationSafe", fn := fun _ => fun
  | [d1, d2, d3, d4] => { results := [.lit (.bool true)], args := [d1, d2, d3, d4] }
  | _ => none }
def stationSafeRow : OpenClaim := { program := "ytcjfmbeemdcklaagreat", sum := "f182139a7b0ab262ccdeb06b97bd04adc60b7265cc198bc0bc6f3226c9ef908b", func := "leeboard/leeboardlaw.StationSafe", spec := "stationSafe", unfollowed := true, recurses := true, apart := false }
def StationSafeSaid : Prop := stationSafeRow.holds Tryz.pinned (OpenSpec.ofChange stationSafeSpec)

/-- ITS FALSE NEIGHBOUR: 'it returns false'. Refute it at one input. -/
def stationSafeWrong : ChangeSpec := { name := "stationSafe", fn := fun _ => fun
  | [d1, d2, d3, d4] => { results := [.lit (.bool false)], args := [d1, d2, d3, d4] }
  | _ => none }
def StationSafeWrongFalsely : Prop := stationSafeRow.holds Tryz.pinned (OpenSpec.ofChange stationSafeWrong)

/- THE SECOND FORM. 'bulk': how many values and letters a reading holds, each counted each time it is reached (what is shared counts as often as it is met; a slice's spare places count too). A statement '..UptoSaid' is the law's where the arguments, and the package variables that the reading takes, are together of bulk at most 1048576: NARROWER than '..Said'. Prove '..Said' where nothing that the law and all that it calls make is longer than what came in: it says more and counts as full. Else prove '..UptoSaid'. A law counts once. -/
mutual
def uptoBulk {H : Type} : DataW H → Nat
  | .lit (.string bytes) => bytes.length + 1
  | .lit _ => 1
  | .nil => 1
  | .ptr d => uptoBulk d + 1
  | .slice elems spare => uptoBulkAll elems + uptoBulkAll spare + 1
  | .agg parts => uptoBulkAll parts + 1
  | .iface _ d => uptoBulk d + 1
  | .map entries => uptoBulkEntries entries + 1
  | .held _ => 1
def uptoBulkAll {H : Type} : List (DataW H) → Nat
  | [] => 0
  | d :: r => uptoBulk d + uptoBulkAll r
def uptoBulkEntries {H : Type} : List (Lit × DataW H) → Nat
  | [] => 0
  | x :: r => uptoBulkEntry x + uptoBulkEntries r
def uptoBulkEntry {H : Type} : Lit × DataW H → Nat
  | (.string bytes, d) => bytes.length + uptoBulk d + 1
  | (_, d) => uptoBulk d + 1
 end
def uptoSmall : (H : Type) → List (DataW H) → Bool := fun _ ds => decide (uptoBulkAll ds ≤ 1048576)
def OpenSpec.upto (s : _root_.Go.ChangeSpec) : _root_.Go.OpenSpec := { _root_.Go.OpenSpec.ofChange s with cond := some uptoSmall }

/-- 'leeboardlaw.StationAlone', WHERE WHAT IT READS IS OF BULK AT MOST 1048576: true; the input reads as it did. -/
def stationAloneUptoRow : OpenClaim := { program := "ytcjfmbeemdcklaagreat", sum := "f182139a7b0ab262ccdeb06b97bd04adc60b7265cc198bc0bc6f3226c9ef908b", func := "leeboard/leeboardlaw.StationAlone", spec := "stationAlone", unfollowed := true, recurses := true, apart := false, narrowed := true }
def StationAloneUptoSaid : Prop := stationAloneUptoRow.holds Tryz.pinned (OpenSpec.upto stationAloneSpec)

/-- 'leeboardlaw.StationTells', WHERE WHAT IT READS IS OF BULK AT MOST 1048576: true; the input reads as it did. -/
def stationTellsUptoRow : OpenClaim := { program := "ytcjfmbeemdcklaagreat", sum := "f182139a7b0ab262ccdeb06b97bd04adc60b7265cc198bc0bc6f3226c9ef908b", func := "leeboard/leeboardlaw.StationTells", spec := "stationTells", unfollowed := true, recurses := true, apart := false, narrowed := true }
def StationTellsUptoSaid : Prop := stationTellsUptoRow.holds Tryz.pinned (OpenSpec.upto stationTellsSpec)

/-- 'leeboardlaw.StationFound', WHERE WHAT IT READS IS OF BULK AT MOST 1048576: true; the input reads as it did. -/
def stationFoundUptoRow : OpenClaim := { program := "ytcjfmbeemdcklaagreat", sum := "f182139a7b0ab262ccdeb06b97bd04adc60b7265cc198bc0bc6f3226c9ef908b", func := "leeboard/leeboardlaw.StationFound", spec := "stationFound", unfollowed := true, recurses := true, apart := false, narrowed := true }
def StationFoundUptoSaid : Prop := stationFoundUptoRow.holds Tryz.pinned (OpenSpec.upto stationFoundSpec)

/-- 'leeboardlaw.StationSafe', WHERE WHAT IT READS IS OF BULK AT MOST 1048576: true; the input reads as it did. -/
def stationSafeUptoRow : OpenClaim := { program := "ytcjfmbeemdcklaagreat", sum := "f182139a7b0ab262ccdeb06b97bd04adc60b7265cc198bc0bc6f3226c9ef908b", func := "leeboard/leeboardlaw.StationSafe", spec := "stationSafe", unfollowed := true, recurses := true, apart := false, narrowed := true }
def StationSafeUptoSaid : Prop := stationSafeUptoRow.holds Tryz.pinned (OpenSpec.upto stationSafeSpec)

end Rows
end Go.Proofs.YtcjfmbeemdcklaaGreat
