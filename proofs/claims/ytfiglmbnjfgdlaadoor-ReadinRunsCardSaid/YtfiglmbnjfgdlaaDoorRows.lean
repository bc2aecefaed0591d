/-
  NARROWER THAN 'FOR EVERY INPUT', by the rows' own cells (each row's printed sentence says how): ReadinSteps: laid · ReadinRuns: laid · ReadinKnown: laid · ReadinFrames: laid · ReadinArrives: laid.
  DERIVED. THE GIVEN ROWS OF THIS SEAT. 5 by the template 'for every input the law returns true; each argument reads behind the call as it read before'; 0 by the template 'total and deterministic' (their statements: YtfiglmbnjfgdlaaDoorTotals.lean).
  GIVEN WITH THE SEED: the statements are not yours to turn. If you find one false, say at which input.
  Laid BY PROGRAM, IN A SANDBOX (cutbox-rows.mjs): the forced cells as the released guide's own fill.sh prints them over the translation fc751c6810940761… (all of the seat's roots in one cut). By AI agents, Wed Nov 11 2026. No macro, syntax, notation, axiom, sorry.
-/
import Derived.Test.YtfiglmbnjfgdlaaDoorChecked
import GoSem.Claim
import GoSem.ClaimJoined
import GoSem.ClaimMapViews
import Derived.JoinedTies
import Derived.KernelRfl
namespace Go.Proofs.YtfiglmbnjfgdlaaDoor
/- THE CELL 'sum', in the pinned program and in every row, IS THE sha256 OF THE DUMP (.gsa) THAT YtfiglmbnjfgdlaaDoorProg.lean LOADS. Nothing in Lean hashes anything: it is a label: what it is worth is what the hold of that sum in a sandbox is worth. -/
noncomputable def Tryd.pinned : Pinned := { name := "ytfiglmbnjfgdlaadoor", sum := "fc751c681094076198d04f8d0aff83a609d827f3d88db03ff91d20e89063ef28", checked := Tryd.checked }
namespace Rows
def none {H : Type} : Left H := { results := [], args := [] }

/- WHAT THE LISTED PACKAGE-LEVEL VARIABLES READ AS WHEN THE CALL BEGINS. Each datum BY PROGRAM (the guide's laid-datum.mjs) off the statement by which the dump's own 'gosem.cut.vars' lays the variable. In a bare row this is a premise. The card (YtfiglmbnjfgdlaaDoorCards.lean) ties it to the program's text. -/
def laid_headgate_readin_possible {H : Type} : DataW H := .agg [.agg [.lit (.int .u8 0), .lit (.int .u8 0)], .agg [.lit (.int .u8 66), .lit (.int .u8 84)], .agg [.lit (.int .u8 72), .lit (.int .u8 84)], .agg [.lit (.int .u8 96), .lit (.int .u8 0)], .agg [.lit (.int .u8 0), .lit (.int .u8 80)], .agg [.lit (.int .u8 0), .lit (.int .u8 0)], .agg [.lit (.int .u8 32), .lit (.int .u8 0)], .agg [.lit (.int .u8 0), .lit (.int .u8 16)], .agg [.lit (.int .u8 0), .lit (.int .u8 0)]]

/-- 'headgatelaw21.ReadinSteps': WHATEVER THE INPUT: true; the input reads as it did. -/
def readinStepsSpec : ChangeSpec := { name := "readinSteps", fn := fun _ => fun
  | [d1, d2, d3] => { results := [.lit (.bool true)], args := [d1, d2, d3] }
  | _ => none }
def readinStepsRow : OpenClaim := { program := "ytfiglmbnjfgdlaadoor", sum := "fc751c681094076198d04f8d0aff83a609d827f3d88db03ff91d20e89063ef28", func := "headgate/headgatelaw21.ReadinSteps", spec := "readinSteps", unfollowed := true, recurses := true, named := ["headgate/readin.possible"], apart := false, laid := [("headgate/readin.possible", laid_headgate_readin_possible)] }
def ReadinStepsSaid : Prop := readinStepsRow.holds Tryd.pinned (OpenSpec.ofChange readinStepsSpec)

/-- ITS FALSE NEIGHBOUR: 'it returns false'. Refute it at one input. -/
def readinStepsWrong : ChangeSpec := { name := "readinSteps", fn := fun _ => fun
  | [d1, d2, d3] => { results := [.lit (.bool false)], args := [d1, d2, d3] }
  | _ => none }
def ReadinStepsWrongFalsely : Prop := readinStepsRow.holds Tryd.pinned (OpenSpec.ofChange readinStepsWrong)

/-- 'headgatelaw21.ReadinRuns': WHATEVER THE INPUT: true; the input reads as it did. -/
def readinRunsSpec : ChangeSpec := { name := "readinRuns", fn := fun _ => fun
  | [d1, d2] => { results := [.lit (.bool true)], args := [d1, d2] }
  | _ => none }
def readinRunsRow : OpenClaim := { program := "ytfiglmbnjfgdlaadoor", sum := "fc751c681094076198d04f8d0aff83a609d827f3d88db03ff91d20e89063ef28", func := "headgate/headgatelaw21.ReadinRuns", spec := "readinRuns", unfollowed := true, recurses := true, named := ["headgate/readin.possible"], apart := false, laid := [("headgate/readin.possible", laid_headgate_readin_possible)] }
def ReadinRunsSaid : Prop := readinRunsRow.holds Tryd.pinned (OpenSpec.ofChange readinRunsSpec)

/-- ITS FALSE NEIGHBOUR: 'it returns false'. Refute it at one input. -/
def readinRunsWrong : ChangeSpec := { name := "readinRuns", fn := fun _ => fun
  | [d1, d2] => { results := [.lit (.bool false)], args := [d1, d2] }
  | _ => none }
def ReadinRunsWrongFalsely : Prop := readinRunsRow.holds Tryd.pinned (OpenSpec.ofChange readinRunsWrong)

/-- 'headgatelaw21.ReadinKnown': WHATEVER THE INPUT: true; the input reads as it did. -/
def readinKnownSpec : ChangeSpec := { name := "readinKnown", fn := fun _ => fun
  | [] => { results := [.lit (.bool true)], args := [] }
  | _ => none }
def readinKnownRow : OpenClaim := { program := "ytfiglmbnjfgdlaadoor", sum := "fc751c681094076198d04f8d0aff83a609d827f3d88db03ff91d20e89063ef28", func := "headgate/headgatelaw21.ReadinKnown", spec := "readinKnown", unfollowed := true, recurses := true, named := ["headgate/readin.possible"], apart := false, laid := [("headgate/readin.possible", laid_headgate_readin_possible)] }
def ReadinKnownSaid : Prop := readinKnownRow.holds Tryd.pinned (OpenSpec.ofChange readinKnownSpec)

/-- ITS FALSE NEIGHBOUR: 'it returns false'. Refute it at one input. -/
def readinKnownWrong : ChangeSpec := { name := "readinKnown", fn := fun _ => fun
  | [] => { results := [.lit (.bool false)], args := [] }
  | _ => none }
def ReadinKnownWrongFalsely : Prop := readinKnownRow.holds Tryd.pinned (OpenSpec.ofChange readinKnownWrong)

/-- 'headgatelaw21.ReadinFrames': WHATEVER THE INPUT: true; the input reads as it did. -/
def readinFramesSpec : ChangeSpec := { name := "readinFrames", fn := fun _ => fun
  | [d1, d2] => { results := [.lit (.bool true)], args := [d1, d2] }
  | _ => none }
def readinFramesRow : OpenClaim := { program := "ytfiglmbnjfgdlaadoor", sum := "fc751c681094076198d04f8d0aff83a609d827f3d88db03ff91d20e89063ef28", func := "headgate/headgatelaw21.ReadinFrames", spec := "readinFrames", unfollowed := true, recurses := true, named := ["headgate/readin.possible"], apart := false, laid := [("headgate/readin.possible", laid_headgate_readin_possible)] }
def ReadinFramesSaid : Prop := readinFramesRow.holds Tryd.pinned (OpenSpec.ofChange readinFramesSpec)

/-- ITS FALSE NEIGHBOUR: 'it returns false'. Refute it at one input. -/
def readinFramesWrong : ChangeSpec := { name := "readinFrames", fn := fun _ => fun
  | [d1, d2] => { results := [.lit (.bool false)], args := [d1, d2] }
  | _ => none }
def ReadinFramesWrongFalsely : Prop := readinFramesRow.holds Tryd.pinned (OpenSpec.ofChange readinFramesWrong)

/-- 'headgatelaw21.ReadinArrives': WHATEVER THE INPUT: true; the input reads as it did. -/
def readinArrivesSpec : ChangeSpec := { name := "readinArrives", fn := fun _ => fun
  | [d1, d2] => { results := [.lit (.bool true)], args := [d1, d2] }
  | _ => none }
def readinArrivesRow : OpenClaim := { program := "ytfiglmbnjfgdlaadoor", sum := "fc751c681094076198d04f8d0aff83a609d827f3d88db03ff91d20e89063ef28", func := "headgate/headgatelaw21.ReadinArrives", spec := "readinArrives", unfollowed := true, recurses := true, named := ["headgate/readin.possible"], apart := false, laid := [("headgate/readin.possible", laid_headgate_readin_possible)] }
def ReadinArrivesSaid : Prop := readinArrivesRow.holds Tryd.pinned (OpenSpec.ofChange readinArrivesSpec)

/-- ITS FALSE NEIGHBOUR: 'it returns false'. Refute it at one input. -/
def readinArrivesWrong : ChangeSpec := { name := "readinArrives", fn := fun _ => fun
  | [d1, d2] => { results := [.lit (.bool false)], args := [d1, d2] }
  | _ => none }
def ReadinArrivesWrongFalsely : Prop := readinArrivesRow.holds Tryd.pinned (OpenSpec.ofChange readinArrivesWrong)

/- THE SECOND FORM. 'bulk': how many values and letters a reading holds, each counted each time it is reached (what is shared counts as often as it is met; a slice's spare places count too). A statement '..UptoSaid' is the law's where the arguments, and the package variables that the reading takes, are together of bulk at most 1048576: NARROWER than '..Said'. Prove '..Said' where nothing that the law and all that it calls make is longer than what came in: it says more and counts as full. Else prove '..UptoSaid'. A law counts once. -/
mutual
def uptoBulk {H : Type} : DataW H → Nat
  | .lit (.string bytes) => bytes.length + 1
  | .lit _ => 1
  | .nil => 1
  | .ptr d => uptoBulk d + 1
  | .slice elems spare => uptoBulkAll elems + uptoBulkAll spare + 1
  | .agg parts => uptoBulkAll parts + 1
  | .iface _ d => uptoBulk d + 1
  | .map entries => uptoBulkEntries entries + 1
  | .held _ => 1
def uptoBulkAll {H : Type} : List (DataW H) → Nat
  | [] => 0
  | d :: r => uptoBulk d + uptoBulkAll r
def uptoBulkEntries {H : Type} : List (Lit × DataW H) → Nat
  | [] => 0
  | x :: r => uptoBulkEntry x + uptoBulkEntries r
def uptoBulkEntry {H : Type} : Lit × DataW H → Nat
  | (.string bytes, d) => bytes.length + uptoBulk d + 1
  | (_, d) => uptoBulk d + 1
 end
def uptoSmall : (H : Type) → List (DataW H) → Bool := fun _ ds => decide (uptoBulkAll ds ≤ 1048576)
def OpenSpec.upto (s : _root_.Go.ChangeSpec) : _root_.Go.OpenSpec := { _root_.Go.OpenSpec.ofChange s with cond := some uptoSmall }

/-- 'headgatelaw21.ReadinSteps', WHERE WHAT IT READS IS OF BULK AT MOST 1048576: true; the input reads as it did. -/
def readinStepsUptoRow : OpenClaim := { program := "ytfiglmbnjfgdlaadoor", sum := "fc751c681094076198d04f8d0aff83a609d827f3d88db03ff91d20e89063ef28", func := "headgate/headgatelaw21.ReadinSteps", spec := "readinSteps", unfollowed := true, recurses := true, named := ["headgate/readin.possible"], apart := false, laid := [("headgate/readin.possible", laid_headgate_readin_possible)], narrowed := true }
def ReadinStepsUptoSaid : Prop := readinStepsUptoRow.holds Tryd.pinned (OpenSpec.upto readinStepsSpec)

/-- 'headgatelaw21.ReadinRuns', WHERE WHAT IT READS IS OF BULK AT MOST 1048576: true; the input reads as it did. -/
def readinRunsUptoRow : OpenClaim := { program := "ytfiglmbnjfgdlaadoor", sum := "fc751c681094076198d04f8d0aff83a609d827f3d88db03ff91d20e89063ef28", func := "headgate/headgatelaw21.ReadinRuns", spec := "readinRuns", unfollowed := true, recurses := true, named := ["headgate/readin.possible"], apart := false, laid := [("headgate/readin.possible", laid_headgate_readin_possible)], narrowed := true }
def ReadinRunsUptoSaid : Prop := readinRunsUptoRow.holds Tryd.pinned (OpenSpec.upto readinRunsSpec)

/-- 'headgatelaw21.ReadinKnown', WHERE WHAT IT READS IS OF BULK AT MOST 1048576: true; the input reads as it did. -/
def readinKnownUptoRow : OpenClaim := { program := "ytfiglmbnjfgdlaadoor", sum := "fc751c681094076198d04f8d0aff83a609d827f3d88db03ff91d20e89063ef28", func := "headgate/headgatelaw21.ReadinKnown", spec := "readinKnown", unfollowed := true, recurses := true, named := ["headgate/readin.possible"], apart := false, laid := [("headgate/readin.possible", laid_headgate_readin_possible)], narrowed := true }
def ReadinKnownUptoSaid : Prop := readinKnownUptoRow.holds Tryd.pinned (OpenSpec.upto readinKnownSpec)

/-- 'headgatelaw21.ReadinFrames', WHERE WHAT IT READS IS OF BULK AT MOST 1048576: true; the input reads as it did. -/
def readinFramesUptoRow : OpenClaim := { program := "ytfiglmbnjfgdlaadoor", sum := "fc751c681094076198d04f8d0aff83a609d827f3d88db03ff91d20e89063ef28", func := "headgate/headgatelaw21.ReadinFrames", spec := "readinFrames", unfollowed := true, recurses := true, named := ["headgate/readin.possible"], apart := false, laid := [("headgate/readin.possible", laid_headgate_readin_possible)], narrowed := true }
def ReadinFramesUptoSaid : Prop := readinFramesUptoRow.holds Tryd.pinned (OpenSpec.upto readinFramesSpec)

/-- 'headgatelaw21.ReadinArrives', WHERE WHAT IT READS IS OF BULK AT MOST 1048576: true; the input reads as it did. -/
def readinArrivesUptoRow : OpenClaim := { program := "ytfiglmbnjfgdlaadoor", sum := "fc751c681094076198d04f8d0aff83a609d827f3d88db03ff91d20e89063ef28", func := "headgate/headgatelaw21.ReadinArrives", spec := "readinArrives", unfollowed := true, recurses := true, named := ["headgate/readin.possible"], apart := false, laid := [("headgate/readin.possible", laid_headgate_readin_possible)], narrowed := true }
def ReadinArrivesUptoSaid : Prop := readinArrivesUptoRow.holds Tryd.pinned (OpenSpec.upto readinArrivesSpec)

end Rows
end Go.Proofs.YtfiglmbnjfgdlaaDoor
