/-
  NARROWER THAN 'FOR EVERY INPUT', by the rows' own cells (each row's printed sentence says how): PostPuts: laid · PostSlips: laid · PostUnlike: laid.
  DERIVED. THE GIVEN ROWS OF THIS SEAT. 3 by the template 'for every input the law returns true; each argument reads behind the call as it read before'; 0 by the template 'total and deterministic' (their statements: YtppibcambhmomaaDoorTotals.lean).
  GIVEN WITH THE SEED: the statements are not yours to turn. If you find one false, say at which input.
  Laid BY PROGRAM, IN A SANDBOX (cutbox-rows.mjs): the forced cells as the released guide's own fill.sh prints them over the translation 31ff9968ff95939d… (all of the seat's roots in one cut). By AI agents, Wed Nov 11 2026. No macro, syntax, notation, axiom, sorry.
-/
import Derived.Test.YtppibcambhmomaaDoorChecked
import GoSem.Claim
import GoSem.ClaimJoined
import GoSem.ClaimMapViews
import Derived.JoinedTies
import Derived.KernelRfl
namespace Go.Proofs.YtppibcambhmomaaDoor
/- THE CELL 'sum', in the pinned program and in every row, IS THE sha256 OF THE DUMP (.gsa) THAT YtppibcambhmomaaDoorProg.lean LOADS. Nothing in Lean hashes anything: it is a label: what it is worth is what the hold of that sum in a sandbox is worth. -/
noncomputable def Tryd.pinned : Pinned := { name := "ytppibcambhmomaadoor", sum := "31ff9968ff95939db59f470e6b2e72fcb2a129e62d75454a0024d8d67be63af6", checked := Tryd.checked }
namespace Rows
def none {H : Type} : Left H := { results := [], args := [] }

/- WHAT THE LISTED PACKAGE-LEVEL VARIABLES READ AS WHEN THE CALL BEGINS. Each datum BY PROGRAM (the guide's laid-datum.mjs) off the statement by which the dump's own 'gosem.cut.vars' lays the variable. In a bare row this is a premise. The card (YtppibcambhmomaaDoorCards.lean) ties it to the program's text. -/
def laid_bollard_api_ErrNumber {H : Type} : DataW H := .iface "*errors.errorString" (.ptr (.agg [.lit (.string [98, 111, 108, 108, 97, 114, 100, 58, 32, 110, 117, 109, 98, 101, 114])]))
def laid_bollard_api_ErrBytes {H : Type} : DataW H := .iface "*errors.errorString" (.ptr (.agg [.lit (.string [98, 111, 108, 108, 97, 114, 100, 58, 32, 98, 121, 116, 101, 115])]))
def laid_bollard_api_ErrDigest {H : Type} : DataW H := .iface "*errors.errorString" (.ptr (.agg [.lit (.string [98, 111, 108, 108, 97, 114, 100, 58, 32, 100, 105, 103, 101, 115, 116])]))
def laid_bollard_api_ErrLarge {H : Type} : DataW H := .iface "*errors.errorString" (.ptr (.agg [.lit (.string [98, 111, 108, 108, 97, 114, 100, 58, 32, 108, 97, 114, 103, 101])]))
def laid_bollard_api_ErrState {H : Type} : DataW H := .iface "*errors.errorString" (.ptr (.agg [.lit (.string [98, 111, 108, 108, 97, 114, 100, 58, 32, 115, 116, 97, 116, 101])]))

/-- 'bollardlaw15.PostPuts': WHATEVER THE INPUT: true; the input reads as it did. -/
def postPutsSpec : ChangeSpec := { name := "postPuts", fn := fun _ => fun
  | [d] => { results := [.lit (.bool true)], args := [d] }
  | _ => none }
def postPutsRow : OpenClaim := { program := "ytppibcambhmomaadoor", sum := "31ff9968ff95939db59f470e6b2e72fcb2a129e62d75454a0024d8d67be63af6", func := "bollard/bollardlaw15.PostPuts", spec := "postPuts", unfollowed := true, recurses := true, named := ["bollard/api.ErrState", "bollard/api.ErrLarge", "bollard/api.ErrNumber", "bollard/api.ErrBytes", "bollard/api.ErrDigest"], apart := false, laid := [("bollard/api.ErrNumber", laid_bollard_api_ErrNumber), ("bollard/api.ErrBytes", laid_bollard_api_ErrBytes), ("bollard/api.ErrDigest", laid_bollard_api_ErrDigest), ("bollard/api.ErrLarge", laid_bollard_api_ErrLarge), ("bollard/api.ErrState", laid_bollard_api_ErrState)] }
def PostPutsSaid : Prop := postPutsRow.holds Tryd.pinned (OpenSpec.ofChange postPutsSpec)

/-- ITS FALSE NEIGHBOUR: 'it returns false'. Refute it at one input. -/
def postPutsWrong : ChangeSpec := { name := "postPuts", fn := fun _ => fun
  | [d] => { results := [.lit (.bool false)], args := [d] }
  | _ => none }
def PostPutsWrongFalsely : Prop := postPutsRow.holds Tryd.pinned (OpenSpec.ofChange postPutsWrong)

/-- 'bollardlaw15.PostSlips': WHATEVER THE INPUT: true; the input reads as it did. -/
def postSlipsSpec : ChangeSpec := { name := "postSlips", fn := fun _ => fun
  | [d1, d2, d3] => { results := [.lit (.bool true)], args := [d1, d2, d3] }
  | _ => none }
def postSlipsRow : OpenClaim := { program := "ytppibcambhmomaadoor", sum := "31ff9968ff95939db59f470e6b2e72fcb2a129e62d75454a0024d8d67be63af6", func := "bollard/bollardlaw15.PostSlips", spec := "postSlips", unfollowed := true, recurses := true, named := ["bollard/api.ErrState", "bollard/api.ErrLarge", "bollard/api.ErrNumber", "bollard/api.ErrBytes", "bollard/api.ErrDigest"], apart := false, laid := [("bollard/api.ErrNumber", laid_bollard_api_ErrNumber), ("bollard/api.ErrBytes", laid_bollard_api_ErrBytes), ("bollard/api.ErrDigest", laid_bollard_api_ErrDigest), ("bollard/api.ErrLarge", laid_bollard_api_ErrLarge), ("bollard/api.ErrState", laid_bollard_api_ErrState)] }
def PostSlipsSaid : Prop := postSlipsRow.holds Tryd.pinned (OpenSpec.ofChange postSlipsSpec)

/-- ITS FALSE NEIGHBOUR: 'it returns false'. Refute it at one input. -/
def postSlipsWrong : ChangeSpec := { name := "postSlips", fn := fun _ => fun
  | [d1, d2, d3] => { results := [.lit (.bool false)], args := [d1, d2, d3] }
  | _ => none }
def PostSlipsWrongFalsely : Prop := postSlipsRow.holds Tryd.pinned (OpenSpec.ofChange postSlipsWrong)

/-- 'bollardlaw15.PostUnlike': WHATEVER THE INPUT: true; the input reads as it did. -/
def postUnlikeSpec : ChangeSpec := { name := "postUnlike", fn := fun _ => fun
  | [d1, d2] => { results := [.lit (.bool true)], args := [d1, d2] }
  | _ => none }
def postUnlikeRow : OpenClaim := { program := "ytppibcambhmomaadoor", sum := "31ff9968ff95939db59f470e6b2e72fcb2a129e62d75454a0024d8d67be63af6", func := "bollard/bollardlaw15.PostUnlike", spec := "postUnlike", unfollowed := true, recurses := true, named := ["bollard/api.ErrState", "bollard/api.ErrLarge", "bollard/api.ErrNumber", "bollard/api.ErrBytes", "bollard/api.ErrDigest"], apart := false, laid := [("bollard/api.ErrNumber", laid_bollard_api_ErrNumber), ("bollard/api.ErrBytes", laid_bollard_api_ErrBytes), ("bollard/api.ErrDigest", laid_bollard_api_ErrDigest), ("bollard/api.ErrLarge", laid_bollard_api_ErrLarge), ("bollard/api.ErrState", laid_bollard_api_ErrState)] }
def PostUnlikeSaid : Prop := postUnlikeRow.holds Tryd.pinned (OpenSpec.ofChange postUnlikeSpec)

/-- ITS FALSE NEIGHBOUR: 'it returns false'. Refute it at one input. -/
def postUnlikeWrong : ChangeSpec := { name := "postUnlike", fn := fun _ => fun
  | [d1, d2] => { results := [.lit (.bool false)], args := [d1, d2] }
  | _ => none }
def PostUnlikeWrongFalsely : Prop := postUnlikeRow.holds Tryd.pinned (OpenSpec.ofChange postUnlikeWrong)

/- THE SECOND FORM. 'bulk': how many values and letters a reading holds, each counted each time it is reached (what is shared counts as often as it is met; a slice's spare places count too). A statement '..UptoSaid' is the law's where the arguments, and the package variables that the reading takes, are together of bulk at most 1048576: NARROWER than '..Said'. Prove '..Said' where nothing that the law and all that it calls make is longer than what came in: it says more and counts as full. Else prove '..UptoSaid'. A law counts once. -/
mutual
def uptoBulk {H : Type} : DataW H → Nat
  | .lit (.string bytes) => bytes.length + 1
  | .lit _ => 1
  | .nil => 1
  | .ptr d => uptoBulk d + 1
  | .slice elems spare => uptoBulkAll elems + uptoBulkAll spare + 1
  | .agg parts => uptoBulkAll parts + 1
  | .iface _ d => uptoBulk d + 1
  | .map entries => uptoBulkEntries entries + 1
  | .held _ => 1
def uptoBulkAll {H : Type} : List (DataW H) → Nat
  | [] => 0
  | d :: r => uptoBulk d + uptoBulkAll r
def uptoBulkEntries {H : Type} : List (Lit × DataW H) → Nat
  | [] => 0
  | x :: r => uptoBulkEntry x + uptoBulkEntries r
def uptoBulkEntry {H : Type} : Lit × DataW H → Nat
  | (.string bytes, d) => bytes.length + uptoBulk d + 1
  | (_, d) => uptoBulk d + 1
 end
def uptoSmall : (H : Type) → List (DataW H) → Bool := fun _ ds => decide (uptoBulkAll ds ≤ 1048576)
def OpenSpec.upto (s : _root_.Go.ChangeSpec) : _root_.Go.OpenSpec := { _root_.Go.OpenSpec.ofChange s with cond := some uptoSmall }

/-- 'bollardlaw15.PostPuts', WHERE WHAT IT READS IS OF BULK AT MOST 1048576: true; the input reads as it did. -/
def postPutsUptoRow : OpenClaim := { program := "ytppibcambhmomaadoor", sum := "31ff9968ff95939db59f470e6b2e72fcb2a129e62d75454a0024d8d67be63af6", func := "bollard/bollardlaw15.PostPuts", spec := "postPuts", unfollowed := true, recurses := true, named := ["bollard/api.ErrState", "bollard/api.ErrLarge", "bollard/api.ErrNumber", "bollard/api.ErrBytes", "bollard/api.ErrDigest"], apart := false, laid := [("bollard/api.ErrNumber", laid_bollard_api_ErrNumber), ("bollard/api.ErrBytes", laid_bollard_api_ErrBytes), ("bollard/api.ErrDigest", laid_bollard_api_ErrDigest), ("bollard/api.ErrLarge", laid_bollard_api_ErrLarge), ("bollard/api.ErrState", laid_bollard_api_ErrState)], narrowed := true }
def PostPutsUptoSaid : Prop := postPutsUptoRow.holds Tryd.pinned (OpenSpec.upto postPutsSpec)

/-- 'bollardlaw15.PostSlips', WHERE WHAT IT READS IS OF BULK AT MOST 1048576: true; the input reads as it did. -/
def postSlipsUptoRow : OpenClaim := { program := "ytppibcambhmomaadoor", sum := "31ff9968ff95939db59f470e6b2e72fcb2a129e62d75454a0024d8d67be63af6", func := "bollard/bollardlaw15.PostSlips", spec := "postSlips", unfollowed := true, recurses := true, named := ["bollard/api.ErrState", "bollard/api.ErrLarge", "bollard/api.ErrNumber", "bollard/api.ErrBytes", "bollard/api.ErrDigest"], apart := false, laid := [("bollard/api.ErrNumber", laid_bollard_api_ErrNumber), ("bollard/api.ErrBytes", laid_bollard_api_ErrBytes), ("bollard/api.ErrDigest", laid_bollard_api_ErrDigest), ("bollard/api.ErrLarge", laid_bollard_api_ErrLarge), ("bollard/api.ErrState", laid_bollard_api_ErrState)], narrowed := true }
def PostSlipsUptoSaid : Prop := postSlipsUptoRow.holds Tryd.pinned (OpenSpec.upto postSlipsSpec)

/-- 'bollardlaw15.PostUnlike', WHERE WHAT IT READS IS OF BULK AT MOST 1048576: true; the input reads as it did. -/
def postUnlikeUptoRow : OpenClaim := { program := "ytppibcambhmomaadoor", sum := "31ff9968ff95939db59f470e6b2e72fcb2a129e62d75454a0024d8d67be63af6", func := "bollard/bollardlaw15.PostUnlike", spec := "postUnlike", unfollowed := true, recurses := true, named := ["bollard/api.ErrState", "bollard/api.ErrLarge", "bollard/api.ErrNumber", "bollard/api.ErrBytes", "bollard/api.ErrDigest"], apart := false, laid := [("bollard/api.ErrNumber", laid_bollard_api_ErrNumber), ("bollard/api.ErrBytes", laid_bollard_api_ErrBytes), ("bollard/api.ErrDigest", laid_bollard_api_ErrDigest), ("bollard/api.ErrLarge", laid_bollard_api_ErrLarge), ("bollard/api.ErrState", laid_bollard_api_ErrState)], narrowed := true }
def PostUnlikeUptoSaid : Prop := postUnlikeUptoRow.holds Tryd.pinned (OpenSpec.upto postUnlikeSpec)

end Rows
end Go.Proofs.YtppibcambhmomaaDoor
