/-
  NARROWER THAN 'FOR EVERY INPUT', by the rows' own cells (each row's printed sentence says how): FramePuts: laid · FrameGets: laid · FrameBlocks: laid · FrameSlips: laid · FrameHeads: laid · FrameWhole: laid.
  DERIVED. THE GIVEN ROWS OF THIS SEAT. 6 by the template 'for every input the law returns true; each argument reads behind the call as it read before'; 0 by the template 'total and deterministic' (their statements: YtmkknklkdgkbaaaDoorTotals.lean).
  GIVEN WITH THE SEED: the statements are not yours to turn. If you find one false, say at which input.
  Laid BY PROGRAM, IN A SANDBOX (cutbox-rows.mjs): the forced cells as the released guide's own fill.sh prints them over the translation ebb92373d3b6ecdb… (all of the seat's roots in one cut). By AI agents, Wed Nov 11 2026. No macro, syntax, notation, axiom, sorry.
-/
import Derived.Test.YtmkknklkdgkbaaaDoorChecked
import GoSem.Claim
import GoSem.ClaimJoined
import GoSem.ClaimMapViews
import Derived.JoinedTies
import Derived.KernelRfl
namespace Go.Proofs.YtmkknklkdgkbaaaDoor
/- THE CELL 'sum', in the pinned program and in every row, IS THE sha256 OF THE DUMP (.gsa) THAT YtmkknklkdgkbaaaDoorProg.lean LOADS. Nothing in Lean hashes anything: it is a label: what it is worth is what the hold of that sum in a sandbox is worth. -/
noncomputable def Tryd.pinned : Pinned := { name := "ytmkknklkdgkbaaadoor", sum := "ebb92373d3b6ecdbf565a7100f3054eefe0eaaec72ee723dfef3918ea5b9408e", checked := Tryd.checked }
namespace Rows
def none {H : Type} : Left H := { results := [], args := [] }

/- WHAT THE LISTED PACKAGE-LEVEL VARIABLES READ AS WHEN THE CALL BEGINS. Each datum BY PROGRAM (the guide's laid-datum.mjs) off the statement by which the dump's own 'gosem.cut.vars' lays the variable. In a bare row this is a premise. The card (YtmkknklkdgkbaaaDoorCards.lean) ties it to the program's text. -/
def laid_bollard_sha_constants {H : Type} : DataW H := .agg [.lit (.int .u32 1116352408), .lit (.int .u32 1899447441), .lit (.int .u32 3049323471), .lit (.int .u32 3921009573), .lit (.int .u32 961987163), .lit (.int .u32 1508970993), .lit (.int .u32 2453635748), .lit (.int .u32 2870763221), .lit (.int .u32 3624381080), .lit (.int .u32 310598401), .lit (.int .u32 607225278), .lit (.int .u32 1426881987), .lit (.int .u32 1925078388), .lit (.int .u32 2162078206), .lit (.int .u32 2614888103), .lit (.int .u32 3248222580), .lit (.int .u32 3835390401), .lit (.int .u32 4022224774), .lit (.int .u32 264347078), .lit (.int .u32 604807628), .lit (.int .u32 770255983), .lit (.int .u32 1249150122), .lit (.int .u32 1555081692), .lit (.int .u32 1996064986), .lit (.int .u32 2554220882), .lit (.int .u32 2821834349), .lit (.int .u32 2952996808), .lit (.int .u32 3210313671), .lit (.int .u32 3336571891), .lit (.int .u32 3584528711), .lit (.int .u32 113926993), .lit (.int .u32 338241895), .lit (.int .u32 666307205), .lit (.int .u32 773529912), .lit (.int .u32 1294757372), .lit (.int .u32 1396182291), .lit (.int .u32 1695183700), .lit (.int .u32 1986661051), .lit (.int .u32 2177026350), .lit (.int .u32 2456956037), .lit (.int .u32 2730485921), .lit (.int .u32 2820302411), .lit (.int .u32 3259730800), .lit (.int .u32 3345764771), .lit (.int .u32 3516065817), .lit (.int .u32 3600352804), .lit (.int .u32 4094571909), .lit (.int .u32 275423344), .lit (.int .u32 430227734), .lit (.int .u32 506948616), .lit (.int .u32 659060556), .lit (.int .u32 883997877), .lit (.int .u32 958139571), .lit (.int .u32 1322822218), .lit (.int .u32 1537002063), .lit (.int .u32 1747873779), .lit (.int .u32 1955562222), .lit (.int .u32 2024104815), .lit (.int .u32 2227730452), .lit (.int .u32 2361852424), .lit (.int .u32 2428436474), .lit (.int .u32 2756734187), .lit (.int .u32 3204031479), .lit (.int .u32 3329325298)]
def laid_bollard_api_ErrNumber {H : Type} : DataW H := .iface "*errors.errorString" (.ptr (.agg [.lit (.string [98, 111, 108, 108, 97, 114, 100, 58, 32, 110, 117, 109, 98, 101, 114])]))
def laid_bollard_api_ErrBytes {H : Type} : DataW H := .iface "*errors.errorString" (.ptr (.agg [.lit (.string [98, 111, 108, 108, 97, 114, 100, 58, 32, 98, 121, 116, 101, 115])]))
def laid_bollard_api_ErrDigest {H : Type} : DataW H := .iface "*errors.errorString" (.ptr (.agg [.lit (.string [98, 111, 108, 108, 97, 114, 100, 58, 32, 100, 105, 103, 101, 115, 116])]))
def laid_bollard_api_ErrLarge {H : Type} : DataW H := .iface "*errors.errorString" (.ptr (.agg [.lit (.string [98, 111, 108, 108, 97, 114, 100, 58, 32, 108, 97, 114, 103, 101])]))
def laid_bollard_frame_most {H : Type} : DataW H := .agg [.lit (.int .i64 1), .lit (.int .i64 15), .lit (.int .i64 1099511627776), .lit (.int .i64 1099511627776), .lit (.int .i64 15), .lit (.int .i64 1024), .lit (.int .i64 1024)]
def laid_bollard_api_ErrParams {H : Type} : DataW H := .iface "*errors.errorString" (.ptr (.agg [.lit (.string [98, 111, 108, 108, 97, 114, 100, 58, 32, 112, 97, 114, 97, 109, 115])]))
def laid_bollard_api_ErrData {H : Type} : DataW H := .iface "*errors.errorString" (.ptr (.agg [.lit (.string [98, 111, 108, 108, 97, 114, 100, 58, 32, 100, 97, 116, 97])]))
def laid_bollard_api_ErrLost {H : Type} : DataW H := .iface "*errors.errorString" (.ptr (.agg [.lit (.string [98, 111, 108, 108, 97, 114, 100, 58, 32, 108, 111, 115, 116])]))
def laid_bollard_api_ErrName {H : Type} : DataW H := .iface "*errors.errorString" (.ptr (.agg [.lit (.string [98, 111, 108, 108, 97, 114, 100, 58, 32, 110, 97, 109, 101])]))
def laid_bollard_api_ErrGone {H : Type} : DataW H := .iface "*errors.errorString" (.ptr (.agg [.lit (.string [98, 111, 108, 108, 97, 114, 100, 58, 32, 103, 111, 110, 101])]))
def laid_bollard_api_ErrThere {H : Type} : DataW H := .iface "*errors.errorString" (.ptr (.agg [.lit (.string [98, 111, 108, 108, 97, 114, 100, 58, 32, 116, 104, 101, 114, 101])]))
def laid_bollard_api_ErrFull {H : Type} : DataW H := .iface "*errors.errorString" (.ptr (.agg [.lit (.string [98, 111, 108, 108, 97, 114, 100, 58, 32, 102, 117, 108, 108])]))
def laid_bollard_api_ErrBallot {H : Type} : DataW H := .iface "*errors.errorString" (.ptr (.agg [.lit (.string [98, 111, 108, 108, 97, 114, 100, 58, 32, 98, 97, 108, 108, 111, 116])]))
def laid_bollard_api_ErrRequest {H : Type} : DataW H := .iface "*errors.errorString" (.ptr (.agg [.lit (.string [98, 111, 108, 108, 97, 114, 100, 58, 32, 114, 101, 113, 117, 101, 115, 116])]))
def laid_bollard_api_ErrUri {H : Type} : DataW H := .iface "*errors.errorString" (.ptr (.agg [.lit (.string [98, 111, 108, 108, 97, 114, 100, 58, 32, 117, 114, 105])]))
def laid_bollard_api_ErrDenied {H : Type} : DataW H := .iface "*errors.errorString" (.ptr (.agg [.lit (.string [98, 111, 108, 108, 97, 114, 100, 58, 32, 100, 101, 110, 105, 101, 100])]))
def laid_bollard_api_ErrSkew {H : Type} : DataW H := .iface "*errors.errorString" (.ptr (.agg [.lit (.string [98, 111, 108, 108, 97, 114, 100, 58, 32, 115, 107, 101, 119])]))
def laid_bollard_api_ErrMethod {H : Type} : DataW H := .iface "*errors.errorString" (.ptr (.agg [.lit (.string [98, 111, 108, 108, 97, 114, 100, 58, 32, 109, 101, 116, 104, 111, 100])]))
def laid_bollard_api_ErrState {H : Type} : DataW H := .iface "*errors.errorString" (.ptr (.agg [.lit (.string [98, 111, 108, 108, 97, 114, 100, 58, 32, 115, 116, 97, 116, 101])]))

/-- 'bollardlaw06.FramePuts': WHATEVER THE INPUT: true; the input reads as it did. -/
def framePutsSpec : ChangeSpec := { name := "framePuts", fn := fun _ => fun
  | [d1, d2] => { results := [.lit (.bool true)], args := [d1, d2] }
  | _ => none }
def framePutsRow : OpenClaim := { program := "ytmkknklkdgkbaaadoor", sum := "ebb92373d3b6ecdbf565a7100f3054eefe0eaaec72ee723dfef3918ea5b9408e", func := "bollard/bollardlaw06.FramePuts", spec := "framePuts", unfollowed := true, recurses := true, named := ["bollard/api.ErrNumber", "bollard/api.ErrLarge", "bollard/frame.most", "bollard/sha.constants", "bollard/api.ErrBytes", "bollard/api.ErrDigest"], apart := false, laid := [("bollard/sha.constants", laid_bollard_sha_constants), ("bollard/api.ErrNumber", laid_bollard_api_ErrNumber), ("bollard/api.ErrBytes", laid_bollard_api_ErrBytes), ("bollard/api.ErrDigest", laid_bollard_api_ErrDigest), ("bollard/api.ErrLarge", laid_bollard_api_ErrLarge), ("bollard/frame.most", laid_bollard_frame_most)] }
def FramePutsSaid : Prop := framePutsRow.holds Tryd.pinned (OpenSpec.ofChange framePutsSpec)

/-- ITS FALSE NEIGHBOUR: 'it returns false'. Refute it at one input. -/
def framePutsWrong : ChangeSpec := { name := "framePuts", fn := fun _ => fun
  | [d1, d2] => { results := [.lit (.bool false)], args := [d1, d2] }
  | _ => none }
def FramePutsWrongFalsely : Prop := framePutsRow.holds Tryd.pinned (OpenSpec.ofChange framePutsWrong)

/-- 'bollardlaw06.FrameGets': WHATEVER THE INPUT: true; the input reads as it did. -/
def frameGetsSpec : ChangeSpec := { name := "frameGets", fn := fun _ => fun
  | [d] => { results := [.lit (.bool true)], args := [d] }
  | _ => none }
def frameGetsRow : OpenClaim := { program := "ytmkknklkdgkbaaadoor", sum := "ebb92373d3b6ecdbf565a7100f3054eefe0eaaec72ee723dfef3918ea5b9408e", func := "bollard/bollardlaw06.FrameGets", spec := "frameGets", unfollowed := true, recurses := true, named := ["bollard/api.ErrNumber", "bollard/api.ErrLarge", "bollard/frame.most", "bollard/sha.constants", "bollard/api.ErrBytes", "bollard/api.ErrDigest", "bollard/api.ErrParams", "bollard/api.ErrData", "bollard/api.ErrLost", "bollard/api.ErrName", "bollard/api.ErrGone", "bollard/api.ErrThere", "bollard/api.ErrFull", "bollard/api.ErrBallot", "bollard/api.ErrRequest", "bollard/api.ErrUri", "bollard/api.ErrDenied", "bollard/api.ErrSkew", "bollard/api.ErrMethod", "bollard/api.ErrState"], apart := false, laid := [("bollard/sha.constants", laid_bollard_sha_constants), ("bollard/api.ErrParams", laid_bollard_api_ErrParams), ("bollard/api.ErrNumber", laid_bollard_api_ErrNumber), ("bollard/api.ErrData", laid_bollard_api_ErrData), ("bollard/api.ErrLost", laid_bollard_api_ErrLost), ("bollard/api.ErrBytes", laid_bollard_api_ErrBytes), ("bollard/api.ErrDigest", laid_bollard_api_ErrDigest), ("bollard/api.ErrName", laid_bollard_api_ErrName), ("bollard/api.ErrGone", laid_bollard_api_ErrGone), ("bollard/api.ErrThere", laid_bollard_api_ErrThere), ("bollard/api.ErrFull", laid_bollard_api_ErrFull), ("bollard/api.ErrLarge", laid_bollard_api_ErrLarge), ("bollard/api.ErrBallot", laid_bollard_api_ErrBallot), ("bollard/api.ErrRequest", laid_bollard_api_ErrRequest), ("bollard/api.ErrUri", laid_bollard_api_ErrUri), ("bollard/api.ErrDenied", laid_bollard_api_ErrDenied), ("bollard/api.ErrSkew", laid_bollard_api_ErrSkew), ("bollard/api.ErrMethod", laid_bollard_api_ErrMethod), ("bollard/api.ErrState", laid_bollard_api_ErrState), ("bollard/frame.most", laid_bollard_frame_most)] }
def FrameGetsSaid : Prop := frameGetsRow.holds Tryd.pinned (OpenSpec.ofChange frameGetsSpec)

/-- ITS FALSE NEIGHBOUR: 'it returns false'. Refute it at one input. -/
def frameGetsWrong : ChangeSpec := { name := "frameGets", fn := fun _ => fun
  | [d] => { results := [.lit (.bool false)], args := [d] }
  | _ => none }
def FrameGetsWrongFalsely : Prop := frameGetsRow.holds Tryd.pinned (OpenSpec.ofChange frameGetsWrong)

/-- 'bollardlaw06.FrameBlocks': WHATEVER THE INPUT: true; the input reads as it did. -/
def frameBlocksSpec : ChangeSpec := { name := "frameBlocks", fn := fun _ => fun
  | [d1, d2] => { results := [.lit (.bool true)], args := [d1, d2] }
  | _ => none }
def frameBlocksRow : OpenClaim := { program := "ytmkknklkdgkbaaadoor", sum := "ebb92373d3b6ecdbf565a7100f3054eefe0eaaec72ee723dfef3918ea5b9408e", func := "bollard/bollardlaw06.FrameBlocks", spec := "frameBlocks", unfollowed := true, recurses := true, named := ["bollard/api.ErrNumber", "bollard/api.ErrLarge", "bollard/frame.most", "bollard/sha.constants"], apart := false, laid := [("bollard/sha.constants", laid_bollard_sha_constants), ("bollard/api.ErrNumber", laid_bollard_api_ErrNumber), ("bollard/api.ErrLarge", laid_bollard_api_ErrLarge), ("bollard/frame.most", laid_bollard_frame_most)] }
def FrameBlocksSaid : Prop := frameBlocksRow.holds Tryd.pinned (OpenSpec.ofChange frameBlocksSpec)

/-- ITS FALSE NEIGHBOUR: 'it returns false'. Refute it at one input. -/
def frameBlocksWrong : ChangeSpec := { name := "frameBlocks", fn := fun _ => fun
  | [d1, d2] => { results := [.lit (.bool false)], args := [d1, d2] }
  | _ => none }
def FrameBlocksWrongFalsely : Prop := frameBlocksRow.holds Tryd.pinned (OpenSpec.ofChange frameBlocksWrong)

/-- 'bollardlaw06.FrameSlips': WHATEVER THE INPUT: true; the input reads as it did. -/
def frameSlipsSpec : ChangeSpec := { name := "frameSlips", fn := fun _ => fun
  | [d] => { results := [.lit (.bool true)], args := [d] }
  | _ => none }
def frameSlipsRow : OpenClaim := { program := "ytmkknklkdgkbaaadoor", sum := "ebb92373d3b6ecdbf565a7100f3054eefe0eaaec72ee723dfef3918ea5b9408e", func := "bollard/bollardlaw06.FrameSlips", spec := "frameSlips", unfollowed := true, recurses := true, named := ["bollard/api.ErrDigest", "bollard/api.ErrNumber", "bollard/api.ErrLarge", "bollard/frame.most", "bollard/sha.constants", "bollard/api.ErrBytes"], apart := false, laid := [("bollard/sha.constants", laid_bollard_sha_constants), ("bollard/api.ErrNumber", laid_bollard_api_ErrNumber), ("bollard/api.ErrBytes", laid_bollard_api_ErrBytes), ("bollard/api.ErrDigest", laid_bollard_api_ErrDigest), ("bollard/api.ErrLarge", laid_bollard_api_ErrLarge), ("bollard/frame.most", laid_bollard_frame_most)] }
def FrameSlipsSaid : Prop := frameSlipsRow.holds Tryd.pinned (OpenSpec.ofChange frameSlipsSpec)

/-- ITS FALSE NEIGHBOUR: 'it returns false'. Refute it at one input. -/
def frameSlipsWrong : ChangeSpec := { name := "frameSlips", fn := fun _ => fun
  | [d] => { results := [.lit (.bool false)], args := [d] }
  | _ => none }
def FrameSlipsWrongFalsely : Prop := frameSlipsRow.holds Tryd.pinned (OpenSpec.ofChange frameSlipsWrong)

/-- 'bollardlaw06.FrameHeads': WHATEVER THE INPUT: true; the input reads as it did. -/
def frameHeadsSpec : ChangeSpec := { name := "frameHeads", fn := fun _ => fun
  | [d1, d2] => { results := [.lit (.bool true)], args := [d1, d2] }
  | _ => none }
def frameHeadsRow : OpenClaim := { program := "ytmkknklkdgkbaaadoor", sum := "ebb92373d3b6ecdbf565a7100f3054eefe0eaaec72ee723dfef3918ea5b9408e", func := "bollard/bollardlaw06.FrameHeads", spec := "frameHeads", unfollowed := true, recurses := true, named := ["bollard/api.ErrBytes", "bollard/api.ErrNumber", "bollard/api.ErrLarge", "bollard/frame.most", "bollard/sha.constants", "bollard/api.ErrDigest"], apart := false, laid := [("bollard/sha.constants", laid_bollard_sha_constants), ("bollard/api.ErrNumber", laid_bollard_api_ErrNumber), ("bollard/api.ErrBytes", laid_bollard_api_ErrBytes), ("bollard/api.ErrDigest", laid_bollard_api_ErrDigest), ("bollard/api.ErrLarge", laid_bollard_api_ErrLarge), ("bollard/frame.most", laid_bollard_frame_most)] }
def FrameHeadsSaid : Prop := frameHeadsRow.holds Tryd.pinned (OpenSpec.ofChange frameHeadsSpec)

/-- ITS FALSE NEIGHBOUR: 'it returns false'. Refute it at one input. -/
def frameHeadsWrong : ChangeSpec := { name := "frameHeads", fn := fun _ => fun
  | [d1, d2] => { results := [.lit (.bool false)], args := [d1, d2] }
  | _ => none }
def FrameHeadsWrongFalsely : Prop := frameHeadsRow.holds Tryd.pinned (OpenSpec.ofChange frameHeadsWrong)

/-- 'bollardlaw06.FrameWhole': WHATEVER THE INPUT: true; the input reads as it did. -/
def frameWholeSpec : ChangeSpec := { name := "frameWhole", fn := fun _ => fun
  | [d] => { results := [.lit (.bool true)], args := [d] }
  | _ => none }
def frameWholeRow : OpenClaim := { program := "ytmkknklkdgkbaaadoor", sum := "ebb92373d3b6ecdbf565a7100f3054eefe0eaaec72ee723dfef3918ea5b9408e", func := "bollard/bollardlaw06.FrameWhole", spec := "frameWhole", unfollowed := true, recurses := true, named := ["bollard/api.ErrNumber", "bollard/api.ErrLarge", "bollard/frame.most", "bollard/sha.constants"], apart := false, laid := [("bollard/sha.constants", laid_bollard_sha_constants), ("bollard/api.ErrNumber", laid_bollard_api_ErrNumber), ("bollard/api.ErrLarge", laid_bollard_api_ErrLarge), ("bollard/frame.most", laid_bollard_frame_most)] }
def FrameWholeSaid : Prop := frameWholeRow.holds Tryd.pinned (OpenSpec.ofChange frameWholeSpec)

/-- ITS FALSE NEIGHBOUR: 'it returns false'. Refute it at one input. -/
def frameWholeWrong : ChangeSpec := { name := "frameWhole", fn := fun _ => fun
  | [d] => { results := [.lit (.bool false)], args := [d] }
  | _ => none }
def FrameWholeWrongFalsely : Prop := frameWholeRow.holds Tryd.pinned (OpenSpec.ofChange frameWholeWrong)

/- THE SECOND FORM. 'bulk': how many values and letters a reading holds, each counted each time it is reached (what is shared counts as often as it is met; a slice's spare places count too). A statement '..UptoSaid' is the law's where the arguments, and the package variables that the reading takes, are together of bulk at most 1048576: NARROWER than '..Said'. Prove '..Said' where nothing that the law and all that it calls make is longer than what came in: it says more and counts as full. Else prove '..UptoSaid'. A law counts once. -/
mutual
def uptoBulk {H : Type} : DataW H → Nat
  | .lit (.string bytes) => bytes.length + 1
  | .lit _ => 1
  | .nil => 1
  | .ptr d => uptoBulk d + 1
  | .slice elems spare => uptoBulkAll elems + uptoBulkAll spare + 1
  | .agg parts => uptoBulkAll parts + 1
  | .iface _ d => uptoBulk d + 1
  | .map entries => uptoBulkEntries entries + 1
  | .held _ => 1
def uptoBulkAll {H : Type} : List (DataW H) → Nat
  | [] => 0
  | d :: r => uptoBulk d + uptoBulkAll r
def uptoBulkEntries {H : Type} : List (Lit × DataW H) → Nat
  | [] => 0
  | x :: r => uptoBulkEntry x + uptoBulkEntries r
def uptoBulkEntry {H : Type} : Lit × DataW H → Nat
  | (.string bytes, d) => bytes.length + uptoBulk d + 1
  | (_, d) => uptoBulk d + 1
 end
def uptoSmall : (H : Type) → List (DataW H) → Bool := fun _ ds => decide (uptoBulkAll ds ≤ 1048576)
def OpenSpec.upto (s : _root_.Go.ChangeSpec) : _root_.Go.OpenSpec := { _root_.Go.OpenSpec.ofChange s with cond := some uptoSmall }

/-- 'bollardlaw06.FramePuts', WHERE WHAT IT READS IS OF BULK AT MOST 1048576: true; the input reads as it did. -/
def framePutsUptoRow : OpenClaim := { program := "ytmkknklkdgkbaaadoor", sum := "ebb92373d3b6ecdbf565a7100f3054eefe0eaaec72ee723dfef3918ea5b9408e", func := "bollard/bollardlaw06.FramePuts", spec := "framePuts", unfollowed := true, recurses := true, named := ["bollard/api.ErrNumber", "bollard/api.ErrLarge", "bollard/frame.most", "bollard/sha.constants", "bollard/api.ErrBytes", "bollard/api.ErrDigest"], apart := false, laid := [("bollard/sha.constants", laid_bollard_sha_constants), ("bollard/api.ErrNumber", laid_bollard_api_ErrNumber), ("bollard/api.ErrBytes", laid_bollard_api_ErrBytes), ("bollard/api.ErrDigest", laid_bollard_api_ErrDigest), ("bollard/api.ErrLarge", laid_bollard_api_ErrLarge), ("bollard/frame.most", laid_bollard_frame_most)], narrowed := true }
def FramePutsUptoSaid : Prop := framePutsUptoRow.holds Tryd.pinned (OpenSpec.upto framePutsSpec)

/-- 'bollardlaw06.FrameGets', WHERE WHAT IT READS IS OF BULK AT MOST 1048576: true; the input reads as it did. -/
def frameGetsUptoRow : OpenClaim := { program := "ytmkknklkdgkbaaadoor", sum := "ebb92373d3b6ecdbf565a7100f3054eefe0eaaec72ee723dfef3918ea5b9408e", func := "bollard/bollardlaw06.FrameGets", spec := "frameGets", unfollowed := true, recurses := true, named := ["bollard/api.ErrNumber", "bollard/api.ErrLarge", "bollard/frame.most", "bollard/sha.constants", "bollard/api.ErrBytes", "bollard/api.ErrDigest", "bollard/api.ErrParams", "bollard/api.ErrData", "bollard/api.ErrLost", "bollard/api.ErrName", "bollard/api.ErrGone", "bollard/api.ErrThere", "bollard/api.ErrFull", "bollard/api.ErrBallot", "bollard/api.ErrRequest", "bollard/api.ErrUri", "bollard/api.ErrDenied", "bollard/api.ErrSkew", "bollard/api.ErrMethod", "bollard/api.ErrState"], apart := false, laid := [("bollard/sha.constants", laid_bollard_sha_constants), ("bollard/api.ErrParams", laid_bollard_api_ErrParams), ("bollard/api.ErrNumber", laid_bollard_api_ErrNumber), ("bollard/api.ErrData", laid_bollard_api_ErrData), ("bollard/api.ErrLost", laid_bollard_api_ErrLost), ("bollard/api.ErrBytes", laid_bollard_api_ErrBytes), ("bollard/api.ErrDigest", laid_bollard_api_ErrDigest), ("bollard/api.ErrName", laid_bollard_api_ErrName), ("bollard/api.ErrGone", laid_bollard_api_ErrGone), ("bollard/api.ErrThere", laid_bollard_api_ErrThere), ("bollard/api.ErrFull", laid_bollard_api_ErrFull), ("bollard/api.ErrLarge", laid_bollard_api_ErrLarge), ("bollard/api.ErrBallot", laid_bollard_api_ErrBallot), ("bollard/api.ErrRequest", laid_bollard_api_ErrRequest), ("bollard/api.ErrUri", laid_bollard_api_ErrUri), ("bollard/api.ErrDenied", laid_bollard_api_ErrDenied), ("bollard/api.ErrSkew", laid_bollard_api_ErrSkew), ("bollard/api.ErrMethod", laid_bollard_api_ErrMethod), ("bollard/api.ErrState", laid_bollard_api_ErrState), ("bollard/frame.most", laid_bollard_frame_most)], narrowed := true }
def FrameGetsUptoSaid : Prop := frameGetsUptoRow.holds Tryd.pinned (OpenSpec.upto frameGetsSpec)

/-- 'bollardlaw06.FrameBlocks', WHERE WHAT IT READS IS OF BULK AT MOST 1048576: true; the input reads as it did. -/
def frameBlocksUptoRow : OpenClaim := { program := "ytmkknklkdgkbaaadoor", sum := "ebb92373d3b6ecdbf565a7100f3054eefe0eaaec72ee723dfef3918ea5b9408e", func := "bollard/bollardlaw06.FrameBlocks", spec := "frameBlocks", unfollowed := true, recurses := true, named := ["bollard/api.ErrNumber", "bollard/api.ErrLarge", "bollard/frame.most", "bollard/sha.constants"], apart := false, laid := [("bollard/sha.constants", laid_bollard_sha_constants), ("bollard/api.ErrNumber", laid_bollard_api_ErrNumber), ("bollard/api.ErrLarge", laid_bollard_api_ErrLarge), ("bollard/frame.most", laid_bollard_frame_most)], narrowed := true }
def FrameBlocksUptoSaid : Prop := frameBlocksUptoRow.holds Tryd.pinned (OpenSpec.upto frameBlocksSpec)

/-- 'bollardlaw06.FrameSlips', WHERE WHAT IT READS IS OF BULK AT MOST 1048576: true; the input reads as it did. -/
def frameSlipsUptoRow : OpenClaim := { program := "ytmkknklkdgkbaaadoor", sum := "ebb92373d3b6ecdbf565a7100f3054eefe0eaaec72ee723dfef3918ea5b9408e", func := "bollard/bollardlaw06.FrameSlips", spec := "frameSlips", unfollowed := true, recurses := true, named := ["bollard/api.ErrDigest", "bollard/api.ErrNumber", "bollard/api.ErrLarge", "bollard/frame.most", "bollard/sha.constants", "bollard/api.ErrBytes"], apart := false, laid := [("bollard/sha.constants", laid_bollard_sha_constants), ("bollard/api.ErrNumber", laid_bollard_api_ErrNumber), ("bollard/api.ErrBytes", laid_bollard_api_ErrBytes), ("bollard/api.ErrDigest", laid_bollard_api_ErrDigest), ("bollard/api.ErrLarge", laid_bollard_api_ErrLarge), ("bollard/frame.most", laid_bollard_frame_most)], narrowed := true }
def FrameSlipsUptoSaid : Prop := frameSlipsUptoRow.holds Tryd.pinned (OpenSpec.upto frameSlipsSpec)

/-- 'bollardlaw06.FrameHeads', WHERE WHAT IT READS IS OF BULK AT MOST 1048576: true; the input reads as it did. -/
def frameHeadsUptoRow : OpenClaim := { program := "ytmkknklkdgkbaaadoor", sum := "ebb92373d3b6ecdbf565a7100f3054eefe0eaaec72ee723dfef3918ea5b9408e", func := "bollard/bollardlaw06.FrameHeads", spec := "frameHeads", unfollowed := true, recurses := true, named := ["bollard/api.ErrBytes", "bollard/api.ErrNumber", "bollard/api.ErrLarge", "bollard/frame.most", "bollard/sha.constants", "bollard/api.ErrDigest"], apart := false, laid := [("bollard/sha.constants", laid_bollard_sha_constants), ("bollard/api.ErrNumber", laid_bollard_api_ErrNumber), ("bollard/api.ErrBytes", laid_bollard_api_ErrBytes), ("bollard/api.ErrDigest", laid_bollard_api_ErrDigest), ("bollard/api.ErrLarge", laid_bollard_api_ErrLarge), ("bollard/frame.most", laid_bollard_frame_most)], narrowed := true }
def FrameHeadsUptoSaid : Prop := frameHeadsUptoRow.holds Tryd.pinned (OpenSpec.upto frameHeadsSpec)

/-- 'bollardlaw06.FrameWhole', WHERE WHAT IT READS IS OF BULK AT MOST 1048576: true; the input reads as it did. -/
def frameWholeUptoRow : OpenClaim := { program := "ytmkknklkdgkbaaadoor", sum := "ebb92373d3b6ecdbf565a7100f3054eefe0eaaec72ee723dfef3918ea5b9408e", func := "bollard/bollardlaw06.FrameWhole", spec := "frameWhole", unfollowed := true, recurses := true, named := ["bollard/api.ErrNumber", "bollard/api.ErrLarge", "bollard/frame.most", "bollard/sha.constants"], apart := false, laid := [("bollard/sha.constants", laid_bollard_sha_constants), ("bollard/api.ErrNumber", laid_bollard_api_ErrNumber), ("bollard/api.ErrLarge", laid_bollard_api_ErrLarge), ("bollard/frame.most", laid_bollard_frame_most)], narrowed := true }
def FrameWholeUptoSaid : Prop := frameWholeUptoRow.holds Tryd.pinned (OpenSpec.upto frameWholeSpec)

end Rows
end Go.Proofs.YtmkknklkdgkbaaaDoor
