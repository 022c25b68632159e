/-
  NARROWER THAN 'FOR EVERY INPUT', by the rows' own cells (each row's printed sentence says how): LedgerPuts: laid · LedgerBegins: laid · LedgerGrows: laid · CatalogApart: laid · CatalogBack: laid · CatalogOrdered: laid.
  DERIVED. THE GIVEN ROWS OF THIS SEAT. 6 by the template 'for every input the law returns true; each argument reads behind the call as it read before'; 0 by the template 'total and deterministic' (their statements: YtfabnnbljkkihaaGreatDoorTotals.lean).
  GIVEN WITH THE SEED: the statements are not yours to turn. If you find one false, say at which input.
  Laid BY PROGRAM, IN A SANDBOX (cutbox-rows.mjs): the forced cells as the released guide's own fill.sh prints them over the translation 8eb79f1dc15fb4c0… (all of the seat's roots in one cut). By AI agents, Wed Nov 11 2026. No macro, syntax, notation, axiom, sorry.
-/
import Derived.Test.YtfabnnbljkkihaaGreatDoorChecked
import GoSem.Claim
import GoSem.ClaimJoined
import GoSem.ClaimMapViews
import Derived.JoinedTies
import Derived.KernelRfl
namespace Go.Proofs.YtfabnnbljkkihaaGreatDoor
/- THE CELL 'sum', in the pinned program and in every row, IS THE sha256 OF THE DUMP (.gsa) THAT YtfabnnbljkkihaaGreatDoorProg.lean LOADS. Nothing in Lean hashes anything: it is a label: what it is worth is what the hold of that sum in a sandbox is worth. -/
noncomputable def Tryz.pinned : Pinned := { name := "ytfabnnbljkkihaagreatdoor", sum := "8eb79f1dc15fb4c0468b133287db7056bcde5c255e95b7deab2afa0c25fcf2eb", checked := Tryz.checked }
namespace Rows
def none {H : Type} : Left H := { results := [], args := [] }

/- WHAT THE LISTED PACKAGE-LEVEL VARIABLES READ AS WHEN THE CALL BEGINS. Each datum BY PROGRAM (the guide's laid-datum.mjs) off the statement by which the dump's own 'gosem.cut.vars' lays the variable. In a bare row this is a premise. The card (YtfabnnbljkkihaaGreatDoorCards.lean) ties it to the program's text. -/
def laid_math_bits_deBruijn32tab {H : Type} : DataW H := .agg [.lit (.int .u8 0), .lit (.int .u8 1), .lit (.int .u8 28), .lit (.int .u8 2), .lit (.int .u8 29), .lit (.int .u8 14), .lit (.int .u8 24), .lit (.int .u8 3), .lit (.int .u8 30), .lit (.int .u8 22), .lit (.int .u8 20), .lit (.int .u8 15), .lit (.int .u8 25), .lit (.int .u8 17), .lit (.int .u8 4), .lit (.int .u8 8), .lit (.int .u8 31), .lit (.int .u8 27), .lit (.int .u8 13), .lit (.int .u8 23), .lit (.int .u8 21), .lit (.int .u8 19), .lit (.int .u8 16), .lit (.int .u8 7), .lit (.int .u8 26), .lit (.int .u8 12), .lit (.int .u8 18), .lit (.int .u8 6), .lit (.int .u8 11), .lit (.int .u8 5), .lit (.int .u8 10), .lit (.int .u8 9)]
def laid_math_bits_deBruijn64tab {H : Type} : DataW H := .agg [.lit (.int .u8 0), .lit (.int .u8 1), .lit (.int .u8 56), .lit (.int .u8 2), .lit (.int .u8 57), .lit (.int .u8 49), .lit (.int .u8 28), .lit (.int .u8 3), .lit (.int .u8 61), .lit (.int .u8 58), .lit (.int .u8 42), .lit (.int .u8 50), .lit (.int .u8 38), .lit (.int .u8 29), .lit (.int .u8 17), .lit (.int .u8 4), .lit (.int .u8 62), .lit (.int .u8 47), .lit (.int .u8 59), .lit (.int .u8 36), .lit (.int .u8 45), .lit (.int .u8 43), .lit (.int .u8 51), .lit (.int .u8 22), .lit (.int .u8 53), .lit (.int .u8 39), .lit (.int .u8 33), .lit (.int .u8 30), .lit (.int .u8 24), .lit (.int .u8 18), .lit (.int .u8 12), .lit (.int .u8 5), .lit (.int .u8 63), .lit (.int .u8 55), .lit (.int .u8 48), .lit (.int .u8 27), .lit (.int .u8 60), .lit (.int .u8 41), .lit (.int .u8 37), .lit (.int .u8 16), .lit (.int .u8 46), .lit (.int .u8 35), .lit (.int .u8 44), .lit (.int .u8 21), .lit (.int .u8 52), .lit (.int .u8 32), .lit (.int .u8 23), .lit (.int .u8 11), .lit (.int .u8 54), .lit (.int .u8 26), .lit (.int .u8 40), .lit (.int .u8 15), .lit (.int .u8 34), .lit (.int .u8 20), .lit (.int .u8 31), .lit (.int .u8 10), .lit (.int .u8 25), .lit (.int .u8 14), .lit (.int .u8 19), .lit (.int .u8 9), .lit (.int .u8 13), .lit (.int .u8 8), .lit (.int .u8 7), .lit (.int .u8 6)]
def laid_bollard_sha_constants {H : Type} : DataW H := .agg [.lit (.int .u32 1116352408), .lit (.int .u32 1899447441), .lit (.int .u32 3049323471), .lit (.int .u32 3921009573), .lit (.int .u32 961987163), .lit (.int .u32 1508970993), .lit (.int .u32 2453635748), .lit (.int .u32 2870763221), .lit (.int .u32 3624381080), .lit (.int .u32 310598401), .lit (.int .u32 607225278), .lit (.int .u32 1426881987), .lit (.int .u32 1925078388), .lit (.int .u32 2162078206), .lit (.int .u32 2614888103), .lit (.int .u32 3248222580), .lit (.int .u32 3835390401), .lit (.int .u32 4022224774), .lit (.int .u32 264347078), .lit (.int .u32 604807628), .lit (.int .u32 770255983), .lit (.int .u32 1249150122), .lit (.int .u32 1555081692), .lit (.int .u32 1996064986), .lit (.int .u32 2554220882), .lit (.int .u32 2821834349), .lit (.int .u32 2952996808), .lit (.int .u32 3210313671), .lit (.int .u32 3336571891), .lit (.int .u32 3584528711), .lit (.int .u32 113926993), .lit (.int .u32 338241895), .lit (.int .u32 666307205), .lit (.int .u32 773529912), .lit (.int .u32 1294757372), .lit (.int .u32 1396182291), .lit (.int .u32 1695183700), .lit (.int .u32 1986661051), .lit (.int .u32 2177026350), .lit (.int .u32 2456956037), .lit (.int .u32 2730485921), .lit (.int .u32 2820302411), .lit (.int .u32 3259730800), .lit (.int .u32 3345764771), .lit (.int .u32 3516065817), .lit (.int .u32 3600352804), .lit (.int .u32 4094571909), .lit (.int .u32 275423344), .lit (.int .u32 430227734), .lit (.int .u32 506948616), .lit (.int .u32 659060556), .lit (.int .u32 883997877), .lit (.int .u32 958139571), .lit (.int .u32 1322822218), .lit (.int .u32 1537002063), .lit (.int .u32 1747873779), .lit (.int .u32 1955562222), .lit (.int .u32 2024104815), .lit (.int .u32 2227730452), .lit (.int .u32 2361852424), .lit (.int .u32 2428436474), .lit (.int .u32 2756734187), .lit (.int .u32 3204031479), .lit (.int .u32 3329325298)]
def laid_internal_strconv_uint64pow10 {H : Type} : DataW H := .agg [.lit (.int .u64 1), .lit (.int .u64 10), .lit (.int .u64 100), .lit (.int .u64 1000), .lit (.int .u64 10000), .lit (.int .u64 100000), .lit (.int .u64 1000000), .lit (.int .u64 10000000), .lit (.int .u64 100000000), .lit (.int .u64 1000000000), .lit (.int .u64 10000000000), .lit (.int .u64 100000000000), .lit (.int .u64 1000000000000), .lit (.int .u64 10000000000000), .lit (.int .u64 100000000000000), .lit (.int .u64 1000000000000000), .lit (.int .u64 10000000000000000), .lit (.int .u64 100000000000000000), .lit (.int .u64 1000000000000000000), .lit (.int .u64 10000000000000000000)]
def laid_bollard_api_ErrParams {H : Type} : DataW H := .iface "*errors.errorString" (.ptr (.agg [.lit (.string [98, 111, 108, 108, 97, 114, 100, 58, 32, 112, 97, 114, 97, 109, 115])]))
def laid_bollard_api_ErrNumber {H : Type} : DataW H := .iface "*errors.errorString" (.ptr (.agg [.lit (.string [98, 111, 108, 108, 97, 114, 100, 58, 32, 110, 117, 109, 98, 101, 114])]))
def laid_bollard_api_ErrData {H : Type} : DataW H := .iface "*errors.errorString" (.ptr (.agg [.lit (.string [98, 111, 108, 108, 97, 114, 100, 58, 32, 100, 97, 116, 97])]))
def laid_bollard_api_ErrLost {H : Type} : DataW H := .iface "*errors.errorString" (.ptr (.agg [.lit (.string [98, 111, 108, 108, 97, 114, 100, 58, 32, 108, 111, 115, 116])]))
def laid_bollard_api_ErrBytes {H : Type} : DataW H := .iface "*errors.errorString" (.ptr (.agg [.lit (.string [98, 111, 108, 108, 97, 114, 100, 58, 32, 98, 121, 116, 101, 115])]))
def laid_bollard_api_ErrDigest {H : Type} : DataW H := .iface "*errors.errorString" (.ptr (.agg [.lit (.string [98, 111, 108, 108, 97, 114, 100, 58, 32, 100, 105, 103, 101, 115, 116])]))
def laid_bollard_api_ErrName {H : Type} : DataW H := .iface "*errors.errorString" (.ptr (.agg [.lit (.string [98, 111, 108, 108, 97, 114, 100, 58, 32, 110, 97, 109, 101])]))
def laid_bollard_api_ErrGone {H : Type} : DataW H := .iface "*errors.errorString" (.ptr (.agg [.lit (.string [98, 111, 108, 108, 97, 114, 100, 58, 32, 103, 111, 110, 101])]))
def laid_bollard_api_ErrThere {H : Type} : DataW H := .iface "*errors.errorString" (.ptr (.agg [.lit (.string [98, 111, 108, 108, 97, 114, 100, 58, 32, 116, 104, 101, 114, 101])]))
def laid_bollard_api_ErrFull {H : Type} : DataW H := .iface "*errors.errorString" (.ptr (.agg [.lit (.string [98, 111, 108, 108, 97, 114, 100, 58, 32, 102, 117, 108, 108])]))
def laid_bollard_api_ErrLarge {H : Type} : DataW H := .iface "*errors.errorString" (.ptr (.agg [.lit (.string [98, 111, 108, 108, 97, 114, 100, 58, 32, 108, 97, 114, 103, 101])]))
def laid_bollard_api_ErrBallot {H : Type} : DataW H := .iface "*errors.errorString" (.ptr (.agg [.lit (.string [98, 111, 108, 108, 97, 114, 100, 58, 32, 98, 97, 108, 108, 111, 116])]))
def laid_bollard_api_ErrRequest {H : Type} : DataW H := .iface "*errors.errorString" (.ptr (.agg [.lit (.string [98, 111, 108, 108, 97, 114, 100, 58, 32, 114, 101, 113, 117, 101, 115, 116])]))
def laid_bollard_api_ErrUri {H : Type} : DataW H := .iface "*errors.errorString" (.ptr (.agg [.lit (.string [98, 111, 108, 108, 97, 114, 100, 58, 32, 117, 114, 105])]))
def laid_bollard_api_ErrDenied {H : Type} : DataW H := .iface "*errors.errorString" (.ptr (.agg [.lit (.string [98, 111, 108, 108, 97, 114, 100, 58, 32, 100, 101, 110, 105, 101, 100])]))
def laid_bollard_api_ErrSkew {H : Type} : DataW H := .iface "*errors.errorString" (.ptr (.agg [.lit (.string [98, 111, 108, 108, 97, 114, 100, 58, 32, 115, 107, 101, 119])]))
def laid_bollard_api_ErrMethod {H : Type} : DataW H := .iface "*errors.errorString" (.ptr (.agg [.lit (.string [98, 111, 108, 108, 97, 114, 100, 58, 32, 109, 101, 116, 104, 111, 100])]))
def laid_bollard_api_ErrState {H : Type} : DataW H := .iface "*errors.errorString" (.ptr (.agg [.lit (.string [98, 111, 108, 108, 97, 114, 100, 58, 32, 115, 116, 97, 116, 101])]))

/-- 'bollardlaw12.LedgerPuts': WHATEVER THE INPUT: true; the input reads as it did. -/
def ledgerPutsSpec : ChangeSpec := { name := "ledgerPuts", fn := fun _ => fun
  | [d1, d2] => { results := [.lit (.bool true)], args := [d1, d2] }
  | _ => none }
def ledgerPutsRow : OpenClaim := { program := "ytfabnnbljkkihaagreatdoor", sum := "8eb79f1dc15fb4c0468b133287db7056bcde5c255e95b7deab2afa0c25fcf2eb", func := "bollard/bollardlaw12.LedgerPuts", spec := "ledgerPuts", inPlace := ["internal/bytealg.abigen_runtime_cmpstring", "slices.overlaps[bollard/api.Bucket]", "slices.overlaps[bollard/api.Object]", "slices.overlaps[bollard/api.Upload]", "slices.overlaps[bollard/api.Part]", "slices.overlaps[bollard/api.Id]"], unfollowed := true, recurses := true, named := ["bollard/api.ErrGone", "bollard/api.ErrFull", "bollard/sha.constants", "internal/strconv.uint64pow10", "math/bits.deBruijn32tab", "math/bits.deBruijn64tab", "bollard/api.ErrParams", "bollard/api.ErrNumber", "bollard/api.ErrData", "bollard/api.ErrLost", "bollard/api.ErrBytes", "bollard/api.ErrDigest", "bollard/api.ErrName", "bollard/api.ErrThere", "bollard/api.ErrLarge", "bollard/api.ErrBallot", "bollard/api.ErrRequest", "bollard/api.ErrUri", "bollard/api.ErrDenied", "bollard/api.ErrSkew", "bollard/api.ErrMethod", "bollard/api.ErrState"], apart := false, laid := [("math/bits.deBruijn32tab", laid_math_bits_deBruijn32tab), ("math/bits.deBruijn64tab", laid_math_bits_deBruijn64tab), ("bollard/sha.constants", laid_bollard_sha_constants), ("internal/strconv.uint64pow10", laid_internal_strconv_uint64pow10), ("bollard/api.ErrParams", laid_bollard_api_ErrParams), ("bollard/api.ErrNumber", laid_bollard_api_ErrNumber), ("bollard/api.ErrData", laid_bollard_api_ErrData), ("bollard/api.ErrLost", laid_bollard_api_ErrLost), ("bollard/api.ErrBytes", laid_bollard_api_ErrBytes), ("bollard/api.ErrDigest", laid_bollard_api_ErrDigest), ("bollard/api.ErrName", laid_bollard_api_ErrName), ("bollard/api.ErrGone", laid_bollard_api_ErrGone), ("bollard/api.ErrThere", laid_bollard_api_ErrThere), ("bollard/api.ErrFull", laid_bollard_api_ErrFull), ("bollard/api.ErrLarge", laid_bollard_api_ErrLarge), ("bollard/api.ErrBallot", laid_bollard_api_ErrBallot), ("bollard/api.ErrRequest", laid_bollard_api_ErrRequest), ("bollard/api.ErrUri", laid_bollard_api_ErrUri), ("bollard/api.ErrDenied", laid_bollard_api_ErrDenied), ("bollard/api.ErrSkew", laid_bollard_api_ErrSkew), ("bollard/api.ErrMethod", laid_bollard_api_ErrMethod), ("bollard/api.ErrState", laid_bollard_api_ErrState)] }
def LedgerPutsSaid : Prop := ledgerPutsRow.holds Tryz.pinned (OpenSpec.ofChange ledgerPutsSpec)

/-- ITS FALSE NEIGHBOUR: 'it returns false'. Refute it at one input. -/
def ledgerPutsWrong : ChangeSpec := { name := "ledgerPuts", fn := fun _ => fun
  | [d1, d2] => { results := [.lit (.bool false)], args := [d1, d2] }
  | _ => none }
def LedgerPutsWrongFalsely : Prop := ledgerPutsRow.holds Tryz.pinned (OpenSpec.ofChange ledgerPutsWrong)

/-- 'bollardlaw12.LedgerBegins': WHATEVER THE INPUT: true; the input reads as it did. -/
def ledgerBeginsSpec : ChangeSpec := { name := "ledgerBegins", fn := fun _ => fun
  | [d1, d2, d3] => { results := [.lit (.bool true)], args := [d1, d2, d3] }
  | _ => none }
def ledgerBeginsRow : OpenClaim := { program := "ytfabnnbljkkihaagreatdoor", sum := "8eb79f1dc15fb4c0468b133287db7056bcde5c255e95b7deab2afa0c25fcf2eb", func := "bollard/bollardlaw12.LedgerBegins", spec := "ledgerBegins", inPlace := ["internal/bytealg.abigen_runtime_cmpstring", "slices.overlaps[bollard/api.Bucket]", "slices.overlaps[bollard/api.Object]", "slices.overlaps[bollard/api.Upload]", "slices.overlaps[bollard/api.Part]", "slices.overlaps[bollard/api.Id]"], unfollowed := true, recurses := true, named := ["bollard/api.ErrFull", "bollard/sha.constants", "internal/strconv.uint64pow10", "math/bits.deBruijn32tab", "math/bits.deBruijn64tab"], apart := false, laid := [("math/bits.deBruijn32tab", laid_math_bits_deBruijn32tab), ("math/bits.deBruijn64tab", laid_math_bits_deBruijn64tab), ("bollard/sha.constants", laid_bollard_sha_constants), ("internal/strconv.uint64pow10", laid_internal_strconv_uint64pow10), ("bollard/api.ErrFull", laid_bollard_api_ErrFull)] }
def LedgerBeginsSaid : Prop := ledgerBeginsRow.holds Tryz.pinned (OpenSpec.ofChange ledgerBeginsSpec)

/-- ITS FALSE NEIGHBOUR: 'it returns false'. Refute it at one input. -/
def ledgerBeginsWrong : ChangeSpec := { name := "ledgerBegins", fn := fun _ => fun
  | [d1, d2, d3] => { results := [.lit (.bool false)], args := [d1, d2, d3] }
  | _ => none }
def LedgerBeginsWrongFalsely : Prop := ledgerBeginsRow.holds Tryz.pinned (OpenSpec.ofChange ledgerBeginsWrong)

/-- 'bollardlaw12.LedgerGrows': WHATEVER THE INPUT: true; the input reads as it did. -/
def ledgerGrowsSpec : ChangeSpec := { name := "ledgerGrows", fn := fun _ => fun
  | [d1, d2] => { results := [.lit (.bool true)], args := [d1, d2] }
  | _ => none }
def ledgerGrowsRow : OpenClaim := { program := "ytfabnnbljkkihaagreatdoor", sum := "8eb79f1dc15fb4c0468b133287db7056bcde5c255e95b7deab2afa0c25fcf2eb", func := "bollard/bollardlaw12.LedgerGrows", spec := "ledgerGrows", inPlace := ["internal/bytealg.abigen_runtime_cmpstring", "slices.overlaps[bollard/api.Bucket]", "slices.overlaps[bollard/api.Object]", "slices.overlaps[bollard/api.Upload]", "slices.overlaps[bollard/api.Part]", "slices.overlaps[bollard/api.Id]"], unfollowed := true, recurses := true, named := ["bollard/api.ErrFull", "bollard/sha.constants", "internal/strconv.uint64pow10", "math/bits.deBruijn32tab", "math/bits.deBruijn64tab", "bollard/api.ErrGone"], apart := false, laid := [("math/bits.deBruijn32tab", laid_math_bits_deBruijn32tab), ("math/bits.deBruijn64tab", laid_math_bits_deBruijn64tab), ("bollard/sha.constants", laid_bollard_sha_constants), ("internal/strconv.uint64pow10", laid_internal_strconv_uint64pow10), ("bollard/api.ErrGone", laid_bollard_api_ErrGone), ("bollard/api.ErrFull", laid_bollard_api_ErrFull)] }
def LedgerGrowsSaid : Prop := ledgerGrowsRow.holds Tryz.pinned (OpenSpec.ofChange ledgerGrowsSpec)

/-- ITS FALSE NEIGHBOUR: 'it returns false'. Refute it at one input. -/
def ledgerGrowsWrong : ChangeSpec := { name := "ledgerGrows", fn := fun _ => fun
  | [d1, d2] => { results := [.lit (.bool false)], args := [d1, d2] }
  | _ => none }
def LedgerGrowsWrongFalsely : Prop := ledgerGrowsRow.holds Tryz.pinned (OpenSpec.ofChange ledgerGrowsWrong)

/-- 'bollardlaw11.CatalogApart': WHATEVER THE INPUT: true; the input reads as it did. -/
def catalogApartSpec : ChangeSpec := { name := "catalogApart", fn := fun _ => fun
  | [d1, d2] => { results := [.lit (.bool true)], args := [d1, d2] }
  | _ => none }
def catalogApartRow : OpenClaim := { program := "ytfabnnbljkkihaagreatdoor", sum := "8eb79f1dc15fb4c0468b133287db7056bcde5c255e95b7deab2afa0c25fcf2eb", func := "bollard/bollardlaw11.CatalogApart", spec := "catalogApart", inPlace := ["internal/bytealg.abigen_runtime_cmpstring", "slices.overlaps[bollard/api.Bucket]", "slices.overlaps[bollard/api.Object]", "slices.overlaps[bollard/api.Upload]", "slices.overlaps[bollard/api.Part]", "slices.overlaps[bollard/api.Id]"], unfollowed := true, recurses := true, named := ["bollard/sha.constants", "internal/strconv.uint64pow10", "math/bits.deBruijn32tab", "math/bits.deBruijn64tab"], apart := false, laid := [("math/bits.deBruijn32tab", laid_math_bits_deBruijn32tab), ("math/bits.deBruijn64tab", laid_math_bits_deBruijn64tab), ("bollard/sha.constants", laid_bollard_sha_constants), ("internal/strconv.uint64pow10", laid_internal_strconv_uint64pow10)] }
def CatalogApartSaid : Prop := catalogApartRow.holds Tryz.pinned (OpenSpec.ofChange catalogApartSpec)

/-- ITS FALSE NEIGHBOUR: 'it returns false'. Refute it at one input. -/
def catalogApartWrong : ChangeSpec := { name := "catalogApart", fn := fun _ => fun
  | [d1, d2] => { results := [.lit (.bool false)], args := [d1, d2] }
  | _ => none }
def CatalogApartWrongFalsely : Prop := catalogApartRow.holds Tryz.pinned (OpenSpec.ofChange catalogApartWrong)

/-- 'bollardlaw11.CatalogBack': WHATEVER THE INPUT: true; the input reads as it did. -/
def catalogBackSpec : ChangeSpec := { name := "catalogBack", fn := fun _ => fun
  | [d1, d2] => { results := [.lit (.bool true)], args := [d1, d2] }
  | _ => none }
def catalogBackRow : OpenClaim := { program := "ytfabnnbljkkihaagreatdoor", sum := "8eb79f1dc15fb4c0468b133287db7056bcde5c255e95b7deab2afa0c25fcf2eb", func := "bollard/bollardlaw11.CatalogBack", spec := "catalogBack", inPlace := ["internal/bytealg.abigen_runtime_cmpstring", "slices.overlaps[bollard/api.Bucket]", "slices.overlaps[bollard/api.Object]", "slices.overlaps[bollard/api.Upload]", "slices.overlaps[bollard/api.Part]", "slices.overlaps[bollard/api.Id]"], unfollowed := true, recurses := true, named := ["bollard/sha.constants", "internal/strconv.uint64pow10", "math/bits.deBruijn32tab", "math/bits.deBruijn64tab"], apart := false, laid := [("math/bits.deBruijn32tab", laid_math_bits_deBruijn32tab), ("math/bits.deBruijn64tab", laid_math_bits_deBruijn64tab), ("bollard/sha.constants", laid_bollard_sha_constants), ("internal/strconv.uint64pow10", laid_internal_strconv_uint64pow10)] }
def CatalogBackSaid : Prop := catalogBackRow.holds Tryz.pinned (OpenSpec.ofChange catalogBackSpec)

/-- ITS FALSE NEIGHBOUR: 'it returns false'. Refute it at one input. -/
def catalogBackWrong : ChangeSpec := { name := "catalogBack", fn := fun _ => fun
  | [d1, d2] => { results := [.lit (.bool false)], args := [d1, d2] }
  | _ => none }
def CatalogBackWrongFalsely : Prop := catalogBackRow.holds Tryz.pinned (OpenSpec.ofChange catalogBackWrong)

/-- 'bollardlaw11.CatalogOrdered': WHATEVER THE INPUT: true; the input reads as it did. -/
def catalogOrderedSpec : ChangeSpec := { name := "catalogOrdered", fn := fun _ => fun
  | [d] => { results := [.lit (.bool true)], args := [d] }
  | _ => none }
def catalogOrderedRow : OpenClaim := { program := "ytfabnnbljkkihaagreatdoor", sum := "8eb79f1dc15fb4c0468b133287db7056bcde5c255e95b7deab2afa0c25fcf2eb", func := "bollard/bollardlaw11.CatalogOrdered", spec := "catalogOrdered", inPlace := ["internal/bytealg.abigen_runtime_cmpstring", "slices.overlaps[bollard/api.Bucket]", "slices.overlaps[bollard/api.Object]", "slices.overlaps[bollard/api.Upload]", "slices.overlaps[bollard/api.Part]", "slices.overlaps[bollard/api.Id]"], unfollowed := true, recurses := true, named := ["bollard/sha.constants", "internal/strconv.uint64pow10", "math/bits.deBruijn32tab", "math/bits.deBruijn64tab"], apart := false, laid := [("math/bits.deBruijn32tab", laid_math_bits_deBruijn32tab), ("math/bits.deBruijn64tab", laid_math_bits_deBruijn64tab), ("bollard/sha.constants", laid_bollard_sha_constants), ("internal/strconv.uint64pow10", laid_internal_strconv_uint64pow10)] }
def CatalogOrderedSaid : Prop := catalogOrderedRow.holds Tryz.pinned (OpenSpec.ofChange catalogOrderedSpec)

/-- ITS FALSE NEIGHBOUR: 'it returns false'. Refute it at one input. -/
def catalogOrderedWrong : ChangeSpec := { name := "catalogOrdered", fn := fun _ => fun
  | [d] => { results := [.lit (.bool false)], args := [d] }
  | _ => none }
def CatalogOrderedWrongFalsely : Prop := catalogOrderedRow.holds Tryz.pinned (OpenSpec.ofChange catalogOrderedWrong)

/- THE SECOND FORM. 'bulk': how many values and letters a reading holds, each counted each time it is reached (what is shared counts as often as it is met; a slice's spare places count too). A statement '..UptoSaid' is the law's where the arguments, and the package variables that the reading takes, are together of bulk at most 1048576: NARROWER than '..Said'. Prove '..Said' where nothing that the law and all that it calls make is longer than what came in: it says more and counts as full. Else prove '..UptoSaid'. A law counts once. -/
mutual
def uptoBulk {H : Type} : DataW H → Nat
  | .lit (.string bytes) => bytes.length + 1
  | .lit _ => 1
  | .nil => 1
  | .ptr d => uptoBulk d + 1
  | .slice elems spare => uptoBulkAll elems + uptoBulkAll spare + 1
  | .agg parts => uptoBulkAll parts + 1
  | .iface _ d => uptoBulk d + 1
  | .map entries => uptoBulkEntries entries + 1
  | .held _ => 1
def uptoBulkAll {H : Type} : List (DataW H) → Nat
  | [] => 0
  | d :: r => uptoBulk d + uptoBulkAll r
def uptoBulkEntries {H : Type} : List (Lit × DataW H) → Nat
  | [] => 0
  | x :: r => uptoBulkEntry x + uptoBulkEntries r
def uptoBulkEntry {H : Type} : Lit × DataW H → Nat
  | (.string bytes, d) => bytes.length + uptoBulk d + 1
  | (_, d) => uptoBulk d + 1
 end
def uptoSmall : (H : Type) → List (DataW H) → Bool := fun _ ds => decide (uptoBulkAll ds ≤ 1048576)
def OpenSpec.upto (s : _root_.Go.ChangeSpec) : _root_.Go.OpenSpec := { _root_.Go.OpenSpec.ofChange s with cond := some uptoSmall }

/-- 'bollardlaw12.LedgerPuts', WHERE WHAT IT READS IS OF BULK AT MOST 1048576: true; the input reads as it did. -/
def ledgerPutsUptoRow : OpenClaim := { program := "ytfabnnbljkkihaagreatdoor", sum := "8eb79f1dc15fb4c0468b133287db7056bcde5c255e95b7deab2afa0c25fcf2eb", func := "bollard/bollardlaw12.LedgerPuts", spec := "ledgerPuts", inPlace := ["internal/bytealg.abigen_runtime_cmpstring", "slices.overlaps[bollard/api.Bucket]", "slices.overlaps[bollard/api.Object]", "slices.overlaps[bollard/api.Upload]", "slices.overlaps[bollard/api.Part]", "slices.overlaps[bollard/api.Id]"], unfollowed := true, recurses := true, named := ["bollard/api.ErrGone", "bollard/api.ErrFull", "bollard/sha.constants", "internal/strconv.uint64pow10", "math/bits.deBruijn32tab", "math/bits.deBruijn64tab", "bollard/api.ErrParams", "bollard/api.ErrNumber", "bollard/api.ErrData", "bollard/api.ErrLost", "bollard/api.ErrBytes", "bollard/api.ErrDigest", "bollard/api.ErrName", "bollard/api.ErrThere", "bollard/api.ErrLarge", "bollard/api.ErrBallot", "bollard/api.ErrRequest", "bollard/api.ErrUri", "bollard/api.ErrDenied", "bollard/api.ErrSkew", "bollard/api.ErrMethod", "bollard/api.ErrState"], apart := false, laid := [("math/bits.deBruijn32tab", laid_math_bits_deBruijn32tab), ("math/bits.deBruijn64tab", laid_math_bits_deBruijn64tab), ("bollard/sha.constants", laid_bollard_sha_constants), ("internal/strconv.uint64pow10", laid_internal_strconv_uint64pow10), ("bollard/api.ErrParams", laid_bollard_api_ErrParams), ("bollard/api.ErrNumber", laid_bollard_api_ErrNumber), ("bollard/api.ErrData", laid_bollard_api_ErrData), ("bollard/api.ErrLost", laid_bollard_api_ErrLost), ("bollard/api.ErrBytes", laid_bollard_api_ErrBytes), ("bollard/api.ErrDigest", laid_bollard_api_ErrDigest), ("bollard/api.ErrName", laid_bollard_api_ErrName), ("bollard/api.ErrGone", laid_bollard_api_ErrGone), ("bollard/api.ErrThere", laid_bollard_api_ErrThere), ("bollard/api.ErrFull", laid_bollard_api_ErrFull), ("bollard/api.ErrLarge", laid_bollard_api_ErrLarge), ("bollard/api.ErrBallot", laid_bollard_api_ErrBallot), ("bollard/api.ErrRequest", laid_bollard_api_ErrRequest), ("bollard/api.ErrUri", laid_bollard_api_ErrUri), ("bollard/api.ErrDenied", laid_bollard_api_ErrDenied), ("bollard/api.ErrSkew", laid_bollard_api_ErrSkew), ("bollard/api.ErrMethod", laid_bollard_api_ErrMethod), ("bollard/api.ErrState", laid_bollard_api_ErrState)], narrowed := true }
def LedgerPutsUptoSaid : Prop := ledgerPutsUptoRow.holds Tryz.pinned (OpenSpec.upto ledgerPutsSpec)

/-- 'bollardlaw12.LedgerBegins', WHERE WHAT IT READS IS OF BULK AT MOST 1048576: true; the input reads as it did. -/
def ledgerBeginsUptoRow : OpenClaim := { program := "ytfabnnbljkkihaagreatdoor", sum := "8eb79f1dc15fb4c0468b133287db7056bcde5c255e95b7deab2afa0c25fcf2eb", func := "bollard/bollardlaw12.LedgerBegins", spec := "ledgerBegins", inPlace := ["internal/bytealg.abigen_runtime_cmpstring", "slices.overlaps[bollard/api.Bucket]", "slices.overlaps[bollard/api.Object]", "slices.overlaps[bollard/api.Upload]", "slices.overlaps[bollard/api.Part]", "slices.overlaps[bollard/api.Id]"], unfollowed := true, recurses := true, named := ["bollard/api.ErrFull", "bollard/sha.constants", "internal/strconv.uint64pow10", "math/bits.deBruijn32tab", "math/bits.deBruijn64tab"], apart := false, laid := [("math/bits.deBruijn32tab", laid_math_bits_deBruijn32tab), ("math/bits.deBruijn64tab", laid_math_bits_deBruijn64tab), ("bollard/sha.constants", laid_bollard_sha_constants), ("internal/strconv.uint64pow10", laid_internal_strconv_uint64pow10), ("bollard/api.ErrFull", laid_bollard_api_ErrFull)], narrowed := true }
def LedgerBeginsUptoSaid : Prop := ledgerBeginsUptoRow.holds Tryz.pinned (OpenSpec.upto ledgerBeginsSpec)

/-- 'bollardlaw12.LedgerGrows', WHERE WHAT IT READS IS OF BULK AT MOST 1048576: true; the input reads as it did. -/
def ledgerGrowsUptoRow : OpenClaim := { program := "ytfabnnbljkkihaagreatdoor", sum := "8eb79f1dc15fb4c0468b133287db7056bcde5c255e95b7deab2afa0c25fcf2eb", func := "bollard/bollardlaw12.LedgerGrows", spec := "ledgerGrows", inPlace := ["internal/bytealg.abigen_runtime_cmpstring", "slices.overlaps[bollard/api.Bucket]", "slices.overlaps[bollard/api.Object]", "slices.overlaps[bollard/api.Upload]", "slices.overlaps[bollard/api.Part]", "slices.overlaps[bollard/api.Id]"], unfollowed := true, recurses := true, named := ["bollard/api.ErrFull", "bollard/sha.constants", "internal/strconv.uint64pow10", "math/bits.deBruijn32tab", "math/bits.deBruijn64tab", "bollard/api.ErrGone"], apart := false, laid := [("math/bits.deBruijn32tab", laid_math_bits_deBruijn32tab), ("math/bits.deBruijn64tab", laid_math_bits_deBruijn64tab), ("bollard/sha.constants", laid_bollard_sha_constants), ("internal/strconv.uint64pow10", laid_internal_strconv_uint64pow10), ("bollard/api.ErrGone", laid_bollard_api_ErrGone), ("bollard/api.ErrFull", laid_bollard_api_ErrFull)], narrowed := true }
def LedgerGrowsUptoSaid : Prop := ledgerGrowsUptoRow.holds Tryz.pinned (OpenSpec.upto ledgerGrowsSpec)

/-- 'bollardlaw11.CatalogApart', WHERE WHAT IT READS IS OF BULK AT MOST 1048576: true; the input reads as it did. -/
def catalogApartUptoRow : OpenClaim := { program := "ytfabnnbljkkihaagreatdoor", sum := "8eb79f1dc15fb4c0468b133287db7056bcde5c255e95b7deab2afa0c25fcf2eb", func := "bollard/bollardlaw11.CatalogApart", spec := "catalogApart", inPlace := ["internal/bytealg.abigen_runtime_cmpstring", "slices.overlaps[bollard/api.Bucket]", "slices.overlaps[bollard/api.Object]", "slices.overlaps[bollard/api.Upload]", "slices.overlaps[bollard/api.Part]", "slices.overlaps[bollard/api.Id]"], unfollowed := true, recurses := true, named := ["bollard/sha.constants", "internal/strconv.uint64pow10", "math/bits.deBruijn32tab", "math/bits.deBruijn64tab"], apart := false, laid := [("math/bits.deBruijn32tab", laid_math_bits_deBruijn32tab), ("math/bits.deBruijn64tab", laid_math_bits_deBruijn64tab), ("bollard/sha.constants", laid_bollard_sha_constants), ("internal/strconv.uint64pow10", laid_internal_strconv_uint64pow10)], narrowed := true }
def CatalogApartUptoSaid : Prop := catalogApartUptoRow.holds Tryz.pinned (OpenSpec.upto catalogApartSpec)

/-- 'bollardlaw11.CatalogBack', WHERE WHAT IT READS IS OF BULK AT MOST 1048576: true; the input reads as it did. -/
def catalogBackUptoRow : OpenClaim := { program := "ytfabnnbljkkihaagreatdoor", sum := "8eb79f1dc15fb4c0468b133287db7056bcde5c255e95b7deab2afa0c25fcf2eb", func := "bollard/bollardlaw11.CatalogBack", spec := "catalogBack", inPlace := ["internal/bytealg.abigen_runtime_cmpstring", "slices.overlaps[bollard/api.Bucket]", "slices.overlaps[bollard/api.Object]", "slices.overlaps[bollard/api.Upload]", "slices.overlaps[bollard/api.Part]", "slices.overlaps[bollard/api.Id]"], unfollowed := true, recurses := true, named := ["bollard/sha.constants", "internal/strconv.uint64pow10", "math/bits.deBruijn32tab", "math/bits.deBruijn64tab"], apart := false, laid := [("math/bits.deBruijn32tab", laid_math_bits_deBruijn32tab), ("math/bits.deBruijn64tab", laid_math_bits_deBruijn64tab), ("bollard/sha.constants", laid_bollard_sha_constants), ("internal/strconv.uint64pow10", laid_internal_strconv_uint64pow10)], narrowed := true }
def CatalogBackUptoSaid : Prop := catalogBackUptoRow.holds Tryz.pinned (OpenSpec.upto catalogBackSpec)

/-- 'bollardlaw11.CatalogOrdered', WHERE WHAT IT READS IS OF BULK AT MOST 1048576: true; the input reads as it did. -/
def catalogOrderedUptoRow : OpenClaim := { program := "ytfabnnbljkkihaagreatdoor", sum := "8eb79f1dc15fb4c0468b133287db7056bcde5c255e95b7deab2afa0c25fcf2eb", func := "bollard/bollardlaw11.CatalogOrdered", spec := "catalogOrdered", inPlace := ["internal/bytealg.abigen_runtime_cmpstring", "slices.overlaps[bollard/api.Bucket]", "slices.overlaps[bollard/api.Object]", "slices.overlaps[bollard/api.Upload]", "slices.overlaps[bollard/api.Part]", "slices.overlaps[bollard/api.Id]"], unfollowed := true, recurses := true, named := ["bollard/sha.constants", "internal/strconv.uint64pow10", "math/bits.deBruijn32tab", "math/bits.deBruijn64tab"], apart := false, laid := [("math/bits.deBruijn32tab", laid_math_bits_deBruijn32tab), ("math/bits.deBruijn64tab", laid_math_bits_deBruijn64tab), ("bollard/sha.constants", laid_bollard_sha_constants), ("internal/strconv.uint64pow10", laid_internal_strconv_uint64pow10)], narrowed := true }
def CatalogOrderedUptoSaid : Prop := catalogOrderedUptoRow.holds Tryz.pinned (OpenSpec.upto catalogOrderedSpec)

end Rows
end Go.Proofs.YtfabnnbljkkihaaGreatDoor
