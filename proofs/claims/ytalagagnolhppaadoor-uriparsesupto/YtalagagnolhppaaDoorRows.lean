/-
  NARROWER THAN 'FOR EVERY INPUT', by the rows' own cells (each row's printed sentence says how): UriParses: laid · UriWrites: laid · UriBack: laid · UriTexts: laid · UriPlain: laid.
  DERIVED. THE GIVEN ROWS OF THIS SEAT. 5 by the template 'for every input the law returns true; each argument reads behind the call as it read before'; 0 by the template 'total and deterministic' (their statements: YtalagagnolhppaaDoorTotals.lean).
  GIVEN WITH THE SEED: the statements are not yours to turn. If you find one false, say at which input.
  Laid BY PROGRAM, IN A SANDBOX (cutbox-rows.mjs): the forced cells as the released guide's own fill.sh prints them over the translation 08f453405e2c8ae2… (all of the seat's roots in one cut). By AI agents, Wed Nov 11 2026. No macro, syntax, notation, axiom, sorry.
-/
import Derived.Test.YtalagagnolhppaaDoorChecked
import GoSem.Claim
import GoSem.ClaimJoined
import GoSem.ClaimMapViews
import Derived.JoinedTies
import Derived.KernelRfl
namespace Go.Proofs.YtalagagnolhppaaDoor
/- THE CELL 'sum', in the pinned program and in every row, IS THE sha256 OF THE DUMP (.gsa) THAT YtalagagnolhppaaDoorProg.lean LOADS. Nothing in Lean hashes anything: it is a label: what it is worth is what the hold of that sum in a sandbox is worth. -/
noncomputable def Tryd.pinned : Pinned := { name := "ytalagagnolhppaadoor", sum := "08f453405e2c8ae2154b74fc55a763158e76a7eb46045002f426535d1e0bc746", checked := Tryd.checked }
namespace Rows
def none {H : Type} : Left H := { results := [], args := [] }

/- WHAT THE LISTED PACKAGE-LEVEL VARIABLES READ AS WHEN THE CALL BEGINS. Each datum BY PROGRAM (the guide's laid-datum.mjs) off the statement by which the dump's own 'gosem.cut.vars' lays the variable. In a bare row this is a premise. The card (YtalagagnolhppaaDoorCards.lean) ties it to the program's text. -/
def laid_bollard_api_ErrUri {H : Type} : DataW H := .iface "*errors.errorString" (.ptr (.agg [.lit (.string [98, 111, 108, 108, 97, 114, 100, 58, 32, 117, 114, 105])]))

/-- 'bollardlaw17.UriParses': WHATEVER THE INPUT: true; the input reads as it did. -/
def uriParsesSpec : ChangeSpec := { name := "uriParses", fn := fun _ => fun
  | [d] => { results := [.lit (.bool true)], args := [d] }
  | _ => none }
def uriParsesRow : OpenClaim := { program := "ytalagagnolhppaadoor", sum := "08f453405e2c8ae2154b74fc55a763158e76a7eb46045002f426535d1e0bc746", func := "bollard/bollardlaw17.UriParses", spec := "uriParses", inPlace := ["internal/bytealg.IndexByteString", "internal/bytealg.IndexString"], unfollowed := true, recurses := true, named := ["bollard/api.ErrUri", "internal/bytealg.MaxLen"], apart := false, laid := [("bollard/api.ErrUri", laid_bollard_api_ErrUri)] }
def UriParsesSaid : Prop := uriParsesRow.holds Tryd.pinned (OpenSpec.ofChange uriParsesSpec)

/-- ITS FALSE NEIGHBOUR: 'it returns false'. Refute it at one input. -/
def uriParsesWrong : ChangeSpec := { name := "uriParses", fn := fun _ => fun
  | [d] => { results := [.lit (.bool false)], args := [d] }
  | _ => none }
def UriParsesWrongFalsely : Prop := uriParsesRow.holds Tryd.pinned (OpenSpec.ofChange uriParsesWrong)

/-- 'bollardlaw17.UriWrites': WHATEVER THE INPUT: true; the input reads as it did. -/
def uriWritesSpec : ChangeSpec := { name := "uriWrites", fn := fun _ => fun
  | [d1, d2, d3] => { results := [.lit (.bool true)], args := [d1, d2, d3] }
  | _ => none }
def uriWritesRow : OpenClaim := { program := "ytalagagnolhppaadoor", sum := "08f453405e2c8ae2154b74fc55a763158e76a7eb46045002f426535d1e0bc746", func := "bollard/bollardlaw17.UriWrites", spec := "uriWrites", inPlace := ["internal/bytealg.IndexByteString", "internal/bytealg.IndexString", "internal/bytealg.abigen_runtime_cmpstring", "internal/abi.NoEscape", "internal/bytealg.MakeNoZero"], unfollowed := true, recurses := true, named := ["bollard/api.ErrUri", "internal/bytealg.MaxLen"], apart := false, laid := [("bollard/api.ErrUri", laid_bollard_api_ErrUri)] }
def UriWritesSaid : Prop := uriWritesRow.holds Tryd.pinned (OpenSpec.ofChange uriWritesSpec)

/-- ITS FALSE NEIGHBOUR: 'it returns false'. Refute it at one input. -/
def uriWritesWrong : ChangeSpec := { name := "uriWrites", fn := fun _ => fun
  | [d1, d2, d3] => { results := [.lit (.bool false)], args := [d1, d2, d3] }
  | _ => none }
def UriWritesWrongFalsely : Prop := uriWritesRow.holds Tryd.pinned (OpenSpec.ofChange uriWritesWrong)

/-- 'bollardlaw17.UriBack': WHATEVER THE INPUT: true; the input reads as it did. -/
def uriBackSpec : ChangeSpec := { name := "uriBack", fn := fun _ => fun
  | [d] => { results := [.lit (.bool true)], args := [d] }
  | _ => none }
def uriBackRow : OpenClaim := { program := "ytalagagnolhppaadoor", sum := "08f453405e2c8ae2154b74fc55a763158e76a7eb46045002f426535d1e0bc746", func := "bollard/bollardlaw17.UriBack", spec := "uriBack", inPlace := ["internal/bytealg.IndexByteString", "internal/bytealg.IndexString", "internal/bytealg.abigen_runtime_cmpstring", "internal/abi.NoEscape", "internal/bytealg.MakeNoZero"], unfollowed := true, recurses := true, named := ["bollard/api.ErrUri", "internal/bytealg.MaxLen"], apart := false, laid := [("bollard/api.ErrUri", laid_bollard_api_ErrUri)] }
def UriBackSaid : Prop := uriBackRow.holds Tryd.pinned (OpenSpec.ofChange uriBackSpec)

/-- ITS FALSE NEIGHBOUR: 'it returns false'. Refute it at one input. -/
def uriBackWrong : ChangeSpec := { name := "uriBack", fn := fun _ => fun
  | [d] => { results := [.lit (.bool false)], args := [d] }
  | _ => none }
def UriBackWrongFalsely : Prop := uriBackRow.holds Tryd.pinned (OpenSpec.ofChange uriBackWrong)

/-- 'bollardlaw17.UriTexts': WHATEVER THE INPUT: true; the input reads as it did. -/
def uriTextsSpec : ChangeSpec := { name := "uriTexts", fn := fun _ => fun
  | [d1, d2, d3] => { results := [.lit (.bool true)], args := [d1, d2, d3] }
  | _ => none }
def uriTextsRow : OpenClaim := { program := "ytalagagnolhppaadoor", sum := "08f453405e2c8ae2154b74fc55a763158e76a7eb46045002f426535d1e0bc746", func := "bollard/bollardlaw17.UriTexts", spec := "uriTexts", inPlace := ["internal/bytealg.IndexByteString", "internal/bytealg.IndexString", "internal/bytealg.abigen_runtime_cmpstring", "internal/abi.NoEscape", "internal/bytealg.MakeNoZero"], unfollowed := true, recurses := true, named := ["bollard/api.ErrUri", "internal/bytealg.MaxLen"], apart := false, laid := [("bollard/api.ErrUri", laid_bollard_api_ErrUri)] }
def UriTextsSaid : Prop := uriTextsRow.holds Tryd.pinned (OpenSpec.ofChange uriTextsSpec)

/-- ITS FALSE NEIGHBOUR: 'it returns false'. Refute it at one input. -/
def uriTextsWrong : ChangeSpec := { name := "uriTexts", fn := fun _ => fun
  | [d1, d2, d3] => { results := [.lit (.bool false)], args := [d1, d2, d3] }
  | _ => none }
def UriTextsWrongFalsely : Prop := uriTextsRow.holds Tryd.pinned (OpenSpec.ofChange uriTextsWrong)

/-- 'bollardlaw17.UriPlain': WHATEVER THE INPUT: true; the input reads as it did. -/
def uriPlainSpec : ChangeSpec := { name := "uriPlain", fn := fun _ => fun
  | [d1, d2] => { results := [.lit (.bool true)], args := [d1, d2] }
  | _ => none }
def uriPlainRow : OpenClaim := { program := "ytalagagnolhppaadoor", sum := "08f453405e2c8ae2154b74fc55a763158e76a7eb46045002f426535d1e0bc746", func := "bollard/bollardlaw17.UriPlain", spec := "uriPlain", inPlace := ["internal/bytealg.IndexByteString", "internal/bytealg.IndexString"], unfollowed := true, recurses := true, named := ["bollard/api.ErrUri", "internal/bytealg.MaxLen"], apart := false, laid := [("bollard/api.ErrUri", laid_bollard_api_ErrUri)] }
def UriPlainSaid : Prop := uriPlainRow.holds Tryd.pinned (OpenSpec.ofChange uriPlainSpec)

/-- ITS FALSE NEIGHBOUR: 'it returns false'. Refute it at one input. -/
def uriPlainWrong : ChangeSpec := { name := "uriPlain", fn := fun _ => fun
  | [d1, d2] => { results := [.lit (.bool false)], args := [d1, d2] }
  | _ => none }
def UriPlainWrongFalsely : Prop := uriPlainRow.holds Tryd.pinned (OpenSpec.ofChange uriPlainWrong)

/- THE SECOND FORM. 'bulk': how many values and letters a reading holds, each counted each time it is reached (what is shared counts as often as it is met; a slice's spare places count too). A statement '..UptoSaid' is the law's where the arguments, and the package variables that the reading takes, are together of bulk at most 1048576: NARROWER than '..Said'. Prove '..Said' where nothing that the law and all that it calls make is longer than what came in: it says more and counts as full. Else prove '..UptoSaid'. A law counts once. -/
mutual
def uptoBulk {H : Type} : DataW H → Nat
  | .lit (.string bytes) => bytes.length + 1
  | .lit _ => 1
  | .nil => 1
  | .ptr d => uptoBulk d + 1
  | .slice elems spare => uptoBulkAll elems + uptoBulkAll spare + 1
  | .agg parts => uptoBulkAll parts + 1
  | .iface _ d => uptoBulk d + 1
  | .map entries => uptoBulkEntries entries + 1
  | .held _ => 1
def uptoBulkAll {H : Type} : List (DataW H) → Nat
  | [] => 0
  | d :: r => uptoBulk d + uptoBulkAll r
def uptoBulkEntries {H : Type} : List (Lit × DataW H) → Nat
  | [] => 0
  | x :: r => uptoBulkEntry x + uptoBulkEntries r
def uptoBulkEntry {H : Type} : Lit × DataW H → Nat
  | (.string bytes, d) => bytes.length + uptoBulk d + 1
  | (_, d) => uptoBulk d + 1
 end
def uptoSmall : (H : Type) → List (DataW H) → Bool := fun _ ds => decide (uptoBulkAll ds ≤ 1048576)
def OpenSpec.upto (s : _root_.Go.ChangeSpec) : _root_.Go.OpenSpec := { _root_.Go.OpenSpec.ofChange s with cond := some uptoSmall }

/-- 'bollardlaw17.UriParses', WHERE WHAT IT READS IS OF BULK AT MOST 1048576: true; the input reads as it did. -/
def uriParsesUptoRow : OpenClaim := { program := "ytalagagnolhppaadoor", sum := "08f453405e2c8ae2154b74fc55a763158e76a7eb46045002f426535d1e0bc746", func := "bollard/bollardlaw17.UriParses", spec := "uriParses", inPlace := ["internal/bytealg.IndexByteString", "internal/bytealg.IndexString"], unfollowed := true, recurses := true, named := ["bollard/api.ErrUri", "internal/bytealg.MaxLen"], apart := false, laid := [("bollard/api.ErrUri", laid_bollard_api_ErrUri)], narrowed := true }
def UriParsesUptoSaid : Prop := uriParsesUptoRow.holds Tryd.pinned (OpenSpec.upto uriParsesSpec)

/-- 'bollardlaw17.UriWrites', WHERE WHAT IT READS IS OF BULK AT MOST 1048576: true; the input reads as it did. -/
def uriWritesUptoRow : OpenClaim := { program := "ytalagagnolhppaadoor", sum := "08f453405e2c8ae2154b74fc55a763158e76a7eb46045002f426535d1e0bc746", func := "bollard/bollardlaw17.UriWrites", spec := "uriWrites", inPlace := ["internal/bytealg.IndexByteString", "internal/bytealg.IndexString", "internal/bytealg.abigen_runtime_cmpstring", "internal/abi.NoEscape", "internal/bytealg.MakeNoZero"], unfollowed := true, recurses := true, named := ["bollard/api.ErrUri", "internal/bytealg.MaxLen"], apart := false, laid := [("bollard/api.ErrUri", laid_bollard_api_ErrUri)], narrowed := true }
def UriWritesUptoSaid : Prop := uriWritesUptoRow.holds Tryd.pinned (OpenSpec.upto uriWritesSpec)

/-- 'bollardlaw17.UriBack', WHERE WHAT IT READS IS OF BULK AT MOST 1048576: true; the input reads as it did. -/
def uriBackUptoRow : OpenClaim := { program := "ytalagagnolhppaadoor", sum := "08f453405e2c8ae2154b74fc55a763158e76a7eb46045002f426535d1e0bc746", func := "bollard/bollardlaw17.UriBack", spec := "uriBack", inPlace := ["internal/bytealg.IndexByteString", "internal/bytealg.IndexString", "internal/bytealg.abigen_runtime_cmpstring", "internal/abi.NoEscape", "internal/bytealg.MakeNoZero"], unfollowed := true, recurses := true, named := ["bollard/api.ErrUri", "internal/bytealg.MaxLen"], apart := false, laid := [("bollard/api.ErrUri", laid_bollard_api_ErrUri)], narrowed := true }
def UriBackUptoSaid : Prop := uriBackUptoRow.holds Tryd.pinned (OpenSpec.upto uriBackSpec)

/-- 'bollardlaw17.UriTexts', WHERE WHAT IT READS IS OF BULK AT MOST 1048576: true; the input reads as it did. -/
def uriTextsUptoRow : OpenClaim := { program := "ytalagagnolhppaadoor", sum := "08f453405e2c8ae2154b74fc55a763158e76a7eb46045002f426535d1e0bc746", func := "bollard/bollardlaw17.UriTexts", spec := "uriTexts", inPlace := ["internal/bytealg.IndexByteString", "internal/bytealg.IndexString", "internal/bytealg.abigen_runtime_cmpstring", "internal/abi.NoEscape", "internal/bytealg.MakeNoZero"], unfollowed := true, recurses := true, named := ["bollard/api.ErrUri", "internal/bytealg.MaxLen"], apart := false, laid := [("bollard/api.ErrUri", laid_bollard_api_ErrUri)], narrowed := true }
def UriTextsUptoSaid : Prop := uriTextsUptoRow.holds Tryd.pinned (OpenSpec.upto uriTextsSpec)

/-- 'bollardlaw17.UriPlain', WHERE WHAT IT READS IS OF BULK AT MOST 1048576: true; the input reads as it did. -/
def uriPlainUptoRow : OpenClaim := { program := "ytalagagnolhppaadoor", sum := "08f453405e2c8ae2154b74fc55a763158e76a7eb46045002f426535d1e0bc746", func := "bollard/bollardlaw17.UriPlain", spec := "uriPlain", inPlace := ["internal/bytealg.IndexByteString", "internal/bytealg.IndexString"], unfollowed := true, recurses := true, named := ["bollard/api.ErrUri", "internal/bytealg.MaxLen"], apart := false, laid := [("bollard/api.ErrUri", laid_bollard_api_ErrUri)], narrowed := true }
def UriPlainUptoSaid : Prop := uriPlainUptoRow.holds Tryd.pinned (OpenSpec.upto uriPlainSpec)

end Rows
end Go.Proofs.YtalagagnolhppaaDoor
