/- HttpWrites, for responses of small bulk. -/
import Derived.Test.YtemhhlongfabmaaGreatDoorIa
import Derived.Test.YtemhhlongfabmaaGreatDoorIb
namespace Go.Proofs.YtemhhlongfabmaaGreatDoor
open Go.ChangeShapes Go.WideShapes Go.ChangeAt Go.RowKit
set_option linter.unusedVariables false
theorem writes_u {st : Int} {fa : Option Addr} {fn fc : Nat} {fs : List Fl} {ba : Option Addr} {bn bc u : Nat} {body : List Nat} {w : World} {M : Nat → Prop} {E : Nat → Addr} (hQ : Rsz w fa fn fc ba bn bc fs body) (hu : totF fs + bn ≤ u) (hb : u + 0 ≤ 1048576) (wx : (Lit.int .i64 st).wf = true) (hm : Hid (Mx w)) (hE : Hid (Sent w M E)) (M0 : M 0) (M12 : M 12) (ht : Hid (Tab w)) :
    Calls Tryz.prog 5 #[.agg #[.int .i64 st, .slice fa fn fc, .slice ba bn bc]] w fun e w' => e = .returned (.bool true) ∧ Hid (Below w.heap.size w w') := by
  have bx := bounds_i64 wx
  have hl := hQ.r.out.b.len
  have hf := hQ.r.out.f.len
  have ht2 := totF_len fs
  refine writes_n hQ.r (by omega) hQ.fz hQ.bz (by omega) (by omega) (wrt_small (by omega) (by omega) (by omega)) (fun f hf => ?_) hm hE M0 M12 ht
  have := (hQ.hfs f hf).2
  omega
end Go.Proofs.YtemhhlongfabmaaGreatDoor
