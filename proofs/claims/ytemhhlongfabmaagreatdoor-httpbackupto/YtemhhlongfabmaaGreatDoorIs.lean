/- Requests opened: what they hold is no longer than their bulk. -/
import Derived.Test.YtemhhlongfabmaaGreatDoorIb
import Derived.Test.YtemhhlongfabmaaGreatDoorIr
namespace Go.Proofs.YtemhhlongfabmaaGreatDoor
open Go.ChangeShapes Go.WideShapes Go.ChangeAt Go.RowKit Go.Deep
set_option maxRecDepth 20000
set_option linter.unusedVariables false
set_option linter.unusedSimpArgs false
section
variable {H : Type} {enc : TypeId × Value → H} {W : World} {fuel : Nat} {y : DataW H × List MemPlace}
theorem open_reqU {A : Array Value} (hf : DataW.trod enc Tryz.prog W 0 (fun _ => true) true fuel 27 A.toList = some y) (hsz : ∀ n ∈ y.1.weights Tryz.prog 27, n ≤ reachBytes) :
    ∃ m t fa fn fc ba bn bc fs bd, A = #[.string m, .string t, .slice fa fn fc, .slice ba bn bc] ∧ Rqz W m t fa fn fc ba bn bc fs bd ∧ m.size + t.size + totF fs + bn ≤ Rows.uptoBulk y.1 := by
  obtain ⟨xs, k, hk, hxy, hlen, hxl, hfl⟩ := DataW.trod_struct Tryz.underlying27 hf
  rw [cells27] at hlen
  obtain ⟨cs⟩ := A
  match xs, hxl, cs, hlen with
  | [y0, y1, y2, y3], _, [v0, v1, v2, v3], _ =>
    have g0 := hfl 0 _ rfl
    have g1 := hfl 1 _ rfl
    have g2 := hfl 2 _ rfl
    have g3 := hfl 3 _ rfl
    simp [cells9, cells25, cells22] at g0 g1 g2 g3
    have wm : ∀ n, n ∈ DataW.weightsEach Tryz.prog [9, 9, 25, 22] [y0.1, y1.1, y2.1, y3.1] → n ≤ reachBytes := fun n hn => hsz n (by
      rw [hxy]
      simp only [DataW.weights, Tryz.underlying27]
      exact hn)
    obtain ⟨m, rfl0, z0⟩ := open_str g0 (fun n hn => wm n (DataW.weights_mem_each (j := 0) (t := 9) (d := y0.1) rfl rfl n hn))
    obtain ⟨t, rfl1, z1⟩ := open_str g1 (fun n hn => wm n (DataW.weights_mem_each (j := 1) (t := 9) (d := y1.1) rfl rfl n hn))
    obtain ⟨fa, fn, fc, fs, rfl2, hF, hfc, hfz, hff⟩ := open_fl g2 (fun n hn => wm n (DataW.weights_mem_each (j := 2) (t := 25) (d := y2.1) rfl rfl n hn))
    obtain ⟨ba, bn, bc, bd, rfl3, hB, hbc, hbm, hbz⟩ := open_body g3 (fun n hn => wm n (DataW.weights_mem_each (j := 3) (t := 22) (d := y3.1) rfl rfl n hn))
    subst rfl0 rfl1 rfl2 rfl3
    have u0 := bulk_str g0
    have u1 := bulk_str g1
    have u2 := bulk_fl g2 hF
    have u3 := bulk_bytes g3
    refine ⟨m, t, fa, fn, fc, ba, bn, bc, fs, bd, rfl, ⟨⟨hF, hB.out⟩, z0, z1, hfc, hbc, hbm, hfz, hbz, hff⟩, ?_⟩
    rw [hxy]
    simp only [List.map_cons, List.map_nil, Rows.uptoBulk, Rows.uptoBulkAll]
    omega
end
theorem rqH_size (m t : ByteArray) : (rqH m t).size = m.size + t.size + 12 := by
  simp only [rqH, ByteArray.size_append]
  have e1 : ByteArray.size { data := #[32] } = 1 := rfl
  have e2 : ByteArray.size { data := #[32, 72, 84, 84, 80, 47, 49, 46, 49, 13, 10] } = 11 := rfl
  omega
theorem rqL_small {m t : ByteArray} {fs : List Fl} {body : List Nat} (h : m.size + t.size + totF fs + body.length ≤ 1048576) : (rqL m t fs body).length ≤ 140737488354304 := by
  have h1 := lnsB_tot fs
  have h2 := rqH_size m t
  simp only [rqL, List.length_append, List.length_cons, List.length_nil, bo_len]
  omega
theorem back_u {m t : ByteArray} {fa : Option Addr} {fn fc : Nat} {fs : List Fl} {ba : Option Addr} {bn bc u : Nat} {body : List Nat} {w : World} {M : Nat → Prop} {E : Nat → Addr} (hQ : Rqz w m t fa fn fc ba bn bc fs body) (hu : m.size + t.size + totF fs + bn ≤ u) (hb : u + 0 ≤ 1048576)
    (hm : Hid (Mx w)) (hE : Hid (Sent w M E)) (M0 : M 0) (M12 : M 12) (ht : Hid (Tab w)) :
    Calls Tryz.prog 7 #[.agg #[.string m, .string t, .slice fa fn fc, .slice ba bn bc]] w fun e w' => e = .returned (.bool true) ∧ Hid (Below w.heap.size w w') := by
  have hl := hQ.r.out.b.len
  exact back_n hQ.r hQ.bz (rqL_small (by omega)) hm hE M0 M12 ht
end Go.Proofs.YtemhhlongfabmaaGreatDoor
