/- Arguments: strings, fields, requests, responses. -/
import Derived.Test.YtemhhlongfabmaaGreatDoorHr
import Derived.Test.YtemhhlongfabmaaGreatDoorVn
import Derived.Deep.SlicePairs
namespace Go.Proofs.YtemhhlongfabmaaGreatDoor
open Go.ChangeShapes Go.WideShapes Go.ChangeAt Go.RowKit Go.Deep
set_option maxRecDepth 20000
set_option linter.unusedVariables false
set_option linter.unusedSimpArgs false
theorem cells3 : Tryz.prog.cellsOf 3 = 1 := by kernel_rfl
theorem cells22 : Tryz.prog.cellsOf 22 = 1 := by kernel_rfl
theorem cells25 : Tryz.prog.cellsOf 25 = 1 := by kernel_rfl
theorem cells41 : Tryz.prog.cellsOf 41 = 2 := by kernel_rfl
theorem cells27 : Tryz.prog.cellsOf 27 = 4 := by kernel_rfl
theorem cells46 : Tryz.prog.cellsOf 46 = 3 := by kernel_rfl
theorem bytes41 : Tryz.prog.bytesOf 41 = 32 := by kernel_rfl
theorem bytes27 : Tryz.prog.bytesOf 27 = 80 := by kernel_rfl
theorem weightsAll_mem {H : Type} {P : Program} {e : TypeId} : ∀ {ds : List (DataW H)} {d : DataW H}, d ∈ ds → ∀ n ∈ d.weights P e, n ∈ DataW.weightsAll P e ds
  | [], d, h, n, hn => by cases h
  | d' :: r, d, h, n, hn => by
    simp only [DataW.weightsAll, List.mem_append]
    rcases List.mem_cons.1 h with rfl | h
    · exact .inl hn
    · exact .inr (weightsAll_mem h n hn)
section
variable {H : Type} {enc : TypeId × Value → H} {W : World} {fuel : Nat} {y : DataW H × List MemPlace}
theorem open_str {v : Value} (hf : DataW.trod enc Tryz.prog W 0 (fun _ => true) true fuel 9 [v] = some y) (hsz : ∀ n ∈ y.1.weights Tryz.prog 9, n ≤ reachBytes) : ∃ s : ByteArray, v = .string s ∧ s.size ≤ 140737488351232 := by
  obtain ⟨z, h1, h2, _⟩ := DataW.trod_string Tryz.underlying9 hf
  simp at h1
  subst h1
  refine ⟨z, rfl, ?_⟩
  rw [h2] at hsz
  have h := hsz z.data.toList.length (by simp [DataW.weights])
  have e : z.data.toList.length = z.size := by rw [Array.length_toList]; rfl
  rw [e] at h
  simp only [reachBytes] at h
  omega
theorem str_size {s : ByteArray} (hf : DataW.trod enc Tryz.prog W 0 (fun _ => true) true fuel 9 [.string s] = some y) (hsz : ∀ n ∈ y.1.weights Tryz.prog 9, n ≤ reachBytes) : s.size ≤ 140737488351232 := by
  obtain ⟨z, h1, h2⟩ := open_str hf hsz
  cases h1
  exact h2
theorem open_fl {v : Value} (hf : DataW.trod enc Tryz.prog W 0 (fun _ => true) true fuel 25 [v] = some y) (hsz : ∀ n ∈ y.1.weights Tryz.prog 25, n ≤ reachBytes) :
    ∃ a n k l, v = .slice a n k ∧ Fw W a n l ∧ n ≤ k ∧ (a = none → k = 0) ∧ (∀ x ∈ l, x.1.size ≤ 140737488351232 ∧ x.2.size ≤ 140737488351232) := by
  rcases open_slice_pairs Tryz.underlying25 Tryz.underlying41 cells41 rfl rfl cells9 cells9 hf with ⟨hcs, _⟩ | ⟨x, len, cap, m, nf, V0, V1, D0, D1, P0, P1, hcs, _, hl, _, hm, hx, hc⟩
  · simp at hcs
    exact ⟨none, 0, 0, [], hcs, ⟨rfl, by omega, fun i hi => by omega, .inl rfl⟩, by omega, fun _ => rfl, fun x hx => by cases hx⟩
  · simp at hcs
    simp only [if_true] at hm
    subst hm
    rw [hx] at hsz
    have hk : m ≤ 4398046510976 := by
      have h := hsz ((((List.range len).map fun i => (.agg [D0 i, D1 i] : DataW H)).length + ((List.range (m - len)).map fun j => (.agg [D0 (len + j), D1 (len + j)] : DataW H)).length) * 32) (by
        simp only [DataW.weights, Tryz.underlying25, bytes41]
        simp)
      simp only [List.length_map, List.length_range, reachBytes] at h
      omega
    have each : ∀ i, i < len → ∃ q : Fl, V0 i = .string q.1 ∧ V1 i = .string q.2 ∧ q.1.size ≤ 140737488351232 ∧ q.2.size ≤ 140737488351232 := by
      intro i hi
      obtain ⟨_, _, t0, t1⟩ := hc i (by omega)
      have hmem : (.agg [D0 i, D1 i] : DataW H) ∈ (List.range len).map fun i => (.agg [D0 i, D1 i] : DataW H) := List.mem_map.2 ⟨i, List.mem_range.2 hi, rfl⟩
      have wm : ∀ n, n ∈ DataW.weightsEach Tryz.prog [9, 9] [D0 i, D1 i] → n ≤ reachBytes := fun n hn => hsz n (by
        have h1 : n ∈ (DataW.agg [D0 i, D1 i]).weights Tryz.prog 41 := by
          simp only [DataW.weights, Tryz.underlying41]
          exact hn
        simp only [DataW.weights, Tryz.underlying25]
        exact List.mem_cons_of_mem _ (List.mem_append_left _ (weightsAll_mem hmem _ h1)))
      obtain ⟨s0, e0, z0⟩ := open_str t0 (fun n hn => wm n (DataW.weights_mem_each (j := 0) (t := 9) (d := D0 i) rfl rfl n hn))
      obtain ⟨s1, e1, z1⟩ := open_str t1 (fun n hn => wm n (DataW.weights_mem_each (j := 1) (t := 9) (d := D1 i) rfl rfl n hn))
      exact ⟨(s0, s1), e0, e1, z0, z1⟩
    obtain ⟨q, hq⟩ := choose_lt each
    have hX : ∀ i, i < len → ((List.range len).map q).getD i fz = q i := fun i hi => by simp [List.getD, hi]
    refine ⟨some x, len, m, (List.range len).map q, hcs, ⟨by simp, by omega, fun i hi => ?_, ?_⟩, hl, (fun h => by cases h), fun y hy => ?_⟩
    · rw [hX i hi]
      have := (hq i hi).2.2.2
      omega
    · by_cases h0 : len = 0
      · exact .inl h0
      · right
        obtain ⟨b, off, spot⟩ := x
        have h10 := (hc 0 (by omega)).1
        have hspot : spot = none := by simpa [Addr.add] using World.cell?_spot h10
        subst hspot
        refine ⟨b, off, rfl, cell_lt (by simpa [Addr.add] using h10), fun i hi => ?_⟩
        obtain ⟨c0, c1, _, _⟩ := hc i (by omega)
        rw [Addr.add_mid] at c0 c1
        rw [hX i hi]
        obtain ⟨e0, e1, _, _⟩ := hq i hi
        rw [e0] at c0
        rw [e1] at c1
        exact ⟨c0, by rw [Nat.add_assoc]; exact c1⟩
    · obtain ⟨i, hi, rfl⟩ := List.mem_map.1 hy
      exact (hq i (List.mem_range.1 hi)).2.2
structure Rqz (W : World) (m t : ByteArray) (fa : Option Addr) (fn fc : Nat) (ba : Option Addr) (bn bc : Nat) (fs : List Fl) (body : List Nat) : Prop where
  r : Hid (Rq W fa fn ba bn fs body)
  hm : m.size ≤ 140737488351232
  ht : t.size ≤ 140737488351232
  hfc : fn ≤ fc
  hbc : bn ≤ bc
  bm : bc ≤ 140737488351232
  fz : fa = none → fc = 0
  bz : ba = none → bc = 0
  hfs : ∀ x ∈ fs, x.1.size ≤ 140737488351232 ∧ x.2.size ≤ 140737488351232
theorem open_body {v : Value} (hf : DataW.trod enc Tryz.prog W 0 (fun _ => true) true fuel 22 [v] = some y) (hsz : ∀ n ∈ y.1.weights Tryz.prog 22, n ≤ reachBytes) :
    ∃ a n k l, v = .slice a n k ∧ Hid (Sln W a n l) ∧ n ≤ k ∧ k ≤ 140737488351232 ∧ (a = none → k = 0) := by
  obtain ⟨a, n, k, l, rfl, h1, h2, h3⟩ := open_bytes hf hsz
  exact ⟨a, n, k, l, rfl, h1, h2, h3, nil_cap27 hf⟩
theorem open_req {A : Array Value} (hf : DataW.trod enc Tryz.prog W 0 (fun _ => true) true fuel 27 A.toList = some y) (hsz : ∀ n ∈ y.1.weights Tryz.prog 27, n ≤ reachBytes) :
    ∃ m t fa fn fc ba bn bc fs bd, A = #[.string m, .string t, .slice fa fn fc, .slice ba bn bc] ∧ Rqz W m t fa fn fc ba bn bc fs bd := by
  obtain ⟨xs, k, hk, hxy, hlen, hxl, hfl⟩ := DataW.trod_struct Tryz.underlying27 hf
  rw [cells27] at hlen
  obtain ⟨cs⟩ := A
  match xs, hxl, cs, hlen with
  | [y0, y1, y2, y3], _, [v0, v1, v2, v3], _ =>
    have g0 := hfl 0 _ rfl
    have g1 := hfl 1 _ rfl
    have g2 := hfl 2 _ rfl
    have g3 := hfl 3 _ rfl
    simp [cells9, cells25, cells22] at g0 g1 g2 g3
    have wm : ∀ n, n ∈ DataW.weightsEach Tryz.prog [9, 9, 25, 22] [y0.1, y1.1, y2.1, y3.1] → n ≤ reachBytes := fun n hn => hsz n (by
      rw [hxy]
      simp only [DataW.weights, Tryz.underlying27]
      exact hn)
    obtain ⟨m, rfl0, z0⟩ := open_str g0 (fun n hn => wm n (DataW.weights_mem_each (j := 0) (t := 9) (d := y0.1) rfl rfl n hn))
    obtain ⟨t, rfl1, z1⟩ := open_str g1 (fun n hn => wm n (DataW.weights_mem_each (j := 1) (t := 9) (d := y1.1) rfl rfl n hn))
    obtain ⟨fa, fn, fc, fs, rfl2, hF, hfc, hfz, hff⟩ := open_fl g2 (fun n hn => wm n (DataW.weights_mem_each (j := 2) (t := 25) (d := y2.1) rfl rfl n hn))
    obtain ⟨ba, bn, bc, bd, rfl3, hB, hbc, hbm, hbz⟩ := open_body g3 (fun n hn => wm n (DataW.weights_mem_each (j := 3) (t := 22) (d := y3.1) rfl rfl n hn))
    subst rfl0 rfl1 rfl2 rfl3
    exact ⟨m, t, fa, fn, fc, ba, bn, bc, fs, bd, rfl, ⟨⟨hF, hB.out⟩, z0, z1, hfc, hbc, hbm, hfz, hbz, hff⟩⟩
structure Rsz (W : World) (fa : Option Addr) (fn fc : Nat) (ba : Option Addr) (bn bc : Nat) (fs : List Fl) (body : List Nat) : Prop where
  r : Hid (Rq W fa fn ba bn fs body)
  hfc : fn ≤ fc
  hbc : bn ≤ bc
  bm : bc ≤ 140737488351232
  fz : fa = none → fc = 0
  bz : ba = none → bc = 0
  hfs : ∀ x ∈ fs, x.1.size ≤ 140737488351232 ∧ x.2.size ≤ 140737488351232
theorem open_rsp {A : Array Value} (hf : DataW.trod enc Tryz.prog W 0 (fun _ => true) true fuel 46 A.toList = some y) (hsz : ∀ n ∈ y.1.weights Tryz.prog 46, n ≤ reachBytes) :
    ∃ st fa fn fc ba bn bc fs bd, A = #[.int .i64 st, .slice fa fn fc, .slice ba bn bc] ∧ (Lit.int .i64 st).wf = true ∧ Rsz W fa fn fc ba bn bc fs bd := by
  obtain ⟨xs, k, hk, hxy, hlen, hxl, hfl⟩ := DataW.trod_struct Tryz.underlying46 hf
  rw [cells46] at hlen
  obtain ⟨cs⟩ := A
  match xs, hxl, cs, hlen with
  | [y0, y2, y3], _, [v0, v2, v3], _ =>
    have g0 := hfl 0 _ rfl
    have g2 := hfl 1 _ rfl
    have g3 := hfl 2 _ rfl
    simp [cells3, cells25, cells22] at g0 g2 g3
    have wm : ∀ n, n ∈ DataW.weightsEach Tryz.prog [3, 25, 22] [y0.1, y2.1, y3.1] → n ≤ reachBytes := fun n hn => hsz n (by
      rw [hxy]
      simp only [DataW.weights, Tryz.underlying46]
      exact hn)
    obtain ⟨st, rfl0, _, wz⟩ := DataW.trod_int Tryz.underlying3 g0
    obtain ⟨fa, fn, fc, fs, rfl2, hF, hfc, hfz, hff⟩ := open_fl g2 (fun n hn => wm n (DataW.weights_mem_each (j := 1) (t := 25) (d := y2.1) rfl rfl n hn))
    obtain ⟨ba, bn, bc, bd, rfl3, hB, hbc, hbm, hbz⟩ := open_body g3 (fun n hn => wm n (DataW.weights_mem_each (j := 2) (t := 22) (d := y3.1) rfl rfl n hn))
    simp at rfl0
    subst rfl0 rfl2 rfl3
    exact ⟨st, fa, fn, fc, ba, bn, bc, fs, bd, rfl, wz, ⟨⟨hF, hB.out⟩, hfc, hbc, hbm, hfz, hbz, hff⟩⟩
end
theorem open27 {W : World} {r : Reach} {base : Nat} {v : Value} (h : Value.okWide Tryz.prog W r base 27 v) : ∃ cs : Array Value, v = .agg cs := by
  simp only [Value.okWide, Tryz.underlying27] at h
  obtain ⟨cs, rfl, _⟩ := h
  exact ⟨cs, rfl⟩
theorem open46 {W : World} {r : Reach} {base : Nat} {v : Value} (h : Value.okWide Tryz.prog W r base 46 v) : ∃ cs : Array Value, v = .agg cs := by
  simp only [Value.okWide, Tryz.underlying46] at h
  obtain ⟨cs, rfl, _⟩ := h
  exact ⟨cs, rfl⟩
end Go.Proofs.YtemhhlongfabmaaGreatDoor
