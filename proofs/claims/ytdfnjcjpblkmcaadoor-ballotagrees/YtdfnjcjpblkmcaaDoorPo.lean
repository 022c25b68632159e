/- The rounds that are handed in. -/
import Derived.Test.YtdfnjcjpblkmcaaDoorAo
namespace Go.Proofs.YtdfnjcjpblkmcaaDoor
open Go.ChangeShapes Go.WideShapes Go.ChangeAt Go.RowKit Go.Deep
set_option maxRecDepth 20000
set_option linter.unusedVariables false
set_option linter.unusedSimpArgs false
/- a round -/
structure Rt where
  r : Int
  n : Int
  aa : Option Addr
  an : Nat
  ac : Nat
  A : List Int
  ta : Option Addr
  tn : Nat
  tc : Nat
  T : List Int
  tag : Int
  late : Bool
instance : Inhabited Rt := ⟨⟨0, 0, none, 0, 0, [], none, 0, 0, [], 0, false⟩⟩
structure Rdc (W : World) (b o : Nat) (x : Rt) : Prop where
  c0 : W.cell? ⟨b, o, none⟩ = some (.int .i64 x.r)
  c1 : W.cell? ⟨b, o + 1, none⟩ = some (.int .i64 x.n)
  c2 : W.cell? ⟨b, o + 2, none⟩ = some (.slice x.aa x.an x.ac)
  c3 : W.cell? ⟨b, o + 3, none⟩ = some (.slice x.ta x.tn x.tc)
  c4 : W.cell? ⟨b, o + 4, none⟩ = some (.int .i64 x.tag)
  c5 : W.cell? ⟨b, o + 5, none⟩ = some (.bool x.late)
  a : Irow W 0 x.aa x.an x.A
  ai : ∀ j, I64 (x.A.getD j 0)
  t : Irow W 0 x.ta x.tn x.T
  ti : ∀ j, I64 (x.T.getD j 0)
structure Rds (W : World) (a : Option Addr) (n : Nat) (L : List Rt) : Prop where
  len : n = L.length
  row : n = 0 ∨ ∃ b o, a = some ⟨b, o, none⟩ ∧ ∀ i (hi : i < L.length), Rdc W b (o + i * 6) L[i]
theorem cells66 : Tryd.prog.cellsOf 66 = 6 := by kernel_rfl
theorem bytes66 : Tryd.prog.bytesOf 66 = 80 := by kernel_rfl
theorem i64_getD {zs : List Int} {n : Nat} (h : ∀ z ∈ zs, (Lit.int .i64 z).wf = true) (j : Nat) : I64 ((zs.take n).getD j 0) := by
  by_cases hj : j < (zs.take n).length
  · have e : (zs.take n).getD j 0 = (zs.take n)[j] := by rw [List.getD_eq_getElem?_getD, List.getElem?_eq_getElem hj]; rfl
    rw [e]
    exact i64_wf (h _ (List.mem_of_mem_take (List.getElem_mem hj)))
  · have e : (zs.take n).getD j 0 = 0 := by rw [List.getD_eq_getElem?_getD, List.getElem?_eq_none (by omega)]; rfl
    rw [e]
    unfold I64
    omega
section
variable {H : Type} {enc : TypeId × Value → H} {W : World} {fuel : Nat} {y : DataW H × List MemPlace}
theorem open_ilw {v : Value} (hf : DataW.trod enc Tryd.prog W 0 (fun _ => true) true fuel 61 [v] = some y) (hsz : ∀ n ∈ y.1.weights Tryd.prog 61, n ≤ reachBytes) :
    ∃ a n k l, v = .slice a n k ∧ Irow W 0 a n l ∧ n ≤ k ∧ (a = none → k = 0) ∧ ∀ j, I64 (l.getD j 0) := by
  rcases open_ints Tryd.underlying61 Tryd.underlying3 cells3 hf with ⟨hcs, _⟩ | ⟨x, n, k, zs, hcs, _, hl, _, hz, hx, hcell, hwz⟩
  · simp at hcs
    exact ⟨none, 0, 0, [], hcs, ⟨rfl, by omega, .inl rfl⟩, by omega, fun _ => rfl, fun j => by simp [I64]⟩
  · simp at hcs
    have hz : zs.length = k := by simpa using hz
    have hk : k ≤ 17592186043904 := by
      have h := hsz (((lits (H := H) .i64 (zs.take n)).length + (lits (H := H) .i64 (zs.drop n)).length) * 8) (by
        rw [hx]; simp only [DataW.weights, Tryd.underlying61, bytes3]; simp)
      simp only [lits, List.length_map, List.length_take, List.length_drop, reachBytes] at h
      omega
    refine ⟨some x, n, k, zs.take n, hcs, ⟨by simp; omega, by omega, ?_⟩, hl, (fun h => by cases h), fun j => i64_getD hwz j⟩
    by_cases h0 : n = 0
    · exact .inl h0
    · right
      obtain ⟨b, off, spot⟩ := x
      have hc := hcell 0 (by omega)
      have hspot : spot = none := by simpa [Addr.add] using World.cell?_spot hc
      subst hspot
      refine ⟨b, off, rfl, by omega, cell_lt (by simpa [Addr.add] using hc), fun i hi => ?_⟩
      have h1 := hcell i (by omega)
      rw [Addr.add_mid] at h1
      rw [h1]
      have h3 : i < zs.length := by omega
      simp [List.getD, h3, hi]
theorem open_rounds {v : Value} (hf : DataW.trod enc Tryd.prog W 0 (fun _ => true) true fuel 56 [v] = some y) (hsz : ∀ n ∈ y.1.weights Tryd.prog 56, n ≤ reachBytes) :
    ∃ a n k L, v = .slice a n k ∧ Hid (Rds W a n L) ∧ n ≤ k ∧ n ≤ 140737488351232 ∧ (a = none → k = 0) := by
  rcases open_slice Tryd.underlying56 hf with ⟨hcs, _⟩ | ⟨x, len, cap, m, fu, D, Pl, hcs, _, hl, hm, hmm, hx, hc⟩
  · simp at hcs
    exact ⟨none, 0, 0, [], hcs, ⟨rfl, .inl rfl⟩, by omega, by omega, fun _ => rfl⟩
  · simp at hcs
    simp only [if_true] at hmm
    subst hmm
    rw [hx] at hsz
    have hlen8 : len ≤ 140737488351232 := by
      have h := hsz ((((List.range len).map D).length + ((List.range (m - len)).map fun j => D (len + j)).length) * 80) (by
        simp only [DataW.weights, Tryd.underlying56, bytes66]
        simp)
      simp only [List.length_map, List.length_range, reachBytes] at h
      omega
    have each : ∀ i, i < len → ∃ q : Rt, W.cells? 0 (x.add (i * 6)) 6 = some [.int .i64 q.r, .int .i64 q.n, .slice q.aa q.an q.ac, .slice q.ta q.tn q.tc, .int .i64 q.tag, .bool q.late] ∧ Irow W 0 q.aa q.an q.A ∧ (∀ j, I64 (q.A.getD j 0)) ∧ Irow W 0 q.ta q.tn q.T ∧ (∀ j, I64 (q.T.getD j 0)) := by
      intro i hi
      obtain ⟨cs', h1, h2⟩ := hc i (by omega)
      rw [cells66] at h1
      have hmem : D i ∈ (List.range len).map D := List.mem_map.2 ⟨i, List.mem_range.2 hi, rfl⟩
      have hwt : ∀ n ∈ (D i).weights Tryd.prog 66, n ≤ reachBytes := fun n hn => hsz n (by
        simp only [DataW.weights, Tryd.underlying56]
        exact List.mem_cons_of_mem _ (List.mem_append_left _ (weightsAll_mem hmem _ hn)))
      obtain ⟨xs, k, hk, hxy, hlen, hxl, hfl⟩ := DataW.trod_struct Tryd.underlying66 h2
      rw [cells66] at hlen
      match xs, hxl, cs', hlen with
      | [y0, y1, y2, y3, y4], _, [v0, v1, v2, v3, v4, v5], _ =>
        have g0 := hfl 0 _ rfl
        have g1 := hfl 1 _ rfl
        have g2 := hfl 2 _ rfl
        have g3 := hfl 3 _ rfl
        have g4 := hfl 4 _ rfl
        simp [cells3, cells34, cells61, cells4] at g0 g1 g2 g3 g4
        have hD : D i = .agg [y0.1, y1.1, y2.1, y3.1, y4.1] := by
          simp only [Prod.mk.injEq] at hxy
          simpa using hxy.1
        obtain ⟨p, q, e0⟩ := open_bal g0
        obtain ⟨a1, n1, c1, l1, rfl1, hI1, _, _, hJ1⟩ := open_ilw g1 (fun n hn => hwt n (by
          rw [hD]
          simp only [DataW.weights, Tryd.underlying66]
          exact DataW.weights_mem_each (j := 1) (t := 61) (d := y1.1) rfl rfl n hn))
        obtain ⟨a2, n2, c2, l2, rfl2, hI2, _, _, hJ2⟩ := open_ilw g2 (fun n hn => hwt n (by
          rw [hD]
          simp only [DataW.weights, Tryd.underlying66]
          exact DataW.weights_mem_each (j := 2) (t := 61) (d := y2.1) rfl rfl n hn))
        obtain ⟨z3, rfl3, _, _⟩ := DataW.trod_int Tryd.underlying3 g3
        obtain ⟨b4, rfl4, _⟩ := DataW.trod_bool Tryd.underlying4 g4
        simp at rfl3 rfl4 e0
        obtain ⟨rfl, rfl⟩ := e0
        subst rfl1 rfl2 rfl3 rfl4
        exact ⟨⟨p, q, a1, n1, c1, l1, a2, n2, c2, l2, z3, b4⟩, h1, hI1, hJ1, hI2, hJ2⟩
    obtain ⟨q, hq⟩ := choose_lt each
    refine ⟨some x, len, m, (List.range len).map q, hcs, ⟨by simp, ?_⟩, hl, hlen8, fun h => by cases h⟩
    by_cases h0 : len = 0
    · exact .inl h0
    · right
      obtain ⟨b, off, spot⟩ := x
      obtain ⟨_, _, hc0⟩ := World.cells?_some (hq 0 (by omega)).1
      have h10 := hc0 0 (by simp)
      have hspot : spot = none := by simpa [Addr.add] using World.cell?_spot h10
      subst hspot
      refine ⟨b, off, rfl, fun i hi => ?_⟩
      have hi2 : i < len := by simpa using hi
      obtain ⟨_, hln, hci⟩ := World.cells?_some (hq i hi2).1
      have ei : ((List.range len).map q)[i] = q i := by simp
      rw [ei]
      have d0 := hci 0 (by simp)
      have d1 := hci 1 (by simp)
      have d2 := hci 2 (by simp)
      have d3 := hci 3 (by simp)
      have d4 := hci 4 (by simp)
      have d5 := hci 5 (by simp)
      rw [Addr.add_mid, Addr.add_mid] at d0 d1 d2 d3 d4 d5
      exact ⟨d0, d1, d2, d3, d4, d5, (hq i hi2).2.1, (hq i hi2).2.2.1, (hq i hi2).2.2.2.1, (hq i hi2).2.2.2.2⟩
end
end Go.Proofs.YtdfnjcjpblkmcaaDoor
