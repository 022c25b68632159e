/- A script of ops among the arguments, opened: each a kind, a drive's number, a number, two names, and bytes. -/
import Derived.Test.YtkjebbpmafhpgaaDoorVc
import Derived.Test.YtkjebbpmafhpgaaDoorVn
import Derived.Test.YtkjebbpmafhpgaaDoorVs
import Derived.Deep.SlicePairs
namespace Go.Proofs.YtkjebbpmafhpgaaDoor
open Go.ChangeShapes Go.WideShapes Go.ChangeAt Go.RowKit Go.Deep
set_option maxRecDepth 20000
set_option linter.unusedVariables false
set_option linter.unusedSimpArgs false
structure Opt where
  kind : Int
  which : Int
  frm : Int
  tto : Int
  num : Int
  bs : List Nat
instance : Inhabited Opt := ⟨⟨0, 0, 0, 0, 0, []⟩⟩
abbrev o0 : Opt := ⟨0, 0, 0, 0, 0, []⟩
/- an op's six cells -/
structure Opc (W : World) (b o : Nat) (x : Opt) (a : Option Addr) (n c : Nat) : Prop where
  c0 : W.cell? ⟨b, o, none⟩ = some (.int .i64 x.kind)
  c1 : W.cell? ⟨b, o + 1, none⟩ = some (.int .i64 x.which)
  c2 : W.cell? ⟨b, o + 2, none⟩ = some (.int .i64 x.frm)
  c3 : W.cell? ⟨b, o + 3, none⟩ = some (.int .i64 x.tto)
  c4 : W.cell? ⟨b, o + 4, none⟩ = some (.int .i64 x.num)
  c5 : W.cell? ⟨b, o + 5, none⟩ = some (.slice a n c)
  w0 : (Lit.int .i64 x.kind).wf = true
  w1 : (Lit.int .i64 x.which).wf = true
  w2 : (Lit.int .i64 x.frm).wf = true
  w3 : (Lit.int .i64 x.tto).wf = true
  w4 : (Lit.int .i64 x.num).wf = true
  sl : Sln W a n x.bs
  nc : n ≤ c
  cap : c ≤ 140737488351232
  z : a = none → c = 0
theorem Opc.below {W W' : World} {b o : Nat} {x : Opt} {a : Option Addr} {n c : Nat} (h : Opc W b o x a n c) (hb : Below W.heap.size W W') : Opc W' b o x a n c :=
  ⟨(hb.cell (p := ⟨b, o, none⟩) (cell_lt h.c0)).trans h.c0, (hb.cell (p := ⟨b, o + 1, none⟩) (cell_lt h.c1)).trans h.c1, (hb.cell (p := ⟨b, o + 2, none⟩) (cell_lt h.c2)).trans h.c2, (hb.cell (p := ⟨b, o + 3, none⟩) (cell_lt h.c3)).trans h.c3, (hb.cell (p := ⟨b, o + 4, none⟩) (cell_lt h.c4)).trans h.c4, (hb.cell (p := ⟨b, o + 5, none⟩) (cell_lt h.c5)).trans h.c5, h.w0, h.w1, h.w2, h.w3, h.w4, h.sl.below hb, h.nc, h.cap, h.z⟩
structure Ops (W : World) (a : Option Addr) (n : Nat) (L : List Opt) : Prop where
  len : n = L.length
  row : n = 0 ∨ ∃ b o, a = some ⟨b, o, none⟩ ∧ b < W.heap.size ∧ ∀ i, i < n → ∃ a' n' c', Opc W b (o + i * 6) (L.getD i o0) a' n' c'
theorem weightsAll_mem {H : Type} {P : Program} {e : TypeId} : ∀ {ds : List (DataW H)} {d : DataW H}, d ∈ ds → ∀ n ∈ d.weights P e, n ∈ DataW.weightsAll P e ds
  | [], d, h, n, hn => by cases h
  | d' :: r, d, h, n, hn => by
    simp only [DataW.weightsAll, List.mem_append]
    rcases List.mem_cons.1 h with rfl | h
    · exact .inl hn
    · exact .inr (weightsAll_mem h n hn)
theorem cells34 : Tryd.prog.cellsOf 34 = 6 := by kernel_rfl
theorem cells3 : Tryd.prog.cellsOf 3 = 1 := by kernel_rfl
theorem cells32 : Tryd.prog.cellsOf 32 = 1 := by kernel_rfl
theorem bytes34 : Tryd.prog.bytesOf 34 = 64 := by kernel_rfl
theorem open_ops {H : Type} {enc : TypeId × Value → H} {W : World} {fuel : Nat} {v : Value} {y : DataW H × List MemPlace} (hf : DataW.trod enc Tryd.prog W 0 (fun _ => true) true fuel 22 [v] = some y) (hsz : ∀ n ∈ y.1.weights Tryd.prog 22, n ≤ reachBytes) :
    ∃ a n k L, v = .slice a n k ∧ Hid (Ops W a n L) ∧ n ≤ k ∧ n ≤ 140737488351232 := by
  rcases open_slice Tryd.underlying22 hf with ⟨hcs, _⟩ | ⟨x, len, cap, m, fu, D, Pl, hcs, _, hl, hm, hmm, hx, hc⟩
  · simp at hcs
    exact ⟨none, 0, 0, [], hcs, ⟨rfl, .inl rfl⟩, by omega, by omega⟩
  · simp at hcs
    simp only [if_true] at hmm
    subst hmm
    rw [hx] at hsz
    have hlen8 : len ≤ 140737488351232 := by
      have h := hsz ((((List.range len).map D).length + ((List.range (m - len)).map fun j => D (len + j)).length) * 64) (by
        simp only [DataW.weights, Tryd.underlying22, bytes34]
        simp)
      simp only [List.length_map, List.length_range, reachBytes] at h
      omega
    have each : ∀ i, i < len → ∃ q : Opt × Option Addr × Nat × Nat, (W.cell? (x.add (i * 6)) = some (.int .i64 q.1.kind) ∧ W.cell? (x.add (i * 6 + 1)) = some (.int .i64 q.1.which) ∧ W.cell? (x.add (i * 6 + 2)) = some (.int .i64 q.1.frm) ∧ W.cell? (x.add (i * 6 + 3)) = some (.int .i64 q.1.tto) ∧ W.cell? (x.add (i * 6 + 4)) = some (.int .i64 q.1.num) ∧ W.cell? (x.add (i * 6 + 5)) = some (.slice q.2.1 q.2.2.1 q.2.2.2)) ∧
        ((Lit.int .i64 q.1.kind).wf = true ∧ (Lit.int .i64 q.1.which).wf = true ∧ (Lit.int .i64 q.1.frm).wf = true ∧ (Lit.int .i64 q.1.tto).wf = true ∧ (Lit.int .i64 q.1.num).wf = true) ∧ Sln W q.2.1 q.2.2.1 q.1.bs ∧ q.2.2.1 ≤ q.2.2.2 ∧ q.2.2.2 ≤ 140737488351232 ∧ (q.2.1 = none → q.2.2.2 = 0) := by
      intro i hi
      obtain ⟨cs', h1, h2⟩ := hc i (by omega)
      rw [cells34] at h1
      obtain ⟨_, hlen, hcell⟩ := World.cells?_some h1
      obtain ⟨xs, k, hk, hxy, _, hxl, hfl⟩ := DataW.trod_struct Tryd.underlying34 h2
      match xs, hxl, cs', hlen with
      | [y0, y1, y2, y3, y4, y5], _, [v0, v1, v2, v3, v4, v5], _ =>
        have g0 := hfl 0 _ rfl
        have g1 := hfl 1 _ rfl
        have g2 := hfl 2 _ rfl
        have g3 := hfl 3 _ rfl
        have g4 := hfl 4 _ rfl
        have g5 := hfl 5 _ rfl
        simp [cells3, cells32] at g0 g1 g2 g3 g4 g5
        have e0 := hcell 0 (by omega)
        have e1 := hcell 1 (by omega)
        have e2 := hcell 2 (by omega)
        have e3 := hcell 3 (by omega)
        have e4 := hcell 4 (by omega)
        have e5 := hcell 5 (by omega)
        rw [add_add] at e0 e1 e2 e3 e4 e5
        simp at e0 e1 e2 e3 e4 e5
        simp only [Prod.mk.injEq] at hxy
        obtain ⟨z0, rfl0, _, wz0⟩ := DataW.trod_int Tryd.underlying3 g0
        obtain ⟨z1, rfl1, _, wz1⟩ := DataW.trod_int Tryd.underlying3 g1
        obtain ⟨z2, rfl2, _, wz2⟩ := DataW.trod_int Tryd.underlying3 g2
        obtain ⟨z3, rfl3, _, wz3⟩ := DataW.trod_int Tryd.underlying3 g3
        obtain ⟨z4, rfl4, _, wz4⟩ := DataW.trod_int Tryd.underlying3 g4
        simp at rfl0 rfl1 rfl2 rfl3 rfl4
        subst rfl0 rfl1 rfl2 rfl3 rfl4
        have hD : D i = .agg [y0.1, y1.1, y2.1, y3.1, y4.1, y5.1] := by simpa using hxy.1
        have hmem : D i ∈ (List.range len).map D := List.mem_map.2 ⟨i, List.mem_range.2 hi, rfl⟩
        obtain ⟨ab, nb, kb, lb, rfl, S, hb1, hb2⟩ := open_bytes g5 (fun n hn => hsz n (by
          simp only [DataW.weights, Tryd.underlying22]
          refine List.mem_cons_of_mem _ (List.mem_append_left _ (weightsAll_mem hmem _ ?_))
          rw [hD]
          simp only [DataW.weights, Tryd.underlying34]
          simp [DataW.weightsEach, hn]))
        exact ⟨(⟨z0, z1, z2, z3, z4, lb⟩, ab, nb, kb), ⟨e0, e1, e2, e3, e4, e5⟩, ⟨wz0, wz1, wz2, wz3, wz4⟩, S.out, hb1, hb2, nil_cap27 g5⟩
    obtain ⟨q, hq⟩ := choose_lt each
    refine ⟨some x, len, m, (List.range len).map fun i => (q i).1, hcs, ⟨by simp, ?_⟩, hl, hlen8⟩
    by_cases h0 : len = 0
    · exact .inl h0
    · right
      obtain ⟨b, off, spot⟩ := x
      have h10 := (hq 0 (by omega)).1.1
      have hspot : spot = none := by simpa [Addr.add] using World.cell?_spot h10
      subst hspot
      refine ⟨b, off, rfl, cell_lt (by simpa [Addr.add] using h10), fun i hi => ⟨(q i).2.1, (q i).2.2.1, (q i).2.2.2, ?_⟩⟩
      obtain ⟨⟨d0, d1, d2, d3, d4, d5⟩, ⟨u0, u1, u2, u3, u4⟩, S, h1, h2, h3⟩ := hq i hi
      have n0 : ((List.range len).map fun i => (q i).1).getD i o0 = (q i).1 := by simp [List.getD, hi]
      rw [n0]
      have ad : ∀ j, (⟨b, off, none⟩ : Addr).add j = ⟨b, off + j, none⟩ := by intro j; simp [Addr.add]
      rw [ad] at d0 d1 d2 d3 d4 d5
      exact ⟨d0, by rw [Nat.add_assoc]; exact d1, by rw [Nat.add_assoc]; exact d2, by rw [Nat.add_assoc]; exact d3, by rw [Nat.add_assoc]; exact d4, by rw [Nat.add_assoc]; exact d5, u0, u1, u2, u3, u4, S, h1, h2, h3⟩
end Go.Proofs.YtkjebbpmafhpgaaDoor
