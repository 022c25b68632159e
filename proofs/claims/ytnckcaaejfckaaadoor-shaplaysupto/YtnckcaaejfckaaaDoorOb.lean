/- A script of ops among the arguments, opened: each a kind, a number of a writer, a number, and bytes. -/
import Derived.Test.YtnckcaaejfckaaaDoorOa
import Derived.Test.YtnckcaaejfckaaaDoorOn
import Derived.Deep.SlicePairs
namespace Go.Proofs.YtnckcaaejfckaaaDoor
open Go.ChangeShapes Go.WideShapes Go.ChangeAt Go.RowKit Go.Deep
set_option linter.unusedVariables false
set_option linter.unusedSimpArgs false
structure Opt where
  kind : Int
  which : Int
  bs : List Nat
instance : Inhabited Opt := ⟨⟨0, 0, []⟩⟩
abbrev o0 : Opt := ⟨0, 0, []⟩
/- an op's four cells -/
structure Opc (W : World) (b o : Nat) (x : Opt) (a : Option Addr) (n c : Nat) : Prop where
  c0 : W.cell? ⟨b, o, none⟩ = some (.int .i64 x.kind)
  c1 : W.cell? ⟨b, o + 1, none⟩ = some (.int .i64 x.which)
  c2 : W.cell? ⟨b, o + 2, none⟩ = some (.slice a n c)
  w0 : (Lit.int .i64 x.kind).wf = true
  w1 : (Lit.int .i64 x.which).wf = true
  sl : Sln W a n x.bs
  nc : n ≤ c
  cap : c ≤ 140737488351232
  z : a = none → c = 0
structure Ops (W : World) (a : Option Addr) (n : Nat) (L : List Opt) : Prop where
  len : n = L.length
  row : n = 0 ∨ ∃ b o, a = some ⟨b, o, none⟩ ∧ b < W.heap.size ∧ ∀ i, i < n → ∃ a' n' c', Opc W b (o + i * 3) (L.getD i o0) a' n' c'
def tot (L : List Opt) : Nat := (L.map fun x => x.bs.length + 1).sum
theorem tot_snoc (L : List Opt) (x : Opt) : tot (L ++ [x]) = tot L + x.bs.length + 1 := by simp [tot]; omega
theorem tot_app (A B : List Opt) : tot (A ++ B) = tot A + tot B := by simp [tot]
theorem tot_take (L : List Opt) (i : Nat) : tot (L.take i) ≤ tot L := by
  have h := tot_app (L.take i) (L.drop i)
  rw [List.take_append_drop] at h
  omega
theorem take_opt {L : List Opt} {i : Nat} (h : i < L.length) : L.take (i + 1) = L.take i ++ [L.getD i o0] := by
  rw [List.take_succ_eq_append_getElem h]
  simp [List.getD, h]
theorem one_le {H : Type} (d : DataW H) : 1 ≤ Rows.uptoBulk d := by
  cases d with
  | lit l => cases l <;> simp [Rows.uptoBulk]
  | nil => simp [Rows.uptoBulk]
  | ptr d => simp [Rows.uptoBulk]
  | slice elems spare => simp [Rows.uptoBulk]
  | agg parts => simp [Rows.uptoBulk]
  | iface t d => simp [Rows.uptoBulk]
  | map entries => simp [Rows.uptoBulk]
  | held h => simp [Rows.uptoBulk]
theorem length_le {H : Type} (l : List (DataW H)) : l.length ≤ Rows.uptoBulkAll l := by
  induction l with
  | nil => simp [Rows.uptoBulkAll]
  | cons x r ih => have := one_le x; simp only [Rows.uptoBulkAll, List.length_cons]; omega
theorem bulk_bytes {H : Type} {enc : TypeId × Value → H} {W : World} {fuel : Nat} {a : Option Addr} {n k : Nat} {y : DataW H × List MemPlace} (hf : DataW.trod enc Tryd.prog W 0 (fun _ => true) true fuel 22 [.slice a n k] = some y) : n ≤ Rows.uptoBulk y.1 := by
  rcases open_ints Tryd.underlying22 Tryd.underlying5 cells5 hf with ⟨hcs, _⟩ | ⟨x, l, c, zs, hcs, _, hl, _, hz, hx, _⟩
  · simp at hcs
    omega
  · simp at hcs
    have hz : zs.length = c := by simpa using hz
    have h1 := length_le (lits (H := H) .u8 (zs.take l))
    rw [hx]
    simp only [Rows.uptoBulk]
    simp only [lits, List.length_map, List.length_take] at h1 ⊢
    omega
theorem weightsAll_mem {H : Type} {P : Program} {e : TypeId} : ∀ {ds : List (DataW H)} {d : DataW H}, d ∈ ds → ∀ n ∈ d.weights P e, n ∈ DataW.weightsAll P e ds
  | [], d, h, n, hn => by cases h
  | d' :: r, d, h, n, hn => by
    simp only [DataW.weightsAll, List.mem_append]
    rcases List.mem_cons.1 h with rfl | h
    · exact .inl hn
    · exact .inr (weightsAll_mem h n hn)
theorem cells35 : Tryd.prog.cellsOf 35 = 3 := by kernel_rfl
theorem cells3 : Tryd.prog.cellsOf 3 = 1 := by kernel_rfl
theorem cells22 : Tryd.prog.cellsOf 22 = 1 := by kernel_rfl
theorem bulk_map {H : Type} (f : Nat → DataW H) (g : Nat → Opt) : ∀ n, (∀ i, i < n → (g i).bs.length + 1 ≤ Rows.uptoBulk (f i)) → tot ((List.range n).map g) ≤ Rows.uptoBulkAll ((List.range n).map f) := by
  have app : ∀ (l k : List (DataW H)), Rows.uptoBulkAll (l ++ k) = Rows.uptoBulkAll l + Rows.uptoBulkAll k := by
    intro l k
    induction l with
    | nil => simp [Rows.uptoBulkAll]
    | cons x r ih => simp only [List.cons_append, Rows.uptoBulkAll, ih]; omega
  intro n
  induction n with
  | zero => intro _; simp [tot]
  | succ n ih =>
    intro h
    rw [List.range_succ, List.map_append, List.map_append]
    simp only [List.map_cons, List.map_nil]
    rw [tot_snoc, app]
    have h1 := ih (fun i hi => h i (by omega))
    have h2 := h n (by omega)
    simp only [Rows.uptoBulkAll]
    omega
theorem open_ops {H : Type} {enc : TypeId × Value → H} {W : World} {fuel : Nat} {v : Value} {y : DataW H × List MemPlace} (hf : DataW.trod enc Tryd.prog W 0 (fun _ => true) true fuel 29 [v] = some y) (hsz : ∀ n ∈ y.1.weights Tryd.prog 29, n ≤ reachBytes) :
    ∃ a n k L, v = .slice a n k ∧ Hid (Ops W a n L) ∧ n ≤ k ∧ tot L ≤ Rows.uptoBulk y.1 := by
  rcases open_slice Tryd.underlying29 hf with ⟨hcs, _⟩ | ⟨x, len, cap, m, fu, D, Pl, hcs, _, hl, hm, hmm, hx, hc⟩
  · simp at hcs
    exact ⟨none, 0, 0, [], hcs, ⟨rfl, .inl rfl⟩, by omega, by simp [tot]⟩
  · simp at hcs
    simp only [if_true] at hmm
    subst hmm
    rw [hx] at hsz
    have each : ∀ i, i < len → ∃ q : Opt × Option Addr × Nat × Nat, (W.cell? (x.add (i * 3)) = some (.int .i64 q.1.kind) ∧ W.cell? (x.add (i * 3 + 1)) = some (.int .i64 q.1.which) ∧ W.cell? (x.add (i * 3 + 2)) = some (.slice q.2.1 q.2.2.1 q.2.2.2)) ∧
        ((Lit.int .i64 q.1.kind).wf = true ∧ (Lit.int .i64 q.1.which).wf = true) ∧ Sln W q.2.1 q.2.2.1 q.1.bs ∧ q.2.2.1 ≤ q.2.2.2 ∧ q.2.2.2 ≤ 140737488351232 ∧ (q.2.1 = none → q.2.2.2 = 0) ∧ q.1.bs.length + 1 ≤ Rows.uptoBulk (D i) := by
      intro i hi
      obtain ⟨cs', h1, h2⟩ := hc i (by omega)
      rw [cells35] at h1
      obtain ⟨_, hlen, hcell⟩ := World.cells?_some h1
      obtain ⟨xs, k, hk, hxy, _, hxl, hfl⟩ := DataW.trod_struct Tryd.underlying35 h2
      match xs, hxl, cs', hlen with
      | [y0, y1, y2], _, [v0, v1, v2], _ =>
        have g0 := hfl 0 _ rfl
        have g1 := hfl 1 _ rfl
        have g2 := hfl 2 _ rfl
        simp [cells3, cells22] at g0 g1 g2
        have e0 := hcell 0 (by omega)
        have e1 := hcell 1 (by omega)
        have e2 := hcell 2 (by omega)
        rw [add_add] at e0 e1 e2
        simp at e0 e1 e2
        simp only [Prod.mk.injEq] at hxy
        obtain ⟨z0, rfl0, _, wz0⟩ := DataW.trod_int Tryd.underlying3 g0
        obtain ⟨z1, rfl1, _, wz1⟩ := DataW.trod_int Tryd.underlying3 g1
        simp at rfl0 rfl1
        subst rfl0 rfl1
        have hD : D i = .agg [y0.1, y1.1, y2.1] := by simpa using hxy.1
        have hmem : D i ∈ (List.range len).map D := List.mem_map.2 ⟨i, List.mem_range.2 hi, rfl⟩
        obtain ⟨ab, nb, kb, lb, rfl, S, hb1, hb2⟩ := open_bytes g2 (fun n hn => hsz n (by
          simp only [DataW.weights, Tryd.underlying29]
          refine List.mem_cons_of_mem _ (List.mem_append_left _ (weightsAll_mem hmem _ ?_))
          rw [hD]
          simp only [DataW.weights, Tryd.underlying35]
          simp [DataW.weightsEach, hn]))
        have hbb := bulk_bytes g2
        refine ⟨(⟨z0, z1, lb⟩, ab, nb, kb), ⟨e0, e1, e2⟩, ⟨wz0, wz1⟩, S.out, hb1, hb2, nil_cap22 g2, ?_⟩
        rw [hD]
        simp only [Rows.uptoBulk, Rows.uptoBulkAll]
        have := S.out.len
        show lb.length + 1 ≤ _
        omega
    obtain ⟨q, hq⟩ := choose_lt each
    refine ⟨some x, len, m, (List.range len).map fun i => (q i).1, hcs, ⟨by simp, ?_⟩, hl, ?_⟩
    · by_cases h0 : len = 0
      · exact .inl h0
      · right
        obtain ⟨b, off, spot⟩ := x
        have h10 := (hq 0 (by omega)).1.1
        have hspot : spot = none := by simpa [Addr.add] using World.cell?_spot h10
        subst hspot
        refine ⟨b, off, rfl, cell_lt (by simpa [Addr.add] using h10), fun i hi => ⟨(q i).2.1, (q i).2.2.1, (q i).2.2.2, ?_⟩⟩
        obtain ⟨⟨d0, d1, d2⟩, ⟨u0, u1⟩, S, h1, h2, h3, _⟩ := hq i hi
        have n0 : ((List.range len).map fun i => (q i).1).getD i o0 = (q i).1 := by simp [List.getD, hi]
        rw [n0]
        have ad : ∀ j, (⟨b, off, none⟩ : Addr).add j = ⟨b, off + j, none⟩ := by intro j; simp [Addr.add]
        rw [ad] at d0 d1 d2
        exact ⟨d0, by rw [Nat.add_assoc]; exact d1, by rw [Nat.add_assoc]; exact d2, u0, u1, S, h1, h2, h3⟩
    · rw [hx]
      simp only [Rows.uptoBulk]
      have := bulk_map D (fun i => (q i).1) len (fun i hi => (hq i hi).2.2.2.2.2.2)
      omega
end Go.Proofs.YtnckcaaejfckaaaDoor
