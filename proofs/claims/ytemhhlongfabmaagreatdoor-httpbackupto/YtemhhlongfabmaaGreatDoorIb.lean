/- Responses opened: what they hold is no longer than their bulk. -/
import Derived.Test.YtemhhlongfabmaaGreatDoorHn
import Derived.Test.YtemhhlongfabmaaGreatDoorHu
import Derived.Test.YtemhhlongfabmaaGreatDoorRows
namespace Go.Proofs.YtemhhlongfabmaaGreatDoor
open Go.ChangeShapes Go.WideShapes Go.ChangeAt Go.RowKit Go.Deep
set_option maxRecDepth 20000
set_option linter.unusedVariables false
set_option linter.unusedSimpArgs false
theorem bulk_one {H : Type} (d : DataW H) : 1 ≤ Rows.uptoBulk d := by
  cases d with
  | lit l => cases l <;> simp [Rows.uptoBulk]
  | nil => simp [Rows.uptoBulk]
  | ptr d => simp [Rows.uptoBulk]
  | slice elems spare => simp [Rows.uptoBulk]
  | agg parts => simp [Rows.uptoBulk]
  | iface t d => simp [Rows.uptoBulk]
  | map entries => simp [Rows.uptoBulk]
  | held h => simp [Rows.uptoBulk]
theorem bulk_len {H : Type} (l : List (DataW H)) : l.length ≤ Rows.uptoBulkAll l := by
  induction l with
  | nil => simp [Rows.uptoBulkAll]
  | cons x r ih => have := bulk_one x; simp only [Rows.uptoBulkAll, List.length_cons]; omega
theorem bulk_app {H : Type} (l k : List (DataW H)) : Rows.uptoBulkAll (l ++ k) = Rows.uptoBulkAll l + Rows.uptoBulkAll k := by
  induction l with
  | nil => simp [Rows.uptoBulkAll]
  | cons x r ih => simp only [List.cons_append, Rows.uptoBulkAll, ih]; omega
def totF (l : List Fl) : Nat := (l.map fun f => f.1.size + f.2.size + 3).sum
theorem totF_snoc (l : List Fl) (f : Fl) : totF (l ++ [f]) = totF l + (f.1.size + f.2.size + 3) := by simp [totF]
theorem totF_len (l : List Fl) : l.length ≤ totF l := by
  induction l with
  | nil => simp
  | cons f r ih => simp only [totF, List.map_cons, List.sum_cons, List.length_cons] at ih ⊢; omega
theorem totF_mem {l : List Fl} {f : Fl} (h : f ∈ l) : f.1.size + f.2.size + 3 ≤ totF l := by
  induction l with
  | nil => cases h
  | cons g r ih =>
    simp only [totF, List.map_cons, List.sum_cons] at ih ⊢
    rcases List.mem_cons.1 h with rfl | h
    · omega
    · have := ih h; omega
theorem lnsB_tot (l : List Fl) : (lnsB l).length ≤ 2 * totF l := by
  induction l with
  | nil => simp [lnsB]
  | cons f r ih =>
    have e : lnsB (f :: r) = bo (lnS f) ++ lnsB r := by simp [lnsB]
    rw [e, List.length_append, bo_len, lnS_size]
    simp only [totF, List.map_cons, List.sum_cons] at ih ⊢
    omega
theorem wrt_small {st : Int} {fs : List Fl} {body : List Nat} (h0 : -9223372036854775808 ≤ st) (h1 : st ≤ 9223372036854775807) (h : totF fs + body.length ≤ 1048576) : (wrt st fs body).length ≤ 140737488351232 := by
  unfold wrt
  have e1 := lnsB_tot fs
  have e2 := itS_size st h0 h1
  have e3 := itS_size (body.length : Int) (by omega) (by omega)
  have e4 := rsn_size st
  have e5 : (own body.length).1.size = 14 := rfl
  have e6 : (own body.length).2.size = (itS (body.length : Int)).size := rfl
  simp only [List.length_append, List.length_cons, List.length_nil, bo_len, lnsB_snoc, lnS_size, hdS_size]
  omega
theorem bulk_flds {H : Type} (f : Nat → DataW H) (g : Nat → Fl) : ∀ n, (∀ i, i < n → (g i).1.size + (g i).2.size + 3 ≤ Rows.uptoBulk (f i)) → totF ((List.range n).map g) ≤ Rows.uptoBulkAll ((List.range n).map f) := by
  intro n
  induction n with
  | zero => intro _; simp [totF]
  | succ n ih =>
    intro h
    rw [List.range_succ, List.map_append, List.map_append]
    simp only [List.map_cons, List.map_nil]
    rw [totF_snoc, bulk_app]
    have h1 := ih (fun i hi => h i (by omega))
    have h2 := h n (by omega)
    simp only [Rows.uptoBulkAll]
    omega
section
variable {H : Type} {enc : TypeId × Value → H} {W : World} {fuel : Nat} {y : DataW H × List MemPlace}
theorem bulk_str {s : ByteArray} (hf : DataW.trod enc Tryz.prog W 0 (fun _ => true) true fuel 9 [.string s] = some y) : s.size + 1 ≤ Rows.uptoBulk y.1 := by
  obtain ⟨z, h1, h2, _⟩ := DataW.trod_string Tryz.underlying9 hf
  simp at h1
  subst h1
  rw [h2]
  have e : s.data.toList.length = s.size := by rw [Array.length_toList]; rfl
  simp only [Rows.uptoBulk]
  omega
theorem bulk_bytes {a : Option Addr} {n k : Nat} (hf : DataW.trod enc Tryz.prog W 0 (fun _ => true) true fuel 22 [.slice a n k] = some y) : n ≤ Rows.uptoBulk y.1 := by
  rcases open_ints Tryz.underlying22 Tryz.underlying5 cells5 hf with ⟨hcs, _⟩ | ⟨x, l, c, zs, hcs, _, hl, _, hz, hx, hcell, hwz⟩
  · simp at hcs
    omega
  · simp at hcs
    have hz : zs.length = c := by simpa using hz
    have h1 := bulk_len (lits (H := H) .u8 (zs.take l))
    rw [hx]
    simp only [Rows.uptoBulk]
    simp only [lits, List.length_map, List.length_take] at h1 ⊢
    omega
theorem bulk_fl {a : Option Addr} {n k : Nat} (hf : DataW.trod enc Tryz.prog W 0 (fun _ => true) true fuel 25 [.slice a n k] = some y) {l : List Fl} (hl : Fw W a n l) : totF l ≤ Rows.uptoBulk y.1 := by
  rcases open_slice_pairs Tryz.underlying25 Tryz.underlying41 cells41 rfl rfl cells9 cells9 hf with ⟨hcs, _⟩ | ⟨x, len, cap, m, nf, V0, V1, D0, D1, P0, P1, hcs, _, hl2, _, hm, hx, hc⟩
  · simp at hcs
    have : l = [] := List.eq_nil_of_length_eq_zero (by have := hl.len; omega)
    rw [this]
    simp [totF]
  · simp at hcs
    obtain ⟨ha, hn, hk⟩ := hcs
    simp only [if_true] at hm
    subst hm
    rw [hx]
    have hln : l = (List.range n).map fun i => l.getD i fz := by
      apply List.ext_getElem
      · simp [← hl.len]
      · intro i h1 h2
        simp [List.getD, h1]
    rw [hln]
    have h := bulk_flds (fun i => (.agg [D0 i, D1 i] : DataW H)) (fun i => l.getD i fz) n (fun i hi => by
      obtain ⟨c0, c1, t0, t1⟩ := hc i (by omega)
      obtain ⟨b, off, e, _, hw⟩ := hl.at_.resolve_left (by omega)
      rw [ha] at e
      cases e
      obtain ⟨d0, d1⟩ := hw i hi
      rw [Addr.add_mid] at c0 c1
      rw [d0] at c0
      rw [← Nat.add_assoc, d1] at c1
      rw [← Option.some.inj c0] at t0
      rw [← Option.some.inj c1] at t1
      have b0 : (l.getD i fz).1.size + 1 ≤ Rows.uptoBulk (D0 i) := bulk_str t0
      have b1 : (l.getD i fz).2.size + 1 ≤ Rows.uptoBulk (D1 i) := bulk_str t1
      simp only [Rows.uptoBulk, Rows.uptoBulkAll]
      omega)
    simp only [Rows.uptoBulk]
    rw [← hn]
    omega
theorem open_rspU {A : Array Value} (hf : DataW.trod enc Tryz.prog W 0 (fun _ => true) true fuel 46 A.toList = some y) (hsz : ∀ n ∈ y.1.weights Tryz.prog 46, n ≤ reachBytes) :
    ∃ st fa fn fc ba bn bc fs bd, A = #[.int .i64 st, .slice fa fn fc, .slice ba bn bc] ∧ (Lit.int .i64 st).wf = true ∧ Rsz W fa fn fc ba bn bc fs bd ∧ totF fs + bn ≤ Rows.uptoBulk y.1 := by
  obtain ⟨xs, k, hk, hxy, hlen, hxl, hfl⟩ := DataW.trod_struct Tryz.underlying46 hf
  rw [cells46] at hlen
  obtain ⟨cs⟩ := A
  match xs, hxl, cs, hlen with
  | [y0, y2, y3], _, [v0, v2, v3], _ =>
    have g0 := hfl 0 _ rfl
    have g2 := hfl 1 _ rfl
    have g3 := hfl 2 _ rfl
    simp [cells3, cells25, cells22] at g0 g2 g3
    have wm : ∀ n, n ∈ DataW.weightsEach Tryz.prog [3, 25, 22] [y0.1, y2.1, y3.1] → n ≤ reachBytes := fun n hn => hsz n (by
      rw [hxy]
      simp only [DataW.weights, Tryz.underlying46]
      exact hn)
    obtain ⟨st, rfl0, _, wz⟩ := DataW.trod_int Tryz.underlying3 g0
    obtain ⟨fa, fn, fc, fs, rfl2, hF, hfc, hfz, hff⟩ := open_fl g2 (fun n hn => wm n (DataW.weights_mem_each (j := 1) (t := 25) (d := y2.1) rfl rfl n hn))
    obtain ⟨ba, bn, bc, bd, rfl3, hB, hbc, hbm, hbz⟩ := open_body g3 (fun n hn => wm n (DataW.weights_mem_each (j := 2) (t := 22) (d := y3.1) rfl rfl n hn))
    simp at rfl0
    subst rfl0 rfl2 rfl3
    have u1 := bulk_fl g2 hF
    have u2 := bulk_bytes g3
    refine ⟨st, fa, fn, fc, ba, bn, bc, fs, bd, rfl, wz, ⟨⟨hF, hB.out⟩, hfc, hbc, hbm, hfz, hbz, hff⟩, ?_⟩
    rw [hxy]
    simp only [List.map_cons, List.map_nil, Rows.uptoBulk, Rows.uptoBulkAll]
    omega
end
end Go.Proofs.YtemhhlongfabmaaGreatDoor
