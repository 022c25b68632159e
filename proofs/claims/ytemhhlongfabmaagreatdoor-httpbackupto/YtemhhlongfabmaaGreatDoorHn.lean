/- What Write writes; a row of fields and one more, in new memory. -/
import Derived.Test.YtemhhlongfabmaaGreatDoorHm
namespace Go.Proofs.YtemhhlongfabmaaGreatDoor
open Go.ChangeShapes Go.WideShapes Go.ChangeAt Go.RowKit
set_option maxRecDepth 20000
set_option linter.unusedVariables false
set_option linter.unusedSimpArgs false
def v9 : ByteArray := ⟨#[72, 84, 84, 80, 47, 49, 46, 49, 32]⟩
def colB : ByteArray := ⟨#[58, 32]⟩
def hdS (st : Int) : ByteArray := (((v9 ++ itS st) ++ ⟨#[32]⟩) ++ rsn st) ++ ⟨#[13, 10]⟩
def lnS (f : Fl) : ByteArray := ((f.1 ++ ⟨#[58, 32]⟩) ++ f.2) ++ ⟨#[13, 10]⟩
def own (n : Nat) : Fl := (cln, itS n)
def lnsB (fs : List Fl) : List Nat := fs.flatMap fun f => bo (lnS f)
def wrt (st : Int) (fs : List Fl) (body : List Nat) : List Nat := ((bo (hdS st) ++ lnsB (fs ++ [own body.length])) ++ [13, 10]) ++ body
theorem lnsB_snoc (fs : List Fl) (f : Fl) : lnsB (fs ++ [f]) = lnsB fs ++ bo (lnS f) := by simp [lnsB]
theorem lnsB_take (fs : List Fl) (i : Nat) : (lnsB (fs.take i)).length ≤ (lnsB fs).length := by
  have h : lnsB fs = lnsB (fs.take i) ++ lnsB (fs.drop i) := by
    unfold lnsB
    rw [← List.flatMap_append, List.take_append_drop]
  rw [h, List.length_append]
  omega
theorem ba_size_app (s t : ByteArray) : (s ++ t).size = s.size + t.size := by simp
theorem lnS_size (f : Fl) : (lnS f).size = f.1.size + f.2.size + 4 := by
  unfold lnS
  simp only [ba_size_app]
  show f.1.size + 2 + f.2.size + 2 = _
  omega
theorem hdS_size (st : Int) : (hdS st).size = (itS st).size + (rsn st).size + 12 := by
  unfold hdS
  simp only [ba_size_app]
  show 9 + (itS st).size + 1 + (rsn st).size + 2 = _
  omega
/- an append of a string whose run is known -/
theorem wpList_appS {ops : Array Oper} {rest : List Oper} {o : Oper} {a : Act} {Q : Exit → Act → World → Prop} {w w' : World} {v v1 v2 : Value} {t u : TypeId} (hgd : o.guard = none) (s x : Operand)
    (ho : o.op = .call { callee := .builtin .append, args := #[s, x], argTypes := #[t, u] }) (hty : o.type = t) (hs : a.eval s = v1) (hx : a.eval x = v2) (hrun : Hid ((Builtin.append_ #[t, u] t #[v1, v2]).run Tryz.prog w = .ok v w'))
    (h : wpList Tryz.prog ops Q rest (a.put o.dst v) w') : wpList Tryz.prog ops Q (o :: rest) a w := by
  refine wpList_plain hgd fun K hK => ?_
  have hr := hrun.out
  unfold Oper.wp
  simp [execOp, ho, resolve, invoke, builtin, hs, hx, hty, hr, Result.andThen]
  exact hK _ _ h
/- a slice of fields without spare room -/
theorem cut_run {a : Option Addr} {n c : Nat} (h : n ≤ c) (w : World) : (Instr.sliceAt 25 (.slice a n c) none (some (.int .i64 (n : Nat))) (some (.int .i64 (n : Nat)))).run Tryz.prog w = .ok (.slice a n n) w := by
  have el : Tryz.prog.elem 25 = 41 := by kernel_rfl
  have hu : Tryz.prog.underlying 25 = some (.slice (Tryz.prog.elem 25)) := by rw [el]; exact Tryz.underlying25
  rw [run_sliceAt_slice w 25 _ _ _ _ hu, run_slice_hm w 25 a n c hu .i64 .i64 n n (by omega) (by omega) (by omega), el, Tryz.sizeOf41]
  simp only [Result.andThen_ok, sliced, Int.toNat_natCast, Nat.zero_mul, Nat.sub_zero]
  congr 2
  cases a with
  | none => simp
  | some ad =>
    have : ad.add 0 = ad := by obtain ⟨b, o, sp⟩ := ad; unfold Addr.add; simp
    simp [this]
/- a row of fields read out of a known block -/
structure Fb (w W : World) (g n : Nat) (cur : Array Value) (l : List Fl) : Prop where
  box : Bx w W g 41 cur
  len : n = l.length
  at_ : ∀ i, i < n → cur[i * 2]? = some (.string (l.getD i fz).1) ∧ cur[i * 2 + 1]? = some (.string (l.getD i fz).2)
theorem Fb.cell {w W : World} {g n : Nat} {cur : Array Value} {l : List Fl} (h : Fb w W g n cur l) {i : Nat} (hi : i < n) : W.cell? ⟨g, i * 2, none⟩ = some (.string (l.getD i fz).1) ∧ W.cell? ⟨g, i * 2 + 1, none⟩ = some (.string (l.getD i fz).2) := by
  obtain ⟨h1, h2⟩ := h.at_ i hi
  exact ⟨by simp [World.cell?, h.box.row, h1], by simp [World.cell?, h.box.row, h2]⟩
theorem fl_at (l : List Fl) {i : Nat} (hi : i < l.length) : (EF.fl l)[i * 2]? = some (.string (l.getD i fz).1) ∧ (EF.fl l)[i * 2 + 1]? = some (.string (l.getD i fz).2) := by
  have e := EF.fl_cut l hi
  have hl : (EF.fl (l.take i)).length = i * 2 := by rw [EF.fl_len, List.length_take, Nat.min_eq_left (by omega)]; rfl
  have eg : l.getD i fz = l[i] := by simp [List.getD, hi]
  rw [eg]
  constructor
  · rw [e, List.getElem?_append_right (by omega), hl, Nat.sub_self]
    rfl
  · rw [e, List.getElem?_append_right (by omega), hl, Nat.add_sub_cancel_left]
    rfl
theorem fw_cells {w : World} {a : Option Addr} {n : Nat} {l : List Fl} (h : Fw w a n l) {b : Addr} (hb : a = some b) : ∀ j u, (EF.fl l)[j]? = some u → w.cell? (b.add j) = some u := by
  intro j u hu
  have hj := (List.getElem?_eq_some_iff.1 hu).1
  rw [EF.fl_len] at hj
  have hz : EF.z = 2 := rfl
  rw [hz] at hj
  have hn := h.len
  obtain ⟨g, off, e, _, hc⟩ := h.at_.resolve_left (by omega)
  rw [hb] at e
  cases e
  rw [add_mid']
  have hi : j / 2 < n := by omega
  obtain ⟨c0, c1⟩ := hc (j / 2) hi
  obtain ⟨f0, f1⟩ := fl_at l (i := j / 2) (by omega)
  rcases Nat.mod_two_eq_zero_or_one j with hm | hm
  · have e : j = j / 2 * 2 := by omega
    rw [← e] at f0 c0
    rw [f0] at hu
    rw [c0, ← hu]
  · have e : j = j / 2 * 2 + 1 := by omega
    rw [← e] at f1
    rw [f1] at hu
    have e2 : off + j / 2 * 2 + 1 = off + j := by omega
    rw [e2] at c1
    rw [c1, ← hu]
theorem one_more {w W : World} {a : Option Addr} {n p : Nat} {l : List Fl} {f : Fl} (hF : Fw W a n l) (hn : n ≤ 4398046510976) (hp : W.heap[p]? = some (.cells (EF.e f).toArray 41 (0, 0))) (hb : Below w.heap.size w W) :
    ∃ c' W' cur, (Builtin.append_ #[25, 25] 25 #[.slice a n n, .slice (some ⟨p, 0, none⟩) 1 1]).run Tryz.prog W = .ok (.slice (some ⟨W.heap.size, 0, none⟩) (n + 1) c') W' ∧ Fb w W' W.heap.size (n + 1) cur (l ++ [f]) ∧ Below W.heap.size W W' := by
  obtain ⟨i, hi, hz, hs1, hs2⟩ := info_parts info41
  have hc : ∀ j u, (EF.e f)[j]? = some u → W.cell? ((⟨p, 0, none⟩ : Addr).add j) = some u := fun j u hu => by
    rw [add_mid', Nat.zero_add]
    simp [World.cell?, hp, hu]
  have hl : (EF.e f).length = 1 * i.size := by rw [hs1]; rfl
  have hat : ∀ (z : Array Value), ∀ k, k < n + 1 → ((EF.fl l).toArray ++ (EF.e f).toArray ++ z)[k * 2]? = some (.string ((l ++ [f]).getD k fz).1) ∧ ((EF.fl l).toArray ++ (EF.e f).toArray ++ z)[k * 2 + 1]? = some (.string ((l ++ [f]).getD k fz).2) := by
    intro z k hk
    have e : (EF.fl l).toArray ++ (EF.e f).toArray = (EF.fl (l ++ [f])).toArray := by rw [EF.fl_app, EF.fl_one]; simp
    have hn2 := hF.len
    have hlen : (EF.fl (l ++ [f])).length = (n + 1) * 2 := by rw [EF.fl_len, List.length_append, ← hn2]; rfl
    obtain ⟨f0, f1⟩ := fl_at (l ++ [f]) (i := k) (by simp; omega)
    rw [e]
    constructor
    · rw [Array.getElem?_append_left (by simp [hlen]; omega)]
      simpa using f0
    · rw [Array.getElem?_append_left (by simp [hlen]; omega)]
      simpa using f1
  have hB : ∀ (cur : Array Value), Bx w (W.drew.alloc (.cells cur 41)) W.heap.size 41 cur ∧ Below W.heap.size W (W.drew.alloc (.cells cur 41)) := fun cur => by
    have h1 : Below w.heap.size w W.drew := below_drewN hb 1
    exact ⟨Bx.new w W.drew 41 cur h1, (below_drewN (Below.refl _ _) 1).alloc (Nat.le_refl _) _⟩
  cases a with
  | none =>
    have n0 : n = 0 := by
      rcases hF.at_ with h | ⟨b, off, e, _⟩
      · exact h
      · cases e
    subst n0
    have l0 : l = [] := List.eq_nil_of_length_eq_zero hF.len.symm
    subst l0
    have hr := run_append_nil (P := Tryz.prog) W 25 25 41 i _ Tryz.underlying25 hi hz ⟨p, 0, none⟩ 1 1 (EF.e f) hl hc (by omega) (by omega) (by rw [hs2]; omega)
    have h9 := hat (Builtin.zeroCells (Value.agg #[.string ⟨#[]⟩, .string ⟨#[]⟩]).cells (grownCap W 1 0 41 - 1))
    have ee : (EF.fl []).toArray ++ (EF.e f).toArray = (EF.e f).toArray := by simp [Enc.fl]
    rw [ee] at h9
    exact ⟨_, _, _, hr, ⟨(hB _).1, rfl, h9⟩, (hB _).2⟩
  | some ad =>
    have hr := run_append_grow (P := Tryz.prog) W 25 25 41 i _ Tryz.underlying25 hi hz ad n n (EF.fl l) (by rw [EF.fl_len, hs1, ← hF.len]; rfl) (fw_cells hF rfl) ⟨p, 0, none⟩ 1 1 (EF.e f) hl hc (by omega) (by omega) (growslice_fits (by omega) (by rw [hs2]; omega))
    exact ⟨_, _, _, hr, ⟨(hB _).1, by rw [List.length_append, ← hF.len]; rfl, hat _⟩, (hB _).2⟩
end Go.Proofs.YtemhhlongfabmaaGreatDoor
