/- Rows of structs in memory of the call's own, whatever the struct; the catalog's structs and their cells. -/
import Derived.Test.YtfabnnbljkkihaaGreatDoorKa
import Derived.Test.YtfabnnbljkkihaaGreatDoorLe
import Derived.Laws.MakeOwn
namespace Go.Proofs.YtfabnnbljkkihaaGreatDoor
open Go.ChangeShapes Go.WideShapes Go.ChangeAt Go.RowKit
set_option maxRecDepth 20000
set_option linter.unusedVariables false
set_option linter.unusedSimpArgs false
/- how something lies in z cells -/
structure Enc (α : Type) where
  e : α → List Value
  z : Nat
  len : ∀ x, (e x).length = z
  one : ∀ x, ∀ v ∈ e x, v.oneCell' = true
section
variable {α : Type} (E : Enc α)
def Enc.fl (l : List α) : List Value := l.flatMap E.e
theorem Enc.fl_app (l r : List α) : E.fl (l ++ r) = E.fl l ++ E.fl r := by simp [Enc.fl]
theorem Enc.fl_nil : E.fl [] = [] := rfl
theorem Enc.fl_one (x : α) : E.fl [x] = E.e x := by simp [Enc.fl]
theorem Enc.fl_cons (x : α) (l : List α) : E.fl (x :: l) = E.e x ++ E.fl l := rfl
theorem Enc.fl_len (l : List α) : (E.fl l).length = l.length * E.z := by
  induction l with
  | nil => simp [Enc.fl]
  | cons x l ih => rw [E.fl_cons, List.length_append, ih, E.len, List.length_cons, Nat.succ_mul]; omega
theorem Enc.fl_oc (l : List α) : ∀ v ∈ E.fl l, v.oneCell' = true := fun v hv => by
  obtain ⟨x, _, h⟩ := List.mem_flatMap.1 hv
  exact E.one x v h
theorem Enc.fl_cut (l : List α) {i : Nat} (hi : i < l.length) : E.fl l = E.fl (l.take i) ++ (E.e l[i] ++ E.fl (l.drop (i + 1))) := by
  have e : l = l.take i ++ l[i] :: l.drop (i + 1) := by rw [List.getElem_cons_drop, List.take_append_drop]
  have h : E.fl l = E.fl (l.take i ++ l[i] :: l.drop (i + 1)) := by rw [← e]
  rw [h, E.fl_app]
  rfl
theorem Enc.fl_take (l : List α) (i : Nat) : E.fl (l.take i) = (E.fl l).take (i * E.z) := by
  by_cases hi : i ≤ l.length
  · have h : E.fl l = E.fl (l.take i) ++ E.fl (l.drop i) := by rw [← E.fl_app, List.take_append_drop]
    have hl : (E.fl (l.take i)).length = i * E.z := by rw [E.fl_len, List.length_take, Nat.min_eq_left hi]
    rw [h]
    exact (List.take_left' hl).symm
  · rw [List.take_of_length_le (by omega), List.take_of_length_le]
    rw [E.fl_len]; exact Nat.mul_le_mul_right _ (by omega)
theorem Enc.fl_drop (l : List α) (i : Nat) : E.fl (l.drop i) = (E.fl l).drop (i * E.z) := by
  by_cases hi : i ≤ l.length
  · have h : E.fl l = E.fl (l.take i) ++ E.fl (l.drop i) := by rw [← E.fl_app, List.take_append_drop]
    have hl : (E.fl (l.take i)).length = i * E.z := by rw [E.fl_len, List.length_take, Nat.min_eq_left hi]
    rw [h]
    exact (List.drop_left' hl).symm
  · rw [List.drop_of_length_le (by omega), List.drop_of_length_le]
    · rfl
    · rw [E.fl_len]; exact Nat.mul_le_mul_right _ (by omega)
end
/- a row of them of the call's own, in a block from lo on and below hi -/
structure Rw {α : Type} (w : World) (lo hi : Nat) (t : TypeId) (E : Enc α) (a : Option Addr) (n c : Nat) (l : List α) : Prop where
  row : w.ownsRow lo t E.z (.slice a n c) n (E.fl l)
  top : ∀ q, blkOf a = some q → q < hi
  pos : 0 < E.z
section
variable {α : Type} {E : Enc α} {w w' : World} {lo hi lo' hi' : Nat} {t : TypeId} {a : Option Addr} {n c : Nat} {l : List α}
theorem Rw.len (h : Rw w lo hi t E a n c l) : n = l.length := by
  have h1 := h.row.1
  rw [E.fl_len] at h1
  exact (Nat.eq_of_mul_eq_mul_right h.pos h1).symm
theorem Rw.lt (h : Rw w lo hi t E a n c l) {q : Nat} (e : blkOf a = some q) : lo ≤ q ∧ q < w.heap.size := h.row.lt q (by rw [ownBlock_slice]; exact e)
theorem Rw.keep (h : Rw w lo hi t E a n c l) (hb : ∀ q, lo ≤ q → q < hi → q < w.heap.size → w'.heap[q]? = w.heap[q]?) : Rw w' lo hi t E a n c l :=
  ⟨rown_bel h.row (fun q e => by rw [ownBlock_slice] at e; exact hb q (h.lt e).1 (h.top q e) (h.lt e).2), h.top, h.pos⟩
theorem Rw.keep1 (h : Rw w lo hi t E a n c l) (hb : ∀ q, blkOf a = some q → w'.heap[q]? = w.heap[q]?) : Rw w' lo hi t E a n c l :=
  ⟨rown_bel h.row (fun q e => hb q (by rw [ownBlock_slice] at e; exact e)), h.top, h.pos⟩
theorem Rw.below (h : Rw w lo hi t E a n c l) (hb : Below w.heap.size w w') : Rw w' lo hi t E a n c l := h.keep fun q _ _ hq => hb.block q hq
theorem Rw.mono (h : Rw w lo hi t E a n c l) (hl : lo' ≤ lo) (hh : hi ≤ hi') : Rw w lo' hi' t E a n c l := ⟨rown_mono h.row hl, fun q e => Nat.lt_of_lt_of_le (h.top q e) hh, h.pos⟩
theorem Rw.full (h : Rw w lo hi t E a n c l) : Rw w lo w.heap.size t E a n c l := ⟨h.row, fun q e => (h.lt e).2, h.pos⟩
theorem Rw.nil (w : World) (lo hi : Nat) (t : TypeId) (E : Enc α) (hp : 0 < E.z) : Rw w lo hi t E none 0 0 [] := ⟨World.ownsRow_nil w lo t E.z, (fun q e => by cases e), hp⟩
theorem Rw.cap (h : Rw w lo hi t E a n c l) : n ≤ c := rown_cap h.row
theorem Rw.cap0 (h : Rw w lo hi t E a n c l) : a = none → c = 0 := rown_cap0 h.row
theorem Rw.at_ (h : Rw w lo hi t E a n c l) {i : Nat} (hi' : i < l.length) : ∃ g, a = some ⟨g, 0, none⟩ ∧ lo ≤ g ∧ g < w.heap.size ∧ w.rangeAt g (i * E.z) (E.e l[i]) := by
  have hn := h.len
  obtain ⟨g, rfl, h2, h3, _⟩ := rown_at h.row (by omega)
  refine ⟨g, rfl, h2, h3, fun j v hv => ?_⟩
  have hj := (List.getElem?_eq_some_iff.1 hv).1
  rw [E.len] at hj
  have hm : i * E.z + j < n * E.z := by
    have : (i + 1) * E.z ≤ n * E.z := Nat.mul_le_mul_right _ (by omega)
    rw [Nat.succ_mul] at this
    omega
  rw [h.row.cellAt _ hm, E.fl_cut l hi', List.getElem?_append_right (by rw [E.fl_len, List.length_take, Nat.min_eq_left (by omega)]; omega), E.fl_len, List.length_take, Nat.min_eq_left (by omega), Nat.add_sub_cancel_left, List.getElem?_append_left (by rw [E.len]; exact hj)]
  exact hv
theorem Rw.blk (h : Rw w lo hi t E a n c l) {q : Nat} (e : blkOf a = some q) : ∃ cur, w.heap[q]? = some (.cells cur t (0, 0)) ∧ a = some ⟨q, 0, none⟩ := by
  rcases h.row.2 with ⟨h1, _⟩ | ⟨g, cap, cur, h1, _, h3, _⟩
  · cases h1; cases e
  · cases h1; cases e; exact ⟨cur, h3, rfl⟩
/- rows of unlike types lie apart -/
theorem Rw.apart {β : Type} {F : Enc β} {t' : TypeId} {lo2 hi2 : Nat} {b : Option Addr} {m d : Nat} {r : List β} (h : Rw w lo hi t E a n c l) (h' : Rw w lo2 hi2 t' F b m d r) (ht : t ≠ t') {q : Nat} (e : blkOf a = some q) (e' : blkOf b = some q) : False := by
  obtain ⟨c1, h1, _⟩ := h.blk e
  obtain ⟨c2, h2, _⟩ := h'.blk e'
  rw [h1] at h2
  cases h2
  exact ht rfl
end
/- an append of one element, where there is room -/
theorem Rw.snoc {α : Type} {E : Enc α} {W : World} {lo hi : Nat} {s t : TypeId} {a : Option Addr} {i c g : Nat} {l : List α} {y : α} (h : Rw W lo hi t E a i c l) (hu : Tryz.prog.underlying s = some (.slice t)) (hinf : (Tryz.prog.info? t).map (·.size) = some E.z) (hg : W.heap[g]? = some (.cells (E.e y).toArray t (0, 0))) (hc : i < c) :
    ∃ w6, (Builtin.append_ #[s, s] s #[.slice a i c, .slice (some ⟨g, 0, none⟩) 1 1]).run Tryz.prog W = .ok (.slice a (i + 1) c) w6 ∧ Rw w6 lo hi t E a (i + 1) c (l ++ [y]) ∧ W.grownBy w6 (blkOf a) := by
  obtain ⟨inf, hi1, hz1⟩ := Option.map_eq_some_iff.1 hinf
  rcases ha : a with _ | ad
  · have := h.cap0 ha; omega
  · obtain ⟨cur, h3, h4⟩ := h.blk (q := ad.block) (by rw [ha]; rfl)
    rw [ha] at h4
    obtain ⟨q0, hq0⟩ : ∃ q0, ad = ⟨q0, 0, none⟩ := ⟨_, by simpa using h4⟩
    subst hq0
    subst ha
    obtain ⟨w6, r1, r2, r3⟩ := run_append_fits (P := Tryz.prog) (w := W) lo s s t inf E.z hu hi1 hz1 q0 i c (E.fl l) h.row ⟨g, 0, none⟩ 1 1 (E.e y) (by rw [E.len]; omega) (fun j u hj => by
      rw [Addr.add_mid, Nat.zero_add]
      simp [World.cell?, hg, hj]) (E.one y) hc
    exact ⟨w6, r1, ⟨by rw [E.fl_app, E.fl_one]; exact r2, h.top, h.pos⟩, r3⟩
/- elements laid one behind the other, each in blocks of its own -/
inductive Seg {α : Type} (O : Nat → Nat → α → Prop) (lo : Nat) : Nat → List α → Prop
  | nil (hi : Nat) (h : lo ≤ hi) : Seg O lo hi []
  | snoc (m p q hi : Nat) (l : List α) (x : α) (h0 : Seg O lo m l) (h1 : m ≤ p) (h2 : p ≤ q) (h3 : O p q x) (h4 : q ≤ hi) : Seg O lo hi (l ++ [x])
section
variable {α : Type} {O O' : Nat → Nat → α → Prop} {lo hi : Nat} {l : List α}
theorem Seg.le (h : Seg O lo hi l) : lo ≤ hi := by
  induction h with
  | nil hi h => exact h
  | snoc m p q hi l x _ h1 h2 _ h3 ih => omega
theorem Seg.imp (h : Seg O lo hi l) (hi' : ∀ p q x, lo ≤ p → q ≤ hi → O p q x → O' p q x) : Seg O' lo hi l := by
  induction h with
  | nil hi h => exact .nil _ h
  | snoc m p q hi l x h0 h1 h2 h3 h4 ih => exact .snoc m p q hi l x (ih (fun p' q' x' a b c => hi' p' q' x' a (by omega) c)) h1 h2 (hi' p q x (by have := h0.le; omega) h4 h3) h4
theorem Seg.up {hi' : Nat} (h : Seg O lo hi l) (hh : hi ≤ hi') : Seg O lo hi' l := by
  cases h with
  | nil _ h => exact .nil _ (by omega)
  | snoc m p q _ l x h0 h1 h2 h3 h4 => exact .snoc m p q hi' l x h0 h1 h2 h3 (by omega)
theorem Seg.dn {lo' : Nat} (h : Seg O lo hi l) (hh : lo' ≤ lo) : Seg O lo' hi l := by
  induction h with
  | nil hi h => exact .nil _ (by omega)
  | snoc m p q hi l x h0 h1 h2 h3 h4 ih => exact .snoc m p q hi l x ih h1 h2 h3 h4
theorem Seg.all (h : Seg O lo hi l) (hm : ∀ p q p' q' x, O p q x → p' ≤ p → q ≤ q' → O p' q' x) : ∀ x ∈ l, O lo hi x := by
  induction h with
  | nil hi h => intro x hx; cases hx
  | snoc m p q hi l x h0 h1 h2 h3 h4 ih =>
    intro y hy
    rcases List.mem_append.1 hy with h | h
    · exact hm _ _ _ _ _ (ih y h) (Nat.le_refl _) (by omega)
    · obtain rfl := List.mem_singleton.1 h
      exact hm _ _ _ _ _ h3 (by have := h0.le; omega) h4
theorem Seg.pairs (h : Seg O lo hi l) (hm : ∀ p q p' q' x, O p q x → p' ≤ p → q ≤ q' → O p' q' x) : l.Pairwise (fun x y => ∃ p q r, O p q x ∧ O q r y) := by
  induction h with
  | nil hi h => exact List.Pairwise.nil
  | snoc m p q hi l x h0 h1 h2 h3 h4 ih =>
    refine List.pairwise_append.2 ⟨ih, List.pairwise_singleton _ _, fun a ha b hb => ?_⟩
    obtain rfl := List.mem_singleton.1 hb
    exact ⟨lo, m, q, h0.all hm a ha, hm _ _ _ _ _ h3 h1 (Nat.le_refl _)⟩
end
/- the catalog's structs -/
def encPc (p : Pcd) : List Value := [.int .i64 p.b0, .int .i64 p.b1, .int .i64 p.b2, .int .i64 p.sz, .string p.et]
def encPt (p : Ptd) : List Value := [.int .i64 p.no, .int .i64 p.pc.b0, .int .i64 p.pc.b1, .int .i64 p.pc.b2, .int .i64 p.pc.sz, .string p.pc.et]
structure Obx where
  ob : Obd
  a : Option Addr
  n : Nat
  c : Nat
def encOb (x : Obx) : List Value := [.string x.ob.key, .int .i64 x.ob.size, .string x.ob.etag, .int .i64 x.ob.time, .slice x.a x.n x.c]
structure Ulx where
  ul : Uld
  a : Option Addr
  n : Nat
  c : Nat
def encUl (x : Ulx) : List Value := [.int .i64 x.ul.i0, .int .i64 x.ul.i1, .int .i64 x.ul.i2, .string x.ul.key, .slice x.a x.n x.c]
structure Bkx where
  nm : ByteArray
  tm : Int
  dy : Int
  oa : Option Addr
  on : Nat
  oc : Nat
  ox : List Obx
  ua : Option Addr
  un : Nat
  uc : Nat
  ux : List Ulx
def Bkx.bk (x : Bkx) : Bkd := ⟨x.nm, x.tm, x.dy, x.ox.map Obx.ob, x.ux.map Ulx.ul⟩
def encBk (x : Bkx) : List Value := [.string x.nm, .int .i64 x.tm, .int .i64 x.dy, .slice x.oa x.on x.oc, .slice x.ua x.un x.uc]
def encId (x : Idd) : List Value := [.int .i64 x.i0, .int .i64 x.i1, .int .i64 x.i2]
def EPc : Enc Pcd := ⟨encPc, 5, fun _ => rfl, fun x v hv => by simp only [encPc, List.mem_cons, List.not_mem_nil, or_false] at hv; rcases hv with rfl | rfl | rfl | rfl | rfl <;> rfl⟩
def EPt : Enc Ptd := ⟨encPt, 6, fun _ => rfl, fun x v hv => by simp only [encPt, List.mem_cons, List.not_mem_nil, or_false] at hv; rcases hv with rfl | rfl | rfl | rfl | rfl | rfl <;> rfl⟩
def EOb : Enc Obx := ⟨encOb, 5, fun _ => rfl, fun x v hv => by simp only [encOb, List.mem_cons, List.not_mem_nil, or_false] at hv; rcases hv with rfl | rfl | rfl | rfl | rfl <;> rfl⟩
def EUl : Enc Ulx := ⟨encUl, 5, fun _ => rfl, fun x v hv => by simp only [encUl, List.mem_cons, List.not_mem_nil, or_false] at hv; rcases hv with rfl | rfl | rfl | rfl | rfl <;> rfl⟩
def EBk : Enc Bkx := ⟨encBk, 5, fun _ => rfl, fun x v hv => by simp only [encBk, List.mem_cons, List.not_mem_nil, or_false] at hv; rcases hv with rfl | rfl | rfl | rfl | rfl <;> rfl⟩
def EId : Enc Idd := ⟨encId, 3, fun _ => rfl, fun x v hv => by simp only [encId, List.mem_cons, List.not_mem_nil, or_false] at hv; rcases hv with rfl | rfl | rfl <;> rfl⟩
def K48 : Nat := 281474976710656
/- what is in memory: K bounds every list's length -/
structure PcO (p : Pcd) : Prop where
  s : p.et.size ≤ K48
structure ObO (K : Nat) (w : World) (lo hi : Nat) (x : Obx) : Prop where
  r : Rw w lo hi 26 EPc x.a x.n x.c x.ob.pcs
  p : ∀ p ∈ x.ob.pcs, PcO p
  k : x.n ≤ K
  s : x.ob.key.size ≤ K48 ∧ x.ob.etag.size ≤ K48
structure UlO (K : Nat) (w : World) (lo hi : Nat) (x : Ulx) : Prop where
  r : Rw w lo hi 108 EPt x.a x.n x.c x.ul.pts
  p : ∀ p ∈ x.ul.pts, PcO p.pc
  k : x.n ≤ K
  s : x.ul.key.size ≤ K48
structure BkO (K : Nat) (w : World) (lo hi : Nat) (x : Bkx) : Prop where
  o : Rw w lo hi 71 EOb x.oa x.on x.oc x.ox
  oo : ∀ o ∈ x.ox, ObO K w lo hi o
  u : Rw w lo hi 77 EUl x.ua x.un x.uc x.ux
  uu : ∀ u ∈ x.ux, UlO K w lo hi u
  k : x.on ≤ K ∧ x.un ≤ K
  s : x.nm.size ≤ K48
structure CtO (K : Nat) (w : World) (lo hi : Nat) (a : Option Addr) (n c : Nat) (X : List Bkx) (fa : Option Addr) (fn fc : Nat) (F : List Idd) : Prop where
  b : Rw w lo hi 65 EBk a n c X
  bb : ∀ b ∈ X, BkO K w lo hi b
  f : Rw w lo hi 24 EId fa fn fc F
  k : n ≤ K ∧ fn ≤ K
section
variable {K K' : Nat} {w w' : World} {lo hi lo' hi' : Nat}
theorem ObO.keep {x : Obx} (h : ObO K w lo hi x) (hb : ∀ q, lo ≤ q → q < hi → q < w.heap.size → w'.heap[q]? = w.heap[q]?) : ObO K w' lo hi x := ⟨h.r.keep hb, h.p, h.k, h.s⟩
theorem ObO.mono {x : Obx} (h : ObO K w lo hi x) (hl : lo' ≤ lo) (hh : hi ≤ hi') : ObO K w lo' hi' x := ⟨h.r.mono hl hh, h.p, h.k, h.s⟩
theorem UlO.keep {x : Ulx} (h : UlO K w lo hi x) (hb : ∀ q, lo ≤ q → q < hi → q < w.heap.size → w'.heap[q]? = w.heap[q]?) : UlO K w' lo hi x := ⟨h.r.keep hb, h.p, h.k, h.s⟩
theorem UlO.mono {x : Ulx} (h : UlO K w lo hi x) (hl : lo' ≤ lo) (hh : hi ≤ hi') : UlO K w lo' hi' x := ⟨h.r.mono hl hh, h.p, h.k, h.s⟩
theorem BkO.keep {x : Bkx} (h : BkO K w lo hi x) (hb : ∀ q, lo ≤ q → q < hi → q < w.heap.size → w'.heap[q]? = w.heap[q]?) : BkO K w' lo hi x := ⟨h.o.keep hb, fun o ho => (h.oo o ho).keep hb, h.u.keep hb, fun u hu => (h.uu u hu).keep hb, h.k, h.s⟩
theorem BkO.mono {x : Bkx} (h : BkO K w lo hi x) (hl : lo' ≤ lo) (hh : hi ≤ hi') : BkO K w lo' hi' x := ⟨h.o.mono hl hh, fun o ho => (h.oo o ho).mono hl hh, h.u.mono hl hh, fun u hu => (h.uu u hu).mono hl hh, h.k, h.s⟩
theorem CtO.keep {a fa : Option Addr} {n c fn fc : Nat} {X : List Bkx} {F : List Idd} (h : CtO K w lo hi a n c X fa fn fc F) (hb : ∀ q, lo ≤ q → q < hi → q < w.heap.size → w'.heap[q]? = w.heap[q]?) : CtO K w' lo hi a n c X fa fn fc F := ⟨h.b.keep hb, fun b hb' => (h.bb b hb').keep hb, h.f.keep hb, h.k⟩
theorem CtO.below {a fa : Option Addr} {n c fn fc : Nat} {X : List Bkx} {F : List Idd} (h : CtO K w lo hi a n c X fa fn fc F) (hb : Below w.heap.size w w') : CtO K w' lo hi a n c X fa fn fc F := h.keep fun q _ _ hq => hb.block q hq
theorem CtO.mono {a fa : Option Addr} {n c fn fc : Nat} {X : List Bkx} {F : List Idd} (h : CtO K w lo hi a n c X fa fn fc F) (hl : lo' ≤ lo) (hh : hi ≤ hi') : CtO K w lo' hi' a n c X fa fn fc F := ⟨h.b.mono hl hh, fun b hb' => (h.bb b hb').mono hl hh, h.f.mono hl hh, h.k⟩
end
end Go.Proofs.YtfabnnbljkkihaaGreatDoor
