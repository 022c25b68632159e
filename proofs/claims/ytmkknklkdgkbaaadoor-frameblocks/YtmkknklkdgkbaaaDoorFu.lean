/- Blocks' closure as an iterator's contract. -/
import Derived.Test.YtmkknklkdgkbaaaDoorFt
import Derived.Test.YtmkknklkdgkbaaaDoorXd
import Derived.Test.YtmkknklkdgkbaaaDoorWb
namespace Go.Proofs.YtmkknklkdgkbaaaDoor
open Go.ChangeShapes Go.WideShapes Go.ChangeAt Go.RowKit Go.Shelf
set_option maxRecDepth 20000
set_option linter.unusedVariables false
set_option linter.unusedSimpArgs false
attribute [local go_sem] Oper.semAt_some
/- what is handed over: a number, and a row of its own that reads as piece j -/
structure Bk (n : Nat) where
  num : Nat
  j : Nat
  h : 32 * j < n
  a : Option Addr
  e : Nat
  c : Nat
def Bk.ck {n : Nat} (x : Bk n) : Ck n 32 := ⟨x.j, x.h⟩
def pc (l : List Nat) (j : Nat) : List Nat := (l.drop (32 * j)).take 32
def bencs {n : Nat} (x : Bk n) : Array Value := #[.int .i64 (x.num : Int), .slice x.a x.e x.c]
def Gdb (l : List Nat) (n : Nat) (m : Nat) (pre : List (Bk n)) (x : Bk n) (A : World) : Prop := x.num = pre.length ∧ x.j = pre.length ∧ x.e ≤ 32 ∧ Own A m x.a x.e x.c (pc l x.j)
theorem yield_any {m m' l : Nat} {P : Program} {args : Array Value} {W : World} {R : Ending → World → Prop} (h : YieldAt Fence.wide m P l args W R) : YieldAt Fence.wide m' P l args W R := by
  obtain ⟨fn, tmps, assign, body, hy, hR⟩ := h
  exact ⟨fn, tmps, assign, body, hy, hR.1, fun c cs _ => hR.2 c cs (fun d e => by cases e)⟩
theorem Boxed.blk {W V : World} {B : Nat} {t : TypeId} {v : Value} (h : Boxed W B t v) (e : V.heap[B]? = W.heap[B]?) : Boxed V B t v := e.trans h
theorem keep_round {C : Nat → Prop} {m D k : Nat} {bx : Option Nat} {U w1 W3 : World} (h : KeepB C m bx w1 W3) (hb : Below U.heap.size U w1) (hm : m ≤ D) (hx : ∀ q, bx = some q → U.heap.size ≤ q) : KeepB (fun b => C b ∨ b = k) D none U W3 :=
  ⟨Nat.le_trans hb.size h.size, fun b o h1 h2 _ h3 => by
    have hl : b < U.heap.size := (Array.getElem?_eq_some_iff.1 h1).1
    refine h.same b o ((hb.block b hl).trans h1) (fun hc => h2 (.inl hc)) (fun e => by have := hx b e; omega) ?_
    exact h3.imp id (fun h => by omega)⟩
theorem own_cells {w : World} {B : Nat} {a : Option Addr} {n c q : Nat} {L : List Nat} (h : Own w B a n c L) (hq : blkOf a = some q) : ∃ o : Obj, w.heap[q]? = some o ∧ o.isCells = true := by
  rcases h.own.2 with ⟨h1, _⟩ | ⟨g, cap, cur, h1, _, h2, _⟩
  · simp at h1
    rw [h1.1] at hq
    cases hq
  · simp at h1
    rw [h1.1] at hq
    cases hq
    exact ⟨_, h2, rfl⟩
theorem keep_set {C : Nat → Prop} {D k : Nat} {U W3 : World} (h : KeepB (fun b => C b ∨ b = k) D none U W3) (v : Value) : KeepB (fun b => C b ∨ b = k) D none U (W3.setCell ⟨k, 0, none⟩ v) :=
  ⟨Nat.le_trans h.size (KeepsOthers.setCell W3 ⟨k, 0, none⟩ v).size, fun b o h1 h2 h3 h4 => (Below.heap_setCell W3 ⟨k, 0, none⟩ v b (fun e => h2 (.inr e))).trans (h.same b o h1 h2 h3 h4)⟩
set_option maxHeartbeats 2000000 in
theorem blocks_seq (N : Nat) (hN : 9 ≤ N) (K n ck B0 : Nat) (ak : Option Addr) (l : List Nat) (C : Nat → Prop) (w : World) (hk : w.cell? ⟨K, 0, none⟩ = some (.slice ak n ck)) (own : Own w B0 ak n ck l) (hn : n ≤ 140737488352256) (hnc : n ≤ ck)
    (hCK : ¬ C K) (hCa : ∀ q, blkOf ak = some q → ¬ C q) (hCw : ∀ b, C b → b < w.heap.size) :
    SeqB Fence.wide N Tryd.prog 42 #[.pointer (some ⟨K, 0, none⟩)] (bencs (n := n)) (fun x => blkOf x.a) (Gdb l n) C (fun xs => ∃ k, n ≤ 32 * k ∧ xs.map Bk.ck = cks n 32 k) (fun pre => ∃ k, pre.map Bk.ck = cks n 32 k) w := fun L J Jx W hW hJ hJx hY h0 => by
  have hk1 := (hW.cell (p := ⟨K, 0, none⟩) (cell_lt hk)).trans hk
  have own1 : Own W B0 ak n ck l := own.block (fun q hq => hW.block q (own.ge q hq).2)
  refine callsIn_of_wp_marks Tryd.func42 rfl trivial ?_ rfl
  simp only [Tryd.ntmps42, List.size_toArray, List.length_cons, List.length_nil, Nat.reduceAdd, Nat.reduceSub, Array.replicate_succ, Array.replicate_zero, List.push_toArray, List.append_toArray, List.nil_append, List.cons_append]
  have h1 : 1 ≤ N := by omega
  have h2 : 1 ≤ N - 1 := by omega
  obtain ⟨W2, hW2⟩ : ∃ W2, W2 = (W.alloc (.cells #[.func (.yield L) #[] #[]] 81)).alloc (.cells #[.int .i64 0] 3) := ⟨_, rfl⟩
  have sW2 : W2.heap.size = W.heap.size + 2 := by rw [hW2]; simp
  have y2 : Boxed W2 W.heap.size 81 (.func (.yield L) #[] #[]) := by rw [hW2]; exact (Boxed.new W 81 _).alloc _
  have n2 : Boxed W2 (W.heap.size + 1) 3 (.int .i64 0) := by
    have e := Boxed.new (W.alloc (.cells #[.func (.yield L) #[] #[]] 81)) 3 (.int .i64 0)
    rw [World.size_alloc, ← hW2] at e
    exact e
  have b2 : Below W.heap.size W W2 := by rw [hW2]; exact ((Below.refl _ W).alloc (Nat.le_refl _) _).alloc (by simp) _
  have hk2 : W2.cell? ⟨K, 0, none⟩ = some (.slice ak n ck) := (b2.cell (p := ⟨K, 0, none⟩) (cell_lt hk1)).trans hk1
  have own2 : Own W2 B0 ak n ck l := own1.block (fun q hq => b2.block q (own1.ge q hq).2)
  have SW2 : Hid (W2.heap.size = W.heap.size + 2) := sW2
  clear sW2
  rw [hW2] at hk2
  gi_wp2_with (refine ⟨trivial, ?_⟩; gi_at_call 43; rw [← hW2]; rw [← hW2] at hk2; clear hW2; refine (chunk_in Fence.wide _ trivial rfl _ _ _ 32 (by omega) _).mono ?_; rintro e V ⟨rfl, hV0⟩; have HV : Hid (V = (W2.alloc (.cells #[.slice ak n ck] 26)).alloc (.cells #[.int .i64 ((32 : Nat) : Int)] 3)) := hV0; clear hV0)
  have hV := HV.out
  have sW2 := SW2.out
  have b4 : Below W2.heap.size W2 V := by rw [hV]; exact ((Below.refl _ W2).alloc (Nat.le_refl _) _).alloc (by simp) _
  have sV : V.heap.size = W.heap.size + 4 := by rw [hV]; simp [sW2]
  have c2 : V.cell? ⟨W2.heap.size, 0, none⟩ = some (.slice ak n ck) := by rw [hV]; exact ((Boxed.new W2 26 _).alloc _).cell
  have c3 : V.cell? ⟨W2.heap.size + 1, 0, none⟩ = some (.int .i64 ((32 : Nat) : Int)) := by
    have e := (Boxed.new (W2.alloc (.cells #[.slice ak n ck] 26)) 3 (.int .i64 ((32 : Nat) : Int))).cell
    rw [World.size_alloc] at e
    rw [hV]
    exact e
  have y4 : Boxed V W.heap.size 81 (.func (.yield L) #[] #[]) := Boxed.blk y2 (b4.block _ (by omega))
  have n4 : Boxed V (W.heap.size + 1) 3 (.int .i64 0) := Boxed.blk n2 (b4.block _ (by omega))
  have own4 : Own V B0 ak n ck l := own2.block (fun q hq => b4.block q (own2.ge q hq).2)
  have b5 : Below W.heap.size W V := b2.trans (b4.mono (by omega))
  obtain ⟨g, hg⟩ : ∃ g, 0 < n → ak = some ⟨g, 0, none⟩ := by
    by_cases h : 0 < n
    · obtain ⟨g, _, h3, _⟩ := own.at h
      exact ⟨g, fun _ => h3⟩
    · exact ⟨0, fun h' => absurd h' h⟩
  clear hV HV hk2 y2 n2 own2
  refine rangeB (C := fun b => C b ∨ b = W.heap.size + 1) rfl (by omega) (gf := 61) (lb := #[.pointer (some ⟨W2.heap.size, 0, none⟩), .pointer (some ⟨W2.heap.size + 1, 0, none⟩)]) rfl trivial (enters_of Tryd.func61 (by kernel_rfl) rfl)
    (chunk_seq Fence.wide (N - 1) trivial rfl (by omega) W2.heap.size (W2.heap.size + 1) g 0 n ck 32 ak hg (by omega) (by omega) hnc hn _ ?c1 ?c2 V c2 c3) (Below.refl _ _) (fun _ => rfl) ?hC ?hbx ?hGd
    (fun pre U => ∃ xs : List (Bk n), xs.map Bk.ck = pre ∧ J xs U ∧ Boxed U W.heap.size 81 (.func (.yield L) #[] #[]) ∧ Boxed U (W.heap.size + 1) 3 (.int .i64 ((pre.length : Nat) : Int)) ∧ Own U B0 ak n ck l)
    (fun c pre U => c = .ret ∧ ∃ xs : List (Bk n), xs.map Bk.ck = pre ∧ Jx xs U) ?hI ?hIx ⟨[], rfl, hJ _ _ _ h0 b5, y4, n4, own4⟩
    (fun x => { tmps := #[.func (.yield L) #[] #[], .pointer (some ⟨K, 0, none⟩), .pointer (some ⟨W.heap.size, 0, none⟩), .pointer (some ⟨W.heap.size + 1, 0, none⟩), ckv g 0 n 32 x.1, .slice ak n ck, .func (.func 61) #[] #[.pointer (some ⟨W2.heap.size, 0, none⟩), .pointer (some ⟨W2.heap.size + 1, 0, none⟩)], ckv g 0 n 32 x.1, undef, undef, undef, undef, undef, undef, undef, undef], defers := [] }) ?assign ?body ?done ?stop
  case c1 => exact fun h => h.elim (fun h => by have := hCw _ h; have := hW.size; omega) (fun h => by omega)
  case c2 => exact fun h => h.elim (fun h => by have := hCw _ h; have := hW.size; omega) (fun h => by omega)
  case hC => exact fun b h => h.elim (fun h => by have := hCw _ h; have := hW.size; omega) (fun h => by omega)
  case hbx => exact fun _ _ _ _ _ h => by cases h
  case hGd => exact fun _ _ _ _ _ _ h => h
  case hI =>
    rintro pre A B ⟨xs, e1, j1, k1, k2, k3⟩ hb
    exact ⟨xs, e1, hJ _ _ _ j1 (hb.mono (by omega)), Boxed.blk k1 (hb.block _ (by omega)), Boxed.blk k2 (hb.block _ (by omega)), k3.block (fun q hq => hb.block q (by have := (own4.ge q hq).2; omega))⟩
  case hIx =>
    rintro c pre A B ⟨e0, xs, e1, j1⟩ hb
    exact ⟨e0, xs, e1, hJx _ _ _ j1 (hb.mono (by omega))⟩
  case assign =>
    clear sW2
    intro l' x U K' hK
    gi_wp2
    exact hK
  case body =>
    rintro l' pre x U hU ⟨xs, e1, j1, k1, k2, k3⟩ hx
    have OG : Hid (∀ q, blkOf ak = some q → q < W.heap.size) := fun q hq => (own1.ge q hq).2
    have hp : 0 < n := by have := x.2; omega
    have ha := hg hp
    have hx2 := x.2
    have lx : xs.length = pre.length := by rw [← e1, List.length_map]
    have sl := (k3.sln hn).len
    have S0 : Hid (Sln U.drew (some ⟨g, 0 + 32 * x.1, none⟩) (ckn n 32 x.1) (pc l x.1)) := by
      have h1 := slice_from (k3.sln hn) (Nat.le_of_lt hx2) hnc
      have h2 := h1.take (k := ckn n 32 x.1) (by unfold ckn; omega)
      rw [if_neg (by omega), ha] at h2
      have e3 : (l.drop (32 * x.1)).take (ckn n 32 x.1) = pc l x.1 := by
        unfold pc ckn
        by_cases h3 : 32 ≤ n - 32 * x.1
        · rw [Nat.min_eq_left h3]
        · rw [Nat.min_eq_right (by omega), List.take_of_length_le (by simp; omega), List.take_of_length_le (by simp; omega)]
      rw [e3] at h2
      have e4 : (some (⟨g, 0, none⟩ : Addr)).map (·.add (32 * x.1)) = some ⟨g, 0 + 32 * x.1, none⟩ := by simp [Addr.add]; omega
      rw [e4] at h2
      exact h2.drew
    have e32 : ckn n 32 x.1 ≤ 32 := by unfold ckn; omega
    simp only [ckv]
    obtain ⟨e, He⟩ : ∃ e, Hid (ckn n 32 x.1 = e) := ⟨_, rfl⟩
    obtain ⟨q, Hq⟩ : ∃ q, Hid (0 + 32 * x.1 = q) := ⟨_, rfl⟩
    rw [He.out] at S0 e32 ⊢
    rw [Hq.out] at S0 ⊢
    have HC : Hid ((some (⟨g, q, none⟩ : Addr)) = none → e = 0) := fun h => by cases h
    have cy : U.drew.cell? ⟨W.heap.size, 0, none⟩ = some (.func (.yield L) #[] #[]) := Boxed.cell k1
    have cn : U.drew.cell? ⟨W.heap.size + 1, 0, none⟩ = some (.int .i64 ((pre.length : Nat) : Int)) := Boxed.cell k2
    have J1 : Hid (J xs U ∧ Own U B0 ak n ck l ∧ Boxed U W.heap.size 81 (.func (.yield L) #[] #[]) ∧ Boxed U (W.heap.size + 1) 3 (.int .i64 ((pre.length : Nat) : Int))) := ⟨j1, k3, k1, k2⟩
    have HX : Hid (x.1 = pre.length ∧ 32 * x.1 < n) := ⟨hx, hx2⟩
    clear sW2 ha hx2 sl k1 k2 k3 j1 hx hp
    obtain ⟨p, Hp⟩ : ∃ p, Hid (pre.length = p) := ⟨_, rfl⟩
    rw [Hp.out] at cn
    have hpp : 1 ≤ N - 1 - 1 := by omega
    have hmo : Tryd.prog.follows .mixedOrders = true := by kernel_rfl
    have sd : U.drew.heap.size = U.heap.size := rfl
    gi_wp2
    gi_region_with_o (first
      | (refine ⟨trivial, ?_⟩; gi_at_call 41; refine (CallsIn.inRound l' (callsIn_wide.2 (clone_n S0 HC))).mono ?_; rintro e' w1 ⟨a', c', rfl, H1⟩
         obtain ⟨X, HX2⟩ : ∃ X : Bk n, Hid (X = ⟨p, x.1, HX.out.2, a', e, c'⟩) := ⟨_, rfl⟩
         have bd : Below U.heap.size U w1 := ((Below.refl _ U).drew).trans H1.out.2
         have J2 : Hid (J xs w1 ∧ Own w1 B0 ak n ck l ∧ Boxed w1 W.heap.size 81 (.func (.yield L) #[] #[]) ∧ Boxed w1 (W.heap.size + 1) 3 (.int .i64 ((pre.length : Nat) : Int))) :=
           ⟨hJ _ _ _ J1.out.1 (bd.mono (by omega)), J1.out.2.1.block (fun q hq => bd.block q (J1.out.2.1.ge q hq).2), Boxed.blk J1.out.2.2.1 (bd.block _ (by omega)), Boxed.blk J1.out.2.2.2 (bd.block _ (by omega))⟩
         have cy1 : w1.cell? ⟨W.heap.size, 0, none⟩ = some (.func (.yield L) #[] #[]) := Boxed.cell J2.out.2.2.1
         have cn1 : w1.cell? ⟨W.heap.size + 1, 0, none⟩ = some (.int .i64 (p : Int)) := by rw [← Hp.out]; exact Boxed.cell J2.out.2.2.2
         have GX : Gdb l n W.heap.size xs X w1 := by
           rw [HX2.out]
           exact ⟨by show p = xs.length; rw [lx, Hp.out], by show x.1 = xs.length; rw [lx]; exact HX.out.1, e32, H1.out.1.base (by omega)⟩
         have Y := yield_any (m' := N - 1 - 1 - 1) (hY xs X w1 J2.out.1 GX)
         have BX : bencs X = #[.int .i64 (p : Int), .slice a' e c'] := by rw [HX2.out]; rfl
         rw [BX] at Y
         obtain ⟨fn, tmps, assign, body, hy, hR0⟩ := Y
         have hR := hR0.mono (R' := fun e2 W3 => ∃ bb : Bool, e2 = .returned (.bool bb) ∧ Hid ((bb = true ∧ J (xs ++ [X]) W3 ∧ KeepB C W.heap.size (blkOf X.a) w1 W3) ∨ (bb = false ∧ Jx (xs ++ [X]) W3 ∧ KeepB C W.heap.size (blkOf X.a) w1 W3))) (fun e2 W3 h => by
           rcases h with ⟨h1, h2⟩ | ⟨h1, h2⟩
           · exact ⟨true, h1, .inl ⟨rfl, h2⟩⟩
           · exact ⟨false, h1, .inr ⟨rfl, h2⟩⟩)
         clear hR0 GX BX)
      | (refine hR.mono ?_; rintro e2 W3 ⟨bb, rfl, H3⟩))
    all_goals
      have XA : Hid (X.a = a' ∧ X.ck = x) := by rw [HX2.out]; exact ⟨rfl, rfl⟩
      have K0 : Hid (KeepB C W.heap.size (blkOf X.a) w1 W3) := by
        rcases H3.out with h | h
        · exact h.2.2
        · exact h.2.2
      have FR : Hid (KeepB (fun b => C b ∨ b = W.heap.size + 1) V.heap.size none U W3) := keep_round K0.out bd (by omega) (fun q hq => by rw [XA.out.1] at hq; have := (H1.out.1.ge q hq).1; omega)
      have N3 : Boxed W3 (W.heap.size + 1) 3 (.int .i64 (p : Int)) := by
        have h1 := J2.out.2.2.2
        rw [Hp.out] at h1
        exact K0.out.same _ _ h1 (fun h => by have := hCw _ h; have := hW.size; omega) (fun h => by rw [XA.out.1] at h; have := (H1.out.1.ge _ h).1; omega) (.inl rfl)
      have Y3 : Hid (Boxed W3 W.heap.size 81 (.func (.yield L) #[] #[])) :=
        K0.out.same _ _ J2.out.2.2.1 (fun h => by have := hCw _ h; have := hW.size; omega) (fun h => by rw [XA.out.1] at h; have := (H1.out.1.ge _ h).1; omega) (.inl rfl)
      have O3 : Hid (Own W3 B0 ak n ck l) := J2.out.2.1.block (fun q hq => by
        obtain ⟨o, h1, h2⟩ := own_cells J2.out.2.1 hq
        rw [h1]
        exact K0.out.same _ _ h1 (hCa q hq) (fun h => by rw [XA.out.1] at h; have := (H1.out.1.ge _ h).1; have := (J1.out.2.1.ge q hq).2; omega) (.inl h2))
      have cn3 := Boxed.cell N3
      have fn3 := Boxed.frozen N3
      have B3 : Hid (Boxed W3 (W.heap.size + 1) 3 (.int .i64 (p : Int))) := N3
      have pb : p ≤ 140737488352256 := by
        have h1 := HX.out.1
        have h2 := HX.out.2
        rw [Hp.out] at h1
        omega
      have E1 : Hid (xs.map Bk.ck = pre ∧ xs.length = pre.length) := ⟨e1, lx⟩
      clear N3 bd hy hR cy1 cn1 cy cn e1 lx sd sV hU b4 b5 b2 c2 c3 y4 n4 own4 hk own hk1 own1 hY h0 hg
      cases bb with
      | true =>
        have F4 : Hid (postB (fun b => C b ∨ b = W.heap.size + 1) V.heap.size none (fun pre U => ∃ xs : List (Bk n), xs.map Bk.ck = pre ∧ J xs U ∧ Boxed U W.heap.size 81 (.func (.yield L) #[] #[]) ∧ Boxed U (W.heap.size + 1) 3 (.int .i64 ((pre.length : Nat) : Int)) ∧ Own U B0 ak n ck l)
            (fun c pre U => c = .ret ∧ ∃ xs : List (Bk n), xs.map Bk.ck = pre ∧ Jx xs U) (pre ++ [x]) U .normal ⟨#[], []⟩ (W3.setCell ⟨W.heap.size + 1, 0, none⟩ (.int .i64 ((p : Int) + 1)))) := by
          refine ⟨keep_set FR.out _, xs ++ [X], by simp [E1.out.1, XA.out.2], ?_, Boxed.other Y3.out (by omega) _, ?_, ?_⟩
          · rcases H3.out with h | h
            · exact hJ _ _ _ h.2.1 ((Below.refl _ W3).setCell (p := ⟨W.heap.size + 1, 0, none⟩) (by show W.heap.size ≤ W.heap.size + 1; omega) _)
            · cases h.1
          · have h1 := Boxed.set (.int .i64 ((p : Int) + 1)) B3.out
            have h2 : (((pre ++ [x]).length : Nat) : Int) = (p : Int) + 1 := by rw [List.length_append, Hp.out]; simp
            rw [h2]
            exact h1
          · exact O3.out.block (fun q hq => Below.heap_setCell W3 _ _ q (fun e => by have := OG.out q hq; have e' : q = W.heap.size + 1 := e; omega))
        clear FR Y3 O3 B3 K0 J2 J1 H1 H3 XA HX2 E1 S0 HC He Hq
        clear hW hJ hJx hCK hCa hCw hn hnc OG HX hmo hpp
        gi_wp2
        exact F4.out
      | false =>
        have F4 : Hid (KeepB (fun b => C b ∨ b = W.heap.size + 1) V.heap.size none U W3 ∧ (∃ xs : List (Bk n), xs.map Bk.ck = pre ++ [x] ∧ Jx xs W3)) := by
          refine ⟨FR.out, xs ++ [X], by simp [E1.out.1, XA.out.2], ?_⟩
          rcases H3.out with h | h
          · cases h.1
          · exact h.2.1
        clear FR Y3 O3 B3 K0 J2 J1 H1 H3 XA HX2 E1 S0 HC He Hq
        clear hW hJ hJx hCK hCa hCw hn hnc OG HX pb hmo hpp
        gi_wp2
        exact ⟨F4.out.1, rfl, F4.out.2⟩
  case done =>
    rintro D ys U hD ⟨k, q1, q2⟩ ⟨xs, e1, j1, k1, k2, k3⟩ hK
    have lD : D < U.heap.size := (Array.getElem?_eq_some_iff.1 hK).1
    have j2 := hJ _ _ _ j1 (put_below (.deferred none) (show W.heap.size ≤ D by omega) lD)
    clear sW2
    gi_wp2
    refine ⟨by simp, .inl ⟨_, _, rfl, run_takeDeferred hK, ?_⟩⟩
    exact ⟨_, results_none rfl _ _ _, ⟨_, rfl⟩, .inl ⟨xs, ⟨k, q1, e1.trans q2⟩, j2⟩⟩
  case stop =>
    rintro D c pre U hD ⟨k, q1⟩ ⟨rfl, xs, e1, j1⟩ hK
    have lD : D < U.heap.size := (Array.getElem?_eq_some_iff.1 hK).1
    have j2 := hJx _ _ _ j1 (put_below (.deferred none) (show W.heap.size ≤ D by omega) lD)
    clear sW2
    gi_wp2
    refine ⟨by simp, .inl ⟨_, _, rfl, run_takeDeferred hK, ?_⟩⟩
    exact ⟨_, results_none rfl _ _ _, ⟨_, rfl⟩, .inr ⟨xs, ⟨k, e1.trans q1⟩, j2⟩⟩
end Go.Proofs.YtmkknklkdgkbaaaDoor
