import Derived.Test.YtkdgakcmhnadfaaGreatDoorMFr
import Derived.Test.YtkdgakcmhnadfaaGreatDoorMBa
import Derived.Test.YtkdgakcmhnadfaaGreatDoorMXa
import Derived.Test.YtkdgakcmhnadfaaGreatDoorMWb
/- Fs -/
/- The library's Chunk: its closure's contract: the pieces of a slice in their order, for every loop's body that keeps its two boxes. -/
namespace Go.Proofs.YtkdgakcmhnadfaaGreatDoor
open Go.ChangeShapes Go.WideShapes Go.ChangeAt Go.RowKit Go.Shelf
set_option maxRecDepth 20000
set_option linter.unusedVariables false
set_option linter.unusedSimpArgs false
attribute [local go_sem] Oper.semAt_some
/- a piece's number -/
abbrev Ck (n m : Nat) := { j : Nat // m * j < n }
def cks (n m : Nat) : Nat → List (Ck n m)
  | 0 => []
  | k + 1 => if h : m * k < n then cks n m k ++ [⟨k, h⟩] else cks n m k
theorem cks_succ {n m k : Nat} (h : m * k < n) : cks n m (k + 1) = cks n m k ++ [⟨k, h⟩] := by simp [cks, h]
theorem cks_len {n m : Nat} : ∀ {k : Nat}, m * k < n → (cks n m k).length = k
  | 0, _ => rfl
  | k + 1, h => by
    have h1 : m * k < n := by rw [Nat.mul_succ] at h; omega
    rw [cks_succ h1]
    simp [cks_len h1]
/- a piece's length, and the piece -/
def ckn (n m j : Nat) : Nat := min m (n - m * j)
def ckv (b off n m j : Nat) : Value := .slice (some ⟨b, off + m * j, none⟩) (ckn n m j) (ckn n m j)
/- the boxes -/
def KpB (Bs Bn : Nat) (W W' : World) : Prop := (∀ v, W.cell? ⟨Bs, 0, none⟩ = some v → W'.cell? ⟨Bs, 0, none⟩ = some v) ∧ (∀ v, W.cell? ⟨Bn, 0, none⟩ = some v → W'.cell? ⟨Bn, 0, none⟩ = some v)
set_option maxHeartbeats 2000000 in
theorem chunk1_in (F : Fence) (N : Nat) (h61 : F.fn 147) (hro : F.round = none) (hN : 1 ≤ N) (l Bs Bn b off n c m : Nat) (hm : 1 ≤ m) (hm2 : m ≤ 64) (hnc : n ≤ c) (hc : n ≤ 140737488352256) (J Jx : List (Ck n m) → World → Prop)
    (hJ : ∀ s A, J s A → J s A.drew)
    (hY : ∀ pre x W, J pre W → x.1 = pre.length → YieldAt F (N - 1) Tryz.prog l #[ckv b off n m x.1] W fun e W' => (e = .returned (.bool true) ∧ J (pre ++ [x]) W' ∧ KpB Bs Bn W W') ∨ (e = .returned (.bool false) ∧ Jx (pre ++ [x]) W'))
    (W : World) (hs : W.cell? ⟨Bs, 0, none⟩ = some (.slice (some ⟨b, off, none⟩) n c)) (hb : W.cell? ⟨Bn, 0, none⟩ = some (.int .i64 (m : Int))) (h0 : J [] W) :
    CallsIn F N Tryz.prog 147 #[.func (.yield l) #[] #[], .pointer (some ⟨Bs, 0, none⟩), .pointer (some ⟨Bn, 0, none⟩)] W fun e W' => (∃ v, e = .returned v) ∧
      ((∃ ys, (∃ k, n ≤ m * k ∧ ys = cks n m k) ∧ J ys W') ∨ (∃ pre, (∃ k, pre = cks n m k) ∧ Jx pre W')) := by
  refine callsIn_of_wp Tryz.func147 rfl h61 ?_ hro
  simp only [Tryz.ntmps147, List.size_toArray, List.length_cons, List.length_nil, Nat.reduceAdd, Nat.reduceSub, Array.replicate_succ, Array.replicate_zero, List.push_toArray, List.append_toArray, List.nil_append, List.cons_append]
  gi_wp2
  gi_loopw [4] (fun i wr => ∃ k q : Nat, i = .int .i64 (q : Int) ∧ q = m * k ∧ q ≤ n + 64 ∧ J (cks n m k) wr ∧ wr.cell? ⟨Bs, 0, none⟩ = some (.slice (some ⟨b, off, none⟩) n c) ∧ wr.cell? ⟨Bn, 0, none⟩ = some (.int .i64 (m : Int)))
    (fun i _ => n + 64 - (intOf i).toNat)
  case atStart => exact ⟨0, 0, rfl, by omega, by omega, h0, hs, hb⟩
  case round =>
    obtain ⟨k, q, rfl, hq, hqn, hj, s1, b1⟩ := hrel
    by_cases hlt : q < n
    · have hlt' : m * k < n := by omega
      have jd : J (cks n m k) wr.drew := hJ _ _ hj
      obtain ⟨fn, tmps, assign, body, hy, hR⟩ := hY _ ⟨k, hlt'⟩ wr.drew jd (cks_len hlt').symm
      obtain ⟨e, He⟩ : ∃ e, e = ckn n m k := ⟨_, rfl⟩
      have e1 : e ≤ m := by rw [He]; unfold ckn; omega
      have e2 : q + e ≤ n := by rw [He]; unfold ckn; omega
      have e3 : 0 < e := by rw [He]; unfold ckn; omega
      have em : (if n - q < m then ((n - q : Nat) : Int) else (m : Int)) = (e : Int) := by
        rw [He]; unfold ckn
        split <;> omega
      have q1 : (q : Int) + (e : Int) = ((q + e : Nat) : Int) := by omega
      have s2 : wr.drew.cell? ⟨Bs, 0, none⟩ = some (.slice (some ⟨b, off, none⟩) n c) := s1
      have b2 : wr.drew.cell? ⟨Bn, 0, none⟩ = some (.int .i64 (m : Int)) := b1
      obtain ⟨r, Hr⟩ : ∃ r, r = q + e := ⟨_, rfl⟩
      rw [← Hr] at q1 e2
      have er1 : r - q = e := by omega
      have er2 : q ≤ r := by omega
      dsimp only [ckv] at hy
      rw [← hq, ← He] at hy
      have HQ : Hid (q = m * k ∧ m * k < n) := ⟨hq, hlt'⟩
      clear hq He hj hs hb Hr
      gi_wp2
      gi_region
      all_goals
        gi_wp2
        refine hR.mono ?_
        rintro e' W3 (⟨rfl, hJ3, hk3⟩ | ⟨rfl, hJx3⟩)
        · have s3 := hk3.1 _ s2
          have b3 := hk3.2 _ b2
          gi_wp2
          go_roundw
          case rel => exact ⟨k + 1, q + m, by simp, by rw [HQ.out.1, Nat.mul_succ], by omega, by rw [cks_succ HQ.out.2]; exact hJ3, s3, b3⟩
          case measure => simp [intOf]; omega
        · gi_wp2
          refine bodyPost_ret (results_none rfl _ _ _) rfl ?_
          exact ⟨⟨_, rfl⟩, .inr ⟨_, ⟨k + 1, (cks_succ HQ.out.2).symm⟩, hJx3⟩⟩
    · gi_wp2
      go_end0
      exact ⟨⟨_, rfl⟩, .inl ⟨_, ⟨k, by omega, rfl⟩, hj⟩⟩
end Go.Proofs.YtkdgakcmhnadfaaGreatDoor

/- Ft -/
/- Chunk and its closure as an iterator's contract. -/
namespace Go.Proofs.YtkdgakcmhnadfaaGreatDoor
open Go.ChangeShapes Go.WideShapes Go.ChangeAt Go.RowKit Go.Shelf
set_option maxRecDepth 20000
set_option linter.unusedVariables false
set_option linter.unusedSimpArgs false
attribute [local go_sem] Oper.semAt_some
set_option maxHeartbeats 1000000 in
/- of no bytes there is no piece -/
theorem chunk0_in (F : Fence) (N : Nat) (h61 : F.fn 147) (hro : F.round = none) (l Bs Bn c m : Nat) (a : Option Addr) (J : World → Prop) (W : World) (hs : W.cell? ⟨Bs, 0, none⟩ = some (.slice a 0 c)) (h0 : J W) :
    CallsIn F N Tryz.prog 147 #[.func (.yield l) #[] #[], .pointer (some ⟨Bs, 0, none⟩), .pointer (some ⟨Bn, 0, none⟩)] W fun e W' => (∃ v, e = .returned v) ∧ J W' := by
  refine callsIn_of_wp Tryz.func147 rfl h61 ?_ hro
  simp only [Tryz.ntmps147, List.size_toArray, List.length_cons, List.length_nil, Nat.reduceAdd, Nat.reduceSub, Array.replicate_succ, Array.replicate_zero, List.push_toArray, List.append_toArray, List.nil_append, List.cons_append]
  gi_wp2
  gi_loopw [4] (fun i wr => i = .int .i64 0 ∧ J wr ∧ wr.cell? ⟨Bs, 0, none⟩ = some (.slice a 0 c)) (fun _ _ => 0)
  case atStart => exact ⟨rfl, h0, hs⟩
  case round =>
    obtain ⟨rfl, hj, s1⟩ := hrel
    gi_wp2
    go_end0
    exact ⟨⟨_, rfl⟩, hj⟩
set_option maxHeartbeats 1000000 in
theorem chunk_in (F : Fence) (N : Nat) (h43 : F.fn 118) (hro : F.round = none) (a : Option Addr) (n c m : Nat) (hm : 1 ≤ m) (w : World) :
    CallsIn F N Tryz.prog 118 #[.slice a n c, .int .i64 (m : Int)] w fun e w' => e = .returned (.func (.func 147) #[] #[.pointer (some ⟨w.heap.size, 0, none⟩), .pointer (some ⟨w.heap.size + 1, 0, none⟩)]) ∧ w' = (w.alloc (.cells #[.slice a n c] 33)).alloc (.cells #[.int .i64 (m : Int)] 3) := by
  refine callsIn_of_wp Tryz.func118 rfl h43 ?_ hro
  simp only [Tryz.ntmps118, List.size_toArray, List.length_cons, List.length_nil, Nat.reduceAdd, Nat.reduceSub, Array.replicate_succ, Array.replicate_zero, List.push_toArray, List.append_toArray, List.nil_append, List.cons_append]
  have h1 : ¬ ((m : Int) < 1) := by omega
  gi_wp2
  go_ret
  exact ⟨rfl, rfl⟩
theorem KeepB.cell {C : Nat → Prop} {m : Nat} {bx : Option Nat} {A B : World} (h : KeepB C m bx A B) {p : Addr} {v : Value} (hp : A.cell? p = some v) (h1 : ¬ C p.block) (h2 : bx ≠ some p.block) : B.cell? p = some v := by
  obtain ⟨o, h3, h4⟩ := cells_of_cell hp
  exact (World.cell?_of_block ((h.same _ _ h3 h1 h2 (.inl h4)).trans h3.symm)).trans hp
theorem chunk_seq (F : Fence) (N : Nat) (h61 : F.fn 147) (hro : F.round = none) (hN : 1 ≤ N) (Bs Bn b off n c m : Nat) (a' : Option Addr) (haa : 0 < n → a' = some ⟨b, off, none⟩) (hm : 1 ≤ m) (hm2 : m ≤ 64) (hnc : n ≤ c) (hc : n ≤ 140737488352256) (C : Nat → Prop) (hCs : ¬ C Bs) (hCn : ¬ C Bn) (w : World)
    (hs : w.cell? ⟨Bs, 0, none⟩ = some (.slice a' n c)) (hb : w.cell? ⟨Bn, 0, none⟩ = some (.int .i64 (m : Int))) :
    SeqB F N Tryz.prog 147 #[.pointer (some ⟨Bs, 0, none⟩), .pointer (some ⟨Bn, 0, none⟩)] (fun x : Ck n m => #[ckv b off n m x.1]) (fun _ => none) (fun _ pre x _ => x.1 = pre.length) C (fun ys => ∃ k, n ≤ m * k ∧ ys = cks n m k) (fun pre => ∃ k, pre = cks n m k) w := fun l J Jx W hW hJ hJx hY h0 => by
  have s1 := (hW.cell (p := ⟨Bs, 0, none⟩) (cell_lt hs)).trans hs
  have b1 := (hW.cell (p := ⟨Bn, 0, none⟩) (cell_lt hb)).trans hb
  by_cases hn : 0 < n
  · rw [haa hn] at s1
    exact chunk1_in F N h61 hro hN l Bs Bn b off n c m hm hm2 hnc hc J Jx (fun s A h => hJ s A _ h ((Below.refl _ _).drew)) (fun pre x A hj hx => (hY pre x A hj hx).mono fun e B hB => by
      rcases hB with ⟨h1, h2, h3⟩ | h1
      · exact .inl ⟨h1, h2, fun v hv => h3.cell hv hCs (by simp), fun v hv => h3.cell hv hCn (by simp)⟩
      · exact .inr ⟨h1.1, h1.2.1⟩) W s1 b1 h0
  · obtain rfl : n = 0 := by omega
    refine (chunk0_in F N h61 hro l Bs Bn c m a' (J []) W s1 h0).mono ?_
    rintro e W' ⟨h1, h2⟩
    exact ⟨h1, .inl ⟨[], ⟨0, by omega, rfl⟩, h2⟩⟩
end Go.Proofs.YtkdgakcmhnadfaaGreatDoor

/- Fu -/
/- Blocks' closure as an iterator's contract. -/
namespace Go.Proofs.YtkdgakcmhnadfaaGreatDoor
open Go.ChangeShapes Go.WideShapes Go.ChangeAt Go.RowKit Go.Shelf
set_option maxRecDepth 20000
set_option linter.unusedVariables false
set_option linter.unusedSimpArgs false
attribute [local go_sem] Oper.semAt_some
/- what is handed over: a number, and a row of its own that reads as piece j -/
structure Bk (n : Nat) where
  num : Nat
  j : Nat
  h : 32 * j < n
  a : Option Addr
  e : Nat
  c : Nat
def Bk.ck {n : Nat} (x : Bk n) : Ck n 32 := ⟨x.j, x.h⟩
def pc (l : List Nat) (j : Nat) : List Nat := (l.drop (32 * j)).take 32
def bencs {n : Nat} (x : Bk n) : Array Value := #[.int .i64 (x.num : Int), .slice x.a x.e x.c]
def Gdb (l : List Nat) (n : Nat) (m : Nat) (pre : List (Bk n)) (x : Bk n) (A : World) : Prop := x.num = pre.length ∧ x.j = pre.length ∧ x.e ≤ 32 ∧ Own A m x.a x.e x.c (pc l x.j)
theorem yield_any {m m' l : Nat} {P : Program} {args : Array Value} {W : World} {R : Ending → World → Prop} (h : YieldAt Fence.wide m P l args W R) : YieldAt Fence.wide m' P l args W R := by
  obtain ⟨fn, tmps, assign, body, hy, hR⟩ := h
  exact ⟨fn, tmps, assign, body, hy, hR.1, fun c cs _ => hR.2 c cs (fun d e => by cases e)⟩
theorem Boxed.blk {W V : World} {B : Nat} {t : TypeId} {v : Value} (h : Boxed W B t v) (e : V.heap[B]? = W.heap[B]?) : Boxed V B t v := e.trans h
theorem keep_round {C : Nat → Prop} {m D k : Nat} {bx : Option Nat} {U w1 W3 : World} (h : KeepB C m bx w1 W3) (hb : Below U.heap.size U w1) (hm : m ≤ D) (hx : ∀ q, bx = some q → U.heap.size ≤ q) : KeepB (fun b => C b ∨ b = k) D none U W3 :=
  ⟨Nat.le_trans hb.size h.size, fun b o h1 h2 _ h3 => by
    have hl : b < U.heap.size := (Array.getElem?_eq_some_iff.1 h1).1
    refine h.same b o ((hb.block b hl).trans h1) (fun hc => h2 (.inl hc)) (fun e => by have := hx b e; omega) ?_
    exact h3.imp id (fun h => by omega)⟩
theorem own_cells {w : World} {B : Nat} {a : Option Addr} {n c q : Nat} {L : List Nat} (h : Own w B a n c L) (hq : blkOf a = some q) : ∃ o : Obj, w.heap[q]? = some o ∧ o.isCells = true := by
  rcases h.own.2 with ⟨h1, _⟩ | ⟨g, cap, cur, h1, _, h2, _⟩
  · simp at h1
    rw [h1.1] at hq
    cases hq
  · simp at h1
    rw [h1.1] at hq
    cases hq
    exact ⟨_, h2, rfl⟩
theorem keep_set {C : Nat → Prop} {D k : Nat} {U W3 : World} (h : KeepB (fun b => C b ∨ b = k) D none U W3) (v : Value) : KeepB (fun b => C b ∨ b = k) D none U (W3.setCell ⟨k, 0, none⟩ v) :=
  ⟨Nat.le_trans h.size (KeepsOthers.setCell W3 ⟨k, 0, none⟩ v).size, fun b o h1 h2 h3 h4 => (Below.heap_setCell W3 ⟨k, 0, none⟩ v b (fun e => h2 (.inr e))).trans (h.same b o h1 h2 h3 h4)⟩
end Go.Proofs.YtkdgakcmhnadfaaGreatDoor
