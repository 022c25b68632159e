/- Chunk and its closure as an iterator's contract. -/
import Derived.Test.YtmkknklkdgkbaaaDoorFs
namespace Go.Proofs.YtmkknklkdgkbaaaDoor
open Go.ChangeShapes Go.WideShapes Go.ChangeAt Go.RowKit Go.Shelf
set_option maxRecDepth 20000
set_option linter.unusedVariables false
set_option linter.unusedSimpArgs false
attribute [local go_sem] Oper.semAt_some
set_option maxHeartbeats 1000000 in
/- of no bytes there is no piece -/
theorem chunk0_in (F : Fence) (N : Nat) (h61 : F.fn 61) (hro : F.round = none) (l Bs Bn c m : Nat) (a : Option Addr) (J : World → Prop) (W : World) (hs : W.cell? ⟨Bs, 0, none⟩ = some (.slice a 0 c)) (h0 : J W) :
    CallsIn F N Tryd.prog 61 #[.func (.yield l) #[] #[], .pointer (some ⟨Bs, 0, none⟩), .pointer (some ⟨Bn, 0, none⟩)] W fun e W' => (∃ v, e = .returned v) ∧ J W' := by
  refine callsIn_of_wp Tryd.func61 rfl h61 ?_ hro
  simp only [Tryd.ntmps61, List.size_toArray, List.length_cons, List.length_nil, Nat.reduceAdd, Nat.reduceSub, Array.replicate_succ, Array.replicate_zero, List.push_toArray, List.append_toArray, List.nil_append, List.cons_append]
  gi_wp2
  gi_loopw [4] (fun i wr => i = .int .i64 0 ∧ J wr ∧ wr.cell? ⟨Bs, 0, none⟩ = some (.slice a 0 c)) (fun _ _ => 0)
  case atStart => exact ⟨rfl, h0, hs⟩
  case round =>
    obtain ⟨rfl, hj, s1⟩ := hrel
    gi_wp2
    go_end0
    exact ⟨⟨_, rfl⟩, hj⟩
set_option maxHeartbeats 1000000 in
theorem chunk_in (F : Fence) (N : Nat) (h43 : F.fn 43) (hro : F.round = none) (a : Option Addr) (n c m : Nat) (hm : 1 ≤ m) (w : World) :
    CallsIn F N Tryd.prog 43 #[.slice a n c, .int .i64 (m : Int)] w fun e w' => e = .returned (.func (.func 61) #[] #[.pointer (some ⟨w.heap.size, 0, none⟩), .pointer (some ⟨w.heap.size + 1, 0, none⟩)]) ∧ w' = (w.alloc (.cells #[.slice a n c] 26)).alloc (.cells #[.int .i64 (m : Int)] 3) := by
  refine callsIn_of_wp Tryd.func43 rfl h43 ?_ hro
  simp only [Tryd.ntmps43, List.size_toArray, List.length_cons, List.length_nil, Nat.reduceAdd, Nat.reduceSub, Array.replicate_succ, Array.replicate_zero, List.push_toArray, List.append_toArray, List.nil_append, List.cons_append]
  have h1 : ¬ ((m : Int) < 1) := by omega
  gi_wp2
  go_ret
  exact ⟨rfl, rfl⟩
theorem KeepB.cell {C : Nat → Prop} {m : Nat} {bx : Option Nat} {A B : World} (h : KeepB C m bx A B) {p : Addr} {v : Value} (hp : A.cell? p = some v) (h1 : ¬ C p.block) (h2 : bx ≠ some p.block) : B.cell? p = some v := by
  obtain ⟨o, h3, h4⟩ := cells_of_cell hp
  exact (World.cell?_of_block ((h.same _ _ h3 h1 h2 (.inl h4)).trans h3.symm)).trans hp
theorem chunk_seq (F : Fence) (N : Nat) (h61 : F.fn 61) (hro : F.round = none) (hN : 1 ≤ N) (Bs Bn b off n c m : Nat) (a' : Option Addr) (haa : 0 < n → a' = some ⟨b, off, none⟩) (hm : 1 ≤ m) (hm2 : m ≤ 64) (hnc : n ≤ c) (hc : n ≤ 140737488352256) (C : Nat → Prop) (hCs : ¬ C Bs) (hCn : ¬ C Bn) (w : World)
    (hs : w.cell? ⟨Bs, 0, none⟩ = some (.slice a' n c)) (hb : w.cell? ⟨Bn, 0, none⟩ = some (.int .i64 (m : Int))) :
    SeqB F N Tryd.prog 61 #[.pointer (some ⟨Bs, 0, none⟩), .pointer (some ⟨Bn, 0, none⟩)] (fun x : Ck n m => #[ckv b off n m x.1]) (fun _ => none) (fun _ pre x _ => x.1 = pre.length) C (fun ys => ∃ k, n ≤ m * k ∧ ys = cks n m k) (fun pre => ∃ k, pre = cks n m k) w := fun l J Jx W hW hJ hJx hY h0 => by
  have s1 := (hW.cell (p := ⟨Bs, 0, none⟩) (cell_lt hs)).trans hs
  have b1 := (hW.cell (p := ⟨Bn, 0, none⟩) (cell_lt hb)).trans hb
  by_cases hn : 0 < n
  · rw [haa hn] at s1
    exact chunk1_in F N h61 hro hN l Bs Bn b off n c m hm hm2 hnc hc J Jx (fun s A h => hJ s A _ h ((Below.refl _ _).drew)) (fun pre x A hj hx => (hY pre x A hj hx).mono fun e B hB => by
      rcases hB with ⟨h1, h2, h3⟩ | h1
      · exact .inl ⟨h1, h2, fun v hv => h3.cell hv hCs (by simp), fun v hv => h3.cell hv hCn (by simp)⟩
      · exact .inr ⟨h1.1, h1.2.1⟩) W s1 b1 h0
  · obtain rfl : n = 0 := by omega
    refine (chunk0_in F N h61 hro l Bs Bn c m a' (J []) W s1 h0).mono ?_
    rintro e W' ⟨h1, h2⟩
    exact ⟨h1, .inl ⟨[], ⟨0, by omega, rfl⟩, h2⟩⟩
end Go.Proofs.YtmkknklkdgkbaaaDoor
