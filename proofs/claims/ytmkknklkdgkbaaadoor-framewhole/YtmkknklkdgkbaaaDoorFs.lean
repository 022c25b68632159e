/- The library's Chunk: its closure's contract: the pieces of a slice in their order, for every loop's body that keeps its two boxes. -/
import Derived.Test.YtmkknklkdgkbaaaDoorFr
import Derived.Test.YtmkknklkdgkbaaaDoorBa
namespace Go.Proofs.YtmkknklkdgkbaaaDoor
open Go.ChangeShapes Go.WideShapes Go.ChangeAt Go.RowKit Go.Shelf
set_option maxRecDepth 20000
set_option linter.unusedVariables false
set_option linter.unusedSimpArgs false
attribute [local go_sem] Oper.semAt_some
/- a piece's number -/
abbrev Ck (n m : Nat) := { j : Nat // m * j < n }
def cks (n m : Nat) : Nat → List (Ck n m)
  | 0 => []
  | k + 1 => if h : m * k < n then cks n m k ++ [⟨k, h⟩] else cks n m k
theorem cks_succ {n m k : Nat} (h : m * k < n) : cks n m (k + 1) = cks n m k ++ [⟨k, h⟩] := by simp [cks, h]
theorem cks_len {n m : Nat} : ∀ {k : Nat}, m * k < n → (cks n m k).length = k
  | 0, _ => rfl
  | k + 1, h => by
    have h1 : m * k < n := by rw [Nat.mul_succ] at h; omega
    rw [cks_succ h1]
    simp [cks_len h1]
/- a piece's length, and the piece -/
def ckn (n m j : Nat) : Nat := min m (n - m * j)
def ckv (b off n m j : Nat) : Value := .slice (some ⟨b, off + m * j, none⟩) (ckn n m j) (ckn n m j)
/- the boxes -/
def KpB (Bs Bn : Nat) (W W' : World) : Prop := (∀ v, W.cell? ⟨Bs, 0, none⟩ = some v → W'.cell? ⟨Bs, 0, none⟩ = some v) ∧ (∀ v, W.cell? ⟨Bn, 0, none⟩ = some v → W'.cell? ⟨Bn, 0, none⟩ = some v)
set_option maxHeartbeats 2000000 in
theorem chunk1_in (F : Fence) (N : Nat) (h61 : F.fn 61) (hro : F.round = none) (hN : 1 ≤ N) (l Bs Bn b off n c m : Nat) (hm : 1 ≤ m) (hm2 : m ≤ 64) (hnc : n ≤ c) (hc : n ≤ 140737488352256) (J Jx : List (Ck n m) → World → Prop)
    (hJ : ∀ s A, J s A → J s A.drew)
    (hY : ∀ pre x W, J pre W → x.1 = pre.length → YieldAt F (N - 1) Tryd.prog l #[ckv b off n m x.1] W fun e W' => (e = .returned (.bool true) ∧ J (pre ++ [x]) W' ∧ KpB Bs Bn W W') ∨ (e = .returned (.bool false) ∧ Jx (pre ++ [x]) W'))
    (W : World) (hs : W.cell? ⟨Bs, 0, none⟩ = some (.slice (some ⟨b, off, none⟩) n c)) (hb : W.cell? ⟨Bn, 0, none⟩ = some (.int .i64 (m : Int))) (h0 : J [] W) :
    CallsIn F N Tryd.prog 61 #[.func (.yield l) #[] #[], .pointer (some ⟨Bs, 0, none⟩), .pointer (some ⟨Bn, 0, none⟩)] W fun e W' => (∃ v, e = .returned v) ∧
      ((∃ ys, (∃ k, n ≤ m * k ∧ ys = cks n m k) ∧ J ys W') ∨ (∃ pre, (∃ k, pre = cks n m k) ∧ Jx pre W')) := by
  refine callsIn_of_wp Tryd.func61 rfl h61 ?_ hro
  simp only [Tryd.ntmps61, List.size_toArray, List.length_cons, List.length_nil, Nat.reduceAdd, Nat.reduceSub, Array.replicate_succ, Array.replicate_zero, List.push_toArray, List.append_toArray, List.nil_append, List.cons_append]
  gi_wp2
  gi_loopw [4] (fun i wr => ∃ k q : Nat, i = .int .i64 (q : Int) ∧ q = m * k ∧ q ≤ n + 64 ∧ J (cks n m k) wr ∧ wr.cell? ⟨Bs, 0, none⟩ = some (.slice (some ⟨b, off, none⟩) n c) ∧ wr.cell? ⟨Bn, 0, none⟩ = some (.int .i64 (m : Int)))
    (fun i _ => n + 64 - (intOf i).toNat)
  case atStart => exact ⟨0, 0, rfl, by omega, by omega, h0, hs, hb⟩
  case round =>
    obtain ⟨k, q, rfl, hq, hqn, hj, s1, b1⟩ := hrel
    by_cases hlt : q < n
    · have hlt' : m * k < n := by omega
      have jd : J (cks n m k) wr.drew := hJ _ _ hj
      obtain ⟨fn, tmps, assign, body, hy, hR⟩ := hY _ ⟨k, hlt'⟩ wr.drew jd (cks_len hlt').symm
      obtain ⟨e, He⟩ : ∃ e, e = ckn n m k := ⟨_, rfl⟩
      have e1 : e ≤ m := by rw [He]; unfold ckn; omega
      have e2 : q + e ≤ n := by rw [He]; unfold ckn; omega
      have e3 : 0 < e := by rw [He]; unfold ckn; omega
      have em : (if n - q < m then ((n - q : Nat) : Int) else (m : Int)) = (e : Int) := by
        rw [He]; unfold ckn
        split <;> omega
      have q1 : (q : Int) + (e : Int) = ((q + e : Nat) : Int) := by omega
      have s2 : wr.drew.cell? ⟨Bs, 0, none⟩ = some (.slice (some ⟨b, off, none⟩) n c) := s1
      have b2 : wr.drew.cell? ⟨Bn, 0, none⟩ = some (.int .i64 (m : Int)) := b1
      obtain ⟨r, Hr⟩ : ∃ r, r = q + e := ⟨_, rfl⟩
      rw [← Hr] at q1 e2
      have er1 : r - q = e := by omega
      have er2 : q ≤ r := by omega
      dsimp only [ckv] at hy
      rw [← hq, ← He] at hy
      have HQ : Hid (q = m * k ∧ m * k < n) := ⟨hq, hlt'⟩
      clear hq He hj hs hb Hr
      gi_wp2
      gi_region
      all_goals
        gi_wp2
        refine hR.mono ?_
        rintro e' W3 (⟨rfl, hJ3, hk3⟩ | ⟨rfl, hJx3⟩)
        · have s3 := hk3.1 _ s2
          have b3 := hk3.2 _ b2
          gi_wp2
          go_roundw
          case rel => exact ⟨k + 1, q + m, by simp, by rw [HQ.out.1, Nat.mul_succ], by omega, by rw [cks_succ HQ.out.2]; exact hJ3, s3, b3⟩
          case measure => simp [intOf]; omega
        · gi_wp2
          refine bodyPost_ret (results_none rfl _ _ _) rfl ?_
          exact ⟨⟨_, rfl⟩, .inr ⟨_, ⟨k + 1, (cks_succ HQ.out.2).symm⟩, hJx3⟩⟩
    · gi_wp2
      go_end0
      exact ⟨⟨_, rfl⟩, .inl ⟨_, ⟨k, by omega, rfl⟩, hj⟩⟩
end Go.Proofs.YtmkknklkdgkbaaaDoor
