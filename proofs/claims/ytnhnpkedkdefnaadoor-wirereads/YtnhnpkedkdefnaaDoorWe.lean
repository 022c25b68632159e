/- A script's bytes, on plain numbers: what is written, what is read, what is cut. -/
import Derived.Test.YtnhnpkedkdefnaaDoorVa
import Derived.Test.YtnhnpkedkdefnaaDoorVg
import Derived.Test.YtnhnpkedkdefnaaDoorVo
namespace Go.Proofs.YtnhnpkedkdefnaaDoor
set_option linter.unusedVariables false
set_option linter.unusedSimpArgs false
def msk (z : Int) : Nat := (BitVec.ofInt 64 z).toNat &&& 9223372036854775807
theorem msk_lt (z : Int) : msk z < 9223372036854775808 := by
  have : msk z ≤ 9223372036854775807 := Nat.and_le_right
  omega
theorem msk_and (z : Int) : bits .and .i64 z 9223372036854775807 = ((msk z : Nat) : Int) := by
  have h := msk_lt z
  show IntKind.i64.wrap ((BitVec.ofInt 64 z &&& BitVec.ofInt 64 ((9223372036854775807 : Nat) : Int)).toNat : Int) = _
  rw [BitVec.toNat_and, ofInt_i64 9223372036854775807 (by omega), IntKind.wrap_i64]
  unfold msk at h ⊢
  omega
/- an op's bytes -/
def eop (x : Opt) : List Nat := if x.kind = 1 then enc (msk x.num) else if x.kind = 2 ∨ x.kind = 3 then enc x.bs.length ++ x.bs else []
def wd (L : List Opt) : List Nat := (L.map eop).flatten
theorem eop1 {x : Opt} (h : x.kind = 1) : eop x = enc (msk x.num) := by rw [eop, if_pos h]
theorem eop2 {x : Opt} (h : x.kind = 2) : eop x = enc x.bs.length ++ x.bs := by rw [eop, if_neg (by omega), if_pos (.inl h)]
theorem eop3 {x : Opt} (h : x.kind = 3) : eop x = enc x.bs.length ++ x.bs := by rw [eop, if_neg (by omega), if_pos (.inr h)]
theorem eop0 {x : Opt} (h1 : x.kind ≠ 1) (h2 : x.kind ≠ 2) (h3 : x.kind ≠ 3) : eop x = [] := by rw [eop, if_neg h1, if_neg (by omega)]
theorem wd_app (A B : List Opt) : wd (A ++ B) = wd A ++ wd B := by simp [wd]
theorem wd_one (x : Opt) : wd [x] = eop x := by simp [wd]
theorem wd_next {L : List Opt} {k : Nat} (h : k < L.length) : wd (L.take (k + 1)) = wd (L.take k) ++ eop (L.getD k o0) := by rw [take_opt h, wd_app, wd_one]
theorem wd_split (L : List Opt) (k : Nat) : wd L = wd (L.take k) ++ wd (L.drop k) := by rw [← wd_app, List.take_append_drop]
theorem eop_len (x : Opt) (h : x.bs.length < 9223372036854775808) : (eop x).length ≤ 9 + x.bs.length := by
  unfold eop
  split
  · have := enc_nine (msk_lt x.num); omega
  · split
    · have := enc_nine h; simp; omega
    · simp
theorem wd_len : ∀ (L : List Opt), tot L ≤ 1048576 → (wd L).length ≤ 9 * tot L
  | [], _ => by simp [wd, tot]
  | x :: L, h => by
    have e : tot (x :: L) = x.bs.length + 1 + tot L := by simp [tot]
    have e2 : wd (x :: L) = eop x ++ wd L := by simp [wd]
    rw [e] at h
    have h1 := wd_len L (by omega)
    have h2 := eop_len x (by omega)
    rw [e, e2, List.length_append]
    omega
theorem eop_lt (x : Opt) (h : ∀ y ∈ x.bs, y < 256) : ∀ y ∈ eop x, y < 256 := by
  unfold eop
  split
  · exact enc_bytes _
  · split
    · intro y hy
      rcases List.mem_append.1 hy with h1 | h1
      · exact enc_bytes _ y h1
      · exact h y h1
    · simp
/- a number's bytes and what stands behind, cut at r -/
theorem nat_take {m r : Nat} (u : List Nat) (hm : m < 9223372036854775808) : nat 9 ((enc m ++ u).take r) 0 0 = if (enc m).length ≤ r then (m, (enc m).length, true) else (0, 0, false) := by
  split
  · rename_i h
    rw [List.take_append, List.take_of_length_le h]
    exact nat_enc hm _
  · rename_i h
    rw [List.take_append_of_le_length (by omega)]
    exact nat_cut m r (by omega)
/- what is left of the cut bytes at op k -/
theorem left_at {L : List Opt} {k nb : Nat} (hk : k < L.length) : ((wd L).take nb).drop (wd (L.take k)).length = (eop (L.getD k o0) ++ wd (L.drop (k + 1))).take (nb - (wd (L.take k)).length) := by
  have e : wd L = wd (L.take k) ++ (eop (L.getD k o0) ++ wd (L.drop (k + 1))) := by
    rw [← List.append_assoc, ← wd_next hk]
    exact wd_split L (k + 1)
  rw [List.drop_take]
  conv => lhs; rw [e]
  rw [List.drop_left]
theorem wd_le {L : List Opt} {k : Nat} (hk : k < L.length) : (wd (L.take k)).length + (eop (L.getD k o0)).length ≤ (wd L).length := by
  have h := congrArg List.length (wd_split L (k + 1))
  rw [wd_next hk, List.length_append, List.length_append] at h
  omega
end Go.Proofs.YtnhnpkedkdefnaaDoor
