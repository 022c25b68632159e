/- What 'digest' does to a machine, for all states. -/
import Derived.Test.YtmkknklkdgkbaaaDoorSe
namespace Go.Proofs.YtmkknklkdgkbaaaDoor
open Go.ChangeShapes Go.WideShapes Go.ChangeAt Go.RowKit
set_option linter.unusedVariables false
set_option linter.unusedSimpArgs false
def Zb32 : List Nat := List.replicate 32 0
structure Dig (w wr : World) (s l : List Nat) : Prop where
  st : Arr .u32 118 wr w.heap.size s
  out : Arr .u8 61 wr (w.heap.size + 1) Zb32
  acc : Arr .u8 61 wr (w.heap.size + 1 + 1) (ext l 32)
  bel : Below w.heap.size w wr
theorem ext_set' {l : List Nat} {k n x : Nat} (h : l.length = k) (hk : k < n) : (ext l n).set k x = ext (l ++ [x]) n := by
  subst h
  obtain ⟨m, hm⟩ : ∃ m, n - l.length = m + 1 := ⟨n - l.length - 1, by omega⟩
  have hm2 : n - (l.length + 1) = m := by omega
  simp [ext, hm, hm2, List.replicate_succ]
theorem Dig.snoc {w wr : World} {s l : List Nat} {k x : Nat} (h : Dig w wr s l) (hl : l.length = k) (hk : k < 32) :
    Dig w (wr.setCell ⟨w.heap.size + 1 + 1, k, none⟩ (.int .u8 (x : Int))) s (l ++ [x]) := by
  have o : Oth (w.heap.size + 1 + 1) wr (wr.setCell ⟨w.heap.size + 1 + 1, k, none⟩ (.int .u8 (x : Int))) := (Oth.refl _ wr).setCell k _
  refine ⟨h.st.oth o (by omega), h.out.oth o (by omega), ?_, o.below h.bel (by omega)⟩
  rw [← ext_set' hl hk]
  exact h.acc.set k x
theorem digestN_length (s : List Nat) (k : Nat) : (Gs.digestN s k).length = 4 * k := by
  induction k with
  | zero => rfl
  | succ k ih => simp [Gs.digestN, ih, Gs.bytesW]; omega
set_option maxRecDepth 20000 in
set_option maxHeartbeats 2000000 in
theorem digest_n (s : List Nat) (hs : s.length = 8) (w : World) :
    Calls Tryd.prog 74 #[.agg (cs .u32 s)] w fun e w' => ∃ l, e = .returned (.agg (cs .u8 l)) ∧ Hid (l = Gs.digest s ∧ Below w.heap.size w w') := by
  have Ls : Hid (s.length = 8) := hs
  have R1 : ∀ o2 o3, Hid (Rng .u32 (((w.alloc (.cells (cs .u32 s) 118)).alloc o2).alloc o3) w.heap.size 0 s) := fun o2 o3 => Arr.rng (k := .u32) (t := 118) (three w _ o2 o3).1
  clear hs
  go_enter Tryd.func74, Tryd.ntmps74
  go_wp2_with (refine wpList_ld (by rfl) 118 (.tmp 1) (by rfl) (by rfl) (R1 _ _) und53 (by rw [Ls.out]; exact sz53) ?_)
  clear R1
  go_loopw [7] (fun ti wr => ∃ k : Nat, k ≤ 8 ∧ ti = .int .i64 k ∧ Hid (Dig w wr s (Gs.digestN s k))) (fun ti _ => 8 - (intOf ti).toNat)
  case atStart => exact ⟨0, by omega, rfl, (three w _ _ _).1, (three w _ _ _).2.1, (three w _ _ _).2.2, below3 w _ _ _⟩
  case round =>
    obtain ⟨k, hk, rfl, HK⟩ := hrel
    by_cases hlt : k < 8
    · have i1 : (0 : Int) ≤ (k : Int) := by omega
      have i2 : (k : Int) < 8 := by omega
      obtain ⟨x, X⟩ : ∃ x, Hid (s.getD k 0 = x) := ⟨_, rfl⟩
      have IX : ∀ w', (Instr.index 118 (.agg (cs .u32 s)) (.int .i64 (k : Int))).run Tryd.prog w' = .ok (.int .u32 (x : Int)) w' := fun w' => by rw [← X.out]; exact index_arr s Ls.out k hlt w'
      obtain ⟨p, hp⟩ : ∃ p, p = 4 * k := ⟨_, rfl⟩
      have hp1 : (4 : Int) * (k : Int) = (p : Int) := by omega
      have hp2 : p + 3 < 32 := by omega
      have q0 : IntKind.i64.wrap (p : Int) = (p : Int) := by rw [IntKind.wrap_i64]; omega
      obtain ⟨l, Hl⟩ : ∃ l, Hid (Gs.digestN s k = l) := ⟨_, rfl⟩
      have LL : Hid (l.length = p) := by rw [← Hl.out, digestN_length, hp]; exact rfl
      rw [Hl.out] at HK
      have HP : Hid (p = 4 * k) := hp
      clear hp
      obtain ⟨v0, V0⟩ : ∃ v, Hid (x / 16777216 % 256 = v) := ⟨_, rfl⟩
      obtain ⟨v1, V1⟩ : ∃ v, Hid (x / 65536 % 256 = v) := ⟨_, rfl⟩
      obtain ⟨v2, V2⟩ : ∃ v, Hid (x / 256 % 256 = v) := ⟨_, rfl⟩
      obtain ⟨v3, V3⟩ : ∃ v, Hid (x % 256 = v) := ⟨_, rfl⟩
      have e0 : (x : Int) / 16777216 % 256 = (v0 : Int) := by rw [← V0.out]; omega
      have e1 : (x : Int) / 65536 % 256 = (v1 : Int) := by rw [← V1.out]; omega
      have e2 : (x : Int) / 256 % 256 = (v2 : Int) := by rw [← V2.out]; omega
      have e3 : (x : Int) % 256 = (v3 : Int) := by rw [← V3.out]; omega
      have D0 : Hid (Dig w wr s l) := HK.out
      obtain ⟨w1, H1⟩ : ∃ w1, Hid (wr.setCell ⟨w.heap.size + 1 + 1, p, none⟩ (.int .u8 (v0 : Int)) = w1) := ⟨_, rfl⟩
      have D1 : Hid (Dig w w1 s (l ++ [v0])) := by rw [← H1.out]; exact D0.out.snoc LL.out (by omega)
      obtain ⟨w2, H2⟩ : ∃ w2, Hid (w1.setCell ⟨w.heap.size + 1 + 1, p + 1, none⟩ (.int .u8 (v1 : Int)) = w2) := ⟨_, rfl⟩
      have D2 : Hid (Dig w w2 s (l ++ [v0] ++ [v1])) := by rw [← H2.out]; exact D1.out.snoc (by simp [LL.out]) (by omega)
      obtain ⟨w3, H3⟩ : ∃ w3, Hid (w2.setCell ⟨w.heap.size + 1 + 1, p + 2, none⟩ (.int .u8 (v2 : Int)) = w3) := ⟨_, rfl⟩
      have D3 : Hid (Dig w w3 s (l ++ [v0] ++ [v1] ++ [v2])) := by rw [← H3.out]; exact D2.out.snoc (by simp [LL.out]) (by omega)
      obtain ⟨w4, H4⟩ : ∃ w4, Hid (w3.setCell ⟨w.heap.size + 1 + 1, p + 3, none⟩ (.int .u8 (v3 : Int)) = w4) := ⟨_, rfl⟩
      have D4 : Hid (Dig w w4 s (l ++ [v0] ++ [v1] ++ [v2] ++ [v3])) := by rw [← H4.out]; exact D3.out.snoc (by simp [LL.out]) (by omega)
      have A0 : Hid (Arr .u8 61 wr (w.heap.size + 1 + 1) (ext l 32)) := D0.out.acc
      have A1 : Hid (Arr .u8 61 w1 (w.heap.size + 1 + 1) (ext (l ++ [v0]) 32)) := D1.out.acc
      have A2 : Hid (Arr .u8 61 w2 (w.heap.size + 1 + 1) (ext (l ++ [v0] ++ [v1]) 32)) := D2.out.acc
      have A3 : Hid (Arr .u8 61 w3 (w.heap.size + 1 + 1) (ext (l ++ [v0] ++ [v1] ++ [v2]) 32)) := D3.out.acc
      have N0 : Hid ((ext l 32).length = 32) := ext_length _ _ (by rw [LL.out]; omega)
      have N1 : Hid ((ext (l ++ [v0]) 32).length = 32) := ext_length _ _ (by simp [LL.out]; omega)
      have N2 : Hid ((ext (l ++ [v0] ++ [v1]) 32).length = 32) := ext_length _ _ (by simp [LL.out]; omega)
      have N3 : Hid ((ext (l ++ [v0] ++ [v1] ++ [v2]) 32).length = 32) := ext_length _ _ (by simp [LL.out]; omega)
      clear HK D0 D1 D2 D3
      go_wp2_with (first
        | (refine wpList_stc (by rfl) (by rfl) (.tmp 16) (.tmp 15) (by rfl) (by rfl) (by rfl) A0 (by rw [N0.out]; omega) ?_; rw [e0, H1.out])
        | (refine wpList_stc (by rfl) (by rfl) (.tmp 23) (.tmp 22) (by rfl) (by rfl) (by rfl) A1 (by rw [N1.out]; omega) ?_; rw [e1, H2.out])
        | (refine wpList_stc (by rfl) (by rfl) (.tmp 30) (.tmp 29) (by rfl) (by rfl) (by rfl) A2 (by rw [N2.out]; omega) ?_; rw [e2, H3.out])
        | (refine wpList_stc (by rfl) (by rfl) (.tmp 36) (.tmp 35) (by rfl) (by rfl) (by rfl) A3 (by rw [N3.out]; omega) ?_; rw [e3, H4.out]))
      go_roundw
      case rel =>
        refine ⟨k + 1, by omega, by go_num, ?_⟩
        have e : Gs.digestN s (k + 1) = l ++ [v0] ++ [v1] ++ [v2] ++ [v3] := by
          show Gs.digestN s k ++ Gs.bytesW (s.getD k 0) = _
          rw [Hl.out, X.out, ← V0.out, ← V1.out, ← V2.out, ← V3.out]
          simp [Gs.bytesW]
        rw [e]
        exact D4.out
      case measure => simp [intOf]; omega
    · have i2 : ¬ ((k : Int) < 8) := by omega
      have ek : k = 8 := by omega
      subst ek
      obtain ⟨l, Hl⟩ : ∃ l, Hid (Gs.digestN s 8 = l) := ⟨_, rfl⟩
      have N : Hid (l.length = 32) := by rw [← Hl.out, digestN_length]; exact rfl
      rw [Hl.out] at HK
      have e1 : ext l 32 = l := by simp [ext, N.out]
      have R1 : Hid (Rng .u8 wr (w.heap.size + 1 + 1) 0 l) := by have := HK.out.acc; rw [e1] at this; exact this.rng
      have R2 : Hid (Arr .u8 61 wr (w.heap.size + 1) Zb32) := HK.out.out
      have RE : Hid (Arr .u8 61 (wr.setRow (w.heap.size + 1) (cs .u8 l)) (w.heap.size + 1) l) := HK.out.out.setRow l
      have BE : Hid (Below w.heap.size w (wr.setRow (w.heap.size + 1) (cs .u8 l))) := (Oth.setRow _).below HK.out.bel (by omega)
      have VE : Hid (l = Gs.digest s) := Hl.out.symm
      clear HK e1
      go_wp2_with (first | (refine wpList_ld (by rfl) 61 (.tmp 3) (by rfl) (by rfl) R1 und25 (by rw [N.out]; exact sz25) ?_) | (refine wpList_st1 (t := 61) (l := Zb32) (by rfl) (by rfl) 61 (.tmp 2) (.tmp 38) (by rfl) (by rfl) (by rfl) R2 (by rw [N.out]; exact sz25) (by rw [N.out]; rfl) ?_))
      refine bodyPost_ret (v := .agg (cs .u8 l)) (res_arr (by rfl) (by rfl) RE.out und25 (by rw [N.out]; exact sz25)) rfl ?_
      exact ⟨l, rfl, VE.out, BE.out⟩
end Go.Proofs.YtmkknklkdgkbaaaDoor
