/- A command's bytes, as the program writes them (writer.id, writer.command). -/
import Derived.Test.YtppibcambhmomaaDoorMh
import Derived.Test.YtppibcambhmomaaDoorMCd
import Derived.Test.YtppibcambhmomaaDoorMVa
namespace Go.Proofs.YtppibcambhmomaaDoor
open Go.ChangeShapes Go.WideShapes Go.ChangeAt Go.RowKit
set_option maxRecDepth 20000
set_option linter.unusedVariables false
set_option linter.unusedSimpArgs false
/- a string's bytes -/
def bl (s : ByteArray) : List Nat := s.data.toList.map UInt8.toNat
theorem bl_lt (s : ByteArray) : ∀ x ∈ bl s, x < 256 := by
  intro x hx
  obtain ⟨y, _, rfl⟩ := List.mem_map.1 hx
  exact UInt8.toNat_lt y
theorem bl_len (s : ByteArray) : (bl s).length = s.size := by
  unfold bl
  rw [List.length_map]
  rfl
theorem spell_bl (s : ByteArray) : spell (bl s) = s := by
  refine ByteArray.ext (Array.toList_inj.1 ?_)
  rw [spell_data]
  unfold bl
  rw [List.map_map]
  have h : (UInt8.ofNat ∘ UInt8.toNat) = id := by funext x; simp
  rw [h, List.map_id]
theorem wfr_alloc {w w' : World} {o : Obj} {g : Nat} {a : Option Addr} (h : Wfr (w.alloc o) w' g a) : Wfr w w' g a :=
  ⟨h.os, h.tape, h.output, Nat.le_trans (by simp) h.size, fun k hk h1 h2 => (h.block k (by simp; omega) h1 h2).trans ((alloc1 w o).block k hk)⟩
theorem new_alloc {w : World} {o : Obj} {a a' : Option Addr} (h : New (w.alloc o) a a') : New w a a' := fun q hq => (h q hq).imp id (fun h => by simp at h; omega)
/- a struct that holds the writer's pointer, and a box beside it, while the writer goes on; m bounds what is written -/
structure Wb (w1 : World) (a0 : Option Addr) (W : World) (g2 g3 gW B : Nat) (bx : Array Value) (t3 : TypeId) (a : Option Addr) (n c : Nat) (L : List Nat) (m : Nat) : Prop where
  wri : Wri W gW B a n c L false
  k2 : W.heap[g2]? = some (.cells #[.pointer (some ⟨gW, 0, none⟩)] 70 (0, 0))
  k3 : W.heap[g3]? = some (.cells bx t3 (0, 0))
  ap : ∀ q, blkOf a = some q → q ≠ g2 ∧ q ≠ g3
  ne : g2 ≠ gW ∧ g3 ≠ gW
  hB : B ≤ W.heap.size
  ln : n ≤ m
  fr : Wfr w1 W gW a0
  nw : New w1 a0 a
section
variable {w1 W W' : World} {a0 : Option Addr} {g2 g3 gW B : Nat} {bx : Array Value} {t3 : TypeId} {a a' : Option Addr} {n c n' c' : Nat} {L L' : List Nat} {m : Nat}
theorem Wb.c2 (h : Wb w1 a0 W g2 g3 gW B bx t3 a n c L m) : W.cell? ⟨g2, 0, none⟩ = some (.pointer (some ⟨gW, 0, none⟩)) := by simp [World.cell?, h.k2]
theorem Wb.c3 (h : Wb w1 a0 W g2 g3 gW B bx t3 a n c L m) (j : Nat) (v : Value) (hv : bx[j]? = some v) : W.cell? ⟨g3, j, none⟩ = some v := by simp [World.cell?, h.k3, hv]
theorem Wb.step (h : Wb w1 a0 W g2 g3 gW B bx t3 a n c L m) {m' : Nat} (hW : Wri W' gW B a' n' c' L' false) (hf : Wfr W W' gW a) (hn : New W a a') (hm : L'.length ≤ m') : Wb w1 a0 W' g2 g3 gW B bx t3 a' n' c' L' m' := by
  have l2 := (Array.getElem?_eq_some_iff.1 h.k2).1
  have l3 := (Array.getElem?_eq_some_iff.1 h.k3).1
  refine ⟨hW, (hf.block g2 l2 h.ne.1 (fun e => (h.ap g2 e.symm).1 rfl)).trans h.k2, (hf.block g3 l3 h.ne.2 (fun e => (h.ap g3 e.symm).2 rfl)).trans h.k3, fun q hq => ?_, h.ne, Nat.le_trans h.hB hf.size, by rw [hW.own.len]; exact hm, h.fr.trans hf h.nw, h.nw.trans hn h.fr.size⟩
  rcases hn q hq with h1 | h1
  · exact h.ap q h1
  · exact ⟨by omega, by omega⟩
theorem Wb.num {N : Nat} (h : Hid (Wb w1 a0 W g2 g3 gW B bx t3 a n c L m)) (hN : N < 9223372036854775808) (hm : m ≤ 100000000) : Calls Tryd.prog 35 #[.pointer (some ⟨gW, 0, none⟩),.int .i64 (N : Int)] W fun e W' => ∃ a' n' c', e = .returned (.tuple #[]) ∧ Hid (Wb w1 a0 W' g2 g3 gW B bx t3 a' n' c' (L ++ enc N) (m + 9)) := by
  have k := h.out
  refine (num_n k.wri hN k.hB (by have := k.ln; show _ ≤ _; omega)).mono ?_
  rintro e W' ⟨a', n', c', h1, h2⟩
  refine ⟨a', n', c', h1, k.step h2.out.1 h2.out.2.1 h2.out.2.2 ?_⟩
  rw [List.length_append, ← k.wri.own.len]
  have := k.ln
  have := enc_nine hN
  omega
theorem Wb.text (s : ByteArray) (h : Hid (Wb w1 a0 W g2 g3 gW B bx t3 a n c L m)) (hs : s.size ≤ 1000) (hm : m ≤ 100000000) : Calls Tryd.prog 71 #[.pointer (some ⟨gW, 0, none⟩),.string s] W fun e W' => ∃ a' n' c', e = .returned (.tuple #[]) ∧ Hid (Wb w1 a0 W' g2 g3 gW B bx t3 a' n' c' (L ++ (enc s.size ++ bl s)) (m + 1009)) := by
  have k := h.out
  have t := text_n (m := s.size) k.wri (bl_lt s) (bl_len s).symm k.hB (by have := k.ln; show _ ≤ _; omega)
  rw [spell_bl] at t
  refine t.mono ?_
  rintro e W' ⟨a', n', c', h1, h2⟩
  refine ⟨a', n', c', h1, k.step h2.out.1 h2.out.2.1 h2.out.2.2 ?_⟩
  rw [List.length_append, List.length_append, ← k.wri.own.len, bl_len]
  have := k.ln
  have := enc_nine (n := s.size) (by omega)
  omega
end
set_option maxHeartbeats 2000000 in
theorem wid_n {w : World} {gW B : Nat} {a : Option Addr} {n c : Nat} {L : List Nat} {X Y Z : Nat} (hW : Hid (Wri w gW B a n c L false)) (hX : X < 9223372036854775808) (hY : Y < 9223372036854775808) (hZ : Z < 9223372036854775808) (hB : Hid (B ≤ w.heap.size)) (hb : n ≤ 10000000) :
    Calls Tryd.prog 70 #[.agg #[.pointer (some ⟨gW, 0, none⟩)], .agg #[.int .i64 (X : Int),.int .i64 (Y : Int),.int .i64 (Z : Int)]] w fun e w' => ∃ a' n' c', e = .returned (.tuple #[]) ∧ Hid (Wri w' gW B a' n' c' (L ++ (enc X ++ (enc Y ++ enc Z))) false ∧ Wfr w w' gW a ∧ New w a a') := by
  obtain ⟨g2, Hg2⟩ : ∃ g, Hid (w.heap.size = g) := ⟨_, rfl⟩
  obtain ⟨g3, Hg3⟩ : ∃ g, Hid (w.heap.size + 1 = g) := ⟨_, rfl⟩
  obtain ⟨w1, Hw1⟩ : ∃ w1, Hid ((w.alloc (.cells #[.pointer (some ⟨gW, 0, none⟩)] 70)).alloc (.cells #[.int .i64 (X : Int),.int .i64 (Y : Int),.int .i64 (Z : Int)] 23) = w1) := ⟨_, rfl⟩
  have S0 : Hid (Wb w1 a w1 g2 g3 gW B #[.int .i64 (X : Int),.int .i64 (Y : Int),.int .i64 (Z : Int)] 23 a n c L n) := by
    have b : Below w.heap.size w w1 := by rw [← Hw1.out]; exact alloc2 w _ _
    have e2 := Hg2.out
    have e3 := Hg3.out
    have lt := hW.out.lt
    refine ⟨hW.out.below b, ?_, ?_, fun q hq => ?_, ⟨by omega, by omega⟩, Nat.le_trans hB.out b.size, Nat.le_refl _, Wfr.refl _ _ _, fun q hq => .inl hq⟩
    · rw [← Hw1.out, ← Hg2.out]
      exact ((alloc1 _ _).block w.heap.size (by simp)).trans (heap_alloc_new w _)
    · rw [← Hw1.out, ← Hg3.out]
      have h := heap_alloc_new (w.alloc (.cells #[.pointer (some ⟨gW, 0, none⟩)] 70)) (.cells #[.int .i64 (X : Int),.int .i64 (Y : Int),.int .i64 (Z : Int)] 23)
      simpa using h
    · have := (hW.out.own.ge q hq).2
      exact ⟨by omega, by omega⟩
  have F0 : Hid (∀ {w' : World} {a' : Option Addr}, Wfr w1 w' gW a → New w1 a a' → Wfr w w' gW a ∧ New w a a') := fun {w' a'} h h2 => by
    rw [← Hw1.out] at h h2
    exact ⟨wfr_alloc (wfr_alloc h), new_alloc (new_alloc h2)⟩
  have p0 := S0.out.c2
  have q0 := S0.out.c3 0 _ rfl
  go_enter Tryd.func70, Tryd.ntmps70
  go_upto_region 1 with (fail)
  rw [Hw1.out, Hg3.out, Hg2.out]
  go_upto_region 2 with (go_at_call 35; refine (Wb.num S0 hX (by omega)).mono ?_; rintro e w2 ⟨a2, n2, c2, rfl, S1⟩)
  clear p0 q0
  have p0 := S1.out.c2
  have q1 := S1.out.c3 1 _ rfl
  go_upto_region 3 with (go_at_call 35; refine (Wb.num S1 hY (by omega)).mono ?_; rintro e w3 ⟨a3, n3, c3, rfl, S2⟩)
  clear p0 q1
  have p0 := S2.out.c2
  have q2 := S2.out.c3 2 _ rfl
  go_wp2_with (go_at_call 35; refine (Wb.num S2 hZ (by omega)).mono ?_; rintro e w4 ⟨a4, n4, c4, rfl, S3⟩)
  go_end0
  have h := S3.out
  rw [List.append_assoc, List.append_assoc] at h
  exact ⟨a4, n4, c4, rfl, h.wri, F0.out h.fr h.nw⟩
section
variable {w1 W W' : World} {a0 : Option Addr} {g2 g3 gW B : Nat} {bx : Array Value} {t3 : TypeId} {a a' : Option Addr} {n c n' c' : Nat} {L L' : List Nat} {m : Nat}
theorem Wb.id {X Y Z : Nat} (h : Hid (Wb w1 a0 W g2 g3 gW B bx t3 a n c L m)) (hX : X < 9223372036854775808) (hY : Y < 9223372036854775808) (hZ : Z < 9223372036854775808) (hm : m ≤ 10000000) : Calls Tryd.prog 70 #[.agg #[.pointer (some ⟨gW, 0, none⟩)], .agg #[.int .i64 (X : Int),.int .i64 (Y : Int),.int .i64 (Z : Int)]] W fun e W' => ∃ a' n' c', e = .returned (.tuple #[]) ∧ Hid (Wb w1 a0 W' g2 g3 gW B bx t3 a' n' c' (L ++ (enc X ++ (enc Y ++ enc Z))) (m + 27)) := by
  have k := h.out
  refine (wid_n k.wri hX hY hZ k.hB (by have := k.ln; omega)).mono ?_
  rintro e W' ⟨a', n', c', h1, h2⟩
  refine ⟨a', n', c', h1, k.step h2.out.1 h2.out.2.1 h2.out.2.2 ?_⟩
  simp only [List.length_append]
  rw [← k.wri.own.len]
  have := k.ln
  have := enc_nine hX
  have := enc_nine hY
  have := enc_nine hZ
  omega
end
end Go.Proofs.YtppibcambhmomaaDoor
