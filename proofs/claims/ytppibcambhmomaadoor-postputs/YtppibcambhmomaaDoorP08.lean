import Derived.Test.YtppibcambhmomaaDoorPp
import Derived.Test.YtppibcambhmomaaDoorProg
import Derived.Test.YtppibcambhmomaaDoorP02
import Derived.Lib.SlBytesConst
import Derived.Deep.CutBlock
import Derived.Deep.DeepCutAuto
import Derived.Test.YtppibcambhmomaaDoorP03
namespace Go.Proofs.YtppibcambhmomaaDoor
set_option maxRecDepth 20000
set_option linter.unusedVariables false
set_option linter.unusedSimpArgs false
def stp (s x : Nat) : Nat := ((s ^^^ x) * 16777619) % 4294967296
def fnv (s : Nat) (l : List Nat) : Nat := l.foldl stp s
theorem fold_snoc {f : Nat -> Nat -> Nat} (l : List Nat) (s x : Nat) : (l ++ [x]).foldl f s = f (l.foldl f s) x := by simp
theorem fnv_snoc (l : List Nat) (s x : Nat) : fnv s (l ++ [x]) = stp (fnv s l) x := fold_snoc (f := stp) l s x
def fsum (l : List Nat) : Nat := fnv 2166136261 l
def be4 (s : Nat) : List Nat := [s / 16777216 % 256, s / 65536 % 256, s / 256 % 256, s % 256]
def sealL (l : List Nat) : List Nat := l ++ be4 (fsum l)
theorem stp_lt (s x : Nat) : stp s x < 4294967296 := Nat.mod_lt _ (by omega)
theorem fnv_lt (l : List Nat) : ∀ s, s < 4294967296 -> fnv s l < 4294967296 := by
 induction l with
 | nil => exact fun s h => h
 | cons x t ih => exact fun s h => ih _ (stp_lt s x)
theorem fsum_lt (l : List Nat) : fsum l < 4294967296 := fnv_lt l _ (by omega)
theorem be4_bytes (s : Nat) : ∀ x ∈ be4 s, x < 256 := by
 intro x hx
 simp only [be4, List.mem_cons, List.not_mem_nil, or_false] at hx
 omega
theorem seal_len (l : List Nat) : (sealL l).length = l.length + 4 := by simp [sealL, be4]
theorem seal_bytes {l : List Nat} (hl : ∀ x ∈ l, x < 256) : ∀ x ∈ sealL l, x < 256 := by
 intro x hx
 rcases List.mem_append.1 hx with h | h
 . exact hl x h
 . exact be4_bytes _ x h
end Go.Proofs.YtppibcambhmomaaDoor
namespace Go.Proofs.YtppibcambhmomaaDoor
set_option maxRecDepth 20000
open Go.ChangeShapes Go.WideShapes Go.ChangeAt Go.RowKit
set_option linter.unusedVariables false
set_option linter.unusedSimpArgs false
set_option maxHeartbeats 1000000 in
theorem sum_n {w : World} {a : Option Addr} {n c : Nat} {l : List Nat} (h : Hid (Sln w a n l)) :
  Calls Tryd.prog 43 #[.slice a n c] w fun e w' => e = .returned (.int .u32 ((fsum l : Nat) : Int)) /\ w' = w := by
 have m := h.out.sli.2.1
 have e := h.out.len
 rw [<- e] at m
 have hE : Hid (n = l.length) := e
 clear e
 have F0 : Hid (fnv 2166136261 (l.take 0) = 2166136261) := rfl
 go_enter Tryd.func43, Tryd.ntmps43
 go_wp2
 go_loop [3, 8] (fun ts ti => ∃ k s : Nat, k <= n /\ s < 4294967296 /\ Hid (fnv 2166136261 (l.take k) = s) /\ ts = .int .u32 s /\ ti = .int .i64 k) (fun _ ti => n - (intOf ti).toNat)
 case atStart => exact ⟨0, 2166136261, by omega, by omega, F0.out, rfl, rfl⟩
 case round =>
  obtain ⟨k, s, hk, hs, HS, rfl, rfl⟩ := hrel
  by_cases hlt : k < n
  . obtain ⟨b, off, rfl, c1⟩ := row_at h.out hlt
    obtain ⟨x, Hx⟩ := nm (l.getD k 0)
    have hx : x < 256 := by rw [<- Hx.out]; exact getD_lt h.out.lt k
    rw [Hx.out] at c1
    obtain ⟨y, Hy⟩ := nm (s ^^^ x)
    have hy : y < 4294967296 := by rw [<- Hy.out]; exact Nat.xor_lt_two_pow (n := 32) hs (by omega)
    have e1 : bits .xor .u32 (s : Int) (x : Int) = (y : Int) := by rw [u32_xor_nat s x hs (by omega), Hy.out]
    obtain ⟨z, Hz⟩ := nm (y * 16777619 % 4294967296)
    have hz : z < 4294967296 := by rw [<- Hz.out]; exact Nat.mod_lt _ (by omega)
    have e2 : (y : Int) * 16777619 % 4294967296 = (z : Int) := by have := Hz.out; omega
    have F1 : Hid (fnv 2166136261 (l.take (k + 1)) = z) := by
     rw [take_succ_getD (by rw [<- hE.out]; exact hlt), fnv_snoc, HS.out, Hx.out, stp, Hy.out]
     exact Hz.out
    clear hE HS Hx Hy Hz
    go_wp2
    go_round
    case rel => exact ⟨k + 1, z, by omega, hz, F1.out, by go_num, by go_num⟩
    case measure => simp [intOf]; omega
  . have ek : k = n := by omega
    have F1 : Hid (fsum l = s) := by
     rw [<- HS.out, ek, hE.out, List.take_length]; rfl
    clear hE HS
    go_wp2
    go_ret
    exact ⟨by rw [F1.out]; rfl, rfl⟩
def aL : List Nat := [97]
theorem Sln.take {w : World} {a : Option Addr} {n : Nat} {l : List Nat} (h : Sln w a n l) {k : Nat} (hk : k <= n) : Sln w a k (l.take k) := by
 have hl := h.len
 refine ⟨by simp; omega, fun x hx => h.lt x (List.mem_of_mem_take hx), by have := h.sli.2.1; simp; omega, ?_⟩
 by_cases hk0 : k = 0
 . subst hk0; exact .inl (by simp)
 . have hne : l ≠ [] := by intro h0; rw [h0] at hl; simp at hl; omega
   obtain ⟨b, off, h1, h2, h3⟩ := h.sli.2.2.resolve_left hne
   refine .inr ⟨b, off, h1, h2, fun i hi => ?_⟩
   have hi2 : i < k := by simp at hi; omega
   rw [h3 i (by simp at hi; omega)]
   have : (l.take k).getD i 0 = l.getD i 0 := by simp [List.getD, List.getElem?_take, hi2]
   rw [this]
theorem Own.cap {w : World} {B : Nat} {a : Option Addr} {n c : Nat} {L : List Nat} (h : Own w B a n c L) : n <= c := by
 rcases h.own.2 with ⟨h1, h0⟩ | ⟨g, cap, cur, h1, _, _, h5, _⟩
 . omega
 . simp only [Value.slice.injEq] at h1
   omega
theorem Own.below {w w' : World} {B : Nat} {a : Option Addr} {n c : Nat} {L : List Nat} (h : Own w B a n c L) (hb : Below w.heap.size w w') : Own w' B a n c L := h.block (fun q hq => hb.block q (h.ge q hq).2)
theorem Wri.below {w w' : World} {g B : Nat} {a : Option Addr} {n c : Nat} {L : List Nat} {s : Bool} (h : Wri w g B a n c L s) (hb : Below w.heap.size w w') : Wri w' g B a n c L s := ⟨(hb.block g h.lt).trans h.blk, h.own.below hb, h.ne⟩
abbrev wz : Obj := .cells #[.slice none 0 0,.bool false] 96
end Go.Proofs.YtppibcambhmomaaDoor
namespace Go.Proofs.YtppibcambhmomaaDoor
open Go.ChangeShapes Go.WideShapes Go.ChangeAt Go.RowKit
set_option maxRecDepth 20000
set_option linter.unusedVariables false
set_option linter.unusedSimpArgs false
def bl (s : ByteArray) : List Nat := s.data.toList.map UInt8.toNat
theorem bl_lt (s : ByteArray) : ∀ x ∈ bl s, x < 256 := by
 intro x hx
 obtain ⟨y, _, rfl⟩ := List.mem_map.1 hx
 exact UInt8.toNat_lt y
theorem bl_len (s : ByteArray) : (bl s).length = s.size := by
 unfold bl
 rw [List.length_map]
 rfl
theorem spell_bl (s : ByteArray) : spell (bl s) = s := by
 refine ByteArray.ext (Array.toList_inj.1 ?_)
 rw [spell_data]
 unfold bl
 rw [List.map_map]
 have h : (UInt8.ofNat ∘ UInt8.toNat) = id := by funext x; simp
 rw [h, List.map_id]
theorem wfr_alloc {w w' : World} {o : Obj} {g : Nat} {a : Option Addr} (h : Wfr (w.alloc o) w' g a) : Wfr w w' g a :=
 ⟨h.os, h.tape, h.output, Nat.le_trans (by simp) h.size, fun k hk h1 h2 => (h.block k (by simp; omega) h1 h2).trans ((alloc1 w o).block k hk)⟩
theorem new_alloc {w : World} {o : Obj} {a a' : Option Addr} (h : New (w.alloc o) a a') : New w a a' := fun q hq => (h q hq).imp id (fun h => by simp at h; omega)
structure Wb (w1 : World) (a0 : Option Addr) (W : World) (g2 g3 gW B : Nat) (bx : Array Value) (t3 : TypeId) (a : Option Addr) (n c : Nat) (L : List Nat) (m : Nat) : Prop where
 wri : Wri W gW B a n c L false
 k2 : W.heap[g2]? = some (.cells #[.pointer (some ⟨gW, 0, none⟩)] 70 (0, 0))
 k3 : W.heap[g3]? = some (.cells bx t3 (0, 0))
 ap : ∀ q, blkOf a = some q -> q ≠ g2 /\ q ≠ g3
 ne : g2 ≠ gW /\ g3 ≠ gW
 hB : B <= W.heap.size
 ln : n <= m
 fr : Wfr w1 W gW a0
 nw : New w1 a0 a
section
variable {w1 W W' : World} {a0 : Option Addr} {g2 g3 gW B : Nat} {bx : Array Value} {t3 : TypeId} {a a' : Option Addr} {n c n' c' : Nat} {L L' : List Nat} {m : Nat}
theorem Wb.c2 (h : Wb w1 a0 W g2 g3 gW B bx t3 a n c L m) : W.cell? ⟨g2, 0, none⟩ = some (.pointer (some ⟨gW, 0, none⟩)) := by simp [World.cell?, h.k2]
theorem Wb.c3 (h : Wb w1 a0 W g2 g3 gW B bx t3 a n c L m) (j : Nat) (v : Value) (hv : bx[j]? = some v) : W.cell? ⟨g3, j, none⟩ = some v := by simp [World.cell?, h.k3, hv]
theorem Wb.step (h : Wb w1 a0 W g2 g3 gW B bx t3 a n c L m) {m' : Nat} (hW : Wri W' gW B a' n' c' L' false) (hf : Wfr W W' gW a) (hn : New W a a') (hm : L'.length <= m') : Wb w1 a0 W' g2 g3 gW B bx t3 a' n' c' L' m' := by
 have l2 := (gl h.k2)
 have l3 := (gl h.k3)
 refine ⟨hW, (hf.block g2 l2 h.ne.1 (fun e => (h.ap g2 e.symm).1 rfl)).trans h.k2, (hf.block g3 l3 h.ne.2 (fun e => (h.ap g3 e.symm).2 rfl)).trans h.k3, fun q hq => ?_, h.ne, Nat.le_trans h.hB hf.size, by rw [hW.own.len]; exact hm, h.fr.trans hf h.nw, h.nw.trans hn h.fr.size⟩
 rcases hn q hq with h1 | h1
 . exact h.ap q h1
 . exact ⟨by omega, by omega⟩
theorem Wb.num {N : Nat} (h : Hid (Wb w1 a0 W g2 g3 gW B bx t3 a n c L m)) (hN : N < 9223372036854775808) (hm : m <= 100000000) : Calls Tryd.prog 35 #[.pointer (some ⟨gW, 0, none⟩),.int .i64 (N : Int)] W fun e W' => ∃ a' n' c', e = .returned (.tuple #[]) /\ Hid (Wb w1 a0 W' g2 g3 gW B bx t3 a' n' c' (L ++ enc N) (m + 9)) := by
 have k := h.out
 refine (num_n k.wri hN k.hB (by have := k.ln; show _ <= _; omega)).mono ?_
 rintro e W' ⟨a', n', c', h1, h2⟩
 refine ⟨a', n', c', h1, k.step h2.out.1 h2.out.2.1 h2.out.2.2 ?_⟩
 rw [List.length_append, <- k.wri.own.len]
 have := k.ln
 have := enc_nine hN
 omega
theorem Wb.text (s : ByteArray) (h : Hid (Wb w1 a0 W g2 g3 gW B bx t3 a n c L m)) (hs : s.size <= 1000) (hm : m <= 100000000) : Calls Tryd.prog 71 #[.pointer (some ⟨gW, 0, none⟩),.string s] W fun e W' => ∃ a' n' c', e = .returned (.tuple #[]) /\ Hid (Wb w1 a0 W' g2 g3 gW B bx t3 a' n' c' (L ++ (enc s.size ++ bl s)) (m + 1009)) := by
 have k := h.out
 have t := text_n (m := s.size) k.wri (bl_lt s) (bl_len s).symm k.hB (by have := k.ln; show _ <= _; omega)
 rw [spell_bl] at t
 refine t.mono ?_
 rintro e W' ⟨a', n', c', h1, h2⟩
 refine ⟨a', n', c', h1, k.step h2.out.1 h2.out.2.1 h2.out.2.2 ?_⟩
 rw [List.length_append, List.length_append, <- k.wri.own.len, bl_len]
 have := k.ln
 have := enc_nine (n := s.size) (by omega)
 omega
end
set_option maxHeartbeats 2000000 in
theorem wid_n {w : World} {gW B : Nat} {a : Option Addr} {n c : Nat} {L : List Nat} {X Y Z : Nat} (hW : Hid (Wri w gW B a n c L false)) (hX : X < 9223372036854775808) (hY : Y < 9223372036854775808) (hZ : Z < 9223372036854775808) (hB : Hid (B <= w.heap.size)) (hb : n <= 10000000) :
  Calls Tryd.prog 70 #[.agg #[.pointer (some ⟨gW, 0, none⟩)], .agg #[.int .i64 (X : Int),.int .i64 (Y : Int),.int .i64 (Z : Int)]] w fun e w' => ∃ a' n' c', e = .returned (.tuple #[]) /\ Hid (Wri w' gW B a' n' c' (L ++ (enc X ++ (enc Y ++ enc Z))) false /\ Wfr w w' gW a /\ New w a a') := by
 obtain ⟨g2, Hg2⟩ := nm (w.heap.size)
 obtain ⟨g3, Hg3⟩ := nm (w.heap.size + 1)
 obtain ⟨w1, Hw1⟩ := nm ((w.alloc (.cells #[.pointer (some ⟨gW, 0, none⟩)] 70)).alloc (.cells #[.int .i64 (X : Int),.int .i64 (Y : Int),.int .i64 (Z : Int)] 23))
 have S0 : Hid (Wb w1 a w1 g2 g3 gW B #[.int .i64 (X : Int),.int .i64 (Y : Int),.int .i64 (Z : Int)] 23 a n c L n) := by
  have b : Below w.heap.size w w1 := by rw [<- Hw1.out]; exact alloc2 w _ _
  have e2 := Hg2.out
  have e3 := Hg3.out
  have lt := hW.out.lt
  refine ⟨hW.out.below b, ?_, ?_, fun q hq => ?_, ⟨by omega, by omega⟩, Nat.le_trans hB.out b.size, Nat.le_refl _, Wfr.refl _ _ _, fun q hq => .inl hq⟩
  . rw [<- Hw1.out, <- Hg2.out]
    exact ((alloc1 _ _).block w.heap.size (by simp)).trans (heap_alloc_new w _)
  . rw [<- Hw1.out, <- Hg3.out]
    have h := heap_alloc_new (w.alloc (.cells #[.pointer (some ⟨gW, 0, none⟩)] 70)) (.cells #[.int .i64 (X : Int),.int .i64 (Y : Int),.int .i64 (Z : Int)] 23)
    simpa using h
  . have := (hW.out.own.ge q hq).2
    exact ⟨by omega, by omega⟩
 have F0 : Hid (∀ {w' : World} {a' : Option Addr}, Wfr w1 w' gW a -> New w1 a a' -> Wfr w w' gW a /\ New w a a') := fun {w' a'} h h2 => by
  rw [<- Hw1.out] at h h2
  exact ⟨wfr_alloc (wfr_alloc h), new_alloc (new_alloc h2)⟩
 have p0 := S0.out.c2
 have q0 := S0.out.c3 0 _ rfl
 go_enter Tryd.func70, Tryd.ntmps70
 go_upto_region 1 with (fail)
 rw [Hw1.out, Hg3.out, Hg2.out]
 go_upto_region 2 with (go_at_call 35; refine (Wb.num S0 hX (by omega)).mono ?_; rintro e w2 ⟨a2, n2, c2, rfl, S1⟩)
 clear p0 q0
 have p0 := S1.out.c2
 have q1 := S1.out.c3 1 _ rfl
 go_upto_region 3 with (go_at_call 35; refine (Wb.num S1 hY (by omega)).mono ?_; rintro e w3 ⟨a3, n3, c3, rfl, S2⟩)
 clear p0 q1
 have p0 := S2.out.c2
 have q2 := S2.out.c3 2 _ rfl
 go_wp2_with (go_at_call 35; refine (Wb.num S2 hZ (by omega)).mono ?_; rintro e w4 ⟨a4, n4, c4, rfl, S3⟩)
 go_end0
 have h := S3.out
 rw [List.append_assoc, List.append_assoc] at h
 exact ⟨a4, n4, c4, rfl, h.wri, F0.out h.fr h.nw⟩
section
variable {w1 W W' : World} {a0 : Option Addr} {g2 g3 gW B : Nat} {bx : Array Value} {t3 : TypeId} {a a' : Option Addr} {n c n' c' : Nat} {L L' : List Nat} {m : Nat}
theorem Wb.id {X Y Z : Nat} (h : Hid (Wb w1 a0 W g2 g3 gW B bx t3 a n c L m)) (hX : X < 9223372036854775808) (hY : Y < 9223372036854775808) (hZ : Z < 9223372036854775808) (hm : m <= 10000000) : Calls Tryd.prog 70 #[.agg #[.pointer (some ⟨gW, 0, none⟩)], .agg #[.int .i64 (X : Int),.int .i64 (Y : Int),.int .i64 (Z : Int)]] W fun e W' => ∃ a' n' c', e = .returned (.tuple #[]) /\ Hid (Wb w1 a0 W' g2 g3 gW B bx t3 a' n' c' (L ++ (enc X ++ (enc Y ++ enc Z))) (m + 27)) := by
 have k := h.out
 refine (wid_n k.wri hX hY hZ k.hB (by have := k.ln; omega)).mono ?_
 rintro e W' ⟨a', n', c', h1, h2⟩
 refine ⟨a', n', c', h1, k.step h2.out.1 h2.out.2.1 h2.out.2.2 ?_⟩
 simp only [List.length_append]
 rw [<- k.wri.own.len]
 have := k.ln
 have := enc_nine hX
 have := enc_nine hY
 have := enc_nine hZ
 omega
end
end Go.Proofs.YtppibcambhmomaaDoor
