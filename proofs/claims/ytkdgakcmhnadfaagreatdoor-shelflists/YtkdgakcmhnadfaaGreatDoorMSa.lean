import Derived.Test.YtkdgakcmhnadfaaGreatDoorMBa
import Derived.Deep.WholeRow
import Derived.Deep.MidRow
import Derived.StillTailTactics
/- Sa -/
/- The digest SHA-256 on plain numbers, and what the turning of a word does to a machine, for all words. -/
namespace Go.Proofs.YtkdgakcmhnadfaaGreatDoor
open Go.ChangeShapes Go.WideShapes Go.ChangeAt Go.RowKit
set_option linter.unusedVariables false
set_option linter.unusedSimpArgs false
namespace Gs
def M : Nat := 4294967296
def rot (n x : Nat) : Nat := (x * 2 ^ (32 - n) % 4294967296) ||| (x / 2 ^ n)
def add (a b : Nat) : Nat := (a + b) % 4294967296
def s0 (x : Nat) : Nat := rot 7 x ^^^ rot 18 x ^^^ (x / 8)
def s1 (x : Nat) : Nat := rot 17 x ^^^ rot 19 x ^^^ (x / 1024)
def word (a b c d : Nat) : Nat := a * 16777216 + b * 65536 + c * 256 + d
def nextW (l : List Nat) : Nat := add (add (add (l.getD (l.length - 16) 0) (s0 (l.getD (l.length - 15) 0))) (l.getD (l.length - 7) 0)) (s1 (l.getD (l.length - 2) 0))
def firstW (b : List Nat) : Nat → List Nat
  | 0 => []
  | n + 1 => firstW b n ++ [word (b.getD (4 * n) 0) (b.getD (4 * n + 1) 0) (b.getD (4 * n + 2) 0) (b.getD (4 * n + 3) 0)]
def schedN (b : List Nat) : Nat → List Nat
  | 0 => firstW b 16
  | n + 1 => schedN b n ++ [nextW (schedN b n)]
def sched (b : List Nat) : List Nat := schedN b 48
structure St where
  a : Nat
  b : Nat
  c : Nat
  d : Nat
  e : Nat
  f : Nat
  g : Nat
  h : Nat
def choice (e f g : Nat) : Nat := (e &&& f) ^^^ ((4294967295 - e) &&& g)
def most (a b c : Nat) : Nat := ((a &&& b) ^^^ (a &&& c)) ^^^ (b &&& c)
def t1 (s : St) (k w : Nat) : Nat := add (add (add (add s.h ((rot 6 s.e ^^^ rot 11 s.e) ^^^ rot 25 s.e)) (choice s.e s.f s.g)) k) w
def t2 (s : St) : Nat := add ((rot 2 s.a ^^^ rot 13 s.a) ^^^ rot 22 s.a) (most s.a s.b s.c)
def step (s : St) (k w : Nat) : St := ⟨add (t1 s k w) (t2 s), s.a, s.b, s.c, add s.d (t1 s k w), s.e, s.f, s.g⟩
def K : List Nat := [
  0x428a2f98, 0x71374491, 0xb5c0fbcf, 0xe9b5dba5, 0x3956c25b, 0x59f111f1, 0x923f82a4, 0xab1c5ed5,
  0xd807aa98, 0x12835b01, 0x243185be, 0x550c7dc3, 0x72be5d74, 0x80deb1fe, 0x9bdc06a7, 0xc19bf174,
  0xe49b69c1, 0xefbe4786, 0x0fc19dc6, 0x240ca1cc, 0x2de92c6f, 0x4a7484aa, 0x5cb0a9dc, 0x76f988da,
  0x983e5152, 0xa831c66d, 0xb00327c8, 0xbf597fc7, 0xc6e00bf3, 0xd5a79147, 0x06ca6351, 0x14292967,
  0x27b70a85, 0x2e1b2138, 0x4d2c6dfc, 0x53380d13, 0x650a7354, 0x766a0abb, 0x81c2c92e, 0x92722c85,
  0xa2bfe8a1, 0xa81a664b, 0xc24b8b70, 0xc76c51a3, 0xd192e819, 0xd6990624, 0xf40e3585, 0x106aa070,
  0x19a4c116, 0x1e376c08, 0x2748774c, 0x34b0bcb5, 0x391c0cb3, 0x4ed8aa4a, 0x5b9cca4f, 0x682e6ff3,
  0x748f82ee, 0x78a5636f, 0x84c87814, 0x8cc70208, 0x90befffa, 0xa4506ceb, 0xbef9a3f7, 0xc67178f2]
def rounds (W : List Nat) (s : St) : Nat → St
  | 0 => s
  | n + 1 => step (rounds W s n) (K.getD n 0) (W.getD n 0)
def ofL (l : List Nat) : St := ⟨l.getD 0 0, l.getD 1 0, l.getD 2 0, l.getD 3 0, l.getD 4 0, l.getD 5 0, l.getD 6 0, l.getD 7 0⟩
def toL (s : St) : List Nat := [s.a, s.b, s.c, s.d, s.e, s.f, s.g, s.h]
def addL (s : List Nat) (r : St) : List Nat := [add (s.getD 0 0) r.a, add (s.getD 1 0) r.b, add (s.getD 2 0) r.c, add (s.getD 3 0) r.d, add (s.getD 4 0) r.e, add (s.getD 5 0) r.f, add (s.getD 6 0) r.g, add (s.getD 7 0) r.h]
def after (s b : List Nat) : List Nat := addL s (rounds (sched b) (ofL s) 64)
def start : List Nat := [0x6a09e667, 0xbb67ae85, 0x3c6ef372, 0xa54ff53a, 0x510e527f, 0x9b05688c, 0x1f83d9ab, 0x5be0cd19]
/- the words as bytes, the highest first -/
def bytesW (x : Nat) : List Nat := [x / 16777216 % 256, x / 65536 % 256, x / 256 % 256, x % 256]
def digestN (s : List Nat) : Nat → List Nat
  | 0 => []
  | n + 1 => digestN s n ++ bytesW (s.getD n 0)
def digest (s : List Nat) : List Nat := digestN s 8
/- the number of bits, in the last eight places of a block -/
def countN (b : List Nat) (c : Nat) : Nat → List Nat
  | 0 => b
  | n + 1 => (countN b c n).set (63 - n) (c / 256 ^ n % 256)
def counting (b : List Nat) (len : Nat) : List Nat := countN b (len * 8 % 18446744073709551616) 8
def pad (l : List Nat) : List Nat := l ++ List.replicate (64 - l.length) 0
/- the state behind the filled blocks among the first n, and what is left -/
def wordsN (l : List Nat) : Nat → List Nat
  | 0 => start
  | n + 1 => after (wordsN l n) ((l.drop (64 * n)).take 64)
def words (l : List Nat) : List Nat := wordsN l (l.length / 64)
def rest (l : List Nat) : List Nat := pad (l.drop (64 * (l.length / 64)))
def sum (l : List Nat) : List Nat :=
  if l.length % 64 < 56 then digest (after (words l) (counting ((rest l).set (l.length % 64) 128) l.length))
  else digest (after (after (words l) ((rest l).set (l.length % 64) 128)) (counting (pad []) l.length))
theorem rot_lt (n x : Nat) (hx : x < 4294967296) : rot n x < 4294967296 := by
  have h1 : x * 2 ^ (32 - n) % 4294967296 < 2 ^ 32 := Nat.mod_lt _ (by decide)
  have h2 : x / 2 ^ n < 2 ^ 32 := Nat.lt_of_le_of_lt (Nat.div_le_self _ _) hx
  exact Nat.or_lt_two_pow h1 h2
theorem xor_lt {a b : Nat} (ha : a < 4294967296) (hb : b < 4294967296) : a ^^^ b < 4294967296 := Nat.xor_lt_two_pow (n := 32) ha hb
theorem and_lt {a b : Nat} (ha : a < 4294967296) : a &&& b < 4294967296 := Nat.lt_of_le_of_lt Nat.and_le_left ha
theorem add_lt (a b : Nat) : add a b < 4294967296 := Nat.mod_lt _ (by decide)
theorem s0_lt {x : Nat} (hx : x < 4294967296) : s0 x < 4294967296 := xor_lt (xor_lt (rot_lt _ _ hx) (rot_lt _ _ hx)) (Nat.lt_of_le_of_lt (Nat.div_le_self _ _) hx)
theorem s1_lt {x : Nat} (hx : x < 4294967296) : s1 x < 4294967296 := xor_lt (xor_lt (rot_lt _ _ hx) (rot_lt _ _ hx)) (Nat.lt_of_le_of_lt (Nat.div_le_self _ _) hx)
theorem abc : (sum [97, 98, 99]).take 4 = [186, 120, 22, 191] := by decide +kernel
end Gs
theorem and31 : ∀ n : Nat, n < 32 → 0 < n → bits BinOp.and IntKind.u64 (IntKind.u64.wrap (-(n : Int))) 31 = ((32 - n : Nat) : Int) := by decide +kernel
theorem turn_n (x n : Nat) (hx : x < 4294967296) (hn0 : 0 < n) (hn : n < 32) (w : World) :
    Calls Tryz.prog 196 #[.int .u32 (x : Int), .int .i64 (n : Int)] w fun e w' => e = .returned (.int .u32 (Gs.rot n x : Nat)) ∧ w' = w := by
  have hs := and31 n hn hn0
  obtain ⟨m, hm⟩ : ∃ m, m = 32 - n := ⟨_, rfl⟩
  rw [← hm] at hs
  have hm0 : 0 < m := by omega
  have hm1 : m < 32 := by omega
  have Hm : Hid (m = 32 - n) := hm
  clear hm
  go_enter Tryz.func196, Tryz.ntmps196
  go_wp2
  go_ret
  refine ⟨ret_int ?_, rfl⟩
  have hm := Hm.out
  have hn2 : 32 - m = n := by omega
  have h1 := u32_or_nat (x * 2 ^ m % 4294967296) (x / 2 ^ (32 - m)) (Nat.mod_lt _ (by decide)) (Nat.lt_of_le_of_lt (Nat.div_le_self _ _) hx)
  unfold Gs.rot
  rw [← hm, ← hn2]
  have e1 : ((x * 2 ^ m % 4294967296 : Nat) : Int) = (x : Int) * 2 ^ m % 4294967296 := by simp
  have e2 : ((x / 2 ^ (32 - m) : Nat) : Int) = (x : Int) / 2 ^ (32 - m) := by simp
  rw [e1, e2] at h1
  exact h1
theorem turn_z (x n : Nat) (z : Int) (hz : z = (n : Int)) (hx : x < 4294967296) (hn0 : 0 < n) (hn : n < 32) (w : World) :
    Calls Tryz.prog 196 #[.int .u32 (x : Int), .int .i64 z] w fun e w' => e = .returned (.int .u32 (Gs.rot n x : Nat)) ∧ w' = w := by
  subst hz
  exact turn_n x n hx hn0 hn w
theorem xor_nat {a b : Nat} (ha : a < 4294967296) (hb : b < 4294967296) : bits BinOp.xor IntKind.u32 (a : Int) (b : Int) = ((a ^^^ b : Nat) : Int) := u32_xor_nat a b ha hb
theorem s0_bits {x : Nat} (hx : x < 4294967296) : bits BinOp.xor IntKind.u32 (bits BinOp.xor IntKind.u32 ((Gs.rot 7 x : Nat) : Int) ((Gs.rot 18 x : Nat) : Int)) ((x : Int) / 8) = ((Gs.s0 x : Nat) : Int) := by
  have e : (x : Int) / 8 = ((x / 8 : Nat) : Int) := by simp
  rw [e, xor_nat (Gs.rot_lt _ _ hx) (Gs.rot_lt _ _ hx), xor_nat (Gs.xor_lt (Gs.rot_lt _ _ hx) (Gs.rot_lt _ _ hx)) (by omega)]
  rfl
theorem s1_bits {x : Nat} (hx : x < 4294967296) : bits BinOp.xor IntKind.u32 (bits BinOp.xor IntKind.u32 ((Gs.rot 17 x : Nat) : Int) ((Gs.rot 19 x : Nat) : Int)) ((x : Int) / 1024) = ((Gs.s1 x : Nat) : Int) := by
  have e : (x : Int) / 1024 = ((x / 1024 : Nat) : Int) := by simp
  rw [e, xor_nat (Gs.rot_lt _ _ hx) (Gs.rot_lt _ _ hx), xor_nat (Gs.xor_lt (Gs.rot_lt _ _ hx) (Gs.rot_lt _ _ hx)) (by omega)]
  rfl
theorem add_wrap (a b : Nat) : IntKind.u32.wrap ((a : Int) + (b : Int)) = ((Gs.add a b : Nat) : Int) := by
  rw [IntKind.wrap_u32']
  unfold Gs.add
  omega
end Go.Proofs.YtkdgakcmhnadfaaGreatDoor

/- Sb -/
/- Arrays of numbers in memory, whole and cell by cell. -/
namespace Go.Proofs.YtkdgakcmhnadfaaGreatDoor
open Go.ChangeShapes Go.WideShapes Go.ChangeAt Go.RowKit
set_option linter.unusedVariables false
set_option linter.unusedSimpArgs false
def wv (k : IntKind) (x : Nat) : Value := .int k (x : Int)
/- the cells of an array of numbers -/
def cs (k : IntKind) (l : List Nat) : Array Value := (l.map (wv k)).toArray
theorem cs_size (k : IntKind) (l : List Nat) : (cs k l).size = l.length := by simp [cs]
theorem cs_one (k : IntKind) (l : List Nat) : (cs k l).all (·.oneCell') = true := by
  simp [cs, Array.all_eq_true, wv, Value.oneCell']
/- block g is an array of type t with the numbers l, none of them frozen -/
def Arr (k : IntKind) (t : TypeId) (w : World) (g : Nat) (l : List Nat) : Prop := w.heap[g]? = some (.cells (cs k l) t (0, 0))
section
variable {k : IntKind} {t : TypeId} {w w' : World} {g : Nat} {l : List Nat}
theorem Arr.cell (h : Arr k t w g l) {i : Nat} (hi : i < l.length) : w.cell? ⟨g, i, none⟩ = some (.int k (l.getD i 0 : Nat)) := by
  unfold Arr at h
  simp [World.cell?, h, hi, wv, cs]
theorem Arr.frozen (h : Arr k t w g l) (i : Nat) : w.frozen? ⟨g, i, none⟩ = false := by
  unfold Arr at h
  simp [World.frozen?, h]
theorem Arr.lt (h : Arr k t w g l) : g < w.heap.size := (Array.getElem?_eq_some_iff.1 h).1
theorem Arr.set (h : Arr k t w g l) (i x : Nat) : Arr k t (w.setCell ⟨g, i, none⟩ (.int k (x : Nat))) g (l.set i x) := by
  have h0 : w.heap[g]? = some (.cells (cs k l) t (0, 0)) := h
  rw [setCell_eq_setRow w g i _ t (0, 0) _ h0]
  have h1 := setRow_heap w g _ ((cs k l).setIfInBounds i (.int k (x : Nat))) t (0, 0) h0
  unfold Arr
  rw [h1]
  simp [List.map_set, wv, cs]
theorem Arr.below {B : Nat} (h : Arr k t w g l) (hb : Below B w w') (hg : g < B) : Arr k t w' g l := (hb.block g hg).trans h
theorem Arr.oth {j : Nat} (h : Arr k t w g l) (hb : Oth j w w') (hg : g ≠ j) : Arr k t w' g l := (hb.block g hg).trans h
theorem Arr.drewN (h : Arr k t w g l) (n : Nat) : Arr k t (w.drewN n) g l := h
theorem Arr.alloc (h : Arr k t w g l) (o : Obj) : Arr k t (w.alloc o) g l := (Below.heap_alloc w o g h.lt).trans h
theorem Arr.new (w : World) (k : IntKind) (t : TypeId) (l : List Nat) : Arr k t (w.alloc (.cells (cs k l) t)) w.heap.size l := heap_alloc_new w _
theorem Arr.setRow (h : Arr k t w g l) (l2 : List Nat) : Arr k t (w.setRow g (cs k l2)) g l2 := setRow_heap w g _ _ t (0, 0) h
theorem Arr.setRow_ne (h : Arr k t w g l) {j : Nat} (c : Array Value) (hj : g ≠ j) : Arr k t (w.setRow j c) g l := by
  unfold Arr
  rw [setRow_other w j g c hj]
  exact h
end
theorem info65 : (Tryz.prog.info? 261).map (fun i => (i.zero, i.size)) = some (some (.agg (cs .u32 (List.replicate 64 0))), 64) := by kernel_rfl
theorem info56 : (Tryz.prog.info? 240).map (fun i => (i.zero, i.size)) = some (some (.agg (cs .u8 (List.replicate 64 0))), 64) := by kernel_rfl
theorem info53 : (Tryz.prog.info? 237).map (fun i => (i.zero, i.size)) = some (some (.agg (cs .u32 (List.replicate 8 0))), 8) := by kernel_rfl
theorem info25 : (Tryz.prog.info? 89).map (fun i => (i.zero, i.size)) = some (some (.agg (cs .u8 (List.replicate 32 0))), 32) := by kernel_rfl
theorem three (w : World) (o1 o2 o3 : Obj) : (((w.alloc o1).alloc o2).alloc o3).heap[w.heap.size]? = some o1 ∧ (((w.alloc o1).alloc o2).alloc o3).heap[w.heap.size + 1]? = some o2 ∧ (((w.alloc o1).alloc o2).alloc o3).heap[w.heap.size + 1 + 1]? = some o3 := by
  have e1 : (w.alloc o1).heap.size = w.heap.size + 1 := by simp
  have e2 : ((w.alloc o1).alloc o2).heap.size = w.heap.size + 1 + 1 := by simp
  refine ⟨?_, ?_, ?_⟩
  · rw [Below.heap_alloc _ _ _ (by omega), Below.heap_alloc _ _ _ (by omega), heap_alloc_new]
  · rw [Below.heap_alloc _ _ _ (by omega), ← e1, heap_alloc_new]
  · rw [← e2, heap_alloc_new]
theorem below3 (w : World) (o1 o2 o3 : Obj) : Below w.heap.size w (((w.alloc o1).alloc o2).alloc o3) := by
  have h1 := (Below.refl w.heap.size w).alloc (Nat.le_refl _) o1
  have h2 := h1.alloc h1.size o2
  exact h2.alloc h2.size o3
theorem und65 : ∃ d, Tryz.prog.underlying 261 = some d ∧ d.isRow = true := ⟨_, Tryz.underlying261, rfl⟩
theorem und56 : ∃ d, Tryz.prog.underlying 240 = some d ∧ d.isRow = true := ⟨_, Tryz.underlying240, rfl⟩
theorem und53 : ∃ d, Tryz.prog.underlying 237 = some d ∧ d.isRow = true := ⟨_, Tryz.underlying237, rfl⟩
theorem und25 : ∃ d, Tryz.prog.underlying 89 = some d ∧ d.isRow = true := ⟨_, Tryz.underlying89, rfl⟩
theorem sz65 : (Tryz.prog.info? 261).map (·.size) = some 64 := by kernel_rfl
theorem sz56 : (Tryz.prog.info? 240).map (·.size) = some 64 := by kernel_rfl
theorem sz53 : (Tryz.prog.info? 237).map (·.size) = some 8 := by kernel_rfl
theorem sz25 : (Tryz.prog.info? 89).map (·.size) = some 32 := by kernel_rfl
/- the numbers l lie in block g from offset o on -/
def Rng (k : IntKind) (w : World) (g o : Nat) (l : List Nat) : Prop := w.rangeAt g o (l.map (wv k))
theorem Arr.rng {k : IntKind} {t : TypeId} {w : World} {g : Nat} {l : List Nat} (h : Arr k t w g l) : Rng k w g 0 l := by
  intro j v hv
  obtain ⟨hj, he⟩ := List.getElem?_eq_some_iff.1 hv
  have hj2 : j < l.length := by simpa using hj
  rw [Nat.zero_add, h.cell hj2, ← he]
  simp [wv, List.getD, hj2]
theorem Arr.there {k : IntKind} {t : TypeId} {w : World} {g : Nat} {l : List Nat} (h : Arr k t w g l) : w.there g 0 l.length := by
  intro j hj
  rw [Nat.zero_add, h.cell hj]
  exact ⟨rfl, h.frozen j⟩
/- a load of a whole array, at a list of operations -/
theorem wpList_ld {ops : Array Oper} {rest : List Oper} {o : Oper} {a : Act} {Q : Exit → Act → World → Prop} {w : World} {k : IntKind} {g off : Nat} {l : List Nat} (hgd : o.guard = none) (ty : TypeId) (x : Operand)
    (ho : o.op = .load ty x) (hx : a.eval x = .pointer (some ⟨g, off, none⟩)) (hr : Hid (Rng k w g off l)) (hu : ∃ d, Tryz.prog.underlying ty = some d ∧ d.isRow = true) (hi : (Tryz.prog.info? ty).map (·.size) = some l.length)
    (h : wpList Tryz.prog ops Q rest (a.put o.dst (.agg (cs k l))) w) : wpList Tryz.prog ops Q (o :: rest) a w := by
  obtain ⟨d, h1, h2⟩ := hu
  exact wpList_load_mid hgd ty x ho g off hx (l.map (wv k)) d hr.out h1 h2 (by rw [hi]; simp) h
/- a store of a whole array into a block of its own -/
theorem wpList_st {ops : Array Oper} {rest : List Oper} {o : Oper} {a : Act} {Q : Exit → Act → World → Prop} {w : World} {k : IntKind} {t : TypeId} {g : Nat} {l l2 : List Nat} (hgd : o.guard = none) (ty : TypeId) (x y : Operand)
    (ho : o.op = .store ty x y) (hx : a.eval x = .pointer (some ⟨g, 0, none⟩)) (hy : a.eval y = .agg (cs k l2)) (hr : Hid (Arr k t w g l)) (hi : (Tryz.prog.info? ty).map (·.size) = some l2.length) (hl : l.length = l2.length)
    (h : wpList Tryz.prog ops Q rest (a.put o.dst undef) (w.setRow g (cs k l2))) : wpList Tryz.prog ops Q (o :: rest) a w := by
  refine wpList_store_row hgd ty x y ho g (cs k l2) hx hy t (cs k l) hr.out (by rw [hi, cs_size]) (by rw [cs_size, cs_size, hl]) (cs_one _ _) h
/- an array handed back -/
theorem res_arr {fn : Func} {p : Tmp} {ty : TypeId} (hf : fn.results = #[.cell p ty]) {tmps : Array Value} {w : World} {g : Nat} {k : IntKind} {t : TypeId} {l : List Nat} (hp : tmps.getD p undef = .pointer (some ⟨g, 0, none⟩)) (hr : Arr k t w g l)
    (hu : ∃ d, Tryz.prog.underlying ty = some d ∧ d.isRow = true) (hi : (Tryz.prog.info? ty).map (·.size) = some l.length) : (results fn tmps).run Tryz.prog w = .ok (.agg (cs k l)) w := by
  obtain ⟨d, h1, h2⟩ := hu
  exact results_cell_row hf tmps w g t (cs k l) (0, 0) d hp hr h1 (by cases d <;> simp_all [TypeDesc.isRow]) (by rw [hi, cs_size])
theorem Oth.setRow {g : Nat} {w : World} (c : Array Value) : Oth g w (w.setRow g c) := ⟨rfl, rfl, rfl, by simp, fun k hk => setRow_other w g k c hk⟩
end Go.Proofs.YtkdgakcmhnadfaaGreatDoor
