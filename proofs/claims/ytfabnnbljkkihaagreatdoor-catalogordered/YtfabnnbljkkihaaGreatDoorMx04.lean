import Derived.Test.YtfabnnbljkkihaaGreatDoorMxp
import Derived.Test.YtfabnnbljkkihaaGreatDoorProg
import Derived.WalkKit
import Derived.ProofKit
import Derived.OpenShut
import Derived.Outline
import Derived.Handy
import Derived.Laws.BitsAllLaws
import Derived.Deep.QuietTactic
import Derived.BigQuiet
import Derived.WalkSmall
import Derived.Laws.Tables
import Derived.Laws.CopyOwn
import Derived.SizedLaws
import Derived.ChangeOld
import Derived.Below
import Derived.Lib.SmallJoins
import Derived.Deep.WholeRow
import Derived.Deep.MidRow
import Derived.StillTailTactics
namespace Go.Proofs.YtfabnnbljkkihaaGreatDoor.Sh
open Go.ChangeShapes Go.WideShapes Go.ChangeAt Go.RowKit
set_option linter.unusedVariables false
set_option linter.unusedSimpArgs false
theorem ret_int {k : IntKind} {a b : Int} (h : a = b) : Ending.returned (.int k a) = .returned (.int k b) := by rw [h]
def Row (w : World) (b off : Nat) (l : List Nat) : Prop := ∀ i, i < l.length -> w.cell? ⟨b, off + i, none⟩ = some (.int .u8 (l.getD i 0 : Nat))
theorem getD_lt {l : List Nat} (h : ∀ x ∈ l, x < 256) (i : Nat) : l.getD i 0 < 256 := by
 by_cases hi : i < l.length
 . have e : l.getD i 0 = l[i] := by simp [List.getD, hi]
   rw [e]; exact h _ (List.getElem_mem hi)
 . have e : l.getD i 0 = 0 := by simp [List.getD, Nat.le_of_not_lt hi]
   omega
def bv (x : Nat) : Value := .int .u8 (x : Int)
def Blk (w : World) (g : Nat) (l : List Nat) : Prop := w.heap[g]? = some (.cells (l.map bv).toArray 5 (0, 0))
structure Oth (g : Nat) (w w' : World) : Prop where
 os : w'.os = w.os
 tape : w'.tape = w.tape
 output : w'.output = w.output
 size : w'.heap.size = w.heap.size
 block : ∀ k, k ≠ g -> w'.heap[k]? = w.heap[k]?
theorem Oth.refl (g : Nat) (w : World) : Oth g w w := ⟨rfl, rfl, rfl, rfl, fun _ _ => rfl⟩
theorem Oth.trans {g : Nat} {a b c : World} (h : Oth g a b) (k : Oth g b c) : Oth g a c :=
 ⟨k.os.trans h.os, k.tape.trans h.tape, k.output.trans h.output, k.size.trans h.size, fun i hi => (k.block i hi).trans (h.block i hi)⟩
theorem Oth.drewN {g : Nat} {a w : World} (h : Oth g a w) (n : Nat) : Oth g a (w.drewN n) := h.trans ⟨rfl, rfl, rfl, rfl, fun _ _ => rfl⟩
theorem Oth.setCell {g : Nat} {a w : World} (h : Oth g a w) (i : Nat) (v : Value) : Oth g a (w.setCell ⟨g, i, none⟩ v) :=
 h.trans ⟨rfl, rfl, rfl, by simp [World.setCell], fun _ hk => Below.heap_setCell _ _ _ _ hk⟩
theorem Oth.below {B g : Nat} {w0 w w' : World} (hb : Below B w0 w) (h : Oth g w w') (hg : B <= g) : Below B w0 w' :=
 hb.trans ⟨h.os, h.tape, h.output, Nat.le_of_eq h.size.symm, fun k hk => h.block k (by omega)⟩
theorem Blk.cell {w : World} {g : Nat} {l : List Nat} (h : Blk w g l) {i : Nat} (hi : i < l.length) : w.cell? ⟨g, i, none⟩ = some (.int .u8 (l.getD i 0 : Nat)) := by
 unfold Blk at h
 simp [World.cell?, h, hi, bv]
theorem Blk.lt {w : World} {g : Nat} {l : List Nat} (h : Blk w g l) : g < w.heap.size := (gl h)
theorem Blk.row {w : World} {g : Nat} {l : List Nat} (h : Blk w g l) : Row w g 0 l := fun i hi => by rw [Nat.zero_add]; exact h.cell hi
def Sli (w : World) (a : Option Addr) (l : List Nat) : Prop := (∀ x ∈ l, x < 256) /\ l.length <= 140737488352256 /\ (l = [] ∨ ∃ b off, a = some ⟨b, off, none⟩ /\ b < w.heap.size /\ Row w b off l)
theorem Sli.below {w w' : World} {a : Option Addr} {l : List Nat} (h : Sli w a l) (hb : Below w.heap.size w w') : Sli w' a l := by
 refine ⟨h.1, h.2.1, ?_⟩
 rcases h.2.2 with h0 | ⟨b, off, rfl, hl, hr⟩
 . exact .inl h0
 . exact .inr ⟨b, off, rfl, Nat.lt_of_lt_of_le hl hb.size, fun i hi => (hb.cell (p := ⟨b, off + i, none⟩) hl).trans (hr i hi)⟩
theorem Blk.sli {w : World} {g : Nat} {l : List Nat} (h : Blk w g l) (h1 : ∀ x ∈ l, x < 256) (h2 : l.length <= 140737488352256) : Sli w (some ⟨g, 0, none⟩) l :=
 ⟨h1, h2, .inr ⟨g, 0, rfl, h.lt, h.row⟩⟩
def spell (l : List Nat) : ByteArray := (l.map fun x : Nat => (x : Int)).foldl (fun r n => r.push (UInt8.ofNat n.toNat)) ByteArray.empty
def ext (l : List Nat) (n : Nat) : List Nat := l ++ List.replicate (n - l.length) 0
theorem ext_length (l : List Nat) (n : Nat) (h : l.length <= n) : (ext l n).length = n := by simp [ext]; omega
theorem info5 : (Tryz.prog.info? 5).map (fun i => (i.zero, i.size, i.bytes)) = some (some (.int .u8 0), 1, 1) := by kernel_rfl
theorem size5 : (Tryz.prog.info? 5).map (·.size) = some 1 := by kernel_rfl
structure Sln (w : World) (a : Option Addr) (n : Nat) (l : List Nat) : Prop where
 len : n = l.length
 sli : Sli w a l
theorem Sln.below {w w' : World} {a : Option Addr} {n : Nat} {l : List Nat} (h : Sln w a n l) (hb : Below w.heap.size w w') : Sln w' a n l := ⟨h.len, h.sli.below hb⟩
theorem Sln.drewN {w : World} {a : Option Addr} {n : Nat} {l : List Nat} (h : Sln w a n l) (k : Nat) : Sln (w.drewN k) a n l := h.below (below_drewN (Below.refl _ _) k)
theorem Sln.drew {w : World} {a : Option Addr} {n : Nat} {l : List Nat} (h : Sln w a n l) : Sln w.drew a n l := h.drewN 1
theorem Sln.lt {w : World} {a : Option Addr} {n : Nat} {l : List Nat} (h : Sln w a n l) : ∀ x ∈ l, x < 256 := h.sli.1
theorem Blk.sln {w : World} {g : Nat} {l : List Nat} (h : Blk w g l) (h1 : ∀ x ∈ l, x < 256) (h2 : l.length <= 140737488352256) : Sln w (some ⟨g, 0, none⟩) l.length l := ⟨rfl, h.sli h1 h2⟩
theorem conv_n {a : Option Addr} {n k : Nat} {l : List Nat} {w : World} (h : Hid (Sln w a n l)) : (convert 165 9 (.slice a n k)).run Tryz.prog w = .ok (.string (spell l)) w := by
 rw [run_convert_bytes_string w 165 9 5 a n k Tryz.underlying165 Tryz.underlying5 Tryz.underlying9]
 have e := h.out.len
 by_cases g : l = []
 . subst g
   have e0 : n = 0 := e
   subst e0
   cases a with
   | none => simp [Conv.bytesToString, spell, Sem.run_pure]
   | some a =>
     have hl : (loadCells a 0).run Tryz.prog w = .ok (([] : List Int).map (Value.int .u8)).toArray w := by simpa using run_loadCells_list (P := Tryz.prog) w a [] (by simp)
     exact run_bytesToString w a 0 k [] hl
 . obtain ⟨b, off, rfl, _, r⟩ := h.out.sli.2.2.resolve_left g
   have hl : (loadCells ⟨b, off, none⟩ n).run Tryz.prog w = .ok ((l.map fun x : Nat => (x : Int)).map (Value.int .u8)).toArray w := by
    have h0 := run_loadCells_list (P := Tryz.prog) w ⟨b, off, none⟩ ((l.map fun x : Nat => (x : Int)).map (Value.int .u8)) (fun j v hv => by
     simp at hv
     obtain ⟨x, hx, rfl⟩ := hv
     obtain ⟨hj, _⟩ := List.getElem?_eq_some_iff.1 hx
     have h4 := r j hj
     have h5 : l.getD j 0 = x := by simp [hx]
     rw [h5] at h4
     rw [show (⟨b, off, none⟩ : Addr).add j = ⟨b, off + j, none⟩ from by simp [Addr.add]]
     exact h4)
    have e3 : ((l.map fun x : Nat => (x : Int)).map (Value.int .u8)).length = n := by simp [e]
    rw [e3] at h0
    exact h0
   exact run_bytesToString w ⟨b, off, none⟩ n k _ hl
theorem cell_lt {w : World} {b off : Nat} {v : Value} (h : w.cell? ⟨b, off, none⟩ = some v) : b < w.heap.size := by
 unfold World.cell? at h
 rcases hb : w.heap[b]? with _ | o
 . simp [hb] at h
 . exact (gl hb)
def marks : List Nat := [201, 202, 203, 204, 205, 206]
theorem map_cells {w : World} {b off : Nat} {l : List Nat} (r : Row w b off l) : ∀ j u, (l.map bv)[j]? = some u -> w.cell? ((⟨b, off, none⟩ : Addr).add j) = some u := by
 intro j v hv
 simp at hv
 obtain ⟨x, hx, rfl⟩ := hv
 obtain ⟨hj, _⟩ := List.getElem?_eq_some_iff.1 hx
 have h4 := r j hj
 have h5 : l.getD j 0 = x := by simp [hx]
 rw [h5] at h4
 rw [show (⟨b, off, none⟩ : Addr).add j = ⟨b, off + j, none⟩ from by simp [Addr.add]]
 exact h4
theorem map_one (l : List Nat) : ∀ u ∈ l.map bv, u.oneCell' = true := by
 intro v hv
 obtain ⟨x, _, rfl⟩ := List.mem_map.1 hv
 rfl
theorem app_fits {w : World} {base g k cap : Nat} {xs : List Value} {a : Option Addr} {n c : Nat} {l : List Nat} (hown : w.ownsRow base 5 1 (.slice (some ⟨g, 0, none⟩) k cap) k xs) (h : Sln w a n l) (hc : a = none -> c = 0) (hroom : k + n <= cap) :
  ∃ w', (Builtin.append_ #[165, 165] 165 #[.slice (some ⟨g, 0, none⟩) k cap,.slice a n c]).run Tryz.prog w = .ok (.slice (some ⟨g, 0, none⟩) (k + n) cap) w' /\ w'.ownsRow base 5 1 (.slice (some ⟨g, 0, none⟩) (k + n) cap) (k + n) (xs ++ l.map bv) /\ w.grownBy w' (some g) := by
 obtain ⟨i, hi, hz0, hz1, hz2⟩ := info_parts info5
 have e := h.len
 by_cases hl : l = []
 . subst hl
   have e0 : n = 0 := e
   subst e0
   cases a with
   | none =>
     have c0 := hc rfl
     subst c0
     exact ⟨w, run_append_owned_none (P := Tryz.prog) w base 165 165 5 i 1 Tryz.underlying165 hi _ k xs hown, by simpa using hown, World.grownBy.refl _ _⟩
   | some ad => exact run_append_fits (P := Tryz.prog) w base 165 165 5 i 1 Tryz.underlying165 hi hz1 g k cap xs hown ad 0 c [] rfl (by simp) (by simp) hroom
 . obtain ⟨b, off, rfl, _, r⟩ := h.sli.2.2.resolve_left hl
   exact run_append_fits (P := Tryz.prog) w base 165 165 5 i 1 Tryz.underlying165 hi hz1 g k cap xs hown ⟨b, off, none⟩ n c (l.map bv) (by simp [e]) (map_cells r) (map_one l) hroom
theorem wpList_app {ops : Array Oper} {rest : List Oper} {o : Oper} {a : Act} {Q : Exit -> Act -> World -> Prop} {w w' : World} {v v1 v2 : Value} (hgd : o.guard = none) (s x : Operand)
  (ho : o.op = .call { callee := .builtin .append, args := #[s, x], argTypes := #[165, 165] }) (hty : o.type = 165) (hs : a.eval s = v1) (hx : a.eval x = v2) (hrun : Hid ((Builtin.append_ #[165, 165] 165 #[v1, v2]).run Tryz.prog w = .ok v w'))
  (h : wpList Tryz.prog ops Q rest (a.put o.dst v) w') : wpList Tryz.prog ops Q (o :: rest) a w := by
 refine wpList_plain hgd fun K hK => ?_
 have hr := hrun.out
 unfold Oper.wp
 simp [execOp, ho, resolve, invoke, builtin, hs, hx, hty, hr, Result.andThen]
 exact hK _ _ h
theorem own_lt {w : World} {B g k cap : Nat} {xs : List Value} (own : w.ownsRow B 5 1 (.slice (some ⟨g, 0, none⟩) k cap) k xs) : B <= g := (own.lt g rfl).1
theorem own_sln {w : World} {B g k cap : Nat} {l : List Nat} (own : w.ownsRow B 5 1 (.slice (some ⟨g, 0, none⟩) k cap) k (l.map bv)) (h1 : ∀ x ∈ l, x < 256) (h2 : l.length <= 140737488352256) : Sln w (some ⟨g, 0, none⟩) k l := by
 have hk : k = l.length := by have := own.1; simp at this; omega
 refine ⟨hk, h1, h2, .inr ⟨g, 0, rfl, (own.lt g rfl).2, fun i hi => ?_⟩⟩
 have h3 := own.cells (g := g) rfl i (bv (l.getD i 0)) (by
  rw [List.getElem?_map, List.getElem?_eq_getElem hi]
  simp [List.getD, hi])
 have h4 : (⟨g, 0, none⟩ : Addr).add i = ⟨g, 0 + i, none⟩ := by
  by_cases hi0 : i = 0
  . subst hi0; simp [Addr.add]
  . simp [Addr.add, hi0]
 rw [h4] at h3
 exact h3
theorem take_succ_getD {l : List Nat} {k : Nat} (h : k < l.length) : l.take (k + 1) = l.take k ++ [l.getD k 0] := by
 rw [List.take_succ_eq_append_getElem h]
 simp [List.getD, h]
theorem row_at {w : World} {a : Option Addr} {n : Nat} {l : List Nat} (h : Sln w a n l) {i : Nat} (hi : i < n) : ∃ b off, a = some ⟨b, off, none⟩ /\ w.cell? ⟨b, off + i, none⟩ = some (.int .u8 (l.getD i 0 : Nat)) := by
 have e := h.len
 have hne : l ≠ [] := by intro h0; rw [h0] at e; simp at e; omega
 obtain ⟨b, off, h1, _, r⟩ := h.sli.2.2.resolve_left hne
 exact ⟨b, off, h1, r i (by omega)⟩
end Go.Proofs.YtfabnnbljkkihaaGreatDoor.Sh
namespace Go.Proofs.YtfabnnbljkkihaaGreatDoor.Sh
open Go.ChangeShapes Go.WideShapes Go.ChangeAt Go.RowKit
set_option linter.unusedVariables false
set_option linter.unusedSimpArgs false
namespace Gs
def M : Nat := 4294967296
def rot (n x : Nat) : Nat := (x * 2 ^ (32 - n) % 4294967296) ||| (x / 2 ^ n)
def add (a b : Nat) : Nat := (a + b) % 4294967296
def s0 (x : Nat) : Nat := rot 7 x ^^^ rot 18 x ^^^ (x / 8)
def s1 (x : Nat) : Nat := rot 17 x ^^^ rot 19 x ^^^ (x / 1024)
def word (a b c d : Nat) : Nat := a * 16777216 + b * 65536 + c * 256 + d
def nextW (l : List Nat) : Nat := add (add (add (l.getD (l.length - 16) 0) (s0 (l.getD (l.length - 15) 0))) (l.getD (l.length - 7) 0)) (s1 (l.getD (l.length - 2) 0))
def firstW (b : List Nat) : Nat -> List Nat
 | 0 => []
 | n + 1 => firstW b n ++ [word (b.getD (4 * n) 0) (b.getD (4 * n + 1) 0) (b.getD (4 * n + 2) 0) (b.getD (4 * n + 3) 0)]
def schedN (b : List Nat) : Nat -> List Nat
 | 0 => firstW b 16
 | n + 1 => schedN b n ++ [nextW (schedN b n)]
def sched (b : List Nat) : List Nat := schedN b 48
structure St where
 a : Nat
 b : Nat
 c : Nat
 d : Nat
 e : Nat
 f : Nat
 g : Nat
 h : Nat
def choice (e f g : Nat) : Nat := (e &&& f) ^^^ ((4294967295 - e) &&& g)
def most (a b c : Nat) : Nat := ((a &&& b) ^^^ (a &&& c)) ^^^ (b &&& c)
def t1 (s : St) (k w : Nat) : Nat := add (add (add (add s.h ((rot 6 s.e ^^^ rot 11 s.e) ^^^ rot 25 s.e)) (choice s.e s.f s.g)) k) w
def t2 (s : St) : Nat := add ((rot 2 s.a ^^^ rot 13 s.a) ^^^ rot 22 s.a) (most s.a s.b s.c)
def step (s : St) (k w : Nat) : St := ⟨add (t1 s k w) (t2 s), s.a, s.b, s.c, add s.d (t1 s k w), s.e, s.f, s.g⟩
def K : List Nat := [
 0x428a2f98, 0x71374491, 0xb5c0fbcf, 0xe9b5dba5, 0x3956c25b, 0x59f111f1, 0x923f82a4, 0xab1c5ed5,
 0xd807aa98, 0x12835b01, 0x243185be, 0x550c7dc3, 0x72be5d74, 0x80deb1fe, 0x9bdc06a7, 0xc19bf174,
 0xe49b69c1, 0xefbe4786, 0x0fc19dc6, 0x240ca1cc, 0x2de92c6f, 0x4a7484aa, 0x5cb0a9dc, 0x76f988da,
 0x983e5152, 0xa831c66d, 0xb00327c8, 0xbf597fc7, 0xc6e00bf3, 0xd5a79147, 0x06ca6351, 0x14292967,
 0x27b70a85, 0x2e1b2138, 0x4d2c6dfc, 0x53380d13, 0x650a7354, 0x766a0abb, 0x81c2c92e, 0x92722c85,
 0xa2bfe8a1, 0xa81a664b, 0xc24b8b70, 0xc76c51a3, 0xd192e819, 0xd6990624, 0xf40e3585, 0x106aa070,
 0x19a4c116, 0x1e376c08, 0x2748774c, 0x34b0bcb5, 0x391c0cb3, 0x4ed8aa4a, 0x5b9cca4f, 0x682e6ff3,
 0x748f82ee, 0x78a5636f, 0x84c87814, 0x8cc70208, 0x90befffa, 0xa4506ceb, 0xbef9a3f7, 0xc67178f2]
def rounds (W : List Nat) (s : St) : Nat -> St
 | 0 => s
 | n + 1 => step (rounds W s n) (K.getD n 0) (W.getD n 0)
def ofL (l : List Nat) : St := ⟨l.getD 0 0, l.getD 1 0, l.getD 2 0, l.getD 3 0, l.getD 4 0, l.getD 5 0, l.getD 6 0, l.getD 7 0⟩
def toL (s : St) : List Nat := [s.a, s.b, s.c, s.d, s.e, s.f, s.g, s.h]
def addL (s : List Nat) (r : St) : List Nat := [add (s.getD 0 0) r.a, add (s.getD 1 0) r.b, add (s.getD 2 0) r.c, add (s.getD 3 0) r.d, add (s.getD 4 0) r.e, add (s.getD 5 0) r.f, add (s.getD 6 0) r.g, add (s.getD 7 0) r.h]
def after (s b : List Nat) : List Nat := addL s (rounds (sched b) (ofL s) 64)
def start : List Nat := [0x6a09e667, 0xbb67ae85, 0x3c6ef372, 0xa54ff53a, 0x510e527f, 0x9b05688c, 0x1f83d9ab, 0x5be0cd19]
def bytesW (x : Nat) : List Nat := [x / 16777216 % 256, x / 65536 % 256, x / 256 % 256, x % 256]
def digestN (s : List Nat) : Nat -> List Nat
 | 0 => []
 | n + 1 => digestN s n ++ bytesW (s.getD n 0)
def digest (s : List Nat) : List Nat := digestN s 8
def countN (b : List Nat) (c : Nat) : Nat -> List Nat
 | 0 => b
 | n + 1 => (countN b c n).set (63 - n) (c / 256 ^ n % 256)
def counting (b : List Nat) (len : Nat) : List Nat := countN b (len * 8 % 18446744073709551616) 8
def pad (l : List Nat) : List Nat := l ++ List.replicate (64 - l.length) 0
def wordsN (l : List Nat) : Nat -> List Nat
 | 0 => start
 | n + 1 => after (wordsN l n) ((l.drop (64 * n)).take 64)
def words (l : List Nat) : List Nat := wordsN l (l.length / 64)
def rest (l : List Nat) : List Nat := pad (l.drop (64 * (l.length / 64)))
def sum (l : List Nat) : List Nat :=
 if l.length % 64 < 56 then digest (after (words l) (counting ((rest l).set (l.length % 64) 128) l.length))
 else digest (after (after (words l) ((rest l).set (l.length % 64) 128)) (counting (pad []) l.length))
theorem rot_lt (n x : Nat) (hx : x < 4294967296) : rot n x < 4294967296 := by
 have h1 : x * 2 ^ (32 - n) % 4294967296 < 2 ^ 32 := Nat.mod_lt _ (by decide)
 have h2 : x / 2 ^ n < 2 ^ 32 := Nat.lt_of_le_of_lt (Nat.div_le_self _ _) hx
 exact Nat.or_lt_two_pow h1 h2
theorem xor_lt {a b : Nat} (ha : a < 4294967296) (hb : b < 4294967296) : a ^^^ b < 4294967296 := Nat.xor_lt_two_pow (n := 32) ha hb
theorem and_lt {a b : Nat} (ha : a < 4294967296) : a &&& b < 4294967296 := Nat.lt_of_le_of_lt Nat.and_le_left ha
theorem add_lt (a b : Nat) : add a b < 4294967296 := Nat.mod_lt _ (by decide)
end Gs
theorem and31 : ∀ n : Nat, n < 32 -> 0 < n -> bits BinOp.and IntKind.u64 (IntKind.u64.wrap (-(n : Int))) 31 = ((32 - n : Nat) : Int) := by decide +kernel
theorem turn_n (x n : Nat) (hx : x < 4294967296) (hn0 : 0 < n) (hn : n < 32) (w : World) :
  Calls Tryz.prog 158 #[.int .u32 (x : Int),.int .i64 (n : Int)] w fun e w' => e = .returned (.int .u32 (Gs.rot n x : Nat)) /\ w' = w := by
 have hs := and31 n hn hn0
 obtain ⟨m, hm⟩ : ∃ m, m = 32 - n := ⟨_, rfl⟩
 rw [<- hm] at hs
 have hm0 : 0 < m := by omega
 have hm1 : m < 32 := by omega
 have Hm : Hid (m = 32 - n) := hm
 clear hm
 go_enter Tryz.func158, Tryz.ntmps158
 go_wp2
 go_ret
 refine ⟨ret_int ?_, rfl⟩
 have hm := Hm.out
 have hn2 : 32 - m = n := by omega
 have h1 := u32_or_nat (x * 2 ^ m % 4294967296) (x / 2 ^ (32 - m)) (Nat.mod_lt _ (by decide)) (Nat.lt_of_le_of_lt (Nat.div_le_self _ _) hx)
 unfold Gs.rot
 rw [<- hm, <- hn2]
 have e1 : ((x * 2 ^ m % 4294967296 : Nat) : Int) = (x : Int) * 2 ^ m % 4294967296 := by simp
 have e2 : ((x / 2 ^ (32 - m) : Nat) : Int) = (x : Int) / 2 ^ (32 - m) := by simp
 rw [e1, e2] at h1
 exact h1
theorem turn_z (x n : Nat) (z : Int) (hz : z = (n : Int)) (hx : x < 4294967296) (hn0 : 0 < n) (hn : n < 32) (w : World) :
  Calls Tryz.prog 158 #[.int .u32 (x : Int),.int .i64 z] w fun e w' => e = .returned (.int .u32 (Gs.rot n x : Nat)) /\ w' = w := by
 subst hz
 exact turn_n x n hx hn0 hn w
theorem xor_nat {a b : Nat} (ha : a < 4294967296) (hb : b < 4294967296) : bits BinOp.xor IntKind.u32 (a : Int) (b : Int) = ((a ^^^ b : Nat) : Int) := u32_xor_nat a b ha hb
theorem s0_bits {x : Nat} (hx : x < 4294967296) : bits BinOp.xor IntKind.u32 (bits BinOp.xor IntKind.u32 ((Gs.rot 7 x : Nat) : Int) ((Gs.rot 18 x : Nat) : Int)) ((x : Int) / 8) = ((Gs.s0 x : Nat) : Int) := by
 have e : (x : Int) / 8 = ((x / 8 : Nat) : Int) := by simp
 rw [e, xor_nat (Gs.rot_lt _ _ hx) (Gs.rot_lt _ _ hx), xor_nat (Gs.xor_lt (Gs.rot_lt _ _ hx) (Gs.rot_lt _ _ hx)) (by omega)]
 rfl
theorem s1_bits {x : Nat} (hx : x < 4294967296) : bits BinOp.xor IntKind.u32 (bits BinOp.xor IntKind.u32 ((Gs.rot 17 x : Nat) : Int) ((Gs.rot 19 x : Nat) : Int)) ((x : Int) / 1024) = ((Gs.s1 x : Nat) : Int) := by
 have e : (x : Int) / 1024 = ((x / 1024 : Nat) : Int) := by simp
 rw [e, xor_nat (Gs.rot_lt _ _ hx) (Gs.rot_lt _ _ hx), xor_nat (Gs.xor_lt (Gs.rot_lt _ _ hx) (Gs.rot_lt _ _ hx)) (by omega)]
 rfl
theorem add_wrap (a b : Nat) : IntKind.u32.wrap ((a : Int) + (b : Int)) = ((Gs.add a b : Nat) : Int) := by
 rw [IntKind.wrap_u32']
 unfold Gs.add
 omega
end Go.Proofs.YtfabnnbljkkihaaGreatDoor.Sh
namespace Go.Proofs.YtfabnnbljkkihaaGreatDoor.Sh
open Go.ChangeShapes Go.WideShapes Go.ChangeAt Go.RowKit
set_option linter.unusedVariables false
set_option linter.unusedSimpArgs false
def wv (k : IntKind) (x : Nat) : Value := .int k (x : Int)
def cs (k : IntKind) (l : List Nat) : Array Value := (l.map (wv k)).toArray
theorem cs_size (k : IntKind) (l : List Nat) : (cs k l).size = l.length := by simp [cs]
theorem cs_one (k : IntKind) (l : List Nat) : (cs k l).all (·.oneCell') = true := by
 simp [cs, Array.all_eq_true, wv, Value.oneCell']
def Arr (k : IntKind) (t : TypeId) (w : World) (g : Nat) (l : List Nat) : Prop := w.heap[g]? = some (.cells (cs k l) t (0, 0))
section
variable {k : IntKind} {t : TypeId} {w w' : World} {g : Nat} {l : List Nat}
theorem Arr.cell (h : Arr k t w g l) {i : Nat} (hi : i < l.length) : w.cell? ⟨g, i, none⟩ = some (.int k (l.getD i 0 : Nat)) := by
 unfold Arr at h
 simp [World.cell?, h, hi, wv, cs]
theorem Arr.frozen (h : Arr k t w g l) (i : Nat) : w.frozen? ⟨g, i, none⟩ = false := by
 unfold Arr at h
 simp [World.frozen?, h]
theorem Arr.lt (h : Arr k t w g l) : g < w.heap.size := (gl h)
theorem Arr.set (h : Arr k t w g l) (i x : Nat) : Arr k t (w.setCell ⟨g, i, none⟩ (.int k (x : Nat))) g (l.set i x) := by
 have h0 : w.heap[g]? = some (.cells (cs k l) t (0, 0)) := h
 rw [setCell_eq_setRow w g i _ t (0, 0) _ h0]
 have h1 := setRow_heap w g _ ((cs k l).setIfInBounds i (.int k (x : Nat))) t (0, 0) h0
 unfold Arr
 rw [h1]
 simp [List.map_set, wv, cs]
theorem Arr.below {B : Nat} (h : Arr k t w g l) (hb : Below B w w') (hg : g < B) : Arr k t w' g l := (hb.block g hg).trans h
theorem Arr.oth {j : Nat} (h : Arr k t w g l) (hb : Oth j w w') (hg : g ≠ j) : Arr k t w' g l := (hb.block g hg).trans h
theorem Arr.drewN (h : Arr k t w g l) (n : Nat) : Arr k t (w.drewN n) g l := h
theorem Arr.alloc (h : Arr k t w g l) (o : Obj) : Arr k t (w.alloc o) g l := (Below.heap_alloc w o g h.lt).trans h
theorem Arr.new (w : World) (k : IntKind) (t : TypeId) (l : List Nat) : Arr k t (w.alloc (.cells (cs k l) t)) w.heap.size l := heap_alloc_new w _
theorem Arr.setRow (h : Arr k t w g l) (l2 : List Nat) : Arr k t (w.setRow g (cs k l2)) g l2 := setRow_heap w g _ _ t (0, 0) h
theorem Arr.setRow_ne (h : Arr k t w g l) {j : Nat} (c : Array Value) (hj : g ≠ j) : Arr k t (w.setRow j c) g l := by
 unfold Arr
 rw [setRow_other w j g c hj]
 exact h
end
theorem three (w : World) (o1 o2 o3 : Obj) : (((w.alloc o1).alloc o2).alloc o3).heap[w.heap.size]? = some o1 /\ (((w.alloc o1).alloc o2).alloc o3).heap[w.heap.size + 1]? = some o2 /\ (((w.alloc o1).alloc o2).alloc o3).heap[w.heap.size + 1 + 1]? = some o3 := by
 have e1 : (w.alloc o1).heap.size = w.heap.size + 1 := by simp
 have e2 : ((w.alloc o1).alloc o2).heap.size = w.heap.size + 1 + 1 := by simp
 refine ⟨?_, ?_, ?_⟩
 . rw [Below.heap_alloc _ _ _ (by omega), Below.heap_alloc _ _ _ (by omega), heap_alloc_new]
 . rw [Below.heap_alloc _ _ _ (by omega), <- e1, heap_alloc_new]
 . rw [<- e2, heap_alloc_new]
theorem below3 (w : World) (o1 o2 o3 : Obj) : Below w.heap.size w (((w.alloc o1).alloc o2).alloc o3) := by
 have h1 := (Below.refl w.heap.size w).alloc (Nat.le_refl _) o1
 have h2 := h1.alloc h1.size o2
 exact h2.alloc h2.size o3
theorem und65 : ∃ d, Tryz.prog.underlying 195 = some d /\ d.isRow = true := ⟨_, Tryz.underlying195, rfl⟩
theorem und56 : ∃ d, Tryz.prog.underlying 188 = some d /\ d.isRow = true := ⟨_, Tryz.underlying188, rfl⟩
theorem und53 : ∃ d, Tryz.prog.underlying 185 = some d /\ d.isRow = true := ⟨_, Tryz.underlying185, rfl⟩
theorem und25 : ∃ d, Tryz.prog.underlying 166 = some d /\ d.isRow = true := ⟨_, Tryz.underlying166, rfl⟩
theorem sz65 : (Tryz.prog.info? 195).map (·.size) = some 64 := by kernel_rfl
theorem sz56 : (Tryz.prog.info? 188).map (·.size) = some 64 := by kernel_rfl
theorem sz53 : (Tryz.prog.info? 185).map (·.size) = some 8 := by kernel_rfl
theorem sz25 : (Tryz.prog.info? 166).map (·.size) = some 32 := by kernel_rfl
def Rng (k : IntKind) (w : World) (g o : Nat) (l : List Nat) : Prop := w.rangeAt g o (l.map (wv k))
theorem Arr.rng {k : IntKind} {t : TypeId} {w : World} {g : Nat} {l : List Nat} (h : Arr k t w g l) : Rng k w g 0 l := by
 intro j v hv
 obtain ⟨hj, he⟩ := List.getElem?_eq_some_iff.1 hv
 have hj2 : j < l.length := by simpa using hj
 rw [Nat.zero_add, h.cell hj2, <- he]
 simp [wv, List.getD, hj2]
theorem wpList_ld {ops : Array Oper} {rest : List Oper} {o : Oper} {a : Act} {Q : Exit -> Act -> World -> Prop} {w : World} {k : IntKind} {g off : Nat} {l : List Nat} (hgd : o.guard = none) (ty : TypeId) (x : Operand)
  (ho : o.op = .load ty x) (hx : a.eval x = .pointer (some ⟨g, off, none⟩)) (hr : Hid (Rng k w g off l)) (hu : ∃ d, Tryz.prog.underlying ty = some d /\ d.isRow = true) (hi : (Tryz.prog.info? ty).map (·.size) = some l.length)
  (h : wpList Tryz.prog ops Q rest (a.put o.dst (.agg (cs k l))) w) : wpList Tryz.prog ops Q (o :: rest) a w := by
 obtain ⟨d, h1, h2⟩ := hu
 exact wpList_load_mid hgd ty x ho g off hx (l.map (wv k)) d hr.out h1 h2 (by rw [hi]; simp) h
theorem wpList_st {ops : Array Oper} {rest : List Oper} {o : Oper} {a : Act} {Q : Exit -> Act -> World -> Prop} {w : World} {k : IntKind} {t : TypeId} {g : Nat} {l l2 : List Nat} (hgd : o.guard = none) (ty : TypeId) (x y : Operand)
  (ho : o.op = .store ty x y) (hx : a.eval x = .pointer (some ⟨g, 0, none⟩)) (hy : a.eval y = .agg (cs k l2)) (hr : Hid (Arr k t w g l)) (hi : (Tryz.prog.info? ty).map (·.size) = some l2.length) (hl : l.length = l2.length)
  (h : wpList Tryz.prog ops Q rest (a.put o.dst undef) (w.setRow g (cs k l2))) : wpList Tryz.prog ops Q (o :: rest) a w := by
 refine wpList_store_row hgd ty x y ho g (cs k l2) hx hy t (cs k l) hr.out (by rw [hi, cs_size]) (by rw [cs_size, cs_size, hl]) (cs_one _ _) h
theorem res_arr {fn : Func} {p : Tmp} {ty : TypeId} (hf : fn.results = #[.cell p ty]) {tmps : Array Value} {w : World} {g : Nat} {k : IntKind} {t : TypeId} {l : List Nat} (hp : tmps.getD p undef = .pointer (some ⟨g, 0, none⟩)) (hr : Arr k t w g l)
  (hu : ∃ d, Tryz.prog.underlying ty = some d /\ d.isRow = true) (hi : (Tryz.prog.info? ty).map (·.size) = some l.length) : (results fn tmps).run Tryz.prog w = .ok (.agg (cs k l)) w := by
 obtain ⟨d, h1, h2⟩ := hu
 exact results_cell_row hf tmps w g t (cs k l) (0, 0) d hp hr h1 (by cases d <;> simp_all [TypeDesc.isRow]) (by rw [hi, cs_size])
theorem Oth.setRow {g : Nat} {w : World} (c : Array Value) : Oth g w (w.setRow g c) := ⟨rfl, rfl, rfl, by simp, fun k hk => setRow_other w g k c hk⟩
def Sch3 (w wr : World) (b l : List Nat) : Prop := Arr .u8 188 wr w.heap.size b /\ Arr .u32 195 wr (w.heap.size + 1) (List.replicate 64 0) /\ Arr .u32 195 wr (w.heap.size + 1 + 1) (ext l 64) /\ Below w.heap.size w wr
theorem firstW_length (b : List Nat) (k : Nat) : (Gs.firstW b k).length = k := by
 induction k with
 | zero => rfl
 | succ k ih => simp [Gs.firstW, ih]
theorem word_or {a b c d : Nat} (ha : a < 256) (hb : b < 256) (hc : c < 256) (hd : d < 256) :
  bits BinOp.or IntKind.u32 (bits BinOp.or IntKind.u32 (bits BinOp.or IntKind.u32 ((a : Int) * 16777216) ((b : Int) * 65536)) ((c : Int) * 256)) (d : Int) = ((Gs.word a b c d : Nat) : Int) := by
 have e1 : (a : Int) * 16777216 = ((a * 16777216 : Nat) : Int) := by simp
 have e2 : (b : Int) * 65536 = ((b * 65536 : Nat) : Int) := by simp
 have e3 : (c : Int) * 256 = ((c * 256 : Nat) : Int) := by simp
 rw [e1, e2, e3, u32_or_nat _ _ (by omega) (by omega), nat_join 24 _ _ (by omega) (by omega), u32_or_nat _ _ (by omega) (by omega), nat_join 16 _ _ (by omega) (by omega), u32_or_nat _ _ (by omega) (by omega), nat_join 8 _ _ (by omega) (by omega)]
 rfl
theorem ext_set {l : List Nat} {k n x : Nat} (h : l.length = k) (hk : k < n) : (ext l n).set k x = ext (l ++ [x]) n := by
 subst h
 obtain ⟨m, hm⟩ : ∃ m, n - l.length = m + 1 := ⟨n - l.length - 1, by omega⟩
 have hm2 : n - (l.length + 1) = m := by omega
 simp [ext, hm, hm2, List.replicate_succ]
theorem Sch3.snoc {w wr : World} {b l l2 : List Nat} {k x : Nat} (h : Sch3 w wr b l) (hl : l.length = k) (hk : k < 64) (e : l2 = l ++ [x]) :
  Sch3 w (World.setCell { heap := wr.heap, tape := wr.tape, drawn := wr.drawn + 1, os := wr.os, output := wr.output } ⟨w.heap.size + 1 + 1, k, none⟩ (.int .u32 (x : Nat))) b l2 := by
 subst e
 obtain ⟨h1, h2, h3, h4⟩ := h
 have o : Oth (w.heap.size + 1 + 1) wr (wr.drew.setCell ⟨w.heap.size + 1 + 1, k, none⟩ (.int .u32 (x : Nat))) := ((Oth.refl _ wr).drewN 1).setCell k _
 refine ⟨h1.oth o (by omega), h2.oth o (by omega), ?_, o.below h4 (by omega)⟩
 rw [<- ext_set hl hk]
 exact Arr.set (w := wr.drew) h3 k x
theorem schedN_length (b : List Nat) (j : Nat) : (Gs.schedN b j).length = j + 16 := by
 induction j with
 | zero => exact firstW_length b 16
 | succ k ih => simp [Gs.schedN, ih]
theorem getD_snoc (l : List Nat) (x i : Nat) : (l ++ [x]).getD i 0 = if i < l.length then l.getD i 0 else if i = l.length then x else 0 := by
 simp only [List.getD]
 by_cases h : i < l.length
 . rw [List.getElem?_append_left h, if_pos h]
 . rw [List.getElem?_append_right (by omega), if_neg h]
   by_cases h2 : i = l.length
   . subst h2; simp
   . rw [if_neg h2]
     have : [x][i - l.length]? = none := by simp; omega
     rw [this]; rfl
theorem getD_snoc_lt {B : Nat} {l : List Nat} {x : Nat} (hB : 0 < B) (h : ∀ i, l.getD i 0 < B) (hx : x < B) (i : Nat) : (l ++ [x]).getD i 0 < B := by
 rw [getD_snoc]
 split
 . exact h i
 . split <;> omega
theorem firstW_lt {b : List Nat} (hB : ∀ x ∈ b, x < 256) (k : Nat) : ∀ i, (Gs.firstW b k).getD i 0 < 4294967296 := by
 induction k with
 | zero => intro i; simp [Gs.firstW]
 | succ k ih =>
   refine getD_snoc_lt (by decide) ih ?_
   have h0 := getD_lt hB (4 * k)
   have h1 := getD_lt hB (4 * k + 1)
   have h2 := getD_lt hB (4 * k + 2)
   have h3 := getD_lt hB (4 * k + 3)
   unfold Gs.word
   omega
theorem schedN_lt {b : List Nat} (hB : ∀ x ∈ b, x < 256) (j : Nat) : ∀ i, (Gs.schedN b j).getD i 0 < 4294967296 := by
 induction j with
 | zero => exact firstW_lt hB 16
 | succ k ih => exact getD_snoc_lt (by decide) ih (Gs.add_lt _ _)
theorem ext_getD {l : List Nat} {n i : Nat} (h : i < l.length) : (ext l n).getD i 0 = l.getD i 0 := by
 simp only [ext, List.getD]
 rw [List.getElem?_append_left h]
theorem Sch3.at_ {w wr : World} {b l : List Nat} (h : Sch3 w wr b l) {i : Nat} (hi : i < l.length) (hl : i < 64) : wr.cell? ⟨w.heap.size + 1 + 1, i, none⟩ = some (.int .u32 (l.getD i 0 : Nat)) := by
 have := h.2.2.1.cell (i := i) (by simp [ext]; omega)
 rw [ext_getD hi] at this
 exact this
theorem Sch3.drew {w wr : World} {b l : List Nat} (h : Sch3 w wr b l) : Sch3 w wr.drew b l := ⟨h.1, h.2.1, h.2.2.1, h.2.2.2.drew⟩
set_option maxRecDepth 20000 in
set_option maxHeartbeats 2000000 in
theorem sch (b : List Nat) (hb : b.length = 64) (hB : ∀ x ∈ b, x < 256) (w : World) :
  Calls Tryz.prog 157 #[.agg (cs .u8 b)] w fun e w' => ∃ l, e = .returned (.agg (cs .u32 l)) /\ Hid (l = Gs.sched b /\ Below w.heap.size w w') := by
 have HL : Hid (b.length = 64) := hb
 have HB : Hid (∀ x ∈ b, x < 256) := hB
 clear hb hB
 go_enter Tryz.func157, Tryz.ntmps157
 go_wp2
 go_loopw [8] (fun ti wr => ∃ k : Nat, k <= 16 /\ ti = .int .i64 k /\ Hid (Sch3 w wr b (Gs.firstW b k))) (fun ti _ => 16 - (intOf ti).toNat)
 case atStart =>
  refine ⟨0, by omega, rfl, ?_⟩
  refine ⟨(three w _ _ _).1, (three w _ _ _).2.1, (three w _ _ _).2.2, below3 w _ _ _⟩
 case round =>
  obtain ⟨k, hk, rfl, HK⟩ := hrel
  by_cases hlt : k < 16
  . obtain ⟨p, hp⟩ : ∃ p, p = 4 * k := ⟨_, rfl⟩
    have hp1 : (4 : Int) * (k : Int) = (p : Int) := by omega
    have hp2 : p + 3 < 64 := by omega
    have HP : Hid (p = 4 * k) := hp
    clear hp
    obtain ⟨x0, X0⟩ := nm (b.getD p 0)
    obtain ⟨x1, X1⟩ := nm (b.getD (p + 1) 0)
    obtain ⟨x2, X2⟩ := nm (b.getD (p + 2) 0)
    obtain ⟨x3, X3⟩ := nm (b.getD (p + 3) 0)
    have y0 : x0 < 256 := by rw [<- X0.out]; exact getD_lt HB.out _
    have y1 : x1 < 256 := by rw [<- X1.out]; exact getD_lt HB.out _
    have y2 : x2 < 256 := by rw [<- X2.out]; exact getD_lt HB.out _
    have y3 : x3 < 256 := by rw [<- X3.out]; exact getD_lt HB.out _
    have c0 : wr.cell? ⟨w.heap.size, p, none⟩ = some (.int .u8 (x0 : Nat)) := by rw [<- X0.out]; exact HK.out.1.cell (by rw [HL.out]; omega)
    have c1 : wr.cell? ⟨w.heap.size, p + 1, none⟩ = some (.int .u8 (x1 : Nat)) := by rw [<- X1.out]; exact HK.out.1.cell (by rw [HL.out]; omega)
    have c2 : wr.cell? ⟨w.heap.size, p + 2, none⟩ = some (.int .u8 (x2 : Nat)) := by rw [<- X2.out]; exact HK.out.1.cell (by rw [HL.out]; omega)
    have c3 : wr.cell? ⟨w.heap.size, p + 3, none⟩ = some (.int .u8 (x3 : Nat)) := by rw [<- X3.out]; exact HK.out.1.cell (by rw [HL.out]; omega)
    obtain ⟨z, hz⟩ : ∃ z : Nat, wr.cell? ⟨w.heap.size + 1 + 1, k, none⟩ = some (.int .u32 z) := by
     refine ⟨_, HK.out.2.2.1.cell ?_⟩
     rw [ext_length _ _ (by rw [firstW_length]; omega)]; omega
    have f0 : wr.frozen? ⟨w.heap.size + 1 + 1, k, none⟩ = false := HK.out.2.2.1.frozen k
    have q0 : IntKind.i64.wrap (p : Int) = (p : Int) := by rw [IntKind.wrap_i64]; omega
    have q1 : IntKind.i64.wrap ((p : Int) + 1) = (p : Int) + 1 := by rw [IntKind.wrap_i64]; omega
    have q2 : IntKind.i64.wrap ((p : Int) + 2) = (p : Int) + 2 := by rw [IntKind.wrap_i64]; omega
    have q3 : IntKind.i64.wrap ((p : Int) + 3) = (p : Int) + 3 := by rw [IntKind.wrap_i64]; omega
    have r0 : IntKind.u32.wrap (x0 : Int) = (x0 : Int) := by rw [IntKind.wrap_u32']; omega
    have r1 : IntKind.u32.wrap (x1 : Int) = (x1 : Int) := by rw [IntKind.wrap_u32']; omega
    have r2 : IntKind.u32.wrap (x2 : Int) = (x2 : Int) := by rw [IntKind.wrap_u32']; omega
    have r3 : IntKind.u32.wrap (x3 : Int) = (x3 : Int) := by rw [IntKind.wrap_u32']; omega
    have v0 : IntKind.u32.wrap ((x0 : Int) * 16777216) = ((x0 * 16777216 : Nat) : Int) := by rw [IntKind.wrap_u32']; omega
    have v1 : IntKind.u32.wrap ((x1 : Int) * 65536) = ((x1 * 65536 : Nat) : Int) := by rw [IntKind.wrap_u32']; omega
    have v2 : IntKind.u32.wrap ((x2 : Int) * 256) = ((x2 * 256 : Nat) : Int) := by rw [IntKind.wrap_u32']; omega
    have j0 : (0 : Int) <= (p : Int) := by omega
    have k1 : (0 : Int) <= (p : Int) + 1 := by omega
    have k2 : (0 : Int) <= (p : Int) + 2 := by omega
    have k3 : (0 : Int) <= (p : Int) + 3 := by omega
    have n1 : ((p : Int) + 1).toNat = p + 1 := by omega
    have n2 : ((p : Int) + 2).toNat = p + 2 := by omega
    have n3 : ((p : Int) + 3).toNat = p + 3 := by omega
    have j1 : (p : Int) < 64 := by omega
    have j2 : (p : Int) + 1 < 64 := by omega
    have j3 : (p : Int) + 2 < 64 := by omega
    have j4 : (p : Int) + 3 < 64 := by omega
    have i1 : (0 : Int) <= (k : Int) := by omega
    have i2 : (k : Int) < 64 := by omega
    have i3 : (k : Int) < 16 := by omega
    go_wp2
    go_still_tail 31, (by kernel_rfl)
    have WV : bits BinOp.or IntKind.u32 (bits BinOp.or IntKind.u32 (bits BinOp.or IntKind.u32 ((x0 : Int) * 16777216) ((x1 : Int) * 65536)) ((x2 : Int) * 256)) (x3 : Int) = ((Gs.word x0 x1 x2 x3 : Nat) : Int) := word_or y0 y1 y2 y3
    rw [WV]
    clear WV c0 c1 c2 c3 q0 q1 q2 q3 r0 r1 r2 r3 v0 v1 v2 n1 n2 n3 hp1
    go_wp2
    go_roundw
    case rel =>
     refine ⟨k + 1, by omega, by go_num, ?_⟩
     have e : Gs.firstW b (k + 1) = Gs.firstW b k ++ [Gs.word x0 x1 x2 x3] := by rw [<- X0.out, <- X1.out, <- X2.out, <- X3.out, HP.out]; rfl
     exact HK.out.snoc (firstW_length b k) (by omega) e
    case measure => simp [intOf]; omega
  . have ek0 : k = 16 := by omega
    have ek : Hid (k = 16) := ek0
    clear ek0
    have i3 : ¬ ((k : Int) < 16) := by have := ek.out; omega
    go_wp2
    go_loopw [5] (fun ti wr => ∃ k j : Nat, k = j + 16 /\ j <= 48 /\ ti = .int .i64 k /\ Hid (Sch3 w wr b (Gs.schedN b j))) (fun ti _ => 64 - (intOf ti).toNat)
    case atStart => exact ⟨16, 0, by omega, by omega, rfl, by have := HK.out; rw [ek.out] at this; exact this⟩
    case round =>
     clear HK
     obtain ⟨k, j, hk, hj, rfl, HK⟩ := hrel
     by_cases hlt : j < 48
     . obtain ⟨l, Hl⟩ := nm (Gs.schedN b j)
       rw [Hl.out] at HK
       have LL : Hid (l.length = k) := by rw [<- Hl.out, hk]; exact schedN_length b j
       have LB : Hid (∀ i, l.getD i 0 < 4294967296) := by rw [<- Hl.out]; exact schedN_lt HB.out j
       obtain ⟨a15, h15⟩ : ∃ a, a = k - 15 := ⟨_, rfl⟩
       obtain ⟨a2, h2⟩ : ∃ a, a = k - 2 := ⟨_, rfl⟩
       obtain ⟨a16, h16⟩ : ∃ a, a = k - 16 := ⟨_, rfl⟩
       obtain ⟨a7, h7⟩ : ∃ a, a = k - 7 := ⟨_, rfl⟩
       have A15 : Hid (a15 = k - 15) := h15
       have A2 : Hid (a2 = k - 2) := h2
       have A16 : Hid (a16 = k - 16) := h16
       have A7 : Hid (a7 = k - 7) := h7
       have i15 : IntKind.i64.wrap ((k : Int) - 15) = (a15 : Int) := by rw [IntKind.wrap_i64]; omega
       have i2 : IntKind.i64.wrap ((k : Int) - 2) = (a2 : Int) := by rw [IntKind.wrap_i64]; omega
       have i16 : IntKind.i64.wrap ((k : Int) - 16) = (a16 : Int) := by rw [IntKind.wrap_i64]; omega
       have i7 : IntKind.i64.wrap ((k : Int) - 7) = (a7 : Int) := by rw [IntKind.wrap_i64]; omega
       have p15 : (0 : Int) <= (a15 : Int) := by omega
       have p2 : (0 : Int) <= (a2 : Int) := by omega
       have p16 : (0 : Int) <= (a16 : Int) := by omega
       have p7 : (0 : Int) <= (a7 : Int) := by omega
       have r15 : (a15 : Int) < 64 := by omega
       have r2 : (a2 : Int) < 64 := by omega
       have r16 : (a16 : Int) < 64 := by omega
       have r7 : (a7 : Int) < 64 := by omega
       have pk : (0 : Int) <= (k : Int) := by omega
       have rk : (k : Int) < 64 := by omega
       obtain ⟨x15, X15⟩ := nm (l.getD a15 0)
       obtain ⟨x2, X2⟩ := nm (l.getD a2 0)
       obtain ⟨x16, X16⟩ := nm (l.getD a16 0)
       obtain ⟨x7, X7⟩ := nm (l.getD a7 0)
       have y15 : x15 < 4294967296 := by rw [<- X15.out]; exact LB.out _
       have y2 : x2 < 4294967296 := by rw [<- X2.out]; exact LB.out _
       have c15 : wr.cell? ⟨w.heap.size + 1 + 1, a15, none⟩ = some (.int .u32 (x15 : Nat)) := by rw [<- X15.out]; exact HK.out.at_ (by rw [LL.out]; omega) (by omega)
       have HJ : Hid (k = j + 16) := hk
       clear h15 h2 h16 h7 hk
       go_wp2
       go_still_tail 17, (by kernel_rfl)
       still_call (turn_z x15 7 7 rfl y15 (by decide) (by decide) _)
       repeat still_step
       still_call (turn_z x15 18 18 rfl y15 (by decide) (by decide) _)
       repeat still_step
       refine wpStill_nil ?_
       rw [s0_bits y15]
       generalize hw4 : ({ heap := wr.heap, tape := wr.tape, drawn := wr.drawn + 1, os := wr.os, output := wr.output } : World) = w4
       have hw5 : wr.drew = w4 := hw4
       have H4 : Hid (Sch3 w w4 b l) := by rw [<- hw5]; exact HK.out.drew
       clear hw4 hw5 c15 HK
       have c2 : w4.cell? ⟨w.heap.size + 1 + 1, a2, none⟩ = some (.int .u32 (x2 : Nat)) := by rw [<- X2.out]; exact H4.out.at_ (by rw [LL.out, A2.out]; have := HJ.out; omega) (by omega)
       go_wp2
       go_still_tail 17, (by kernel_rfl)
       still_call (turn_z x2 17 17 rfl y2 (by decide) (by decide) _)
       repeat still_step
       still_call (turn_z x2 19 19 rfl y2 (by decide) (by decide) _)
       repeat still_step
       refine wpStill_nil ?_
       rw [s1_bits y2]
       generalize hw6 : ({ heap := w4.heap, tape := w4.tape, drawn := w4.drawn + 1, os := w4.os, output := w4.output } : World) = w6
       have hw7 : w4.drew = w6 := hw6
       have H6 : Hid (Sch3 w w6 b l) := by rw [<- hw7]; exact H4.out.drew
       clear hw6 hw7 c2 H4
       obtain ⟨e0, E0⟩ := nm (Gs.s0 x15)
       obtain ⟨e1, E1⟩ := nm (Gs.s1 x2)
       rw [E0.out, E1.out]
       have c16 : w6.cell? ⟨w.heap.size + 1 + 1, a16, none⟩ = some (.int .u32 (x16 : Nat)) := by rw [<- X16.out]; exact H6.out.at_ (by rw [LL.out, A16.out]; have := HJ.out; omega) (by omega)
       have c7 : w6.cell? ⟨w.heap.size + 1 + 1, a7, none⟩ = some (.int .u32 (x7 : Nat)) := by rw [<- X7.out]; exact H6.out.at_ (by rw [LL.out, A7.out]; have := HJ.out; omega) (by omega)
       obtain ⟨z, hz⟩ : ∃ z : Nat, w6.cell? ⟨w.heap.size + 1 + 1, k, none⟩ = some (.int .u32 z) := by
        refine ⟨_, H6.out.2.2.1.cell ?_⟩
        rw [ext_length _ _ (by rw [LL.out]; omega)]; omega
       have f0 : w6.frozen? ⟨w.heap.size + 1 + 1, k, none⟩ = false := H6.out.2.2.1.frozen k
       obtain ⟨m1, M1⟩ := nm (Gs.add x16 e0)
       obtain ⟨m2, M2⟩ := nm (Gs.add m1 x7)
       obtain ⟨m3, M3⟩ := nm (Gs.add m2 e1)
       have w1 : IntKind.u32.wrap ((x16 : Int) + (e0 : Int)) = (m1 : Int) := by rw [add_wrap, M1.out]
       have w2 : IntKind.u32.wrap ((m1 : Int) + (x7 : Int)) = (m2 : Int) := by rw [add_wrap, M2.out]
       have w3 : IntKind.u32.wrap ((m2 : Int) + (e1 : Int)) = (m3 : Int) := by rw [add_wrap, M3.out]
       go_wp2
       go_still_tail 15, (by kernel_rfl)
       go_wp2
       go_roundw
       case rel =>
        refine ⟨k + 1, j + 1, by have := HJ.out; omega, by omega, by go_num, ?_⟩
        have e : Gs.schedN b (j + 1) = l ++ [m3] := by
         show Gs.schedN b j ++ [Gs.nextW (Gs.schedN b j)] = _
         rw [Hl.out, <- M3.out, <- M2.out, <- M1.out, <- E0.out, <- E1.out, <- X16.out, <- X7.out, <- X15.out, <- X2.out, A16.out, A7.out, A15.out, A2.out, <- LL.out]
         rfl
        exact H6.out.snoc LL.out (by omega) e
       case measure => simp [intOf]; omega
     . have ej : j = 48 := by omega
       have ik : ¬ ((k : Int) < 64) := by omega
       subst ej
       have LN : (Gs.schedN b 48).length = 64 := schedN_length b 48
       obtain ⟨l, Hl⟩ := nm (Gs.schedN b 48)
       rw [Hl.out] at HK LN
       have e1 : ext l 64 = l := by simp [ext, LN]
       have R3 : Hid (Rng .u32 wr (w.heap.size + 1 + 1) 0 l) := by have := HK.out.2.2.1; rw [e1] at this; exact this.rng
       have R2 : Hid (Arr .u32 195 wr (w.heap.size + 1) (List.replicate 64 0)) := HK.out.2.1
       have R4 : Hid (Arr .u32 195 (wr.setRow (w.heap.size + 1) (cs .u32 l)) (w.heap.size + 1) l) := HK.out.2.1.setRow l
       have B4 : Hid (Below w.heap.size w (wr.setRow (w.heap.size + 1) (cs .u32 l))) := (Oth.setRow _).below HK.out.2.2.2 (by omega)
       have N : Hid (l.length = 64) := LN
       clear LN e1 hk
       go_wp2_with (first | (refine wpList_ld (by rfl) 195 (.tmp 3) (by rfl) (by rfl) R3 und65 (by rw [N.out]; exact sz65) ?_) | (refine wpList_st (by rfl) 195 (.tmp 2) (.tmp 96) (by rfl) (by rfl) (by rfl) R2 (by rw [N.out]; exact sz65) (by rw [N.out]; rfl) ?_))
       refine bodyPost_ret (v := .agg (cs .u32 l)) (res_arr (by rfl) (by rfl) R4.out und65 (by rw [N.out]; exact sz65)) rfl ?_
       exact ⟨l, rfl, Hl.out.symm, B4.out⟩
end Go.Proofs.YtfabnnbljkkihaaGreatDoor.Sh
