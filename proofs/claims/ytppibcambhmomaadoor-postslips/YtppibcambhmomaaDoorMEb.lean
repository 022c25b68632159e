/- The document's Put. -/
import Derived.Test.YtppibcambhmomaaDoorMh
import Derived.Test.YtppibcambhmomaaDoorMEa
import Derived.Laws.IdiomStrings
import Derived.Laws.Concat
namespace Go.Proofs.YtppibcambhmomaaDoor
open Go.ChangeShapes Go.WideShapes Go.ChangeAt Go.RowKit
set_option maxRecDepth 20000
set_option linter.unusedVariables false
set_option linter.unusedSimpArgs false
/- what '[]byte(s)' lays -/
def cvC (X : World) (s : ByteArray) : Nat := grownCap X s.size 0 5
def cvW (X : World) (s : ByteArray) : World := X.drew.alloc (.cells (bytesRow s (cvC X s)) 5 ((bytesRow s (cvC X s)).size, (bytesRow s (cvC X s)).size + 1))
theorem run_cv (X : World) (s : ByteArray) : (convert 9 27 (.string s)).run Tryd.prog X = .ok (.slice (some ⟨X.heap.size, 0, none⟩) s.size (cvC X s)) (cvW X s) := run_bytes_of_string X 9 27 5 s Tryd.underlying9 Tryd.underlying27 Tryd.underlying5
theorem cvW_below (X : World) (s : ByteArray) : Below X.heap.size X (cvW X s) := by
  have h1 : Below X.heap.size X X.drew := below_drewN (Below.refl _ _) 1
  exact h1.alloc (Nat.le_refl _) _
theorem cvW_sln (X : World) (s : ByteArray) (h : s.size ≤ 140737488352256) : Sln (cvW X s) (some ⟨X.heap.size, 0, none⟩) s.size (bl s) := by
  refine ⟨(bl_len s).symm, bl_lt s, by rw [bl_len]; exact h, .inr ⟨X.heap.size, 0, rfl, by simp [cvW], fun i hi => ?_⟩⟩
  have hi2 : i < s.data.size := by rw [bl_len] at hi; exact hi
  have hb : (cvW X s).heap[X.heap.size]? = some (.cells (bytesRow s (cvC X s)) 5 ((bytesRow s (cvC X s)).size, (bytesRow s (cvC X s)).size + 1)) := heap_alloc_new X.drew _
  have hr := bytesRow_at s (cvC X s) i hi2
  rw [Nat.zero_add]
  unfold World.cell?
  rw [hb]
  have e : (bl s).getD i 0 = (s.data[i]).toNat := by
    have h3 : i < s.data.toList.length := by simpa using hi2
    simp [bl, List.getD]
    rw [Array.getElem?_eq_getElem hi2]
    rfl
  rw [e]
  simp [hr]
/- the bytes so far, and the command in its box -/
structure Rp (w W : World) (g1 : Nat) (A : Array Value) (a : Option Addr) (n c : Nat) (L : List Nat) (m : Nat) : Prop where
  own : Own W (g1 + 1) a n c L
  h1 : W.heap[g1]? = some (.cells A 60 (0, 0))
  bel : Below w.heap.size w W
  ln : n ≤ m
  lw : w.heap.size ≤ g1
section
variable {w W W1 W' : World} {g1 : Nat} {A : Array Value} {a a' : Option Addr} {n c n' c' : Nat} {L L' : List Nat} {m m' : Nat}
theorem Rp.lt (h : Rp w W g1 A a n c L m) : g1 + 1 ≤ W.heap.size := (Array.getElem?_eq_some_iff.1 h.h1).1
theorem Rp.below (h : Rp w W g1 A a n c L m) (hb : Below W.heap.size W W') : Rp w W' g1 A a n c L m := ⟨h.own.below hb, (hb.block _ (Array.getElem?_eq_some_iff.1 h.h1).1).trans h.h1, h.bel.trans (hb.mono h.bel.size), h.ln, h.lw⟩
theorem Rp.cell (h : Rp w W g1 A a n c L m) (j : Nat) (v : Value) (hv : A[j]? = some v) : W.cell? ⟨g1, j, none⟩ = some v := by simp [World.cell?, h.h1, hv]
theorem Rp.ch (h : Rp w W g1 A a n c L m) (hc : Ch W W' (fun q => blkOf a = some q)) (ho : Own W' (g1 + 1) a' n' c' L') (hm : n' ≤ m') : Rp w W' g1 A a' n' c' L' m' :=
  ⟨ho, (hc.block g1 (Array.getElem?_eq_some_iff.1 h.h1).1 (fun e => by have := (h.own.ge g1 e).1; omega)).trans h.h1, h.bel.trans (hc.toBelow h.bel.size (fun q hq e => by have := (h.own.ge q e).1; have := h.lw; omega)), hm, h.lw⟩
theorem Rp.gr (h : Rp w W g1 A a n c L m) (hG : Gr W W' (g1 + 1) a a' n' c' L') (hm : n' ≤ m') : Rp w W' g1 A a' n' c' L' m' := h.ch hG.ch hG.own hm
theorem encs_le {l : List Nat} (h : ∀ x ∈ l, x < 9223372036854775808) : (encs l).length ≤ l.length * 9 := by
  induction l with
  | nil => exact Nat.le_refl _
  | cons x l ih =>
    have h1 := enc_nine (h x (List.mem_cons_self ..))
    have h2 := ih (fun y hy => h y (List.mem_cons_of_mem _ hy))
    show (enc x ++ encs l).length ≤ _
    rw [List.length_append, List.length_cons]
    omega
/- numbers that are written out: a row of their own -/
theorem Rp.nums {PS : List Nat} {pa : Option Addr} {pn pc : Nat} (h : Hid (Rp w W g1 A a n c L m)) (hI : Hid (Irow W 0 pa pn (PS.map fun x : Nat => (x : Int)))) (hP : Hid (∀ x ∈ PS, x < 9223372036854775808)) (hap : Hid (0 < pn → ∀ q, blkOf pa = some q → q < g1 ∨ blkOf a ≠ some q)) (hm : m ≤ 900000) (hpn : pn ≤ 1000) :
    Calls Tryd.prog 62 #[.slice a n c,.slice pa pn pc] W fun e W' => ∃ a' n' c', e = .returned (.slice a' n' c') ∧ Hid (Rp w W' g1 A a' n' c' (L ++ encs PS) (m + pn * 9)) := by
  have k := h.out
  refine (nums_n k.own hI hP (fun h0 q hq e => ?_) k.lt (by have := k.ln; omega) hpn).mono ?_
  · rcases hap.out h0 q hq with h1 | h1
    · have := (k.own.ge q e).1; omega
    · exact h1 e
  · rintro e W' ⟨a', n', c', h1, h2⟩
    refine ⟨a', n', c', h1, k.gr h2.out ?_⟩
    have hl : PS.length = pn := by have := hI.out.len; simp at this; omega
    have h3 := encs_le hP.out
    have h4 := h2.out.own.len
    rw [List.length_append, ← k.own.len] at h4
    have := k.ln
    omega
end
theorem irow_new {W W1 : World} {l : List Nat} {b : Nat} {cs : Array Value} (hW : W1.heap[b]? = some (.cells cs 3 (0, 0))) (hc : cs.toList = l.map (fun x : Nat => Value.int .i64 (x : Int))) (hl : l.length ≤ 1000) : Irow W1 0 (some ⟨b, 0, none⟩) l.length (l.map fun x : Nat => (x : Int)) := by
  refine ⟨by simp, by omega, .inr ⟨b, 0, rfl, Nat.zero_le _, (Array.getElem?_eq_some_iff.1 hW).1, fun i hi => ?_⟩⟩
  have h1 : cs[i]? = some (.int .i64 ((l[i] : Nat) : Int)) := by
    rw [← Array.getElem?_toList, hc]
    simp [hi]
  simp [World.cell?, hW, h1, List.getD, hi]
end Go.Proofs.YtppibcambhmomaaDoor
