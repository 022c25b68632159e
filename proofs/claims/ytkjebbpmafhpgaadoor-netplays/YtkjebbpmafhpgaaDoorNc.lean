/- The network in memory; find, isFull, isNode. -/
import Derived.Test.YtkjebbpmafhpgaaDoorNb
import Derived.Test.YtkjebbpmafhpgaaDoorVo
import Derived.Test.YtkjebbpmafhpgaaDoorCt
import Derived.Test.YtkjebbpmafhpgaaDoorEm
namespace Go.Proofs.YtkjebbpmafhpgaaDoor
open Go.ChangeShapes Go.WideShapes Go.ChangeAt Go.RowKit
set_option maxRecDepth 20000
set_option linter.unusedVariables false
set_option linter.unusedSimpArgs false
def bytesOf (s : ByteArray) : List Nat := s.data.toList.map UInt8.toNat
theorem bytesOf_length (s : ByteArray) : (bytesOf s).length = s.size := by
  unfold bytesOf
  rw [List.length_map, Array.length_toList]
  rfl
theorem bytesOf_lt (s : ByteArray) : ∀ x ∈ bytesOf s, x < 256 := by
  intro x hx
  obtain ⟨b, _, rfl⟩ := List.mem_map.1 hx
  exact b.toNat_lt
theorem bytesOf_append (a b : ByteArray) : bytesOf (a ++ b) = bytesOf a ++ bytesOf b := by simp [bytesOf]
theorem bytesOf_spell {l : List Nat} (h : ∀ x ∈ l, x < 256) : bytesOf (spell l) = l := by
  unfold bytesOf
  rw [spell_data]
  exact ofNat_back h
theorem spell_bytesOf (s : ByteArray) : spell (bytesOf s) = s := by
  have h : (spell (bytesOf s)).data.toList = s.data.toList := by
    rw [spell_data]
    unfold bytesOf
    rw [List.map_map]
    conv => rhs; rw [← List.map_id s.data.toList]
    refine List.map_congr_left fun x _ => ?_
    simp
  have h2 : (spell (bytesOf s)).data = s.data := by
    apply Array.ext'
    exact h
  cases hs : spell (bytesOf s)
  cases s
  rw [hs] at h2
  simp only at h2
  rw [h2]
/- what '[]byte(s)' lays -/
def cvC (X : World) (s : ByteArray) : Nat := grownCap X s.size 0 5
def cvW (X : World) (s : ByteArray) : World := X.drew.alloc (.cells (bytesRow s (cvC X s)) 5 ((bytesRow s (cvC X s)).size, (bytesRow s (cvC X s)).size + 1))
theorem run_cv (X : World) (s : ByteArray) : (convert 9 32 (.string s)).run Tryd.prog X = .ok (.slice (some ⟨X.heap.size, 0, none⟩) s.size (cvC X s)) (cvW X s) := run_bytes_of_string X 9 32 5 s Tryd.underlying9 Tryd.underlying32 Tryd.underlying5
theorem cvC_ge (X : World) (s : ByteArray) : s.size ≤ cvC X s := grownCap_ge X s.size 0 5
theorem cvW_below (X : World) (s : ByteArray) : Below X.heap.size X (cvW X s) := by
  have h1 : Below X.heap.size X X.drew := below_drewN (Below.refl _ _) 1
  exact h1.alloc (Nat.le_refl _) _
theorem cvW_sln (X : World) (s : ByteArray) (h : s.size ≤ 140737488352256) : Sln (cvW X s) (some ⟨X.heap.size, 0, none⟩) s.size (bytesOf s) := by
  refine ⟨(bytesOf_length s).symm, bytesOf_lt s, by rw [bytesOf_length]; exact h, .inr ⟨X.heap.size, 0, rfl, by simp [cvW], fun i hi => ?_⟩⟩
  have hi2 : i < s.data.size := by rw [bytesOf_length] at hi; exact hi
  have hb : (cvW X s).heap[X.heap.size]? = some (.cells (bytesRow s (cvC X s)) 5 ((bytesRow s (cvC X s)).size, (bytesRow s (cvC X s)).size + 1)) := heap_alloc_new X.drew _
  have hr := bytesRow_at s (cvC X s) i hi2
  rw [Nat.zero_add]
  unfold World.cell?
  rw [hb]
  have e : (bytesOf s).getD i 0 = (s.data[i]).toNat := by
    have h3 : i < s.data.toList.length := by simpa using hi2
    simp [bytesOf, List.getD]
    rw [Array.getElem?_eq_getElem hi2]
    rfl
  rw [e]
  simp [hr]
/- a network: its struct at d, its letters in a row of its own -/
structure Nt (w : World) (lo d : Nat) (a : Option Addr) (X : List Lt) (g : Int) : Prop where
  st : ∃ n c, w.heap[d]? = some (.cells #[.slice a n c, .int .i64 g] 58 (0, 0)) ∧ Rw w lo 71 EL a n c X
  dl : lo ≤ d
  rs : Ris X g
  ln : X.length ≤ 4096
  gz : 0 ≤ g
/- what a call on it may change, and where its row lies then -/
structure NF (w w' : World) (d : Nat) (a a' : Option Addr) : Prop where
  ch : Ch w w' (fun q => q = d ∨ blkOf a = some q)
  nw : ∀ q, blkOf a' = some q → blkOf a = some q ∨ w.heap.size ≤ q
section
variable {w w' : World} {lo d : Nat} {g : Int} {a : Option Addr} {X : List Lt}
theorem Nt.dlt (h : Nt w lo d a X g) : d < w.heap.size := by
  obtain ⟨n, c, h1, _⟩ := h.st
  exact (Array.getElem?_eq_some_iff.1 h1).1
theorem Nt.alt (h : Nt w lo d a X g) {q : Nat} (e : blkOf a = some q) : lo ≤ q ∧ q < w.heap.size ∧ q ≠ d := by
  obtain ⟨n, c, h1, h2⟩ := h.st
  refine ⟨(h2.lt e).1, (h2.lt e).2, ?_⟩
  rintro rfl
  obtain ⟨cur, h3, _⟩ := h2.blk e
  rw [h1] at h3
  cases h3
theorem Nt.keep (h : Nt w lo d a X g) (hb : ∀ q, (q = d ∨ blkOf a = some q) → w'.heap[q]? = w.heap[q]?) : Nt w' lo d a X g := by
  obtain ⟨⟨n, c, h1, h2⟩, h3, h4, h5, h6⟩ := h
  exact ⟨⟨n, c, (hb d (.inl rfl)).trans h1, h2.keep1 (fun q e => hb q (.inr e))⟩, h3, h4, h5, h6⟩
theorem Nt.below (h : Nt w lo d a X g) (hb : Below w.heap.size w w') : Nt w' lo d a X g := h.keep fun q hq => hb.block q (by
  rcases hq with rfl | e
  · exact h.dlt
  · exact (h.alt e).2.1)
end
theorem NF.below {w w' : World} {d : Nat} {a : Option Addr} (hb : Below w.heap.size w w') : NF w w' d a a := ⟨Ch.below hb, fun q e => .inl e⟩
theorem NF.trans {w w1 w2 : World} {d : Nat} {a a1 a2 : Option Addr} (hd : d < w.heap.size) (h : NF w w1 d a a1) (k : NF w1 w2 d a1 a2) : NF w w2 d a a2 := by
  refine ⟨h.ch.then k.ch (fun q _ e => e) (fun q hq e => ?_), fun q e => ?_⟩
  · rcases e with e | e
    · exact .inl e
    · rcases h.nw q e with e | e
      · exact .inr e
      · omega
  · rcases k.nw q e with e | e
    · exact h.nw q e
    · exact .inr (Nat.le_trans h.ch.size e)
theorem find_n {w : World} {lo d : Nat} {g : Int} {a : Option Addr} {X : List Lt} (k : Int) (hN : Hid (Nt w lo d a X g)) :
    Calls Tryd.prog 28 #[.pointer (some ⟨d, 0, none⟩), .int .i64 k] w fun e w' => e = .returned (.tuple #[.int .i64 (pl k X : Nat), .bool (isL k X)]) ∧ Hid (Below w.heap.size w w') := by
  obtain ⟨n, c, h1, h2⟩ := hN.out.st
  have c0 : w.cell? ⟨d, 0, none⟩ = some (.slice a n c) := by simp [World.cell?, h1]
  have A : Hid (Rw w lo 71 EL a n c X) := h2
  have PW : Hid (X.Pairwise (fun x y => x.no < y.no)) := hN.out.rs.pw
  have nb : n ≤ 4096 := by rw [h2.len]; exact hN.out.ln
  clear h1 h2
  go_enter Tryd.func28, Tryd.ntmps28
  go_wp2_with (go_at_call 34; refine (bsf_n k A nb PW).mono ?_; rintro e w1 ⟨rfl, H1⟩)
  go_ret2
  exact ⟨rfl, H1.out⟩
theorem full_n {w : World} {lo d : Nat} {g : Int} {a : Option Addr} {X : List Lt} {b : Bool} (hN : Hid (Nt w lo d a X g)) (hb : Hid (decide (4096 ≤ X.length) = b)) :
    Calls Tryd.prog 26 #[.pointer (some ⟨d, 0, none⟩)] w fun e w' => e = .returned (.bool b) ∧ w' = w := by
  obtain ⟨n, c, h1, h2⟩ := hN.out.st
  have c0 : w.cell? ⟨d, 0, none⟩ = some (.slice a n c) := by simp [World.cell?, h1]
  have HL : Hid (n = X.length) := h2.len
  clear h1 h2
  cases b with
  | true =>
    have i1 : (4096 : Int) ≤ (n : Int) := by have := of_decide_eq_true hb.out; have := HL.out; omega
    go_enter Tryd.func26, Tryd.ntmps26
    go_wp2
    go_ret
    exact ⟨by first | rfl | simp [i1], rfl⟩
  | false =>
    have i1 : ¬ ((4096 : Int) ≤ (n : Int)) := by have := of_decide_eq_false hb.out; have := HL.out; omega
    go_enter Tryd.func26, Tryd.ntmps26
    go_wp2
    go_ret
    exact ⟨by first | rfl | simp [i1], rfl⟩
def ndB (k : Int) : Bool := decide (0 ≤ k ∧ k < 16)
theorem node_n {w : World} {k : Int} {b : Bool} (hb : Hid (ndB k = b)) : Calls Tryd.prog 25 #[.int .i64 k] w fun e w' => e = .returned (.bool b) ∧ w' = w := by
  have hb2 := hb.out
  unfold ndB at hb2
  by_cases h1 : 0 ≤ k
  · by_cases h2 : k < 16
    · have e : b = true := by rw [← hb2]; simp [h1, h2]
      subst e
      clear hb2
      go_enter Tryd.func25, Tryd.ntmps25
      go_wp2
      go_ret
      exact ⟨by first | rfl | simp [h1, h2], rfl⟩
    · have e : b = false := by rw [← hb2]; simp [h2]
      subst e
      clear hb2
      go_enter Tryd.func25, Tryd.ntmps25
      go_wp2
      go_ret
      exact ⟨by first | rfl | simp [h1, h2], rfl⟩
  · have e : b = false := by rw [← hb2]; simp [h1]
    subst e
    clear hb2
    go_enter Tryd.func25, Tryd.ntmps25
    go_wp2
    go_ret
    exact ⟨by first | rfl | simp [h1], rfl⟩
theorem ris_snoc {X : List Lt} {g : Int} {x : Lt} (hg : 0 ≤ g) (h : Ris X g) (hx : x.no = g + 1) (hs : x.bs.size ≤ 140737488351232) : Ris (X ++ [x]) (g + 1) := by
  refine ⟨List.pairwise_append.2 ⟨h.pw, List.pairwise_singleton _ _, fun y hy z hz => ?_⟩, fun y hy => ?_, fun y hy => ?_⟩
  · obtain rfl := List.mem_singleton.1 hz
    have := (h.bd y hy).2; omega
  · rcases List.mem_append.1 hy with hy | hy
    · have := h.bd y hy; omega
    · obtain rfl := List.mem_singleton.1 hy
      omega
  · rcases List.mem_append.1 hy with hy | hy
    · exact h.sz y hy
    · obtain rfl := List.mem_singleton.1 hy
      exact hs
theorem ris_del {X : List Lt} {g : Int} (p : Nat) (h : Ris X g) : Ris (X.eraseIdx p) g :=
  ⟨h.pw.sublist (List.eraseIdx_sublist ..), fun x hx => h.bd x ((List.eraseIdx_sublist ..).mem hx), fun x hx => h.sz x ((List.eraseIdx_sublist ..).mem hx)⟩
end Go.Proofs.YtkjebbpmafhpgaaDoor
