/- What headOf of package frame does to a machine, for all stamps in form. -/
import Derived.Test.YtmkknklkdgkbaaaDoorGa
namespace Go.Proofs.YtmkknklkdgkbaaaDoor
open Go.ChangeShapes Go.WideShapes Go.ChangeAt Go.RowKit
set_option maxRecDepth 20000
set_option linter.unusedVariables false
set_option linter.unusedSimpArgs false
/- numbers one behind the other -/
def encs : List Nat → List Nat
  | [] => []
  | n :: l => enc n ++ encs l
theorem encs_append (l m : List Nat) : encs (l ++ m) = encs l ++ encs m := by
  induction l with
  | nil => rfl
  | cons x l ih => simp [encs, ih]
theorem encs_len {l : List Nat} (h : ∀ x ∈ l, x < 9223372036854775808) : (encs l).length ≤ 9 * l.length := by
  induction l with
  | nil => simp [encs]
  | cons x l ih =>
    have h1 := enc_nine (h x (by simp))
    have h2 := ih (fun y hy => h y (by simp [hy]))
    simp [encs]
    omega
theorem encs_take {l : List Nat} {k : Nat} (h : k < l.length) : encs (l.take (k + 1)) = encs (l.take k) ++ enc (l.getD k 0) := by
  rw [take_succ_getD h, encs_append]
  simp [encs]
theorem encs_lt (l : List Nat) : ∀ x ∈ encs l, x < 256 := by
  induction l with
  | nil => simp [encs]
  | cons n l ih =>
    intro x hx
    simp only [encs, List.mem_append] at hx
    exact hx.elim (enc_bytes n x) (ih x)
/- the head of a frame -/
def headL (ns : List Nat) : List Nat := enc (sealL (encs ns)).length ++ sealL (encs ns)
/- a writer while a head's numbers are put -/
structure Hw (w wr : World) (g : Nat) (L : List Nat) : Prop where
  ex : ∃ a n c, Wri wr g w.heap.size a n c L false ∧ n = L.length
  bel : Below w.heap.size w wr
  ge : w.heap.size ≤ g
theorem Wfr.below0 {w0 w w' : World} {B g : Nat} {a : Option Addr} {n c : Nat} {L : List Nat} {s : Bool} (hb : Below B w0 w) (hW : Wri w g B a n c L s) (h : Wfr w w' g a) (hg : B ≤ g) (hB : B ≤ w.heap.size) : Below B w0 w' :=
  h.below hb hg (fun q hq => (hW.own.ge q hq).1) hB
theorem wfr_below0 {w0 w w' : World} {B g : Nat} (h : Wfr w w' g none) (hb : Below B w0 w) (hg : B ≤ g) (hB : B ≤ w.heap.size) : Below B w0 w' := h.below hb hg (fun q hq => by simp [blkOf] at hq) hB
set_option maxHeartbeats 2000000 in
theorem headOf_n (ns : List Nat) (hl : Hid (ns.length = 7)) (hb : Hid (∀ x ∈ ns, x < 9223372036854775808)) (a b c d e z : Nat) (he : Hid (ns = [1, a, b, c, d, e, z])) (w : World) :
    Calls Tryd.prog 26 #[.agg #[.int .i64 (a : Int), .int .i64 (b : Int), .int .i64 (c : Int), .int .i64 (d : Int), .int .i64 (e : Int)], .int .i64 (z : Int)] w fun en w' => ∃ ah N ch, en = .returned (.tuple #[.slice ah N ch, .nilIface]) ∧ Hid (Own w' w.heap.size ah N ch (headL ns) ∧ N ≤ 1000 ∧ Below w.heap.size w w') := by
  have b0 : Hid (Below w.heap.size w (w.alloc (.cells #[.int .i64 (a : Int), .int .i64 (b : Int), .int .i64 (c : Int), .int .i64 (d : Int), .int .i64 (e : Int)] 25))) := (Below.refl _ w).alloc (Nat.le_refl _) _
  obtain ⟨l, HL⟩ : ∃ l : List Int, Hid ([1, (a : Int), b, c, d, e, z] = l) := ⟨_, rfl⟩
  have LN : Hid (l = ns.map fun x : Nat => (x : Int)) := by rw [← HL.out, he.out]; rfl
  have LL : Hid (l.length = 7) := by rw [LN.out, List.length_map]; exact hl.out
  go_enter Tryd.func26, Tryd.ntmps26
  go_wp2_with (first
    | (go_at_call 45; refine (newWriter_n _).mono ?_; rintro en w1 ⟨rfl, H1⟩
       obtain ⟨g, HG⟩ : ∃ g, Hid ((w.alloc (.cells #[.int .i64 (a : Int), .int .i64 (b : Int), .int .i64 (c : Int), .int .i64 (d : Int), .int .i64 (e : Int)] 25)).heap.size = g) := ⟨_, rfl⟩
       rw [HG.out]
       have W1 : Hid (Hw w w1 g []) := by
         refine ⟨⟨none, 0, 0, ?_, rfl⟩, ?_, ?_⟩
         · rw [H1.out, ← HG.out]; exact Wri.new _ _
         · rw [H1.out]; exact b0.out.alloc b0.out.size _
         · rw [← HG.out]; simp
       have c0 : w1.cell? ⟨w.heap.size, 0, none⟩ = some (.int .i64 (a : Int)) ∧ w1.cell? ⟨w.heap.size, 1, none⟩ = some (.int .i64 (b : Int)) ∧ w1.cell? ⟨w.heap.size, 2, none⟩ = some (.int .i64 (c : Int)) ∧ w1.cell? ⟨w.heap.size, 3, none⟩ = some (.int .i64 (d : Int)) ∧ w1.cell? ⟨w.heap.size, 4, none⟩ = some (.int .i64 (e : Int)) := by
         rw [H1.out]; simp [go_sem]
       obtain ⟨q0, q1, q2, q3, q4⟩ := c0
       clear H1 HG)
    | (go_at_call 44; refine (numbersOf_n (a : Int) b c d e z _).mono ?_; rintro en w2 ⟨rfl, H2⟩
       rw [HL.out]
       have W2 : Hid (Hw w w2 g []) := by
         obtain ⟨a', n', c', h1, h2⟩ := W1.out.ex
         exact ⟨⟨a', n', c', h1.below H2.out, h2⟩, W1.out.bel.trans (H2.out.mono W1.out.bel.size), W1.out.ge⟩
       clear W1 H2 q0 q1 q2 q3 q4))
  go_loopw [16] (fun t wr => ∃ k : Nat, k ≤ 7 ∧ t = .int .i64 k ∧ Hid (Hw w wr g (encs (ns.take k)))) (fun t _ => 7 - (intOf t).toNat)
  case atStart => exact ⟨0, by omega, rfl, W2.out⟩
  case round =>
    clear W2
    obtain ⟨k, hk, rfl, HK⟩ := hrel
    obtain ⟨av, nv, cv, HV⟩ : ∃ av nv cv, Hid (Wri wr g w.heap.size av nv cv (encs (ns.take k)) false ∧ nv = (encs (ns.take k)).length) := HK.out.ex
    have WV : Hid (Wri wr g w.heap.size av nv cv (encs (ns.take k)) false) := HV.out.1
    have hnv : nv ≤ 63 := by
      rw [HV.out.2]
      have h1 := encs_len (l := ns.take k) (fun x hx => hb.out x (List.mem_of_mem_take hx))
      have h2 := hl.out
      simp at h1
      omega
    have SB : Hid (w.heap.size ≤ wr.heap.size) := HK.out.bel.size
    by_cases hlt : k < 7
    · have i1 : (k : Int) < 7 := by omega
      have IX := fun w' => index64 l LL.out k hlt w'
      obtain ⟨x, Hx⟩ : ∃ x : Nat, Hid (ns.getD k 0 = x) := ⟨_, rfl⟩
      have ex : l.getD k 0 = (x : Int) := by
        rw [LN.out, ← Hx.out]
        have h1 := hl.out
        simp [List.getD, show k < ns.length by omega]
      have EX : Hid (l.getD k 0 = (x : Int)) := ex
      clear ex
      rw [EX.out] at IX
      have xb : x < 9223372036854775808 := by
        rw [← Hx.out]
        have h1 := hl.out
        have h2 : ns.getD k 0 ∈ ns := by simp [List.getD, show k < ns.length by omega]
        exact hb.out _ h2
      have NB : Hid (nv + 9 ≤ 140737488352256) := by show _ ≤ _; omega
      have hlt7 : Hid (k < 7) := hlt
      clear EX
      go_wp2_with (go_at_call 46; refine (num_n WV xb SB NB).mono ?_; rintro en w1 ⟨a1, n1, c1, rfl, H1⟩
                   have W1 : Hid (Hw w w1 g (encs (ns.take (k + 1)))) := by
                     have h1 := hl.out
                     rw [encs_take (by have := hlt7.out; omega), Hx.out]
                     exact ⟨⟨a1, n1, c1, H1.out.1, H1.out.1.own.len⟩, Wfr.below0 HK.out.bel WV.out H1.out.2.1 HK.out.ge SB.out, HK.out.ge⟩)
      go_roundw
      case rel => exact ⟨k + 1, by omega, by go_num, W1.out⟩
      case measure => simp [intOf]; omega
    · obtain rfl : k = 7 := by omega
      have TK : Hid (ns.take 7 = ns) := List.take_of_length_le (by have := hl.out; omega)
      rw [TK.out] at WV HV HK
      have NB : Hid (nv ≤ 140737488352256) := by show _ ≤ _; omega
      go_upto_region 10 with (go_at_call 47; refine (done_n WV NB).mono ?_; rintro en w1 ⟨a1, c1, rfl, H1⟩)
      have B1 : Hid (Below w.heap.size w w1) := HK.out.bel.trans (H1.out.2.mono HK.out.bel.size)
      have S1 : Hid (Sln w1 a1 nv (encs ns)) := H1.out.1.sln (by omega)
      have Z1 : Hid (a1 = none → c1 = 0) := H1.out.1.cap0
      have SN : Hid (w.heap.size ≤ w1.heap.size) := B1.out.size
      go_wp2_with (first
        | (go_at_call 45; refine (newWriter_n _).mono ?_; rintro en w2 ⟨rfl, H2⟩
           have b2 : Below w1.heap.size w1 w2 := by rw [H2.out]; exact (Below.refl _ _).alloc (Nat.le_refl _) _
           have S2 : Hid (Sln w2 a1 nv (encs ns)) := S1.out.below b2
           obtain ⟨g2, HG2⟩ : ∃ g2, Hid (w1.heap.size = g2) := ⟨_, rfl⟩
           have V2 : Hid (Wri w2 g2 g2 none 0 0 [] false ∧ Below w.heap.size w w2 ∧ g2 + 1 = w2.heap.size) := by
             rw [← HG2.out]
             refine ⟨?_, B1.out.trans (b2.mono SN.out), ?_⟩
             · rw [H2.out]; exact Wri.new _ _
             · rw [H2.out]; simp
           rw [HG2.out]
           clear b2 H2)
        | (go_at_call 49; refine (seal_n S2 Z1).mono ?_; rintro en w3 ⟨gs, M, rfl, H3⟩
           have b3 := H3.out.2.2.2
           have hm : M = nv + 4 := H3.out.1
           have V3 : Hid (Wri w3 g2 g2 none 0 0 [] false) := V2.out.1.below b3
           have ls : (sealL (encs ns)).length = M := by rw [seal_len, hm, HV.out.2]
           have S3 : Hid (Sln w3 (some ⟨gs, 0, none⟩) M (sealL (encs ns))) := by
             have h1 := H3.out.2.2.1.sln (seal_bytes (encs_lt ns)) (by omega)
             rw [ls] at h1
             exact h1
           have Z3 : Hid ((some (⟨gs, 0, none⟩ : Addr)) = none → M = 0) := fun h => by cases h
           have A3 : Hid (∀ b off, sealL (encs ns) ≠ [] → (some (⟨gs, 0, none⟩ : Addr)) = some ⟨b, off, none⟩ → b ≠ g2 ∧ some b ≠ blkOf none) := by
             intro b off _ h
             simp at h
             have h2 := H3.out.2.1
             have h3 := V2.out.2.2
             refine ⟨by omega, by simp [blkOf]⟩
           have T3 : Hid (g2 ≤ w3.heap.size) := by have h1 := b3.size; have h3 := V2.out.2.2; show _ ≤ _; omega
           have N3 : Hid (0 + M + 18 ≤ 140737488352256) := by show _ ≤ _; omega
           have B3 : Hid (Below w.heap.size w w3) := V2.out.2.1.trans (b3.mono V2.out.2.1.size)
           have LS : Hid ((sealL (encs ns)).length = M) := ls
           have hmb : M ≤ 67 := by omega
           clear b3 ls hm)
        | (go_at_call 48; refine (wbytes_n V3 S3 Z3 A3 T3 N3).mono ?_; rintro en w4 ⟨a4, n4, c4, rfl, H4⟩
           have E4 : Hid (n4 = (headL ns).length ∧ n4 ≤ 1000) := by
             have h1 := H4.out.1.own.len
             rw [List.nil_append] at h1
             have h2 := enc_nine (n := M) (by omega)
             have h3 : n4 = (headL ns).length := by rw [h1, headL, LS.out]
             refine ⟨h3, ?_⟩
             rw [h1, List.length_append, LS.out]
             omega
           have V4 : Hid (Wri w4 g2 g2 a4 n4 c4 (headL ns) false) := by
             have h1 := H4.out.1
             rw [List.nil_append] at h1
             rw [headL, LS.out]
             exact h1
           have N4 : Hid (n4 ≤ 140737488352256) := Nat.le_trans E4.out.2 (by omega)
           have B4 : Hid (Below w.heap.size w w4) := (wfr_below0 H4.out.2.1 B3.out (by have := SN.out; rw [HG2.out] at this; exact this) B3.out.size))
        | (go_at_call 47; refine (done_n V4 N4).mono ?_; rintro en w5 ⟨a5, c5, rfl, H5⟩
           have F5 : Hid (Own w5 w.heap.size a5 n4 c5 (headL ns) ∧ n4 ≤ 1000 ∧ Below w.heap.size w w5) :=
             ⟨H5.out.1.base B4.out.size, E4.out.2, B4.out.trans (H5.out.2.mono B4.out.size)⟩))
      go_ret2
      exact ⟨a5, n4, c5, rfl, F5.out⟩
end Go.Proofs.YtmkknklkdgkbaaaDoor
