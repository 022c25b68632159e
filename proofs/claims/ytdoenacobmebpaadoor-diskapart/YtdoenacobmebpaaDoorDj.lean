/- The file f stays through every call at another name; List; slices.Values as an iterator. -/
import Derived.Test.YtdoenacobmebpaaDoorDi
import Derived.Test.YtdoenacobmebpaaDoorFv
namespace Go.Proofs.YtdoenacobmebpaaDoor
open Go.ChangeShapes Go.WideShapes Go.ChangeAt Go.RowKit Go.Shelf
set_option maxRecDepth 20000
set_option linter.unusedVariables false
set_option linter.unusedSimpArgs false
attribute [local go_sem] Oper.semAt_some
abbrev F12 : Fl := ⟨spell [1, 2], spell [1, 2], true⟩
/- the drive, with f whole -/
structure Sa (w0 w : World) (d m : Nat) : Prop where
  dv : ∃ D full, Drv w d m D full 0 ∧ vw D nF = some F12
  bel : Below w0.heap.size w0 w
  ld : w0.heap.size ≤ d
  lm : w0.heap.size ≤ m
section
variable {w0 w w' : World} {d m : Nat}
theorem Sa.below (h : Sa w0 w d m) (hb : Below w.heap.size w w') : Sa w0 w' d m := by
  obtain ⟨⟨D, fu, h1, h2⟩, h3, h4, h5⟩ := h
  exact ⟨⟨D, fu, h1.below hb, h2⟩, h3.trans (hb.mono h3.size), h4, h5⟩
theorem Sa.next (h : Sa w0 w d m) {D : DataW Unit} {fu : Bool} (h1 : Drv w' d m D fu 0) (h2 : vw D nF = some F12) (hc : ChD w w' d m) : Sa w0 w' d m :=
  ⟨⟨D, fu, h1, h2⟩, h.bel.trans (hc.below h.ld h.lm h.bel.size), h.ld, h.lm⟩
theorem Sa.lt (h : Sa w0 w d m) : d < w.heap.size ∧ m < w.heap.size := by
  obtain ⟨D, fu, h1, h2⟩ := h.dv
  exact ⟨h1.lt, h1.mlt⟩
/- what a call's end says -/
def An (w0 w : World) (d m : Nat) (e : Ending) (w' : World) : Prop := ∃ r, e = .returned r ∧ Sa w0 w' d m ∧ ChD w w' d m
variable {E : Nat → Addr} (hE : Hid (Er w0 E)) (hq : Hid (Sa w0 w d m)) (s : ByteArray) (hs : s.size ≤ 9223372036854775807) (hne : Hid (s ≠ nF))
include hE hq hs hne
theorem an_w {a : Option Addr} {n c : Nat} {l : List Nat} (hS : Hid (Sln w a n l)) : Calls Tryd.prog 13 #[.pointer (some ⟨d, 0, none⟩), .string s, .slice a n c] w (An w0 w d m) := by
  obtain ⟨D, fu, h1, h2⟩ := hq.out.dv
  have e1 : Hid (Er w E) := hE.out.below hq.out.bel
  cases hn : nm s with
  | false =>
    refine (write_name s hs e1 hn _).mono ?_
    rintro e w' ⟨rfl, rfl⟩
    exact ⟨_, rfl, hq.out, ChD.refl _ _ _⟩
  | true =>
    by_cases hf : fu = true ∨ (vw D s = none ∧ 512 ≤ Maps.size D)
    · refine (write_full (show Hid (Drv w d m D fu 0) from h1) s e1 hn hf _).mono ?_
      rintro e w' ⟨rfl, H⟩
      exact ⟨_, rfl, hq.out.below H.out, ChD.of_below H.out⟩
    · obtain rfl : fu = false := by cases fu <;> simp_all
      have hr : (vw D s).isSome = true ∨ Maps.size D < 512 := by
        cases hv : vw D s with
        | some f => exact .inl rfl
        | none => right; simp [hv] at hf; omega
      refine (write_ok (k := c) (show Hid (Drv w d m D false 0) from h1) s hS hn hr).mono ?_
      rintro e w' ⟨rfl, H⟩
      exact ⟨_, rfl, hq.out.next H.out.1 (by rw [vw_put h1.isMap, if_neg (Ne.symm hne.out)]; exact h2) H.out.2, H.out.2⟩
theorem an_s : Calls Tryd.prog 14 #[.pointer (some ⟨d, 0, none⟩), .string s] w (An w0 w d m) := by
  obtain ⟨D, fu, h1, h2⟩ := hq.out.dv
  have e1 : Hid (Er w E) := hE.out.below hq.out.bel
  cases hn : nm s with
  | false =>
    refine (sync_name (show Hid (Drv w d m D fu 0) from h1) s hs e1 hn).mono ?_
    rintro e w' ⟨rfl, H⟩
    exact ⟨_, rfl, hq.out.below H.out, ChD.of_below H.out⟩
  | true =>
    cases hv : vw D s with
    | none =>
      refine (sync_gone (show Hid (Drv w d m D fu 0) from h1) s e1 hn hv).mono ?_
      rintro e w' ⟨rfl, H⟩
      exact ⟨_, rfl, hq.out.below H.out, ChD.of_below H.out⟩
    | some f =>
      cases fu with
      | true =>
        refine (sync_full (show Hid (Drv w d m D true 0) from h1) s f e1 hn hv).mono ?_
        rintro e w' ⟨rfl, H⟩
        exact ⟨_, rfl, hq.out.below H.out, ChD.of_below H.out⟩
      | false =>
        refine (sync_ok (show Hid (Drv w d m D false 0) from h1) s f hn hv).mono ?_
        rintro e w' ⟨rfl, H⟩
        exact ⟨_, rfl, hq.out.next H.out.1 (by rw [vw_put h1.isMap, if_neg (Ne.symm hne.out)]; exact h2) H.out.2, H.out.2⟩
theorem an_d : Calls Tryd.prog 15 #[.pointer (some ⟨d, 0, none⟩), .string s] w (An w0 w d m) := by
  obtain ⟨D, fu, h1, h2⟩ := hq.out.dv
  have e1 : Hid (Er w E) := hE.out.below hq.out.bel
  cases hn : nm s with
  | false =>
    refine (delete_name (show Hid (Drv w d m D fu 0) from h1) s hs e1 hn).mono ?_
    rintro e w' ⟨rfl, H⟩
    exact ⟨_, rfl, hq.out.below H.out, ChD.of_below H.out⟩
  | true =>
    cases hv : vw D s with
    | none =>
      refine (delete_gone (show Hid (Drv w d m D fu 0) from h1) s e1 hn hv).mono ?_
      rintro e w' ⟨rfl, H⟩
      exact ⟨_, rfl, hq.out.below H.out, ChD.of_below H.out⟩
    | some f =>
      refine (delete_ok (show Hid (Drv w d m D fu 0) from h1) s f hn hv).mono ?_
      rintro e w' ⟨rfl, H⟩
      exact ⟨_, rfl, hq.out.next H.out.1 (by rw [vw_del, if_neg (Ne.symm hne.out)]; exact h2) H.out.2, H.out.2⟩
theorem an_r (t : ByteArray) (ht : t.size ≤ 9223372036854775807) (htne : Hid (t ≠ nF)) : Calls Tryd.prog 17 #[.pointer (some ⟨d, 0, none⟩), .string s, .string t] w (An w0 w d m) := by
  obtain ⟨D, fu, h1, h2⟩ := hq.out.dv
  have e1 : Hid (Er w E) := hE.out.below hq.out.bel
  cases hnt : nm t with
  | false =>
    refine (rename_to s t ht e1 hnt).mono ?_
    rintro e w' ⟨rfl, rfl⟩
    exact ⟨_, rfl, hq.out, ChD.refl _ _ _⟩
  | true =>
    cases hn : nm s with
    | false =>
      refine (rename_name (show Hid (Drv w d m D fu 0) from h1) s t hs e1 hnt hn).mono ?_
      rintro e w' ⟨rfl, H⟩
      exact ⟨_, rfl, hq.out.below H.out, ChD.of_below H.out⟩
    | true =>
      cases hv : vw D s with
      | none =>
        refine (rename_gone (show Hid (Drv w d m D fu 0) from h1) s t e1 hnt hn hv).mono ?_
        rintro e w' ⟨rfl, H⟩
        exact ⟨_, rfl, hq.out.below H.out, ChD.of_below H.out⟩
      | some f =>
        refine (rename_ok (show Hid (Drv w d m D fu 0) from h1) s t f hn hnt hv).mono ?_
        rintro e w' ⟨rfl, H⟩
        exact ⟨_, rfl, hq.out.next H.out.1 (by rw [vw_put (h1.isMap.del _), if_neg (Ne.symm htne.out), vw_del, if_neg (Ne.symm hne.out)]; exact h2) H.out.2, H.out.2⟩
omit hE hs hne
theorem an_c : Calls Tryd.prog 11 #[.pointer (some ⟨d, 0, none⟩)] w (An w0 w d m) := by
  obtain ⟨D, fu, h1, h2⟩ := hq.out.dv
  refine (crash_n (show Hid (Drv w d m D fu 0) from h1)).mono ?_
  rintro e w' ⟨D', rfl, H⟩
  exact ⟨_, rfl, hq.out.next H.out.1 (by rw [H.out.2.2, h2]; rfl) H.out.2.1, H.out.2.1⟩
theorem an_f (b : Bool) : Calls Tryd.prog 18 #[.pointer (some ⟨d, 0, none⟩), .bool b] w (An w0 w d m) := by
  obtain ⟨D, fu, h1, h2⟩ := hq.out.dv
  refine (fill_n (show Hid (Drv w d m D fu 0) from h1) b).mono ?_
  rintro e w' ⟨rfl, H⟩
  exact ⟨_, rfl, hq.out.next H.out.1 h2 H.out.2, H.out.2⟩
theorem sa_read : Calls Tryd.prog 16 #[.pointer (some ⟨d, 0, none⟩), .string ⟨#[102]⟩] w fun e w' => ∃ g k' c, e = .returned (.tuple #[.slice (some ⟨g, 0, none⟩) k' c, .nilIface]) ∧ Hid (Sln w' (some ⟨g, 0, none⟩) k' [1, 2] ∧ Below w.heap.size w w') := by
  obtain ⟨D, fu, h1, h2⟩ := hq.out.dv
  refine (read_ok (show Hid (Drv w d m D fu 0) from h1) nF F12 nm_f h2 (by rw [spell_size]; decide)).mono ?_
  rintro e w' ⟨g, k', c, rfl, H⟩
  refine ⟨g, k', c, rfl, ?_, H.out.2.1⟩
  have h := H.out.1
  rw [bytesOf_spell (by decide)] at h
  exact h
end
theorem same_bytes {w : World} {a b : Option Addr} {n m c d : Nat} {l : List Nat} (h1 : Hid (Sln w a n l)) (h2 : Hid (Sln w b m l)) :
    Calls Tryd.prog 19 #[.slice a n c, .slice b m d] w fun e w' => e = .returned (.bool true) ∧ w' = w := by
  have c1 := conv_n (k := c) h1
  have c2 := conv_n (k := d) h2
  have E : ((spell l).toList == (spell l).toList) = true := by simp
  go_enter Tryd.func19, Tryd.ntmps19
  go_wp2
  go_ret
  exact ⟨rfl, rfl⟩
theorem two_sln (w : World) : Sln (w.alloc (.cells #[.int .u8 1, .int .u8 2] 5)) (some ⟨w.heap.size, 0, none⟩) 2 [1, 2] := by
  have h : Blk (w.alloc (.cells #[.int .u8 1, .int .u8 2] 5)) w.heap.size [1, 2] := by
    show (w.heap.push _)[w.heap.size]? = _
    simp [bv]
  exact h.sln (by decide) (by simp)
/- List -/
theorem values_n (w : World) (a : Option Addr) (k c : Nat) : Calls Tryd.prog 40 #[.slice a k c] w fun e w' => e = .returned (.func (.func 51) #[] #[.pointer (some ⟨w.heap.size, 0, none⟩)]) ∧ w' = w.alloc (.cells #[.slice a k c] 66) := by
  go_enter Tryd.func40, Tryd.ntmps40
  go_wp2
  go_ret
  exact ⟨rfl, rfl⟩
/- names that rise, each once -/
def Rises (ks : List ByteArray) : Prop := ks.Pairwise fun x y => x.data.toList < y.data.toList
set_option maxHeartbeats 1000000 in
theorem list_n {w : World} {d m : Nat} {D : DataW Unit} {full : Bool} {lost : Int} (hD : Hid (Drv w d m D full lost)) :
    Calls Tryd.prog 20 #[.pointer (some ⟨d, 0, none⟩)] w fun e w' => ∃ K a k c ks, e = .returned (.func (.func 51) #[] #[.pointer (some ⟨K, 0, none⟩)]) ∧ Hid (Kn w' w.heap.size a k ks ∧ w'.cell? ⟨K, 0, none⟩ = some (.slice a k c) ∧ w.heap.size ≤ K ∧ (∃ ss : List (List UInt8), ss.Perm (strKeys D) ∧ ks = (ss.mergeSort (fun x y => decide (x ≤ y))).map fun x => ⟨x.toArray⟩) ∧ Below w.heap.size w w') := by
  go_enter Tryd.func20, Tryd.ntmps20
  go_wp2_with (first
    | (go_at_call 35; refine (names_n hD).mono ?_; rintro e w1 ⟨a, k, c, ks, rfl, H1⟩)
    | (go_at_call 40; refine (values_n _ _ _ _).mono ?_; rintro e w2 ⟨rfl, h2⟩; have H2 : Hid (w2 = w1.alloc (.cells #[.slice a k c] 66)) := h2; clear h2))
  go_ret
  have b2 : Below w1.heap.size w1 w2 := by rw [H2.out]; exact alloc1 w1 _
  refine ⟨w1.heap.size, a, k, c, ks, rfl, H1.out.1.keep (fun g h1 h2 => b2.block g h2), ?_, H1.out.2.2.size, H1.out.2.1, H1.out.2.2.trans (b2.mono H1.out.2.2.size)⟩
  rw [H2.out]
  exact (Boxed.new w1 66 _).cell
end Go.Proofs.YtdoenacobmebpaaDoor
