/- A drive by what lies under each name: every call's contract in these words; alive. -/
import Derived.Test.YtdoenacobmebpaaDoorDe
import Derived.Test.YtdoenacobmebpaaDoorVn
namespace Go.Proofs.YtdoenacobmebpaaDoor
open Go.ChangeShapes Go.WideShapes Go.ChangeAt Go.RowKit
set_option maxRecDepth 20000
set_option linter.unusedVariables false
set_option linter.unusedSimpArgs false
def upd (v : ByteArray → Option Fl) (s : ByteArray) (o : Option Fl) : ByteArray → Option Fl := fun t => if t = s then o else v t
theorem upd_same (v : ByteArray → Option Fl) (s : ByteArray) (o : Option Fl) : upd v s o s = o := if_pos rfl
theorem upd_other (v : ByteArray → Option Fl) {s t : ByteArray} (o : Option Fl) (h : t ≠ s) : upd v s o t = v t := if_neg h
def Dv (w : World) (d m : Nat) (v : ByteArray → Option Fl) (k : Nat) : Prop := ∃ D, Drv w d m D false 0 ∧ (∀ t, vw D t = v t) ∧ Maps.size D ≤ k
theorem Dv.below {w w' : World} {d m : Nat} {v : ByteArray → Option Fl} {k : Nat} (h : Dv w d m v k) (hb : Below w.heap.size w w') : Dv w' d m v k := by
  obtain ⟨D, h1, h2, h3⟩ := h
  exact ⟨D, h1.below hb, h2, h3⟩
theorem Dv.lt {w : World} {d m : Nat} {v : ByteArray → Option Fl} {k : Nat} (h : Dv w d m v k) : d < w.heap.size ∧ m < w.heap.size := by
  obtain ⟨D, h1, h2, h3⟩ := h
  exact ⟨h1.lt, h1.mlt⟩
theorem put_le {D : DataW Unit} (hD : Maps.Tidy D) (s : ByteArray) (f : Fl) : Maps.size (D.put (kl s) (fd f)) ≤ Maps.size D + 1 := by
  rw [put_size hD]
  split <;> omega
section
variable {w : World} {d m : Nat} {v : ByteArray → Option Fl} {k : Nat}
theorem new_v (w : World) : Calls Tryd.prog 8 #[] w fun e w' => ∃ d m, e = .returned (.pointer (some ⟨d, 0, none⟩)) ∧ Hid (Dv w' d m (fun _ => none) 0 ∧ w.heap.size ≤ d ∧ w.heap.size ≤ m ∧ Below w.heap.size w w') := by
  refine (new_n w).mono ?_
  rintro e w' ⟨d, m, rfl, H⟩
  exact ⟨d, m, rfl, ⟨_, H.out.1, fun t => rfl, Nat.le_refl _⟩, H.out.2⟩
theorem write_v (hD : Hid (Dv w d m v k)) (hk : Hid (k < 512)) (s : ByteArray) {a : Option Addr} {n c : Nat} {l : List Nat} (hS : Hid (Sln w a n l)) (hn : Hid (nm s = true)) :
    Calls Tryd.prog 13 #[.pointer (some ⟨d, 0, none⟩), .string s, .slice a n c] w fun e w' => e = .returned .nilIface ∧ Hid (Dv w' d m (upd v s (some ⟨spell l, ((v s).getD f0).s, ((v s).getD f0).h⟩)) (k + 1) ∧ ChD w w' d m) := by
  obtain ⟨D, h1, h2, h3⟩ := hD.out
  refine (write_ok (k := c) (show Hid (Drv w d m D false 0) from h1) s hS hn (.inr (by have := hk.out; omega))).mono ?_
  rintro e w' ⟨rfl, H⟩
  refine ⟨rfl, ⟨_, H.out.1, fun t => ?_, ?_⟩, H.out.2⟩
  · rw [vw_put h1.isMap, h2 s]
    unfold upd
    split
    · rfl
    · exact h2 t
  · have := put_le h1.tidy s ⟨spell l, ((vw D s).getD f0).s, ((vw D s).getD f0).h⟩
    omega
theorem sync_v (hD : Hid (Dv w d m v k)) (s : ByteArray) (f : Fl) (hn : Hid (nm s = true)) (hv : Hid (v s = some f)) :
    Calls Tryd.prog 14 #[.pointer (some ⟨d, 0, none⟩), .string s] w fun e w' => e = .returned .nilIface ∧ Hid (Dv w' d m (upd v s (some ⟨f.b, f.b, true⟩)) k ∧ ChD w w' d m) := by
  obtain ⟨D, h1, h2, h3⟩ := hD.out
  have h4 : vw D s = some f := (h2 s).trans hv.out
  refine (sync_ok (show Hid (Drv w d m D false 0) from h1) s f hn h4).mono ?_
  rintro e w' ⟨rfl, H⟩
  refine ⟨rfl, ⟨_, H.out.1, fun t => ?_, ?_⟩, H.out.2⟩
  · rw [vw_put h1.isMap]
    unfold upd
    split
    · rfl
    · exact h2 t
  · rw [put_size h1.tidy, h4]; exact h3
theorem sync_gone_v (hD : Hid (Dv w d m v k)) (s : ByteArray) {E : Nat → Addr} (hE : Hid (Er w E)) (hn : Hid (nm s = true)) (hv : Hid (v s = none)) :
    Calls Tryd.prog 14 #[.pointer (some ⟨d, 0, none⟩), .string s] w fun e w' => e = .returned (er (E 8)) ∧ Hid (Dv w' d m v k ∧ ChD w w' d m) := by
  obtain ⟨D, h1, h2, h3⟩ := hD.out
  refine (sync_gone (show Hid (Drv w d m D false 0) from h1) s hE hn ((h2 s).trans hv.out)).mono ?_
  rintro e w' ⟨rfl, H⟩
  exact ⟨rfl, hD.out.below H.out, ChD.of_below H.out⟩
theorem delete_v (hD : Hid (Dv w d m v k)) (s : ByteArray) (f : Fl) (hn : Hid (nm s = true)) (hv : Hid (v s = some f)) :
    Calls Tryd.prog 15 #[.pointer (some ⟨d, 0, none⟩), .string s] w fun e w' => e = .returned .nilIface ∧ Hid (Dv w' d m (upd v s none) k ∧ ChD w w' d m) := by
  obtain ⟨D, h1, h2, h3⟩ := hD.out
  refine (delete_ok (show Hid (Drv w d m D false 0) from h1) s f hn ((h2 s).trans hv.out)).mono ?_
  rintro e w' ⟨rfl, H⟩
  refine ⟨rfl, ⟨_, H.out.1, fun t => ?_, ?_⟩, H.out.2⟩
  · rw [vw_del]
    unfold upd
    split
    · rfl
    · exact h2 t
  · have := Maps.size_del (k := kl s) h1.tidy; omega
theorem delete_gone_v (hD : Hid (Dv w d m v k)) (s : ByteArray) {E : Nat → Addr} (hE : Hid (Er w E)) (hn : Hid (nm s = true)) (hv : Hid (v s = none)) :
    Calls Tryd.prog 15 #[.pointer (some ⟨d, 0, none⟩), .string s] w fun e w' => e = .returned (er (E 8)) ∧ Hid (Dv w' d m v k ∧ ChD w w' d m) := by
  obtain ⟨D, h1, h2, h3⟩ := hD.out
  refine (delete_gone (show Hid (Drv w d m D false 0) from h1) s hE hn ((h2 s).trans hv.out)).mono ?_
  rintro e w' ⟨rfl, H⟩
  exact ⟨rfl, hD.out.below H.out, ChD.of_below H.out⟩
theorem rename_v (hD : Hid (Dv w d m v k)) (s t : ByteArray) (f : Fl) (hn : Hid (nm s = true)) (ht : Hid (nm t = true)) (hv : Hid (v s = some f)) :
    Calls Tryd.prog 17 #[.pointer (some ⟨d, 0, none⟩), .string s, .string t] w fun e w' => e = .returned .nilIface ∧ Hid (Dv w' d m (upd (upd v s none) t (some f)) k ∧ ChD w w' d m) := by
  obtain ⟨D, h1, h2, h3⟩ := hD.out
  have h4 : vw D s = some f := (h2 s).trans hv.out
  refine (rename_ok (show Hid (Drv w d m D false 0) from h1) s t f hn ht h4).mono ?_
  rintro e w' ⟨rfl, H⟩
  refine ⟨rfl, ⟨_, H.out.1, fun u => ?_, ?_⟩, H.out.2⟩
  · rw [vw_put (h1.isMap.del _), vw_del]
    unfold upd
    split
    · rfl
    · split
      · rfl
      · exact h2 u
  · have e1 := Maps.size_del (k := kl s) h1.tidy
    have e2 : Maps.has D (kl s) = true := by rw [← vw_some, h4]; rfl
    rw [e2] at e1
    simp at e1
    have := put_le (h1.tidy.del (kl s)) t f
    omega
theorem crash_v (hD : Hid (Dv w d m v k)) :
    Calls Tryd.prog 11 #[.pointer (some ⟨d, 0, none⟩)] w fun e w' => e = .returned (.tuple #[]) ∧ Hid (Dv w' d m (fun t => cr (v t)) 512 ∧ ChD w w' d m) := by
  obtain ⟨D, h1, h2, h3⟩ := hD.out
  refine (crash_n (show Hid (Drv w d m D false 0) from h1)).mono ?_
  rintro e w' ⟨D', rfl, H⟩
  exact ⟨rfl, ⟨D', H.out.1, fun t => by rw [H.out.2.2 t, h2 t], H.out.1.size⟩, H.out.2.1⟩
theorem read_v (hD : Hid (Dv w d m v k)) (s : ByteArray) (f : Fl) (hn : Hid (nm s = true)) (hv : Hid (v s = some f)) (hb : f.b.size ≤ 140737488352256) :
    Calls Tryd.prog 16 #[.pointer (some ⟨d, 0, none⟩), .string s] w fun e w' => ∃ g k' c, e = .returned (.tuple #[.slice (some ⟨g, 0, none⟩) k' c, .nilIface]) ∧ Hid (Sln w' (some ⟨g, 0, none⟩) k' (bytesOf f.b) ∧ Below w.heap.size w w' ∧ w.heap.size ≤ g ∧ k' ≤ c ∧ Dv w' d m v k) := by
  obtain ⟨D, h1, h2, h3⟩ := hD.out
  refine (read_ok (show Hid (Drv w d m D false 0) from h1) s f hn ((h2 s).trans hv.out) hb).mono ?_
  rintro e w' ⟨g, k', c, rfl, H⟩
  exact ⟨g, k', c, rfl, H.out.1, H.out.2.1, H.out.2.2.1, H.out.2.2.2, hD.out.below H.out.2.1⟩
theorem read_gone_v (hD : Hid (Dv w d m v k)) (s : ByteArray) {E : Nat → Addr} (hE : Hid (Er w E)) (hn : Hid (nm s = true)) (hv : Hid (v s = none)) :
    Calls Tryd.prog 16 #[.pointer (some ⟨d, 0, none⟩), .string s] w fun e w' => e = .returned (.tuple #[.slice none 0 0, er (E 8)]) ∧ Hid (Below w.heap.size w w' ∧ Dv w' d m v k) := by
  obtain ⟨D, h1, h2, h3⟩ := hD.out
  refine (read_gone (show Hid (Drv w d m D false 0) from h1) s hE hn ((h2 s).trans hv.out)).mono ?_
  rintro e w' ⟨rfl, H⟩
  exact ⟨rfl, H.out, hD.out.below H.out⟩
end
/- a slice of one byte that the program lays -/
theorem one_sln (w : World) (x : Nat) (hx : x < 256) : Sln (w.alloc (.cells #[.int .u8 (x : Int)] 5)) (some ⟨w.heap.size, 0, none⟩) 1 [x] := by
  have h : Blk (w.alloc (.cells #[.int .u8 (x : Int)] 5)) w.heap.size [x] := by
    show (w.heap.push _)[w.heap.size]? = _
    simp [bv]
  have h2 := h.sln (by simpa using hx) (by simp)
  exact h2
abbrev nA : ByteArray := ⟨#[97]⟩
abbrev nB : ByteArray := ⟨#[98]⟩
abbrev nF : ByteArray := ⟨#[102]⟩
abbrev nT : ByteArray := ⟨#[116]⟩
theorem nm_a : nm nA = true := by decide
theorem nm_b : nm nB = true := by decide
theorem nm_f : nm nF = true := by decide
theorem nm_t : nm nT = true := by decide
theorem ba_ne : nB ≠ nA := by decide
theorem ab_ne : nA ≠ nB := by decide
theorem ft_ne : nF ≠ nT := by decide
theorem tf_ne : nT ≠ nF := by decide
theorem sp1 : spell [1] = ⟨#[1]⟩ := by decide
set_option maxHeartbeats 2000000 in
theorem alive_n {w : World} {E : Nat → Addr} (hE : Hid (Er w E)) : Calls Tryd.prog 7 #[] w fun e w' => e = .returned (.bool true) ∧ Hid (Below w.heap.size w w') := by
  have na : Hid (nm ⟨#[97]⟩ = true) := nm_a
  have nb : Hid (nm ⟨#[98]⟩ = true) := nm_b
  go_enter Tryd.func7, Tryd.ntmps7
  go_wp2_with (first
    | (go_at_call 8; refine (new_v _).mono ?_; rintro e w1 ⟨d, m, rfl, H1⟩
       have D1 : Hid (Dv (w1.alloc (.cells #[.int .u8 1] 5)) d m (fun _ => none) 0) := H1.out.1.below (alloc1 _ _)
       have S1 : Hid (Sln (w1.alloc (.cells #[.int .u8 1] 5)) (some ⟨w1.heap.size, 0, none⟩) 1 [1]) := one_sln w1 1 (by omega)
       have k1 : Hid (0 < 512) := by show _ < _; omega
       have B1 : Hid (w.heap.size ≤ d ∧ w.heap.size ≤ m ∧ Below w.heap.size w (w1.alloc (.cells #[.int .u8 1] 5))) := ⟨H1.out.2.1, H1.out.2.2.1, H1.out.2.2.2.trans ((alloc1 w1 _).mono H1.out.2.2.2.size)⟩
       clear H1)
    | (go_at_call 13; refine (write_v D3 k3 ⟨#[98]⟩ S3 nb).mono ?_; rintro e w4 ⟨rfl, H4⟩
       have B4 : Hid (Below w.heap.size w w4) := B3.out.trans (H4.out.2.below B1.out.1 B1.out.2.1 B3.out.size)
       have D4 : Hid (Dv w4 d m (upd (upd (upd (fun _ => none) ⟨#[97]⟩ (some ⟨spell [1], ⟨#[]⟩, false⟩)) ⟨#[97]⟩ (some ⟨spell [1], spell [1], true⟩)) ⟨#[98]⟩ (some ⟨spell [2], ⟨#[]⟩, false⟩)) 2) := H4.out.1
       clear D3 S3 H4)
    | (go_at_call 13; refine (write_v D1 k1 ⟨#[97]⟩ S1 na).mono ?_; rintro e w2 ⟨rfl, H2⟩
       have D2 : Hid (Dv w2 d m (upd (fun _ => none) ⟨#[97]⟩ (some ⟨spell [1], ⟨#[]⟩, false⟩)) 1) := H2.out.1
       have V2 : Hid (upd (fun _ => none) ⟨#[97]⟩ (some ⟨spell [1], ⟨#[]⟩, false⟩) ⟨#[97]⟩ = some ⟨spell [1], ⟨#[]⟩, false⟩) := upd_same _ _ _
       have B2 : Hid (Below w.heap.size w w2) := B1.out.2.2.trans (H2.out.2.below B1.out.1 B1.out.2.1 B1.out.2.2.size)
       clear D1 S1 H2)
    | (go_at_call 14; refine (sync_v D2 ⟨#[97]⟩ ⟨spell [1], ⟨#[]⟩, false⟩ na V2).mono ?_; rintro e w3 ⟨rfl, H3⟩
       have D3 : Hid (Dv (w3.alloc (.cells #[.int .u8 2] 5)) d m (upd (upd (fun _ => none) ⟨#[97]⟩ (some ⟨spell [1], ⟨#[]⟩, false⟩)) ⟨#[97]⟩ (some ⟨spell [1], spell [1], true⟩)) 1) := H3.out.1.below (alloc1 _ _)
       have S3 : Hid (Sln (w3.alloc (.cells #[.int .u8 2] 5)) (some ⟨w3.heap.size, 0, none⟩) 1 [2]) := one_sln w3 2 (by omega)
       have k3 : Hid (1 < 512) := by show _ < _; omega
       have b3 := B2.out.trans (H3.out.2.below B1.out.1 B1.out.2.1 B2.out.size)
       have B3 : Hid (Below w.heap.size w (w3.alloc (.cells #[.int .u8 2] 5))) := b3.trans ((alloc1 w3 _).mono b3.size)
       clear D2 V2 H3 b3)
    | (go_at_call 11; refine (crash_v D4).mono ?_; rintro e w5 ⟨rfl, H5⟩
       have V5 : Hid ((fun t => cr (upd (upd (upd (fun _ => none) ⟨#[97]⟩ (some ⟨spell [1], ⟨#[]⟩, false⟩)) ⟨#[97]⟩ (some ⟨spell [1], spell [1], true⟩)) ⟨#[98]⟩ (some ⟨spell [2], ⟨#[]⟩, false⟩) t)) ⟨#[97]⟩ = some ⟨spell [1], spell [1], true⟩) := by
         show cr _ = _
         rw [upd_other _ _ ab_ne, upd_same]
         rfl
       have U5 : Hid ((fun t => cr (upd (upd (upd (fun _ => none) ⟨#[97]⟩ (some ⟨spell [1], ⟨#[]⟩, false⟩)) ⟨#[97]⟩ (some ⟨spell [1], spell [1], true⟩)) ⟨#[98]⟩ (some ⟨spell [2], ⟨#[]⟩, false⟩) t)) ⟨#[98]⟩ = none) := by
         show cr _ = _
         rw [upd_same]
         rfl
       have D5 : Hid (Dv w5 d m (fun t => cr (upd (upd (upd (fun _ => none) ⟨#[97]⟩ (some ⟨spell [1], ⟨#[]⟩, false⟩)) ⟨#[97]⟩ (some ⟨spell [1], spell [1], true⟩)) ⟨#[98]⟩ (some ⟨spell [2], ⟨#[]⟩, false⟩) t)) 512) := H5.out.1
       have B5 : Hid (Below w.heap.size w w5) := B4.out.trans (H5.out.2.below B1.out.1 B1.out.2.1 B4.out.size)
       clear D4 H5)
    | (go_at_call 16; refine (read_gone_v D6 ⟨#[98]⟩ E6 nb U5).mono ?_; rintro e w7 ⟨rfl, H7⟩
       have CV : (convert 32 9 (.slice (some ⟨g, 0, none⟩) k' c)).run Tryd.prog w7 = .ok (.string ⟨#[1]⟩) w7 := by
         have h := conv_n (k := c) (show Hid (Sln w7 (some ⟨g, 0, none⟩) k' (bytesOf (spell [1]))) from S6.out.below H7.out.1)
         rw [spell_bytesOf, sp1] at h
         exact h
       have B7 : Hid (Below w.heap.size w w7) := B6.out.trans (H7.out.1.mono B6.out.size)
       clear D6 E6 H7)
    | (go_at_call 16; refine (read_v D5 ⟨#[97]⟩ ⟨spell [1], spell [1], true⟩ na V5 (by rw [sp1]; decide)).mono ?_; rintro e w6 ⟨g, k', c, rfl, H6⟩
       have D6 : Hid (Dv w6 d m (fun t => cr (upd (upd (upd (fun _ => none) ⟨#[97]⟩ (some ⟨spell [1], ⟨#[]⟩, false⟩)) ⟨#[97]⟩ (some ⟨spell [1], spell [1], true⟩)) ⟨#[98]⟩ (some ⟨spell [2], ⟨#[]⟩, false⟩) t)) 512) := H6.out.2.2.2.2
       have B6 : Hid (Below w.heap.size w w6) := B5.out.trans (H6.out.2.1.mono B5.out.size)
       have E6 : Hid (Er w6 E) := hE.out.below B6.out
       have S6 : Hid (Sln w6 (some ⟨g, 0, none⟩) k' (bytesOf (spell [1]))) := H6.out.1
       clear D5 V5 H6))
  go_ret
  exact ⟨rfl, B7.out⟩
end Go.Proofs.YtdoenacobmebpaaDoor
