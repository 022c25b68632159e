/- What the Go function GfBilinear does, for all lists: it returns true, and changes nothing that was there. -/
import Derived.Test.YtgfleebnddjhgaaWk
import Derived.Deep.CutRange
import Derived.Deep.RegionHeld
import Derived.WalkLawsBesides
import Derived.BigQuiet
namespace Go.Proofs.Ytgfleebnddjhgaa
open Go.ChangeShapes Go.WideShapes Go.ChangeAt Go.RowKit
set_option linter.unusedVariables false
set_option linter.unusedSimpArgs false
/- the box that holds the struct, in a world -/
structure Box (w : World) (g : Nat) (v0 v1 v2 v3 : Value) : Prop where
  c0 : w.cell? ⟨g, 0, none⟩ = some v0
  c1 : w.cell? ⟨g, 1, none⟩ = some v1
  c2 : w.cell? ⟨g, 2, none⟩ = some v2
  c3 : w.cell? ⟨g, 3, none⟩ = some v3
theorem box_new (w w1 : World) (v0 v1 v2 v3 : Value) (t : TypeId) (hb : Below (w.alloc (.cells #[v0, v1, v2, v3] t)).heap.size (w.alloc (.cells #[v0, v1, v2, v3] t)) w1) : Box w1 w.heap.size v0 v1 v2 v3 := by
  have h : ∀ o, w1.cell? ⟨w.heap.size, o, none⟩ = (w.alloc (.cells #[v0, v1, v2, v3] t)).cell? ⟨w.heap.size, o, none⟩ := fun o => hb.cell (p := ⟨w.heap.size, o, none⟩) (by simp)
  exact ⟨by rw [h]; simp, by rw [h]; simp, by rw [h]; simp, by rw [h]; simp⟩
theorem slq {w w' : World} {a : Option Addr} {n : Nat} {l : List Nat} (h : Hid (Sln w a n l)) (q : Hid (∃ k, w' = w.drewN k)) : Hid (Sln w' a n l) := by
  obtain ⟨k, rfl⟩ := q.out; exact h.out.drewN k
theorem blq {B : Nat} {w0 w w' : World} (h : Hid (Below B w0 w)) (q : Hid (∃ k, w' = w.drewN k)) : Hid (Below B w0 w') := by
  obtain ⟨k, rfl⟩ := q.out; exact below_drewN h.out k
theorem slm {w w' : World} {a : Option Addr} {n g m : Nat} {l L : List Nat} (h : Hid (Sln w a n l)) (q : Hid (Made w w' g m L)) : Hid (Sln w' a n l) := h.out.below q.out.bel
theorem blm {w0 w w' : World} {g m : Nat} {L : List Nat} (h : Hid (Below w0.heap.size w0 w)) (q : Hid (Made w w' g m L)) : Hid (Below w0.heap.size w0 w') := h.out.trans (q.out.bel.mono h.out.size)
theorem slr {w w' : World} {g m : Nat} {L : List Nat} (q : Hid (Made w w' g m L)) : Hid (Sln w' (some ⟨g, 0, none⟩) m L) := q.out.sln
theorem sl_take {w : World} {a : Option Addr} {m n : Nat} {l : List Nat} (h : Sln w a m l) (hn : n ≤ m) : Sln w a n (l.take n) := by
  have e := h.len
  refine ⟨by simp; omega, fun x hx => h.lt x (List.mem_of_mem_take hx), by have := h.sli.2.1; simp; omega, ?_⟩
  rcases h.sli.2.2 with h0 | ⟨b, off, h1, h2, h3⟩
  · exact .inl (by rw [h0]; simp)
  · refine .inr ⟨b, off, h1, h2, fun i hi => ?_⟩
    have hi2 : i < n ∧ i < l.length := by simp at hi; omega
    have h4 : (l.take n).getD i 0 = l.getD i 0 := by simp only [List.getD]; rw [List.getElem?_take_of_lt hi2.1]
    rw [h4]
    exact h3 i hi2.2
set_option maxRecDepth 20000 in
set_option maxHeartbeats 2000000 in
theorem bilinear_any (aA aB aD : Option Addr) (nA nB nD kA kB kD c : Nat) (lA lB lD : List Nat) (w : World) (hc : c < 256) (A : Hid (Sln w aA nA lA)) (B : Hid (Sln w aB nB lB)) (D : Hid (Sln w aD nD lD)) (hA : nA ≤ kA) (hB : nB ≤ kB) (hD : nD ≤ kD) (mA : kA ≤ 140737488351232) (mB : kB ≤ 140737488351232) (mD : kD ≤ 140737488351232) :
    Calls Try.prog 7 #[.agg #[.slice aA nA kA, .slice aB nB kB, .slice aD nD kD, .int .u8 (c : Int)]] w fun e w' => e = .returned (.bool true) ∧ Below w.heap.size w w' := by
  go_enter Try.func7, Try.ntmps7
  go_upto_region 3 with (go_at_call 9; refine (alive_any _).mono ?_; rintro e w1 ⟨rfl, hg, hbl⟩)
  have HX : Hid (Box w1 w.heap.size (.slice aA nA kA) (.slice aB nB kB) (.slice aD nD kD) (.int .u8 (c : Int))) := box_new w w1 _ _ _ _ _ hbl
  have HBL : Hid (Below w.heap.size w w1) := ((Below.refl w.heap.size w).alloc (Nat.le_refl _) _).trans (hbl.mono (by simp))
  clear hbl hg
  go_cut [3] from 12 (fun t wc => ∃ n : Nat, n ≤ nA ∧ n ≤ nB ∧ n ≤ nD ∧ t = .int .i64 n ∧ wc = w1)
  case first =>
    have hx := HX.out
    have c0 := hx.c0
    have c1 := hx.c1
    have c2 := hx.c2
    clear hx
    have z1 : (nA : Int) ≤ 140737488351232 := by omega
    have z2 : (nB : Int) ≤ 140737488351232 := by omega
    have z3 : (nD : Int) ≤ 140737488351232 := by omega
    clear mA mB mD hA hB hD
    go_wp2
    all_goals
      go_meet
      case rel => first | exact ⟨nD, by omega, by omega, by omega, rfl, rfl⟩ | exact ⟨nB, by omega, by omega, by omega, rfl, rfl⟩ | exact ⟨nA, by omega, by omega, by omega, rfl, rfl⟩
  case rest =>
    obtain ⟨n, h1, h2, h3, rfl, rfl⟩ := hcut
    have hx := HX.out
    have c0 := hx.c0
    have c1 := hx.c1
    have c2 := hx.c2
    have c3 := hx.c3
    clear hx
    have z1 : (n : Int) ≤ (kA : Int) := by omega
    have z2 : (n : Int) ≤ (kB : Int) := by omega
    have z3 : (n : Int) ≤ (kD : Int) := by omega
    have z4 : (n : Int) ≤ 140737488351232 := by omega
    have z5 : (0 : Int) ≤ (n : Int) := by omega
    have H1 : Hid (n ≤ nA) := h1
    have H2 : Hid (n ≤ nB) := h2
    have H3 : Hid (n ≤ nD) := h3
    clear mA mB mD hA hB hD h1 h2 h3
    go_wp2
    go_quiet (fail)
    obtain ⟨w2, hw2⟩ : ∃ w2, w2 = wc.drewN nq := ⟨_, rfl⟩
    rw [← hw2]
    have Q : Hid (∃ k, w2 = wc.drewN k) := ⟨nq, hw2⟩
    obtain ⟨la, hla⟩ : ∃ la, Hid (la = lA.take n) := ⟨_, rfl⟩
    obtain ⟨lb, hlb⟩ : ∃ lb, Hid (lb = lB.take n) := ⟨_, rfl⟩
    obtain ⟨ld, hld⟩ : ∃ ld, Hid (ld = lD.take n) := ⟨_, rfl⟩
    have A2 : Hid (Sln w2 aA n la) := slq (by rw [hla.out]; exact sl_take (A.out.below HBL.out) H1.out) Q
    have B2 : Hid (Sln w2 aB n lb) := slq (by rw [hlb.out]; exact sl_take (B.out.below HBL.out) H2.out) Q
    have D2 : Hid (Sln w2 aD n ld) := slq (by rw [hld.out]; exact sl_take (D.out.below HBL.out) H3.out) Q
    have BL2 : Hid (Below w.heap.size w w2) := blq HBL Q
    clear hw2 Q c0 c1 c2 c3 A B D HBL HX H1 H2 H3 hla hlb hld z1 z2 z3
    have ea := A2.out.len
    have eb := B2.out.len
    have ed := D2.out.len
    have q1 : (((dot (addSc la c ld) lb : Nat) : Int) == ((dot la lb ^^^ Gm.mul c (dot ld lb) : Nat) : Int)) = true := by rw [dot_lin la ld lb c hc A2.out.lt D2.out.lt B2.out.lt (by omega) (by omega)]; simp
    have q2 : (((dot la lb : Nat) : Int) == ((dot lb la : Nat) : Int)) = true := by rw [dot_comm la lb A2.out.lt B2.out.lt]; simp
    have q3 : addSc (addSc la c lb) c lb = la := addSc_twice la lb c (by omega)
    have q4 : addSc (addSc la 1 lb) 1 lb = la := addSc_twice la lb 1 (by omega)
    have l1 : dot la lb < 256 := dot_lt A2.out.lt
    have l2 : dot ld lb < 256 := dot_lt D2.out.lt
    have l3 : Gm.mul c (dot ld lb) < 256 := Gm.mul_lt _ _ hc
    clear ea eb ed
    go_wp2_with (first | (go_at_call 24; refine (addScaled_n hc (by assumption) (by assumption)).mono ?_; rintro e w' ⟨g, m, rfl, hM⟩; have R := slr hM; have A2 := slm A2 hM; have B2 := slm B2 hM; have D2 := slm D2 hM; have BL2 := blm BL2 hM) | (go_at_call 25; refine (dot_n (by assumption) (by assumption)).mono ?_; rintro e w' ⟨rfl, hQ⟩; have A2 := slq A2 hQ; have B2 := slq B2 hQ; have D2 := slq D2 hQ; have BL2 := blq BL2 hQ) | (go_at_call 17; refine (mul_any _ _ hc l2 _).mono ?_; rintro e w' ⟨rfl, rfl⟩) | (go_at_call 16; refine (add_any _ _ l1 l3 _).mono ?_; rintro e w' ⟨rfl, rfl⟩))
    have cA0 := conv_n (k := n) A2
    have A2 : Hid (Sln w'.drew aA n la) := A2.out.drew
    have cA := conv_n (k := n) A2
    have B2 : Hid (Sln w'.drew aB n lb) := B2.out.drew
    have BL2 : Hid (Below w.heap.size w w'.drew) := BL2.out.drew
    go_region_held (fun w' => (convert 31 9 (.slice aA n n)).run Try.prog w' = .ok (.string (spell la)) w') (assumption) (first | (go_at_call 24; refine (addScaled_n hc (by assumption) (by assumption)).mono ?_; rintro e w' ⟨g, m, rfl, hM⟩; have R := slr hM; have A2 := slm A2 hM; have B2 := slm B2 hM; have BL2 := blm BL2 hM; have cA := conv_n (k := n) A2; have cR := conv_n (k := m) R) | (go_at_call 22; refine (sum_n (by assumption) (by assumption)).mono ?_; rintro e w' ⟨g, m, rfl, hM⟩; have R := slr hM; have A2 := slm A2 hM; have B2 := slm B2 hM; have BL2 := blm BL2 hM; have cA := conv_n (k := n) A2; have cR := conv_n (k := m) R) | (go_at_call 25; refine (dot_n (by assumption) (by assumption)).mono ?_; rintro e w' ⟨rfl, hQ⟩; have A2 := slq A2 hQ; have B2 := slq B2 hQ; have BL2 := blq BL2 hQ; have cA := conv_n (k := n) A2))
    go_wp2
    go_ret
    exact ⟨rfl, BL2.out⟩
end Go.Proofs.Ytgfleebnddjhgaa
