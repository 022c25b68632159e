/- What the Go function GfLists does, for all lists: it returns true, and changes nothing that was there. -/
import Derived.Test.YtgfleebnddjhgaaWq
import Derived.Deep.RegionHeld
import Derived.Deep.CutRange
import Derived.WalkLawsBesides
namespace Go.Proofs.Ytgfleebnddjhgaa
open Go.ChangeShapes Go.WideShapes Go.ChangeAt Go.RowKit
set_option linter.unusedVariables false
set_option linter.unusedSimpArgs false
theorem addSc_nil (c : Nat) (l : List Nat) : addSc [] c l = scaled c l := by
  apply list_ext_getD
  · rw [addSc_length, scaled_length]; simp
  · intro i _
    rw [addSc_getD, scaled_getD]; simp
theorem sln_nil (w : World) : Sln w none 0 [] := ⟨rfl, by simp, by simp, .inl rfl⟩
theorem refadd_one {a1 a2 : Option Addr} {n1 n2 k1 k2 : Nat} {l1 l2 : List Nat} {w : World} (h1 : Hid (Sln w a1 n1 l1)) (h2 : Hid (Sln w a2 n2 l2)) :
    Calls Try.prog 27 #[.slice a1 n1 k1, .int .u8 (1 : Int), .slice a2 n2 k2] w fun e w' => ∃ g n cap, e = .returned (.slice (some ⟨g, 0, none⟩) n cap) ∧ Hid (w.heap.size ≤ g ∧ Sln w' (some ⟨g, 0, none⟩) n (addSc l1 1 l2) ∧ Below w.heap.size w w') :=
  refadd_n (c := 1) (by omega) h1 h2
theorem refadd_nil {a2 : Option Addr} {n2 k2 c : Nat} {l2 : List Nat} {w : World} (hc : c < 256) (h2 : Hid (Sln w a2 n2 l2)) :
    Calls Try.prog 27 #[.slice none 0 0, .int .u8 (c : Int), .slice a2 n2 k2] w fun e w' => ∃ g n cap, e = .returned (.slice (some ⟨g, 0, none⟩) n cap) ∧ Hid (w.heap.size ≤ g ∧ Sln w' (some ⟨g, 0, none⟩) n (scaled c l2) ∧ Below w.heap.size w w') := by
  have h := refadd_n (k1 := 0) (k2 := k2) hc (sln_nil w) h2
  rw [addSc_nil] at h
  exact h
theorem slb {w w' : World} {a : Option Addr} {n : Nat} {l : List Nat} (h : Hid (Sln w a n l)) (q : Hid (Below w.heap.size w w')) : Hid (Sln w' a n l) := h.out.below q.out
theorem bkb {w w' : World} {g : Nat} {l : List Nat} (h : Hid (Blk w g l)) (q : Hid (Below w.heap.size w w')) : Hid (Blk w' g l) := h.out.below q.out h.out.lt
theorem blb {w0 w w' : World} (h : Hid (Below w0.heap.size w0 w)) (q : Hid (Below w.heap.size w w')) : Hid (Below w0.heap.size w0 w') := h.out.trans (q.out.mono h.out.size)
theorem qb {w w' : World} (q : Hid (∃ k, w' = w.drewN k)) : Hid (Below w.heap.size w w') := by
  obtain ⟨k, rfl⟩ := q.out; exact below_drewN (Below.refl _ _) k
theorem drewb (w : World) : Hid (Below w.heap.size w w.drew) := (Below.refl w.heap.size w).drew
theorem slt {w w' : World} {a : Option Addr} {n g m : Nat} {l : List Nat} (h : Hid (Sln w a n l)) (q : Hid (Turned w w' g m)) (hne : Hid (∀ b off, l ≠ [] → a = some ⟨b, off, none⟩ → b ≠ g)) : Hid (Sln w' a n l) := by
  obtain ⟨L, _, _, _, hg⟩ := q.out
  refine ⟨h.out.len, h.out.sli.1, h.out.sli.2.1, ?_⟩
  by_cases h0 : l = []
  · exact .inl h0
  · obtain ⟨b, off, h1, h2, h3⟩ := h.out.sli.2.2.resolve_left h0
    have hb := hne.out b off h0 h1
    refine .inr ⟨b, off, h1, Nat.lt_of_lt_of_le h2 hg.size, fun i hi => ?_⟩
    have he : w'.heap[b]? = w.heap[b]? := hg.block b h2 (by simp; exact hb)
    exact (World.cell?_of_block (w := w) (a := ⟨b, off + i, none⟩) he).trans (h3 i hi)
theorem bkt {w w' : World} {g k m : Nat} {l : List Nat} (h : Hid (Blk w k l)) (q : Hid (Turned w w' g m)) (hne : Hid (k ≠ g)) : Hid (Blk w' k l) := by
  obtain ⟨L, _, _, _, hg⟩ := q.out
  exact (hg.block k h.out.lt (by simp; exact hne.out)).trans h.out
theorem blt {w0 w w' : World} {g m : Nat} (h : Hid (Below w0.heap.size w0 w)) (q : Hid (Turned w w' g m)) (hg : Hid (w0.heap.size ≤ g)) : Hid (Below w0.heap.size w0 w') := by
  obtain ⟨L, _, _, _, hgr⟩ := q.out
  exact h.out.grown hgr h.out.size (fun k e => by simp at e; have := hg.out; omega)
theorem ne_of_lt' {a b : Nat} (h : a < b) : Hid (a ≠ b) := (by omega : a ≠ b)
theorem ne_of_gt' {a b : Nat} (h : b < a) : Hid (a ≠ b) := (by omega : a ≠ b)
theorem old_ne {a : Option Addr} {l : List Nat} {B g : Nat} (h : Hid (∀ b off, l ≠ [] → a = some ⟨b, off, none⟩ → b < B)) (hg : B ≤ g) : Hid (∀ b off, l ≠ [] → a = some ⟨b, off, none⟩ → b ≠ g) := fun b off h0 h1 => by
  have := h.out b off h0 h1
  omega
set_option maxRecDepth 20000 in
set_option maxHeartbeats 4000000 in
theorem lists_any (aA aB : Option Addr) (nA nB kA kB c : Nat) (lA lB : List Nat) (w : World) (hc : c < 256) (A : Hid (Sln w aA nA lA)) (B : Hid (Sln w aB nB lB)) (zA : Hid (aA = none → kA = 0)) (zB : Hid (aB = none → kB = 0)) :
    Calls Try.prog 4 #[.slice aA nA kA, .slice aB nB kB, .int .u8 (c : Int)] w fun e w' => e = .returned (.bool true) ∧ Below w.heap.size w w' := by
  have oA : Hid (∀ b off, lA ≠ [] → aA = some ⟨b, off, none⟩ → b < w.heap.size) := by
    intro b off h0 h1
    obtain ⟨b', off', h2, h3, _⟩ := A.out.sli.2.2.resolve_left h0
    rw [h1] at h2; simp at h2; omega
  have oB : Hid (∀ b off, lB ≠ [] → aB = some ⟨b, off, none⟩ → b < w.heap.size) := by
    intro b off h0 h1
    obtain ⟨b', off', h2, h3, _⟩ := B.out.sli.2.2.resolve_left h0
    rw [h1] at h2; simp at h2; omega
  have bA := A.out.lt
  have bB := B.out.lt
  have mA := A.out.sli.2.1
  have mB := B.out.sli.2.1
  have eA := A.out.len
  have eB := B.out.len
  have FA : Hid ((∀ x ∈ lA, x < 256) ∧ lA.length ≤ 140737488351232 ∧ nA = lA.length) := ⟨bA, mA, eA⟩
  have FB : Hid ((∀ x ∈ lB, x < 256) ∧ lB.length ≤ 140737488351232 ∧ nB = lB.length) := ⟨bB, mB, eB⟩
  have BL : Hid (Below w.heap.size w w) := Below.refl _ _
  clear bA bB mA mB eA eB
  go_enter Try.func4, Try.ntmps4
  go_upto_region 3 with (go_at_call 9; refine (alive_any _).mono ?_; rintro e w' ⟨rfl, hg, hbl⟩; have hb : Hid _ := hbl; have A := slb A hb; have B := slb B hb; have BL := blb BL hb; clear hg hbl)
  go_wp2_with fail
  refine (bytes_n A zA).mono ?_
  rintro e w1 ⟨gx, Nx, rfl, hX⟩
  have hb : Hid (Below w'.heap.size w' w1) := hX.out.2.2.2
  have X : Hid (Blk w1 gx (lA ++ marks)) := hX.out.2.2.1
  have eX : Hid (Nx = nA + 6) := hX.out.1
  have gX : Hid (w.heap.size ≤ gx) := (by have := hX.out.2.1; have := BL.out.size; omega : w.heap.size ≤ gx)
  have A := slb A hb
  have B := slb B hb
  have BL := blb BL hb
  clear hX hb
  go_wp2_with fail
  refine (bytes_n B zB).mono ?_
  rintro e w2 ⟨gy, Ny, rfl, hY⟩
  have hb : Hid (Below w1.heap.size w1 w2) := hY.out.2.2.2
  have Y : Hid (Blk w2 gy (lB ++ marks)) := hY.out.2.2.1
  have eY : Hid (Ny = nB + 6) := hY.out.1
  have gXY : Hid (gx < gy) := (by have := hY.out.2.1; have := X.out.lt; omega : gx < gy)
  have A := slb A hb
  have B := slb B hb
  have X := bkb X hb
  have BL := blb BL hb
  clear hY hb
  have SX : Hid (Sln w2 (some ⟨gx, 0, none⟩) nA lA) := blk_begin X.out FA.out.2.2 FA.out.1 FA.out.2.1
  have SY : Hid (Sln w2 (some ⟨gy, 0, none⟩) nB lB) := blk_begin Y.out FB.out.2.2 FB.out.1 FB.out.2.1
  go_wp2_with fail
  refine (sum_n SX SY).mono ?_
  rintro e w3 ⟨gs, ns, rfl, hM⟩
  have hb : Hid (Below w2.heap.size w2 w3) := hM.out.bel
  have S : Hid (Blk w3 gs (addSc lA 1 lB)) := hM.out.blk
  have SS : Hid (Sln w3 (some ⟨gs, 0, none⟩) ns (addSc lA 1 lB)) := hM.out.sln
  have gYS : Hid (gy < gs) := (by have := hM.out.at_; have := Y.out.lt; omega : gy < gs)
  have A := slb A hb
  have B := slb B hb
  have X := bkb X hb
  have Y := bkb Y hb
  have SX := slb SX hb
  have SY := slb SY hb
  have BL := blb BL hb
  clear hM hb
  go_wp2_with fail
  refine (scale_n hc SY).mono ?_
  rintro e w4 ⟨gt, nt, rfl, hM⟩
  have hb : Hid (Below w3.heap.size w3 w4) := hM.out.bel
  have T : Hid (Blk w4 gt (scaled c lB)) := hM.out.blk
  have ST : Hid (Sln w4 (some ⟨gt, 0, none⟩) nt (scaled c lB)) := hM.out.sln
  have gST : Hid (gs < gt) := (by have := hM.out.at_; have := S.out.lt; omega : gs < gt)
  have A := slb A hb
  have B := slb B hb
  have X := bkb X hb
  have Y := bkb Y hb
  have S := bkb S hb
  have SX := slb SX hb
  have SY := slb SY hb
  have SS := slb SS hb
  have BL := blb BL hb
  clear hM hb
  go_wp2_with fail
  refine (addScaled_n hc SX SY).mono ?_
  rintro e w5 ⟨gu, nu, rfl, hM⟩
  have hb : Hid (Below w4.heap.size w4 w5) := hM.out.bel
  have U : Hid (Blk w5 gu (addSc lA c lB)) := hM.out.blk
  have SU : Hid (Sln w5 (some ⟨gu, 0, none⟩) nu (addSc lA c lB)) := hM.out.sln
  have gTU : Hid (gt < gu) := (by have := hM.out.at_; have := T.out.lt; omega : gt < gu)
  have A := slb A hb
  have B := slb B hb
  have X := bkb X hb
  have Y := bkb Y hb
  have S := bkb S hb
  have T := bkb T hb
  have SX := slb SX hb
  have SY := slb SY hb
  have SS := slb SS hb
  have ST := slb ST hb
  have BL := blb BL hb
  clear hM hb
  go_wp2
  have hb := drewb w5
  have A := slb A hb
  have B := slb B hb
  have SX := slb SX hb
  have SY := slb SY hb
  have SS := slb SS hb
  have ST := slb ST hb
  have SU := slb SU hb
  have X := bkb X hb
  have Y := bkb Y hb
  have S := bkb S hb
  have T := bkb T hb
  have U := bkb U hb
  have BL := blb BL hb
  have cS := conv_n (k := ns) SS
  have cT := conv_n (k := nt) ST
  have cU := conv_n (k := nu) SU
  go_region_held (fun w' => (convert 31 9 (.slice (some ⟨gs, 0, none⟩) ns ns)).run Try.prog w' = .ok (.string (spell (addSc lA 1 lB))) w' ∧ (convert 31 9 (.slice (some ⟨gt, 0, none⟩) nt nt)).run Try.prog w' = .ok (.string (spell (scaled c lB))) w' ∧ (convert 31 9 (.slice (some ⟨gu, 0, none⟩) nu nu)).run Try.prog w' = .ok (.string (spell (addSc lA c lB))) w') (exact ⟨cS, cT, cU⟩) (first | (go_at_call 25; refine (dot_n SX SY).mono ?_; rintro e w' ⟨rfl, hQ⟩; have hb := qb hQ; have A := slb A hb; have B := slb B hb; have SX := slb SX hb; have SY := slb SY hb; have SS := slb SS hb; have ST := slb ST hb; have SU := slb SU hb; have X := bkb X hb; have Y := bkb Y hb; have S := bkb S hb; have T := bkb T hb; have U := bkb U hb; have BL := blb BL hb; have cS := conv_n (k := ns) SS; have cT := conv_n (k := nt) ST; have cU := conv_n (k := nu) SU) | (go_at_call 26; refine (refdot_n A B).mono ?_; rintro e w' ⟨rfl, hQ⟩; have hb := qb hQ; have A := slb A hb; have B := slb B hb; have SX := slb SX hb; have SY := slb SY hb; have SS := slb SS hb; have ST := slb ST hb; have SU := slb SU hb; have X := bkb X hb; have Y := bkb Y hb; have S := bkb S hb; have T := bkb T hb; have U := bkb U hb; have BL := blb BL hb; have cS := conv_n (k := ns) SS; have cT := conv_n (k := nt) ST; have cU := conv_n (k := nu) SU) | (go_at_call 27; (with_reducible refine (refadd_one A B).mono ?_); rintro e w' ⟨g, m, cap, rfl, hM⟩; have hb : Hid _ := hM.out.2.2; have R : Hid _ := hM.out.2.1; have cR := conv_n (k := cap) R; have A := slb A hb; have B := slb B hb; have SX := slb SX hb; have SY := slb SY hb; have SS := slb SS hb; have ST := slb ST hb; have SU := slb SU hb; have X := bkb X hb; have Y := bkb Y hb; have S := bkb S hb; have T := bkb T hb; have U := bkb U hb; have BL := blb BL hb; have cS := conv_n (k := ns) SS; have cT := conv_n (k := nt) ST; have cU := conv_n (k := nu) SU) | (go_at_call 27; (with_reducible refine (refadd_nil hc B).mono ?_); rintro e w' ⟨g, m, cap, rfl, hM⟩; have hb : Hid _ := hM.out.2.2; have R : Hid _ := hM.out.2.1; have cR := conv_n (k := cap) R; have A := slb A hb; have B := slb B hb; have SX := slb SX hb; have SY := slb SY hb; have SS := slb SS hb; have ST := slb ST hb; have SU := slb SU hb; have X := bkb X hb; have Y := bkb Y hb; have S := bkb S hb; have T := bkb T hb; have U := bkb U hb; have BL := blb BL hb; have cS := conv_n (k := ns) SS; have cT := conv_n (k := nt) ST; have cU := conv_n (k := nu) SU) | (go_at_call 27; (with_reducible refine (refadd_n hc A B).mono ?_); rintro e w' ⟨g, m, cap, rfl, hM⟩; have hb : Hid _ := hM.out.2.2; have R : Hid _ := hM.out.2.1; have cR := conv_n (k := cap) R; have A := slb A hb; have B := slb B hb; have SX := slb SX hb; have SY := slb SY hb; have SS := slb SS hb; have ST := slb ST hb; have SU := slb SU hb; have X := bkb X hb; have Y := bkb Y hb; have S := bkb S hb; have T := bkb T hb; have U := bkb U hb; have BL := blb BL hb; have cS := conv_n (k := ns) SS; have cT := conv_n (k := nt) ST; have cU := conv_n (k := nu) SU))
  go_wp2_with fail
  have O1 : Hid (w.heap.size ≤ gx ∧ gx < gy ∧ gy < gs ∧ gs < gt ∧ gt < gu) := ⟨gX.out, gXY.out, gYS.out, gST.out, gTU.out⟩
  have K1 : Hid (nt = (scaled c lB).length ∧ nt ≤ 140737488351232) := ⟨ST.out.len, by rw [ST.out.len]; exact ST.out.sli.2.1⟩
  have K2 : Hid (nu = (addSc lA c lB).length ∧ nu ≤ 140737488351232) := ⟨SU.out.len, by rw [SU.out.len]; exact SU.out.sli.2.1⟩
  have K3 : Hid (ns = (addSc lA 1 lB).length ∧ ns ≤ 140737488351232) := ⟨SS.out.len, by rw [SS.out.len]; exact SS.out.sli.2.1⟩
  have L2 : Hid (∀ x ∈ addSc lA c lB, x < 256) := SU.out.lt
  have L3 : Hid (∀ x ∈ addSc lA 1 lB, x < 256) := SS.out.lt
  refine (apart_n SS T ST.out.lt K1.out.1 K1.out.2 (ne_of_lt' O1.out.2.2.2.1)).mono ?_
  rintro e w6 ⟨rfl, q1⟩
  have A := slt A q1 (old_ne oA (by have := O1.out; omega))
  have B := slt B q1 (old_ne oB (by have := O1.out; omega))
  have X := bkt X q1 (ne_of_lt' (by have := O1.out; omega))
  have Y := bkt Y q1 (ne_of_lt' (by have := O1.out; omega))
  have S := bkt S q1 (ne_of_lt' O1.out.2.2.2.1)
  have U := bkt U q1 (ne_of_gt' O1.out.2.2.2.2)
  have BL := blt BL q1 (by have := O1.out; exact (by omega : w.heap.size ≤ gt))
  obtain ⟨LT, hT, hTl, hTb, _⟩ := q1.out
  have ST : Hid (Sln w6 (some ⟨gt, 0, none⟩) nt LT) := ⟨hTl.symm, hT.sli hTb (by rw [hTl]; exact K1.out.2)⟩
  clear q1 hT hTl hTb
  go_wp2_with fail
  refine (apart_n ST U L2 K2.out.1 K2.out.2 (ne_of_lt' O1.out.2.2.2.2)).mono ?_
  rintro e w7 ⟨rfl, q2⟩
  have A := slt A q2 (old_ne oA (by have := O1.out; omega))
  have B := slt B q2 (old_ne oB (by have := O1.out; omega))
  have X := bkt X q2 (ne_of_lt' (by have := O1.out; omega))
  have Y := bkt Y q2 (ne_of_lt' (by have := O1.out; omega))
  have S := bkt S q2 (ne_of_lt' (by have := O1.out; omega))
  have BL := blt BL q2 (by have := O1.out; exact (by omega : w.heap.size ≤ gu))
  obtain ⟨LU, hU, hUl, hUb, _⟩ := q2.out
  have SU : Hid (Sln w7 (some ⟨gu, 0, none⟩) nu LU) := ⟨hUl.symm, hU.sli hUb (by rw [hUl]; exact K2.out.2)⟩
  clear q2 hU hUl hUb
  go_wp2_with fail
  refine (apart_n SU S L3 K3.out.1 K3.out.2 (ne_of_gt' (by have := O1.out; omega))).mono ?_
  rintro e w8 ⟨rfl, q3⟩
  have A := slt A q3 (old_ne oA (by have := O1.out; omega))
  have B := slt B q3 (old_ne oB (by have := O1.out; omega))
  have X := bkt X q3 (ne_of_lt' (by have := O1.out; omega))
  have Y := bkt Y q3 (ne_of_lt' (by have := O1.out; omega))
  have BL := blt BL q3 (by have := O1.out; exact (by omega : w.heap.size ≤ gs))
  clear q3
  go_wp2_with fail
  refine (kept_n X eX A).mono ?_
  rintro e w9 ⟨rfl, hQ⟩
  have hb := qb hQ
  have B := slb B hb
  have Y := bkb Y hb
  have BL := blb BL hb
  clear hQ hb
  go_wp2_with fail
  refine (kept_n Y eY B).mono ?_
  rintro e w10 ⟨rfl, hQ⟩
  have hb := qb hQ
  have BL := blb BL hb
  clear hQ hb
  go_wp2
  go_ret
  exact ⟨rfl, BL.out⟩
end Go.Proofs.Ytgfleebnddjhgaa
