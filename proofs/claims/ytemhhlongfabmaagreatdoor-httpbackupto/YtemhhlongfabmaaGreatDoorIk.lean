/- A request's bytes, by the document. -/
import Derived.Test.YtemhhlongfabmaaGreatDoorHy
import Derived.Test.YtemhhlongfabmaaGreatDoorHs
namespace Go.Proofs.YtemhhlongfabmaaGreatDoor
open Go.ChangeShapes Go.WideShapes Go.ChangeAt Go.RowKit
set_option maxRecDepth 20000
set_option linter.unusedVariables false
set_option linter.unusedSimpArgs false
def rqH (m t : ByteArray) : ByteArray := ((m ++ { data := #[32] }) ++ t) ++ { data := #[32, 72, 84, 84, 80, 47, 49, 46, 49, 13, 10] }
def rqL (m t : ByteArray) (fs : List Fl) (body : List Nat) : List Nat := ((bo (rqH m t) ++ lnsB fs) ++ [13, 10]) ++ body
set_option maxHeartbeats 4000000 in
theorem refreq_n {m t : ByteArray} {fa : Option Addr} {fn fc : Nat} {fs : List Fl} {ba : Option Addr} {bn bc : Nat} {body : List Nat} {w : World} (hF : Hid (Fw w fa fn fs)) (hS : Hid (Sln w ba bn body)) (hbc : Hid (ba = none → bc = 0)) (hZ : Hid ((rqL m t fs body).length ≤ 140737488354304)) :
    Calls Tryz.prog 25 #[.agg #[.string m, .string t, .slice fa fn fc, .slice ba bn bc]] w fun e w' => ∃ a n c, e = .returned (.slice a n c) ∧ Hid (Om w' w.heap.size a n c (rqL m t fs body) ∧ Below w.heap.size w w') := by
  have BL : Hid (bn = body.length) := hS.out.len
  have fsz := hF.out.sz
  obtain ⟨g1, G1⟩ : ∃ g, Hid (w.heap.size = g) := ⟨_, rfl⟩
  obtain ⟨w0, H0⟩ : ∃ w0, Hid (w.alloc (.cells #[.string m, .string t, .slice fa fn fc, .slice ba bn bc] 27) = w0) := ⟨_, rfl⟩
  have B0 : Hid (Bx w w0 g1 27 #[.string m, .string t, .slice fa fn fc, .slice ba bn bc]) := by rw [← H0.out, ← G1.out]; exact Bx.new w w 27 _ (Below.refl _ _)
  have CLS : Hid (∀ {W : World}, Bx w W g1 27 #[.string m, .string t, .slice fa fn fc, .slice ba bn bc] → W.cell? ⟨g1, 0, none⟩ = some (.string m) ∧ W.cell? ⟨g1, 1, none⟩ = some (.string t) ∧ W.cell? ⟨g1, 2, none⟩ = some (.slice fa fn fc) ∧ W.cell? ⟨g1, 3, none⟩ = some (.slice ba bn bc)) := fun {W} h => by
    refine ⟨?_, ?_, ?_, ?_⟩ <;> simp [World.cell?, h.row]
  obtain ⟨hd, HH⟩ : ∃ l, Hid (bo (rqH m t) = l) := ⟨_, rfl⟩
  have HS0 : Hid (rqH m t = spell hd) := (by rw [← HH.out, spell_bo] : rqH m t = spell hd)
  have TOT : Hid (rqL m t fs body = ((hd ++ lnsB fs) ++ [13, 10]) ++ body) := (by unfold rqL; rw [HH.out] : rqL m t fs body = _)
  have s1 : ({ data := #[32] } : ByteArray).size = 1 := rfl
  have s2 : ({ data := #[13, 10] } : ByteArray).size = 2 := rfl
  have sv : ({ data := #[32, 72, 84, 84, 80, 47, 49, 46, 49, 13, 10] } : ByteArray).size = 11 := rfl
  have HL : hd.length = m.size + 1 + t.size + 11 := by rw [← HH.out, bo_len]; unfold rqH; rw [ba_size_app, ba_size_app, ba_size_app, s1, sv]
  have WZ : hd.length + (lnsB fs).length + 2 + bn ≤ 140737488354304 := by
    have h := hZ.out
    rw [TOT.out] at h
    simp only [List.length_append, List.length_cons, List.length_nil] at h
    have := BL.out
    omega
  have A1 := addS m { data := #[32] } (by rw [s1]; omega)
  have A2 := addS (m ++ { data := #[32] }) t (by rw [ba_size_app, s1]; omega)
  have A3 : ∀ W, (Op.stringOp .add ((m ++ { data := #[32] }) ++ t) { data := #[32, 72, 84, 84, 80, 47, 49, 46, 49, 13, 10] }).run Tryz.prog W = .ok (.string (spell hd)) W := fun W => by
    rw [← HS0.out]
    exact addS _ _ (by rw [ba_size_app, ba_size_app, s1, sv]; omega) W
  have RL : Hid (fn = fs.length) := hF.out.len
  obtain ⟨q0, q1, q2, q3⟩ := CLS.out B0.out
  go_enter Tryz.func25, Tryz.ntmps25
  go_upto_region 1 with (fail)
  rw [H0.out, G1.out]
  go_upto_region 2 with (fail)
  clear A1 A2 A3 s1 sv
  go_wp2
  go_loopw [16, 3] (fun ti ts wr => ∃ (i : Nat), i ≤ fn ∧ ti = .int .i64 (i : Int) ∧ ts = .string (spell (hd ++ lnsB (fs.take i))) ∧ Hid (Bx w wr g1 27 #[.string m, .string t, .slice fa fn fc, .slice ba bn bc])) (fun ti _ _ => fn - (intOf ti).toNat)
  case atStart => exact ⟨0, by omega, rfl, by simp [lnsB], B0.out⟩
  case round =>
    obtain ⟨i, hi, rfl, rfl, HB⟩ := hrel
    obtain ⟨L, HLL⟩ : ∃ L, Hid (hd ++ lnsB (fs.take i) = L) := ⟨_, rfl⟩
    have LZ : L.length ≤ hd.length + (lnsB fs).length := by rw [← HLL.out, List.length_append]; have := lnsB_take fs i; omega
    rw [HLL.out]
    clear q0 q1 q2 q3
    by_cases hlt : i < fn
    · have i1 : (i : Int) < (fn : Int) := by omega
      obtain ⟨bb, off, rfl, hb, hc⟩ := (hF.out.below HB.out.bel).at_.resolve_left (by omega)
      obtain ⟨c0, c1⟩ := hc i hlt
      obtain ⟨x, Hx⟩ : ∃ x, Hid ((fs.getD i fz).1 = x) := ⟨_, rfl⟩
      obtain ⟨y, Hy⟩ : ∃ y, Hid ((fs.getD i fz).2 = y) := ⟨_, rfl⟩
      rw [Hx.out] at c0
      rw [Hy.out] at c1
      clear hc
      obtain ⟨w1, hw1⟩ : ∃ w1, w1 = wr.alloc (.cells #[.string x, .string y] 41) := ⟨_, rfl⟩
      have e0 : w1.cell? ⟨wr.heap.size, 0, none⟩ = some (.string x) := by rw [hw1]; simp
      have e1 : w1.cell? ⟨wr.heap.size, 1, none⟩ = some (.string y) := by rw [hw1]; simp
      have H1 : Hid (Bx w w1 g1 27 #[.string m, .string t, .slice (some ⟨bb, off, none⟩) fn fc, .slice ba bn bc]) := by rw [hw1]; exact HB.out.below (alloc1 _ _)
      obtain ⟨s, Hs9⟩ : ∃ s, Hid (lnS (x, y) = s) := ⟨_, rfl⟩
      have LX : Hid (lnsB (fs.take (i + 1)) = lnsB (fs.take i) ++ bo s) := (by
        have h2 : i < fs.length := by rw [← RL.out]; exact hlt
        rw [List.take_succ_eq_append_getElem h2, lnsB_snoc, ← Hs9.out]
        have e : fs[i] = (x, y) := by
          have e3 : fs.getD i fz = fs[i] := by simp [List.getD, h2]
          rw [← e3, ← Hx.out, ← Hy.out]
        rw [e] : lnsB (fs.take (i + 1)) = _)
      have sz : s.size ≤ (lnsB fs).length := by
        have h := lnsB_take fs (i + 1)
        rw [LX.out, List.length_append, bo_len] at h
        omega
      have sxy : x.size + y.size + 4 = s.size := by rw [← Hs9.out, lnS_size]
      have s58 : ({ data := #[58, 32] } : ByteArray).size = 2 := rfl
      have A1 := addS x { data := #[58, 32] } (by rw [s58]; omega)
      have A2 := addS (x ++ { data := #[58, 32] }) y (by rw [ba_size_app, s58]; omega)
      have A3 : ∀ W, (Op.stringOp .add ((x ++ { data := #[58, 32] }) ++ y) { data := #[13, 10] }).run Tryz.prog W = .ok (.string s) W := fun W => by
        rw [← Hs9.out]
        exact addS _ _ (by rw [ba_size_app, ba_size_app, s58, s2]; omega) W
      have A4 : ∀ W, (Op.stringOp .add (spell L) s).run Tryz.prog W = .ok (.string (spell (hd ++ lnsB (fs.take (i + 1))))) W := fun W => by
        have h := addS (spell L) s (by rw [spell_sz]; omega) W
        rw [LX.out, ← List.append_assoc, HLL.out, spell_app, spell_bo]
        exact h
      clear sz sxy s58
      go_upto_region 5 with (fail)
      rw [← hw1]
      obtain ⟨q, hq⟩ : ∃ q, q = wr.heap.size := ⟨_, rfl⟩
      rw [← hq] at e0 e1 ⊢
      clear hw1 hq c0 c1
      go_wp2
      go_roundw
      case rel => exact ⟨i + 1, by omega, by go_num, rfl, H1.out⟩
      case measure => simp [intOf]; omega
    · have TK : Hid (hd ++ lnsB fs = L) := (by rw [← HLL.out, List.take_of_length_le (by rw [← RL.out]; omega)] : hd ++ lnsB fs = L)
      obtain ⟨F, HF⟩ : ∃ F : List Nat, Hid ((L ++ [13, 10] : List Nat) = F) := ⟨_, (rfl : (L ++ [13, 10] : List Nat) = _)⟩
      have FL : F.length = L.length + 2 := by rw [← HF.out, List.length_append]; rfl
      have FB : Hid (∀ x ∈ F, x < 256) := fun x hx => by
        rw [← HF.out, ← TK.out, ← HH.out] at hx
        rcases List.mem_append.1 hx with hx | hx
        · rcases List.mem_append.1 hx with hx | hx
          · exact bo_lt _ x hx
          · obtain ⟨f, _, hf⟩ := List.mem_flatMap.1 hx
            exact bo_lt _ x hf
        · have : ∀ x ∈ [13, 10], x < 256 := by decide
          exact this x hx
      have A7 : ∀ W, (Op.stringOp .add (spell L) { data := #[13, 10] }).run Tryz.prog W = .ok (.string (spell F)) W := fun W => by
        have h := addS (spell L) { data := #[13, 10] } (by rw [s2, spell_sz]; omega) W
        have e : spell F = spell L ++ { data := #[13, 10] } := by rw [← HF.out, spell_app]; rfl
        rw [e]
        exact h
      have CV := run_cv wr (spell F)
      obtain ⟨w7, H7⟩ : ∃ w7, Hid (cvW wr (spell F) = w7) := ⟨_, rfl⟩
      obtain ⟨c7, C7⟩ : ∃ c, Hid (cvC wr (spell F) = c) := ⟨_, rfl⟩
      obtain ⟨g7, G7⟩ : ∃ g, Hid (wr.heap.size = g) := ⟨_, rfl⟩
      obtain ⟨n7, N7⟩ : ∃ n, Hid (F.length = n) := ⟨_, rfl⟩
      have n7z : n7 + bn ≤ 140737488354304 := by rw [← N7.out, FL]; have h := congrArg List.length TK.out; rw [List.length_append] at h; omega
      have D7 : Hid (Below wr.heap.size wr w7) := by rw [← H7.out]; exact cvW_below _ _
      have M7 : Hid (Om w7 w.heap.size (some ⟨g7, 0, none⟩) n7 c7 F) := by
        have h := cvW_om wr F FB.out w.heap.size HB.out.bel.size (by rw [N7.out]; simp only [maxLen]; omega)
        rw [H7.out, C7.out, G7.out, N7.out] at h
        exact h
      rw [H7.out, C7.out, G7.out, spell_sz, N7.out] at CV
      have B7 : Hid (Bx w w7 g1 27 #[.string m, .string t, .slice fa fn fc, .slice ba bn bc]) := HB.out.below D7.out
      obtain ⟨r0, r1, r2, r3⟩ := CLS.out B7.out
      obtain ⟨p0, p1, p2, p3⟩ := CLS.out HB.out
      obtain ⟨a9, c9, w9, run9, om9, gr9, _⟩ := om_sln (c2 := bc) M7.out (hS.out.below B7.out.bel) hbc.out n7z B7.out.bel.size
      have RUN9 : Hid ((Builtin.append_ #[22, 22] 22 #[.slice (some ⟨g7, 0, none⟩) n7 c7, .slice ba bn bc]).run Tryz.prog w7 = .ok (.slice a9 (n7 + bn) c9) w9) := run9
      have FIN : Hid (Om w9 w.heap.size a9 (n7 + bn) c9 (rqL m t fs body) ∧ Below w.heap.size w w9) := ⟨by rw [TOT.out, TK.out, HF.out]; exact om9, B7.out.bel.grown gr9 B7.out.bel.size (fun q e => (M7.out.lt_ q e).1)⟩
      clear run9 om9 gr9 n7z FL
      go_wp2_with (at_builtin; refine wpList_app (by rfl) (.tmp 32) (.tmp 34) (by rfl) (by rfl) (by rfl) (by rfl) RUN9 ?_)
      go_ret
      exact ⟨a9, n7 + bn, c9, rfl, FIN.out⟩
end Go.Proofs.YtemhhlongfabmaaGreatDoor
