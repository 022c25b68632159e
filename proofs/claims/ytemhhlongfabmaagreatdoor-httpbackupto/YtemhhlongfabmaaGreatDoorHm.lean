/- Numbers as texts; statuses in words; strings as bytes. -/
import Derived.Test.YtemhhlongfabmaaGreatDoorHl
import Derived.Lib.AppendIntMem
namespace Go.Proofs.YtemhhlongfabmaaGreatDoor
open Go.ChangeShapes Go.WideShapes Go.ChangeAt Go.RowKit
set_option maxRecDepth 20000
set_option linter.unusedVariables false
set_option linter.unusedSimpArgs false
/- the table of the powers of ten lies as it was laid -/
def Tab (w : World) : Prop := Lib.TabIs Tryz.prog w "internal/strconv.uint64pow10" .u64 Lib.pow10Tab
theorem tab_g : Tryz.prog.globalNamed "internal/strconv.uint64pow10" = some 19 := by kernel_rfl
theorem Tab.lt {w : World} (h : Tab w) : 19 < w.heap.size := by
  unfold Tab Lib.TabIs World.var? at h
  rw [tab_g] at h
  simp only [Option.bind_some] at h
  rcases Nat.lt_or_ge 19 w.heap.size with h' | h'
  · exact h'
  · rw [Array.getElem?_eq_none h'] at h; cases h
theorem Tab.keep {w w' : World} (h : Tab w) (e : w'.heap[19]? = w.heap[19]?) : Tab w' := by
  unfold Tab Lib.TabIs World.var? at h ⊢
  rw [tab_g] at h ⊢
  simp only [Option.bind_some] at h ⊢
  rw [e]
  exact h
theorem Tab.below {w w' : World} (h : Tab w) (hb : Below w.heap.size w w') : Tab w' := h.keep (hb.block 19 h.lt)
def itS (n : Int) : ByteArray := ⟨(Lib.itoa n).toArray⟩
theorem itoa_n (n : Int) (h0 : -9223372036854775808 ≤ n) (h1 : n ≤ 9223372036854775807) {w : World} (ht : Hid (Tab w)) :
    Calls Tryz.prog 35 #[.int .i64 n] w fun e w' => e = .returned (.string (itS n)) ∧ Hid (Below w.heap.size w w') := by
  refine (Tryz.strconv_Itoa n h0 h1 w ht.out).mono ?_
  rintro e w' ⟨rfl, k, os, rfl⟩
  exact ⟨rfl, Lib.below_grow w.heap.size w (Nat.le_refl _) k os⟩
theorem dec_len (u : Nat) (k : Nat) (h : u < 10 ^ k) (hk : 1 ≤ k) : (Lib.decDigits u).length ≤ k := by
  induction k generalizing u with
  | zero => omega
  | succ k ih =>
    rw [Lib.decDigits]
    split
    · simp
    · rename_i h9
      rw [List.length_append]
      rcases Nat.eq_zero_or_pos k with rfl | hp
      · omega
      · have := ih (u / 10) (by rw [Nat.pow_succ] at h; omega) hp
        simp; omega
theorem itoa_len (n : Int) (h0 : -9223372036854775808 ≤ n) (h1 : n ≤ 9223372036854775807) : (Lib.itoa n).length ≤ 20 := by
  unfold Lib.itoa
  split
  · have := dec_len n.natAbs 19 (by omega) (by omega)
    simp; omega
  · have := dec_len n.toNat 19 (by omega) (by omega)
    omega
theorem itS_size (n : Int) (h0 : -9223372036854775808 ≤ n) (h1 : n ≤ 9223372036854775807) : (itS n).size ≤ 20 := by
  have h := itoa_len n h0 h1
  simpa [itS, ByteArray.size] using h
/- a string's bytes -/
def bo (s : ByteArray) : List Nat := s.data.toList.map UInt8.toNat
theorem bo_lt (s : ByteArray) : ∀ x ∈ bo s, x < 256 := fun x hx => by
  obtain ⟨y, _, rfl⟩ := List.mem_map.1 hx
  exact UInt8.toNat_lt y
theorem bo_len (s : ByteArray) : (bo s).length = s.size := by rw [Lib.size_eq]; simp [bo]
theorem spell_bo (s : ByteArray) : spell (bo s) = s := by
  apply ByteArray.ext
  apply Array.toList_inj.1
  rw [spell_data]
  simp [bo, Function.comp_def]
theorem bo_spell {l : List Nat} (h : ∀ x ∈ l, x < 256) : bo (spell l) = l := by unfold bo; rw [spell_data]; exact ofNat_back h
theorem bo_app (s t : ByteArray) : bo (s ++ t) = bo s ++ bo t := by simp [bo, ByteArray.data_append]
/- statuses in words -/
def rsnL : List (Int × ByteArray) := [(200, ⟨#[79, 75]⟩), (204, ⟨#[78, 111, 32, 67, 111, 110, 116, 101, 110, 116]⟩), (206, ⟨#[80, 97, 114, 116, 105, 97, 108, 32, 67, 111, 110, 116, 101, 110, 116]⟩), (400, ⟨#[66, 97, 100, 32, 82, 101, 113, 117, 101, 115, 116]⟩), (403, ⟨#[70, 111, 114, 98, 105, 100, 100, 101, 110]⟩), (404, ⟨#[78, 111, 116, 32, 70, 111, 117, 110, 100]⟩), (405, ⟨#[77, 101, 116, 104, 111, 100, 32, 78, 111, 116, 32, 65, 108, 108, 111, 119, 101, 100]⟩), (409, ⟨#[67, 111, 110, 102, 108, 105, 99, 116]⟩), (413, ⟨#[67, 111, 110, 116, 101, 110, 116, 32, 84, 111, 111, 32, 76, 97, 114, 103, 101]⟩), (416, ⟨#[82, 97, 110, 103, 101, 32, 78, 111, 116, 32, 83, 97, 116, 105, 115, 102, 105, 97, 98, 108, 101]⟩), (500, ⟨#[73, 110, 116, 101, 114, 110, 97, 108, 32, 83, 101, 114, 118, 101, 114, 32, 69, 114, 114, 111, 114]⟩), (503, ⟨#[83, 101, 114, 118, 105, 99, 101, 32, 85, 110, 97, 118, 97, 105, 108, 97, 98, 108, 101]⟩), (507, ⟨#[73, 110, 115, 117, 102, 102, 105, 99, 105, 101, 110, 116, 32, 83, 116, 111, 114, 97, 103, 101]⟩)]
def unk : ByteArray := ⟨#[85, 110, 107, 110, 111, 119, 110]⟩
def rsn (st : Int) : ByteArray := ((rsnL.find? (fun p => decide (p.1 = st))).map (·.2)).getD unk
theorem rsn_size (st : Int) : (rsn st).size ≤ 40 := by
  unfold rsn
  cases h : rsnL.find? (fun p => decide (p.1 = st)) with
  | none => simp; decide
  | some p =>
    have hp := List.mem_of_find?_eq_some h
    have : ∀ p ∈ rsnL, p.2.size ≤ 40 := by decide
    simpa using this p hp
theorem reason_n (st : Int) (w : World) : Calls Tryz.prog 19 #[.int .i64 st] w fun e w' => e = .returned (.string (rsn st)) ∧ w' = w := by
  by_cases h0 : st = 200
  · subst h0
    go_enter Tryz.func19, Tryz.ntmps19
    go_wp2
    go_ret
    exact ⟨rfl, rfl⟩
  · skip
    by_cases h1 : st = 204
    · subst h1
      go_enter Tryz.func19, Tryz.ntmps19
      go_wp2
      go_ret
      exact ⟨rfl, rfl⟩
    · skip
      by_cases h2 : st = 206
      · subst h2
        go_enter Tryz.func19, Tryz.ntmps19
        go_wp2
        go_ret
        exact ⟨rfl, rfl⟩
      · skip
        by_cases h3 : st = 400
        · subst h3
          go_enter Tryz.func19, Tryz.ntmps19
          go_wp2
          go_ret
          exact ⟨rfl, rfl⟩
        · skip
          by_cases h4 : st = 403
          · subst h4
            go_enter Tryz.func19, Tryz.ntmps19
            go_wp2
            go_ret
            exact ⟨rfl, rfl⟩
          · skip
            by_cases h5 : st = 404
            · subst h5
              go_enter Tryz.func19, Tryz.ntmps19
              go_wp2
              go_ret
              exact ⟨rfl, rfl⟩
            · skip
              by_cases h6 : st = 405
              · subst h6
                go_enter Tryz.func19, Tryz.ntmps19
                go_wp2
                go_ret
                exact ⟨rfl, rfl⟩
              · skip
                by_cases h7 : st = 409
                · subst h7
                  go_enter Tryz.func19, Tryz.ntmps19
                  go_wp2
                  go_ret
                  exact ⟨rfl, rfl⟩
                · skip
                  by_cases h8 : st = 413
                  · subst h8
                    go_enter Tryz.func19, Tryz.ntmps19
                    go_wp2
                    go_ret
                    exact ⟨rfl, rfl⟩
                  · skip
                    by_cases h9 : st = 416
                    · subst h9
                      go_enter Tryz.func19, Tryz.ntmps19
                      go_wp2
                      go_ret
                      exact ⟨rfl, rfl⟩
                    · skip
                      by_cases h10 : st = 500
                      · subst h10
                        go_enter Tryz.func19, Tryz.ntmps19
                        go_wp2
                        go_ret
                        exact ⟨rfl, rfl⟩
                      · skip
                        by_cases h11 : st = 503
                        · subst h11
                          go_enter Tryz.func19, Tryz.ntmps19
                          go_wp2
                          go_ret
                          exact ⟨rfl, rfl⟩
                        · skip
                          by_cases h12 : st = 507
                          · subst h12
                            go_enter Tryz.func19, Tryz.ntmps19
                            go_wp2
                            go_ret
                            exact ⟨rfl, rfl⟩
                          · skip
                            have EV : Hid (rsn st = unk) := (by unfold rsn rsnL; simp [List.find?, Ne.symm h0, Ne.symm h1, Ne.symm h2, Ne.symm h3, Ne.symm h4, Ne.symm h5, Ne.symm h6, Ne.symm h7, Ne.symm h8, Ne.symm h9, Ne.symm h10, Ne.symm h11, Ne.symm h12] : rsn st = unk)
                            go_enter Tryz.func19, Tryz.ntmps19
                            go_wp2
                            go_ret
                            rw [EV.out]
                            exact ⟨rfl, rfl⟩
end Go.Proofs.YtemhhlongfabmaaGreatDoor
