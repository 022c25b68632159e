/- What the Go function ShaHexes does, for all bytes and texts: it returns true, and changes nothing that was there. -/
import Derived.Test.YtljlibhhefceaaaDoorUe
import Derived.Test.YtljlibhhefceaaaDoorSl
namespace Go.Proofs.YtljlibhhefceaaaDoor
open Go.ChangeShapes Go.WideShapes Go.ChangeAt Go.RowKit
set_option linter.unusedVariables false
set_option linter.unusedSimpArgs false
theorem nil_sln (w : World) : Sln w none 0 [] := ⟨rfl, by simp, by simp, .inl rfl⟩
set_option maxRecDepth 20000 in
set_option maxHeartbeats 2000000 in
theorem hexes_t (w : World) {a : Option Addr} {n c : Nat} {l : List Nat} (S : Hid (Sln w a n l)) (z0 : Hid (a = none → c = 0)) (hn : n ≤ 1048576) (s : ByteArray) (hs : s.size ≤ 1048576) (m : Nat) (hm : Hid (s.size = 2 * m)) (hD : Hid (∀ j, j < 2 * m → ∃ x, dig (sb s j) = some x)) (hKs : Hid (Kst w)) (h0 : Hid (0 < w.heap.size)) :
    Calls Tryd.prog 5 #[.slice a n c, .string s] w fun e w' => e = .returned (.bool true) ∧ Hid (Below w.heap.size w w') := by
  have nl : n = l.length := S.out.len
  have HNL : Hid (n = l.length) := nl
  clear nl
  go_enter Tryd.func5, Tryd.ntmps5
  go_upto_region 8 with (first
    | (go_at_call 8; refine (alive_n _ hKs h0).mono ?_; rintro e w1 ⟨rfl, B1⟩; have S1 : Hid (Sln w1 a n l) := S.out.below B1.out)
    | (go_at_call 9; refine (bytes_n S1 z0).mono ?_; rintro e w2 ⟨gi, N, rfl, H2⟩; have HN : Hid (N = n + 6) := H2.out.1; have S2 : Hid (Sln w2 a n l) := S1.out.below H2.out.2.2.2; have SI : Hid (Sln w2 (some ⟨gi, 0, none⟩) n l) := blk_begin H2.out.2.2.1 HNL.out S.out.lt (by rw [← HNL.out]; omega))
    | (go_at_call 17; refine (hex_n SI (by omega)).mono ?_; rintro e w3 ⟨t, rfl, H3⟩; have S3 : Hid (Sln w3 a n l) := S2.out.below H3.out.2; have T1 : Hid (t.size = 2 * n) := (show t.size = 2 * n from (by rw [H3.out.1, spell_size, hexL_length, ← HNL.out])); have T2 : Hid (∀ j, j < 2 * n → ∃ x, dig (sb t j) = some x) := (by rw [H3.out.1, HNL.out]; exact hex_digits S.out.lt); have T3 : Hid (unL t n = l) := (by rw [H3.out.1, HNL.out]; exact unL_hex S.out.lt))
    | (go_at_call 18; refine (unhex_t t n _ T1 (by omega) T2).mono ?_; rintro e w4 ⟨g4, rfl, H4⟩; have S4 : Hid (Sln w4 a n l) := S3.out.below H4.out.2.2; have Q4 : Hid (Sln w4 (some ⟨g4, 0, none⟩) n l) := (by have hb := H4.out.2.1; rw [T3.out] at hb; exact ⟨HNL.out, hb.sli S.out.lt (by rw [← HNL.out]; omega)⟩))
    | (go_at_call 19; refine (refhex_n S4 (by omega)).mono ?_; rintro e w5 ⟨t5, rfl, H5⟩; have e5 : t5 = t := (by rw [H5.out.1, H3.out.1]); subst e5; have S5 : Hid (Sln w5 a n l) := S4.out.below H5.out.2; have Q5 : Hid (Sln w5 (some ⟨g4, 0, none⟩) n l) := Q4.out.below H5.out.2; have cv1 := conv_n (k := n) Q5; have cv2 := conv_n (k := c) S5; have K5 : Hid (Blk w5 gi (l ++ marks)) := ((H2.out.2.2.1.below H3.out.2 H2.out.2.2.1.lt).below H4.out.2.2 (Nat.lt_of_lt_of_le H2.out.2.2.1.lt H3.out.2.size)).below H5.out.2 (Nat.lt_of_lt_of_le H2.out.2.2.1.lt (Nat.le_trans H3.out.2.size H4.out.2.2.size)))
    | (go_at_call 12; refine (kept_n K5 HN S5).mono ?_; rintro e w6 ⟨rfl, hQ6⟩))
  have B6 : Hid (Below w.heap.size w w6) := by
    have b2 := B1.out.trans (H2.out.2.2.2.mono B1.out.size)
    have b3 := b2.trans (H3.out.2.mono b2.size)
    have b4 := b3.trans (H4.out.2.2.mono b3.size)
    have b5 := b4.trans (H5.out.2.mono b4.size)
    obtain ⟨q, rfl⟩ := hQ6.out
    exact below_drewN b5 q
  clear cv1 cv2 hQ6 K5 S5 Q5 H5 Q4 S4 H4 T1 T2 T3 S3 H3 SI S2 HN H2 S1 B1
  have hm2 : m ≤ 1048576 := by have := hm.out; omega
  go_upto_region 10 with (first
    | (go_at_call 18; refine (unhex_t s m _ hm (by omega) hD).mono ?_; rintro e w7 ⟨g7, rfl, H7⟩; have S7 : Hid (Sln w7 (some ⟨g7, 0, none⟩) m (unL s m)) := ⟨(unL_length s m).symm, H7.out.2.1.sli (unL_lt s m) (by rw [unL_length]; omega)⟩)
    | (go_at_call 20; refine (refunhex_t s _ m hm hD (by omega)).mono ?_; rintro e w8 ⟨g8, cap8, rfl, H8⟩; have S8 : Hid (Sln w8 (some ⟨g8, 0, none⟩) m (unL s m)) := H8.out.1; have R8 : Hid (Sln w8 (some ⟨g7, 0, none⟩) m (unL s m)) := S7.out.below H8.out.2))
  have cv1 := conv_n (k := m) R8
  have cv2 := conv_n (k := cap8) S8
  have B8 : Hid (Below w.heap.size w w8) := by
    have b7 := B6.out.trans (H7.out.2.2.mono B6.out.size)
    exact b7.trans (H8.out.2.mono b7.size)
  go_wp2_with (go_at_call 17; refine (hex_n R8 (by omega)).mono ?_; rintro e w9 ⟨t9, rfl, H9⟩; have e9 : t9 = s := (by rw [H9.out.1]; exact hex_back hm.out hD.out); subst e9)
  go_ret
  exact ⟨rfl, B8.out.trans (H9.out.2.mono B8.out.size)⟩
set_option maxRecDepth 20000 in
set_option maxHeartbeats 2000000 in
theorem hexes_bad (w : World) {a : Option Addr} {n c : Nat} {l : List Nat} (S : Hid (Sln w a n l)) (z0 : Hid (a = none → c = 0)) (hn : n ≤ 1048576) (s : ByteArray) (hs : s.size ≤ 1048576) (m : Nat) (hm : Hid (s.size = 2 * m)) (hB : Hid (∃ j, j < 2 * m ∧ dig (sb s j) = none)) (hF : Hid (¬ (s.size % 2 = 0 ∧ ∀ t, t < s.size → dig (sb s t) ≠ none))) (hKs : Hid (Kst w)) (h0 : Hid (0 < w.heap.size)) :
    Calls Tryd.prog 5 #[.slice a n c, .string s] w fun e w' => e = .returned (.bool true) ∧ Hid (Below w.heap.size w w') := by
  have nl : n = l.length := S.out.len
  have HNL : Hid (n = l.length) := nl
  clear nl
  go_enter Tryd.func5, Tryd.ntmps5
  go_upto_region 8 with (first
    | (go_at_call 8; refine (alive_n _ hKs h0).mono ?_; rintro e w1 ⟨rfl, B1⟩; have S1 : Hid (Sln w1 a n l) := S.out.below B1.out)
    | (go_at_call 9; refine (bytes_n S1 z0).mono ?_; rintro e w2 ⟨gi, N, rfl, H2⟩; have HN : Hid (N = n + 6) := H2.out.1; have S2 : Hid (Sln w2 a n l) := S1.out.below H2.out.2.2.2; have SI : Hid (Sln w2 (some ⟨gi, 0, none⟩) n l) := blk_begin H2.out.2.2.1 HNL.out S.out.lt (by rw [← HNL.out]; omega))
    | (go_at_call 17; refine (hex_n SI (by omega)).mono ?_; rintro e w3 ⟨t, rfl, H3⟩; have S3 : Hid (Sln w3 a n l) := S2.out.below H3.out.2; have T1 : Hid (t.size = 2 * n) := (show t.size = 2 * n from (by rw [H3.out.1, spell_size, hexL_length, ← HNL.out])); have T2 : Hid (∀ j, j < 2 * n → ∃ x, dig (sb t j) = some x) := (by rw [H3.out.1, HNL.out]; exact hex_digits S.out.lt); have T3 : Hid (unL t n = l) := (by rw [H3.out.1, HNL.out]; exact unL_hex S.out.lt))
    | (go_at_call 18; refine (unhex_t t n _ T1 (by omega) T2).mono ?_; rintro e w4 ⟨g4, rfl, H4⟩; have S4 : Hid (Sln w4 a n l) := S3.out.below H4.out.2.2; have Q4 : Hid (Sln w4 (some ⟨g4, 0, none⟩) n l) := (by have hb := H4.out.2.1; rw [T3.out] at hb; exact ⟨HNL.out, hb.sli S.out.lt (by rw [← HNL.out]; omega)⟩))
    | (go_at_call 19; refine (refhex_n S4 (by omega)).mono ?_; rintro e w5 ⟨t5, rfl, H5⟩; have e5 : t5 = t := (by rw [H5.out.1, H3.out.1]); subst e5; have S5 : Hid (Sln w5 a n l) := S4.out.below H5.out.2; have Q5 : Hid (Sln w5 (some ⟨g4, 0, none⟩) n l) := Q4.out.below H5.out.2; have cv1 := conv_n (k := n) Q5; have cv2 := conv_n (k := c) S5; have K5 : Hid (Blk w5 gi (l ++ marks)) := ((H2.out.2.2.1.below H3.out.2 H2.out.2.2.1.lt).below H4.out.2.2 (Nat.lt_of_lt_of_le H2.out.2.2.1.lt H3.out.2.size)).below H5.out.2 (Nat.lt_of_lt_of_le H2.out.2.2.1.lt (Nat.le_trans H3.out.2.size H4.out.2.2.size)))
    | (go_at_call 12; refine (kept_n K5 HN S5).mono ?_; rintro e w6 ⟨rfl, hQ6⟩))
  have B6 : Hid (Below w.heap.size w w6) := by
    have b2 := B1.out.trans (H2.out.2.2.2.mono B1.out.size)
    have b3 := b2.trans (H3.out.2.mono b2.size)
    have b4 := b3.trans (H4.out.2.2.mono b3.size)
    have b5 := b4.trans (H5.out.2.mono b4.size)
    obtain ⟨q, rfl⟩ := hQ6.out
    exact below_drewN b5 q
  clear cv1 cv2 hQ6 K5 S5 Q5 H5 Q4 S4 H4 T1 T2 T3 S3 H3 SI S2 HN H2 S1 B1
  have hm2 : m ≤ 1048576 := by have := hm.out; omega
  go_upto_region 10 with (first
    | (go_at_call 18; refine (unhex_bad s m _ hm (by omega) hB).mono ?_; rintro e w7 ⟨rfl, B7⟩)
    | (go_at_call 20; refine (refunhex_f s _ hF (by omega)).mono ?_; rintro e w8 ⟨rfl, B8⟩))
  have cv1 := conv_n (k := 0) (show Hid (Sln w8 none 0 []) from nil_sln w8)
  have FIN : Hid (Below w.heap.size w w8) := by
    have b7 := B6.out.trans (B7.out.mono B6.out.size)
    exact b7.trans (B8.out.mono b7.size)
  go_wp2
  go_ret
  exact ⟨rfl, FIN.out⟩
set_option maxRecDepth 20000 in
set_option maxHeartbeats 2000000 in
theorem hexes_odd (w : World) {a : Option Addr} {n c : Nat} {l : List Nat} (S : Hid (Sln w a n l)) (z0 : Hid (a = none → c = 0)) (hn : n ≤ 1048576) (s : ByteArray) (hs : s.size ≤ 1048576) (m : Nat) (hm : Hid (s.size = 2 * m + 1)) (hF : Hid (¬ (s.size % 2 = 0 ∧ ∀ t, t < s.size → dig (sb s t) ≠ none))) (hKs : Hid (Kst w)) (h0 : Hid (0 < w.heap.size)) :
    Calls Tryd.prog 5 #[.slice a n c, .string s] w fun e w' => e = .returned (.bool true) ∧ Hid (Below w.heap.size w w') := by
  have nl : n = l.length := S.out.len
  have HNL : Hid (n = l.length) := nl
  clear nl
  go_enter Tryd.func5, Tryd.ntmps5
  go_upto_region 8 with (first
    | (go_at_call 8; refine (alive_n _ hKs h0).mono ?_; rintro e w1 ⟨rfl, B1⟩; have S1 : Hid (Sln w1 a n l) := S.out.below B1.out)
    | (go_at_call 9; refine (bytes_n S1 z0).mono ?_; rintro e w2 ⟨gi, N, rfl, H2⟩; have HN : Hid (N = n + 6) := H2.out.1; have S2 : Hid (Sln w2 a n l) := S1.out.below H2.out.2.2.2; have SI : Hid (Sln w2 (some ⟨gi, 0, none⟩) n l) := blk_begin H2.out.2.2.1 HNL.out S.out.lt (by rw [← HNL.out]; omega))
    | (go_at_call 17; refine (hex_n SI (by omega)).mono ?_; rintro e w3 ⟨t, rfl, H3⟩; have S3 : Hid (Sln w3 a n l) := S2.out.below H3.out.2; have T1 : Hid (t.size = 2 * n) := (show t.size = 2 * n from (by rw [H3.out.1, spell_size, hexL_length, ← HNL.out])); have T2 : Hid (∀ j, j < 2 * n → ∃ x, dig (sb t j) = some x) := (by rw [H3.out.1, HNL.out]; exact hex_digits S.out.lt); have T3 : Hid (unL t n = l) := (by rw [H3.out.1, HNL.out]; exact unL_hex S.out.lt))
    | (go_at_call 18; refine (unhex_t t n _ T1 (by omega) T2).mono ?_; rintro e w4 ⟨g4, rfl, H4⟩; have S4 : Hid (Sln w4 a n l) := S3.out.below H4.out.2.2; have Q4 : Hid (Sln w4 (some ⟨g4, 0, none⟩) n l) := (by have hb := H4.out.2.1; rw [T3.out] at hb; exact ⟨HNL.out, hb.sli S.out.lt (by rw [← HNL.out]; omega)⟩))
    | (go_at_call 19; refine (refhex_n S4 (by omega)).mono ?_; rintro e w5 ⟨t5, rfl, H5⟩; have e5 : t5 = t := (by rw [H5.out.1, H3.out.1]); subst e5; have S5 : Hid (Sln w5 a n l) := S4.out.below H5.out.2; have Q5 : Hid (Sln w5 (some ⟨g4, 0, none⟩) n l) := Q4.out.below H5.out.2; have cv1 := conv_n (k := n) Q5; have cv2 := conv_n (k := c) S5; have K5 : Hid (Blk w5 gi (l ++ marks)) := ((H2.out.2.2.1.below H3.out.2 H2.out.2.2.1.lt).below H4.out.2.2 (Nat.lt_of_lt_of_le H2.out.2.2.1.lt H3.out.2.size)).below H5.out.2 (Nat.lt_of_lt_of_le H2.out.2.2.1.lt (Nat.le_trans H3.out.2.size H4.out.2.2.size)))
    | (go_at_call 12; refine (kept_n K5 HN S5).mono ?_; rintro e w6 ⟨rfl, hQ6⟩))
  have B6 : Hid (Below w.heap.size w w6) := by
    have b2 := B1.out.trans (H2.out.2.2.2.mono B1.out.size)
    have b3 := b2.trans (H3.out.2.mono b2.size)
    have b4 := b3.trans (H4.out.2.2.mono b3.size)
    have b5 := b4.trans (H5.out.2.mono b4.size)
    obtain ⟨q, rfl⟩ := hQ6.out
    exact below_drewN b5 q
  clear cv1 cv2 hQ6 K5 S5 Q5 H5 Q4 S4 H4 T1 T2 T3 S3 H3 SI S2 HN H2 S1 B1
  have hm2 : m ≤ 1048576 := by have := hm.out; omega
  have OD : Hid (∀ w, Calls Tryd.prog 18 #[.string s] w fun e w' => e = .returned (.tuple #[.slice none 0 0, .bool false]) ∧ Hid (Below w.heap.size w w')) := fun w => (unhex_odd s m w hm (by omega)).mono (by rintro e w2 ⟨rfl, rfl⟩; exact ⟨rfl, Below.refl _ _⟩)
  go_upto_region 10 with (first
    | (go_at_call 18; refine (OD.out _).mono ?_; rintro e w7 ⟨rfl, B7⟩)
    | (go_at_call 20; refine (refunhex_f s _ hF (by omega)).mono ?_; rintro e w8 ⟨rfl, B8⟩))
  have cv1 := conv_n (k := 0) (show Hid (Sln w8 none 0 []) from nil_sln w8)
  have FIN : Hid (Below w.heap.size w w8) := by
    have b7 := B6.out.trans (B7.out.mono B6.out.size)
    exact b7.trans (B8.out.mono b7.size)
  go_wp2
  go_ret
  exact ⟨rfl, FIN.out⟩
end Go.Proofs.YtljlibhhefceaaaDoor
