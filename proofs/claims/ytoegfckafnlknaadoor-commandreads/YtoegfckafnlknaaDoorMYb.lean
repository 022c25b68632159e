import Derived.Test.YtoegfckafnlknaaDoorMWa
import Derived.Test.YtoegfckafnlknaaDoorMXa
import Derived.Test.YtoegfckafnlknaaDoorMOr
import Derived.Test.YtoegfckafnlknaaDoorMWb
/- Yb -/
/- The document's own Num and Bytes. -/
namespace Go.Proofs.YtoegfckafnlknaaDoor
set_option maxRecDepth 20000
open Go.ChangeShapes Go.WideShapes Go.ChangeAt Go.RowKit
set_option linter.unusedVariables false
set_option linter.unusedSimpArgs false
set_option maxHeartbeats 1000000 in
theorem refnum_n {w : World} {N : Nat} (hN : N < 9223372036854775808) :
    Calls Tryd.prog 49 #[.int .i64 (N : Int)] w fun e w' => ∃ a' n' c', e = .returned (.slice a' n' c') ∧ Hid (Own w' w.heap.size a' n' c' (enc N) ∧ Below w.heap.size w w') := by
  have TL : Hid ((enc N).length ≤ 140737488352256) := by have := enc_nine hN; show _ ≤ _; omega
  have A0 : Hid (Own (w.alloc (.cells #[] 5)) w.heap.size (some ⟨w.heap.size, 0, none⟩) 0 0 [] ∧ Below w.heap.size w (w.alloc (.cells #[] 5)) ∧ [] ++ enc N = enc N) := ⟨own_empty w, (Below.refl _ _).alloc (Nat.le_refl _) _, rfl⟩
  obtain ⟨T, HT⟩ : ∃ T, Hid (enc N = T) := ⟨_, rfl⟩
  rw [HT.out] at TL A0 ⊢
  rw [← HT.out] at A0
  have A1 : Hid (Own (w.alloc (.cells #[] 5)) w.heap.size (some ⟨w.heap.size, 0, none⟩) 0 0 [] ∧ Below w.heap.size w (w.alloc (.cells #[] 5)) ∧ [] ++ enc N = T) := by rw [← HT.out]; exact A0.out
  clear A0 HT
  go_enter Tryd.func49, Tryd.ntmps49
  go_wp2
  go_loopw [0, 3] (fun tn tv wr => ∃ (a1 : Option Addr) (n1 c1 m : Nat) (P : List Nat), tv = .slice a1 n1 c1 ∧ tn = .int .i64 m ∧ m < 9223372036854775808 ∧ Hid (Own wr w.heap.size a1 n1 c1 P ∧ Below w.heap.size w wr ∧ P ++ enc m = T)) (fun tn _ _ => (intOf tn).toNat)
  case atStart => exact ⟨_, 0, 0, N, [], rfl, rfl, hN, A1.out⟩
  case round =>
    clear A1
    obtain ⟨a1, n1, c1, m, P, rfl, rfl, hm, H1⟩ := hrel
    have hn1 : n1 + 1 ≤ 140737488352256 := by
      have h1 := H1.out.1.len
      have h2 := congrArg List.length H1.out.2.2
      have h3 := TL.out
      have h4 := enc_pos m
      rw [List.length_append] at h2
      omega
    obtain ⟨y, Hy⟩ : ∃ y, Hid (m % 128 = y) := ⟨_, rfl⟩
    have hy : y < 128 := by rw [← Hy.out]; omega
    obtain ⟨q, Hq⟩ : ∃ q, Hid (m / 128 = q) := ⟨_, rfl⟩
    have hq : q < 9223372036854775808 := by rw [← Hq.out]; omega
    have e1 : Int.tmod (m : Int) 128 = (y : Int) := by rw [Int.tmod_eq_emod_of_nonneg (by omega)]; have := Hy.out; omega
    have e1' : (m : Int) % 128 = (y : Int) := by have := Hy.out; omega
    have e2 : Int.tdiv (m : Int) 128 = (q : Int) := by rw [Int.tdiv_eq_ediv_of_nonneg (by omega)]; have := Hq.out; omega
    have e2' : (m : Int) / 128 = (q : Int) := by have := Hq.out; omega
    have HB : Hid (w.heap.size ≤ wr.heap.size) := H1.out.2.1.size
    by_cases hlt : m < 128
    · obtain ⟨a2, c2, w2, hrun, h2, h3, h4⟩ := app_byte H1.out.1 (x := y) (by omega) hn1 HB.out
      have AP : Hid ((Builtin.append_ #[35, 35] 35 #[.slice a1 n1 c1, .slice (some ⟨wr.heap.size, 0, none⟩) 1 1]).run Tryd.prog (wr.alloc (.cells #[.int .u8 (y : Int)] 5)) = .ok (.slice a2 (n1 + 1) c2) w2) := hrun
      have F : Hid (Own w2 w.heap.size a2 (n1 + 1) c2 T ∧ Below w.heap.size w w2) := by
        have e := H1.out.2.2
        rw [enc_lt hlt, show m = y by have := Hy.out; omega] at e
        rw [← e]
        exact ⟨h2, H1.out.2.1.grown h3 HB.out (fun j hj => (H1.out.1.ge j hj).1)⟩
      have q0 : q = 0 := by rw [← Hq.out]; omega
      subst q0
      clear hrun h2 h3 h4 H1 Hy Hq hlt
      go_wp2_with (at_builtin; refine wpList_app (by rfl) (.tmp 13) (.tmp 15) (by rfl) (by rfl) (by rfl) (by rfl) AP ?_)
      go_ret
      exact ⟨a2, n1 + 1, c2, rfl, F.out⟩
    · obtain ⟨x, Hx⟩ : ∃ x, Hid (x = y + 128) := ⟨_, rfl⟩
      have hx : x < 256 := by rw [Hx.out]; omega
      have e3 : (y : Int) + 128 = (x : Int) := by have := Hx.out; omega
      have q0 : ¬ ((q : Int) = 0) := by have := Hq.out; omega
      obtain ⟨a2, c2, w2, hrun, h2, h3, h4⟩ := app_byte H1.out.1 (x := x) hx hn1 HB.out
      have AP : Hid ((Builtin.append_ #[35, 35] 35 #[.slice a1 n1 c1, .slice (some ⟨wr.heap.size, 0, none⟩) 1 1]).run Tryd.prog (wr.alloc (.cells #[.int .u8 (x : Int)] 5)) = .ok (.slice a2 (n1 + 1) c2) w2) := hrun
      have F : Hid (Own w2 w.heap.size a2 (n1 + 1) c2 (P ++ [x]) ∧ Below w.heap.size w w2 ∧ P ++ [x] ++ enc q = T) := by
        refine ⟨h2, H1.out.2.1.grown h3 HB.out (fun j hj => (H1.out.1.ge j hj).1), ?_⟩
        have e := H1.out.2.2
        rw [enc_ge (by omega), Hy.out, Hq.out] at e
        rw [← e, Hx.out]
        simp
      have HQ : Hid (q < m) := by show _ < _; have := Hq.out; omega
      clear hrun h2 h3 h4 H1 Hy Hq Hx hlt
      go_wp2_with (at_builtin; refine wpList_app (by rfl) (.tmp 17) (.tmp 20) (by rfl) (by rfl) (by rfl) (by rfl) AP ?_)
      go_roundw
      case rel => exact ⟨a2, n1 + 1, c2, q, P ++ [x], rfl, rfl, hq, F.out⟩
      case measure => have := HQ.out; simp [intOf]; omega
end Go.Proofs.YtoegfckafnlknaaDoor

/- Yc -/
/- The document's own Bytes and Read. -/
namespace Go.Proofs.YtoegfckafnlknaaDoor
open Go.ChangeShapes Go.WideShapes Go.ChangeAt Go.RowKit
set_option linter.unusedVariables false
set_option linter.unusedSimpArgs false
theorem valL_bound {A : List Nat} (h : A.length ≤ 8) : valL A < 72057594037927936 := by
  have h1 := valL_lt A
  have h2 : 128 ^ A.length ≤ 128 ^ 8 := Nat.pow_le_pow_right (by omega) h
  omega
theorem valL_bound9 {A : List Nat} (h : A.length ≤ 9) : valL A < 9223372036854775808 := by
  have h1 := valL_lt A
  have h2 : 128 ^ A.length ≤ 128 ^ 9 := Nat.pow_le_pow_right (by omega) h
  omega
theorem drop_at {A : List Nat} {r : Nat} (h : r < A.length) : A.drop r = A.getD r 0 :: A.drop (r + 1) := by
  rw [List.drop_eq_getElem_cons h]
  simp [List.getD, h]
theorem getD_drop' (l : List Nat) (p i : Nat) : (l.drop p).getD i 0 = l.getD (p + i) 0 := by simp [List.getD]
theorem getD_take' {l : List Nat} {m i : Nat} (h : i < m) : (l.take m).getD i 0 = l.getD i 0 := by simp [List.getD, List.getElem?_take_of_lt h]
set_option maxRecDepth 20000 in
set_option maxHeartbeats 4000000 in
theorem refread_n {w : World} {a : Option Addr} {n c : Nat} {l : List Nat} {p N S : Nat} {ok : Bool} (hS : Hid (Sln w a n l)) (hnc : n ≤ c) (hp : p ≤ n) (hR : Hid (nat 9 (l.drop p) 0 0 = (N, S, ok))) :
    Calls Tryd.prog 78 #[.slice a n c, .int .i64 (p : Int)] w fun e w' => e = .returned (.tuple #[.int .i64 ((if ok then N else 0 : Nat) : Int), .int .i64 ((if ok then p + S else 0 : Nat) : Int), .bool ok]) ∧ Hid (Below w.heap.size w w') := by
  have m := hS.out.sli.2.1
  have hlen := hS.out.len
  rw [← hlen] at m
  have hE : Hid (n = l.length) := hlen
  clear hlen
  obtain ⟨l', Hl⟩ : ∃ l', Hid (l.drop p = l') := ⟨_, rfl⟩
  have hLn : Hid (l'.length = n - p) := by rw [← Hl.out, List.length_drop, ← hE.out]; exact rfl
  have hLb : Hid (∀ x ∈ l', x < 256) := by rw [← Hl.out]; exact fun x hx => hS.out.lt x (List.mem_of_mem_drop hx)
  rw [Hl.out] at hR
  have Z0 : Hid (∀ i, i < 0 → 128 ≤ l'.getD i 0) := fun i hi => by omega
  go_enter Tryd.func78, Tryd.ntmps78
  go_wp2
  go_loop [7] (fun ti => ∃ k t : Nat, ti = .int .i64 (t : Int) ∧ k ≤ 9 ∧ t ≤ n ∧ Hid (t = p + k) ∧ Hid (∀ i, i < k → 128 ≤ l'.getD i 0)) (fun ti => n - (intOf ti).toNat)
  case atStart => exact ⟨0, p, rfl, by omega, by omega, rfl, Z0.out⟩
  case round =>
    clear Z0
    obtain ⟨k, t, rfl, hk9, htn, Ht, HM⟩ := hrel
    by_cases hlt : t < n ∧ k < 9
    · have hlt1 := hlt.1
      have hlt2 := hlt.2
      have it1 : (t : Int) < (n : Int) := by omega
      have it2 : (t : Int) < (p : Int) + 9 := by have := Ht.out; omega
      obtain ⟨b, off, rfl, c1⟩ := row_at hS.out hlt1
      have hkl : k < l'.length := by rw [hLn.out]; have := Ht.out; omega
      have hx0 : l.getD t 0 = l'.getD k 0 := by rw [← Hl.out, getD_drop', Ht.out]
      obtain ⟨x, Hx⟩ : ∃ x, Hid (l'.getD k 0 = x) := ⟨_, rfl⟩
      rw [hx0, Hx.out] at c1
      have hx : x < 256 := by rw [← Hx.out]; exact getD_lt hLb.out k
      have HL : Hid (t < n ∧ k < 9) := hlt
      clear hx0 hlt
      by_cases hx1 : x < 128
      · have NF := nat_fin hlt2 hkl HM.out (by rw [Hx.out]; exact hx1)
        have ER := enc_read hLb.out hkl HM.out (by rw [Hx.out]; exact hx1)
        rw [hR.out] at NF
        simp only [Prod.mk.injEq] at NF
        obtain ⟨Pc, HPc⟩ : ∃ Pc, Hid (l'.take (k + 1) = Pc) := ⟨_, rfl⟩
        rw [HPc.out] at NF ER
        rw [← NF.2.2] at ER
        have PL : Hid (Pc.length = k + 1) := by rw [← HPc.out, List.length_take, Nat.min_eq_left (by omega)]; exact rfl
        have PG : Hid (∀ s, s < k + 1 → Pc.getD s 0 = l.getD (p + s) 0) := fun s hs => by rw [← HPc.out, getD_take' hs, ← Hl.out, getD_drop']
        have PB : Hid (∀ y ∈ Pc, y < 256) := by rw [← HPc.out]; exact fun y hy => hLb.out y (List.mem_of_mem_take hy)
        have RES : Hid (N = valL Pc ∧ S = k + 1) := ⟨NF.1, NF.2.1⟩
        have EQB : Hid (decide (enc (valL Pc) = Pc) = ok) := ER
        obtain ⟨u, Hu⟩ : ∃ u, Hid (u = t + 1) := ⟨_, rfl⟩
        have eu : (t : Int) + 1 = (u : Int) := by have := Hu.out; omega
        have hu : u ≤ n := by rw [Hu.out]; omega
        have huc : u ≤ c := by omega
        have wu : IntKind.i64.wrap (u : Int) = (u : Int) := by rw [IntKind.wrap_i64]; omega
        have hpu : p ≤ u := by rw [Hu.out, Ht.out]; omega
        have SP : Hid (Sln w (some ⟨b, off + p, none⟩) (k + 1) Pc) := by
          have h1 := slice_from hS.out hp hnc
          have h0 := HL.out
          have h9 := Ht.out
          rw [if_neg (by omega)] at h1
          have h2 := h1.take (k := k + 1) (by omega)
          rw [Hl.out, HPc.out, show Option.map (fun x : Addr => x.add p) (some ⟨b, off, none⟩) = some ⟨b, off + p, none⟩ by simp [Addr.add]] at h2
          exact h2
        have cp : ¬ (c = p) := by have h0 := HL.out; have h9 := Ht.out; omega
        have ukp : Hid (u - p = k + 1) := by rw [Hu.out, Ht.out]; show _ = _; omega
        have ix : ¬ ((128 : Int) ≤ (x : Int)) := by omega
        have V0 : Hid (valL (Pc.drop (k + 1)) = 0) := by rw [← PL.out, List.drop_length]; rfl
        clear NF ER hkl hx1 HM HPc Hx
        go_upto_region 6 with (fail)
        clear c1 ix
        go_wp2
        go_loop [8, 9] (fun tn tj => ∃ (r v : Nat) (z : Int), r ≤ k + 1 ∧ tn = .int .i64 (v : Int) ∧ tj = .int .i64 z ∧ Hid (z = (p : Int) + r - 1) ∧ Hid (valL (Pc.drop r) = v)) (fun _ tj => ((intOf tj) + 1 - (p : Int)).toNat)
        case atStart => exact ⟨k + 1, 0, (t : Int), by omega, rfl, rfl, by show _ = _; have := Ht.out; omega, V0.out⟩
        case round =>
          clear V0
          obtain ⟨r, v, z, hr, rfl, rfl, Hz, HV⟩ := hrel
          by_cases hr0 : 0 < r
          · obtain ⟨s, rfl⟩ : ∃ s, r = s + 1 := ⟨r - 1, by omega⟩
            obtain ⟨q, Hq⟩ : ∃ q : Nat, Hid (q = p + s) := ⟨_, rfl⟩
            have ez : z = (q : Int) := by have h1 := Hz.out; have h2 := Hq.out; omega
            subst ez
            have hq : q < n := by have h1 := Hq.out; have h2 := HL.out; have h3 := Ht.out; omega
            have c2 := (row_at hS.out hq)
            obtain ⟨b', off', hab, c2⟩ := c2
            simp only [Option.some.injEq, Addr.mk.injEq, and_true] at hab
            obtain ⟨rfl, rfl⟩ := hab
            rw [Hq.out, ← PG.out s (by omega), ← Hq.out] at c2
            obtain ⟨x2, Hx2⟩ : ∃ x, Hid (Pc.getD s 0 = x) := ⟨_, rfl⟩
            have hx2 : x2 < 256 := by rw [← Hx2.out]; exact getD_lt PB.out s
            rw [Hx2.out] at c2
            obtain ⟨y, Hy⟩ : ∃ y, Hid (x2 % 128 = y) := ⟨_, rfl⟩
            have hy : y < 128 := by rw [← Hy.out]; omega
            have e1 : Int.tmod (x2 : Int) 128 = (y : Int) := by rw [Int.tmod_eq_emod_of_nonneg (by omega)]; have := Hy.out; omega
            have e1' : (x2 : Int) % 128 = (y : Int) := by have := Hy.out; omega
            have hv : v < 72057594037927936 := by rw [← HV.out]; exact valL_bound (by rw [List.length_drop, PL.out]; omega)
            obtain ⟨v2, Hv2⟩ : ∃ v2, Hid (v * 128 + y = v2) := ⟨_, rfl⟩
            have e2 : (v : Int) * 128 + (y : Int) = (v2 : Int) := by have := Hv2.out; omega
            have hv2 : v2 < 9223372036854775808 := by rw [← Hv2.out]; omega
            have HV2 : Hid (valL (Pc.drop s) = v2) := by
              rw [drop_at (by rw [PL.out]; omega), valL, HV.out, Hx2.out, Hy.out, ← Hv2.out]
              show _ = _
              omega
            have iq : (p : Int) ≤ (q : Int) := by have := Hq.out; omega
            clear Hx2 Hy Hv2 HV Hz
            go_wp2
            go_round
            case rel => exact ⟨s, v2, (q : Int) - 1, by omega, rfl, by go_num, by show _ = _; have := Hq.out; omega, HV2.out⟩
            case measure => have := Hq.out; simp [intOf]; omega
          · have r0 : r = 0 := by omega
            subst r0
            have iz : ¬ ((p : Int) ≤ z) := by have h1 := Hz.out; omega
            rw [List.drop_zero] at HV
            obtain ⟨V, HV3⟩ : ∃ V, Hid (v = V) := ⟨_, rfl⟩
            have hvV : v = V := HV3.out
            subst hvV
            have hV : v < 9223372036854775808 := by rw [← HV.out]; exact valL_bound9 (by rw [PL.out]; omega)
            clear HV3 hr0
            go_upto_region 10 with (fail)
            obtain ⟨W, HW⟩ : ∃ W, Hid (w.drew = W) := ⟨_, rfl⟩
            have BW : Hid (Below w.heap.size w W) := by rw [← HW.out]; exact below_drewN (Below.refl _ _) 1
            have CB := conv_n (k := c - p) (show Hid (Sln W (some ⟨b, off + p, none⟩) (k + 1) Pc) from SP.out.below BW.out)
            have HVP : Hid (enc v = enc (valL Pc)) := by rw [HV.out]; exact rfl
            have ok1 := EQB.out
            rw [← HVP.out] at ok1
            have uk : u - p = k + 1 := ukp.out
            have BE : ((spell (enc v)).toList == (spell Pc).toList) = ok := by rw [spell_beq (enc_bytes v) PB.out]; exact ok1
            have FZ : Hid (∀ W1, Below w.heap.size w W1 → Below w.heap.size w W1) := fun _ h => h
            clear ok1 hR
            cases ok with
            | true =>
              have RN : Hid (((N : Nat) : Int) = (v : Int) ∧ ((p + S : Nat) : Int) = (u : Int)) := by
                have h1 := RES.out.1
                have h2 := RES.out.2
                have h3 := HV.out
                have h4 := Hu.out
                have h5 := Ht.out
                exact ⟨by omega, by omega⟩
              refine wp_region_till (S := cv1 9 (.slice (some ⟨b, off + p, none⟩) (k + 1) (c - p)) (spell Pc)) (by kernel_rfl) ?_ (fun hS => ?_)
              · rw [HW.out]; exact .inr CB
              rw [HW.out] at hS ⊢
              clear HW
              refine till_take (i := 0) (v := .int .i64 (v : Int)) rfl (by kernel_rfl) (by kernel_rfl) (by kernel_rfl) (fun _ _ _ h => h) (fun L w => cv1_set (by decide)) (Or.inl ⟨by rfl, fun w => by go_simp⟩) hS (fun hSb => ?_)
              simp only [List.getElem_toArray, List.getElem_cons_zero, List.getElem_cons_succ, Act.put, List.setIfInBounds_toArray, List.set_cons_zero, List.set_cons_succ]
              clear hS
              refine till_take (i := 3) (v := .slice (some ⟨b, off, none⟩) n c) rfl (by kernel_rfl) (by kernel_rfl) (by kernel_rfl) (fun _ _ _ h => h) (fun L w => cv1_set (by decide)) (Or.inl ⟨by rfl, fun w => by go_simp⟩) hSb (fun hS => ?_)
              simp only [List.getElem_toArray, List.getElem_cons_zero, List.getElem_cons_succ, Act.put, List.setIfInBounds_toArray, List.set_cons_zero, List.set_cons_succ]
              clear hSb
              refine till_take (i := 4) (v := .int .i64 (p : Int)) rfl (by kernel_rfl) (by kernel_rfl) (by kernel_rfl) (fun _ _ _ h => h) (fun L w => cv1_set (by decide)) (Or.inl ⟨by rfl, fun w => by go_simp⟩) hS (fun hSb => ?_)
              simp only [List.getElem_toArray, List.getElem_cons_zero, List.getElem_cons_succ, Act.put, List.setIfInBounds_toArray, List.set_cons_zero, List.set_cons_succ]
              clear hS
              refine till_take (i := 5) (v := .int .i64 (t : Int)) rfl (by kernel_rfl) (by kernel_rfl) (by kernel_rfl) (fun _ _ _ h => h) (fun L w => cv1_set (by decide)) (Or.inl ⟨by rfl, fun w => by go_simp⟩) hSb (fun hS => ?_)
              simp only [List.getElem_toArray, List.getElem_cons_zero, List.getElem_cons_succ, Act.put, List.setIfInBounds_toArray, List.set_cons_zero, List.set_cons_succ]
              clear hSb
              refine till_take (i := 6) (v := .int .i64 (u : Int)) rfl (by kernel_rfl) (by kernel_rfl) (by kernel_rfl) (fun _ _ _ h => h) (fun L w => cv1_set (by decide)) (Or.inl ⟨by rfl, fun w => by go_simp⟩) hS (fun hSb => ?_)
              simp only [List.getElem_toArray, List.getElem_cons_zero, List.getElem_cons_succ, Act.put, List.setIfInBounds_toArray, List.set_cons_zero, List.set_cons_succ]
              clear hS
              refine till_take (i := 7) (v := .slice (some ⟨b, off + p, none⟩) (k + 1) (c - p)) rfl (by kernel_rfl) (by kernel_rfl) (by kernel_rfl) (fun _ _ _ h => h) (fun L w => cv1_set (by decide)) (Or.inl ⟨by rfl, fun w => by go_simp⟩) hSb (fun hS => ?_)
              simp only [List.getElem_toArray, List.getElem_cons_zero, List.getElem_cons_succ, Act.put, List.setIfInBounds_toArray, List.set_cons_zero, List.set_cons_succ]
              clear hSb
              refine till_read (i := 8) (c := 9) (v := .string (spell Pc)) rfl rfl (by kernel_rfl) (by kernel_rfl) (by kernel_rfl) (by kernel_rfl) (by kernel_rfl) (fun _ _ _ h => h) (fun L w => cv1_set (by decide)) (fun L w h1 h2 => cv1_get h1 h2) (Or.inl ⟨by rfl, fun w hSw => by (try dsimp only at hSw); go_simp⟩) hS (fun hSb => ?_)
              simp only [List.getElem_toArray, List.getElem_cons_zero, List.getElem_cons_succ, Act.put, List.setIfInBounds_toArray, List.set_cons_zero, List.set_cons_succ]
              clear hS
              refine till_one (i := 1) (by kernel_rfl) rfl (fun K hK => ?_)
              simp only [List.getElem_toArray, List.getElem_cons_zero, List.getElem_cons_succ]
              rw [if_pos (by rfl)]
              go_simp
              go_wp2_with (go_at_call 49; refine (refnum_n hV).mono ?_; rintro e W1 ⟨a9, n9, c9, rfl, H9⟩)
              have B1 : Hid (Below w.heap.size w W1) := BW.out.trans (H9.out.2.mono BW.out.size)
              have CB := conv_n (k := c - p) (show Hid (Sln W1 (some ⟨b, off + p, none⟩) (k + 1) Pc) from SP.out.below B1.out)
              have CR := conv_n (k := c9) (show Hid (Sln W1 a9 n9 (enc v)) from H9.out.1.sln (by have h1 := H9.out.1.len; have h2 := enc_nine hV; omega))
              refine hK.out _ _ (.inr CB) (fun hS => ?_)
              clear hK K
              try simp only [List.getElem_toArray, List.getElem_cons_zero, List.getElem_cons_succ, Act.put, List.setIfInBounds_toArray, List.set_cons_zero, List.set_cons_succ]
              clear hSb
              refine till_one (i := 2) (by kernel_rfl) rfl (fun K hK => ?_)
              simp only [List.getElem_toArray, List.getElem_cons_zero, List.getElem_cons_succ]
              rw [if_pos (by rfl)]
              go_simp
              refine hK.out _ _ (.inr CB) (fun hSb => ?_)
              clear hK K
              try simp only [List.getElem_toArray, List.getElem_cons_zero, List.getElem_cons_succ, Act.put, List.setIfInBounds_toArray, List.set_cons_zero, List.set_cons_succ]
              clear hS
              refine till_one (i := 9) (by kernel_rfl) rfl (fun K hK => ?_)
              simp only [List.getElem_toArray, List.getElem_cons_zero, List.getElem_cons_succ]
              rw [if_pos (by rfl)]
              go_simp
              refine hK.out _ _ (.inl (by kernel_rfl)) (fun hS => ?_)
              clear hK K
              try simp only [List.getElem_toArray, List.getElem_cons_zero, List.getElem_cons_succ, Act.put, List.setIfInBounds_toArray, List.set_cons_zero, List.set_cons_succ]
              clear hSb
              refine till_done (by kernel_rfl) ?_ _
              clear hS
              clear uk CB CR BE
              go_wp2
              refine bodyPost_ret (results_tmp3 rfl _ _ _) rfl ?_
              refine ⟨?_, B1.out⟩
              show Ending.returned (.tuple #[.int .i64 (v : Int), .int .i64 (u : Int), .bool true]) = .returned (.tuple #[.int .i64 ((N : Nat) : Int), .int .i64 ((p + S : Nat) : Int), .bool true])
              rw [RN.out.1, RN.out.2]
            | false =>
              refine wp_region_till (S := cv1 9 (.slice (some ⟨b, off + p, none⟩) (k + 1) (c - p)) (spell Pc)) (by kernel_rfl) ?_ (fun hS => ?_)
              · rw [HW.out]; exact .inr CB
              rw [HW.out] at hS ⊢
              clear HW
              refine till_take (i := 0) (v := .int .i64 (v : Int)) rfl (by kernel_rfl) (by kernel_rfl) (by kernel_rfl) (fun _ _ _ h => h) (fun L w => cv1_set (by decide)) (Or.inl ⟨by rfl, fun w => by go_simp⟩) hS (fun hSb => ?_)
              simp only [List.getElem_toArray, List.getElem_cons_zero, List.getElem_cons_succ, Act.put, List.setIfInBounds_toArray, List.set_cons_zero, List.set_cons_succ]
              clear hS
              refine till_take (i := 3) (v := .slice (some ⟨b, off, none⟩) n c) rfl (by kernel_rfl) (by kernel_rfl) (by kernel_rfl) (fun _ _ _ h => h) (fun L w => cv1_set (by decide)) (Or.inl ⟨by rfl, fun w => by go_simp⟩) hSb (fun hS => ?_)
              simp only [List.getElem_toArray, List.getElem_cons_zero, List.getElem_cons_succ, Act.put, List.setIfInBounds_toArray, List.set_cons_zero, List.set_cons_succ]
              clear hSb
              refine till_take (i := 4) (v := .int .i64 (p : Int)) rfl (by kernel_rfl) (by kernel_rfl) (by kernel_rfl) (fun _ _ _ h => h) (fun L w => cv1_set (by decide)) (Or.inl ⟨by rfl, fun w => by go_simp⟩) hS (fun hSb => ?_)
              simp only [List.getElem_toArray, List.getElem_cons_zero, List.getElem_cons_succ, Act.put, List.setIfInBounds_toArray, List.set_cons_zero, List.set_cons_succ]
              clear hS
              refine till_take (i := 5) (v := .int .i64 (t : Int)) rfl (by kernel_rfl) (by kernel_rfl) (by kernel_rfl) (fun _ _ _ h => h) (fun L w => cv1_set (by decide)) (Or.inl ⟨by rfl, fun w => by go_simp⟩) hSb (fun hS => ?_)
              simp only [List.getElem_toArray, List.getElem_cons_zero, List.getElem_cons_succ, Act.put, List.setIfInBounds_toArray, List.set_cons_zero, List.set_cons_succ]
              clear hSb
              refine till_take (i := 6) (v := .int .i64 (u : Int)) rfl (by kernel_rfl) (by kernel_rfl) (by kernel_rfl) (fun _ _ _ h => h) (fun L w => cv1_set (by decide)) (Or.inl ⟨by rfl, fun w => by go_simp⟩) hS (fun hSb => ?_)
              simp only [List.getElem_toArray, List.getElem_cons_zero, List.getElem_cons_succ, Act.put, List.setIfInBounds_toArray, List.set_cons_zero, List.set_cons_succ]
              clear hS
              refine till_take (i := 7) (v := .slice (some ⟨b, off + p, none⟩) (k + 1) (c - p)) rfl (by kernel_rfl) (by kernel_rfl) (by kernel_rfl) (fun _ _ _ h => h) (fun L w => cv1_set (by decide)) (Or.inl ⟨by rfl, fun w => by go_simp⟩) hSb (fun hS => ?_)
              simp only [List.getElem_toArray, List.getElem_cons_zero, List.getElem_cons_succ, Act.put, List.setIfInBounds_toArray, List.set_cons_zero, List.set_cons_succ]
              clear hSb
              refine till_read (i := 8) (c := 9) (v := .string (spell Pc)) rfl rfl (by kernel_rfl) (by kernel_rfl) (by kernel_rfl) (by kernel_rfl) (by kernel_rfl) (fun _ _ _ h => h) (fun L w => cv1_set (by decide)) (fun L w h1 h2 => cv1_get h1 h2) (Or.inl ⟨by rfl, fun w hSw => by (try dsimp only at hSw); go_simp⟩) hS (fun hSb => ?_)
              simp only [List.getElem_toArray, List.getElem_cons_zero, List.getElem_cons_succ, Act.put, List.setIfInBounds_toArray, List.set_cons_zero, List.set_cons_succ]
              clear hS
              refine till_one (i := 1) (by kernel_rfl) rfl (fun K hK => ?_)
              simp only [List.getElem_toArray, List.getElem_cons_zero, List.getElem_cons_succ]
              rw [if_pos (by rfl)]
              go_simp
              go_wp2_with (go_at_call 49; refine (refnum_n hV).mono ?_; rintro e W1 ⟨a9, n9, c9, rfl, H9⟩)
              have B1 : Hid (Below w.heap.size w W1) := BW.out.trans (H9.out.2.mono BW.out.size)
              have CB := conv_n (k := c - p) (show Hid (Sln W1 (some ⟨b, off + p, none⟩) (k + 1) Pc) from SP.out.below B1.out)
              have CR := conv_n (k := c9) (show Hid (Sln W1 a9 n9 (enc v)) from H9.out.1.sln (by have h1 := H9.out.1.len; have h2 := enc_nine hV; omega))
              refine hK.out _ _ (.inr CB) (fun hS => ?_)
              clear hK K
              try simp only [List.getElem_toArray, List.getElem_cons_zero, List.getElem_cons_succ, Act.put, List.setIfInBounds_toArray, List.set_cons_zero, List.set_cons_succ]
              clear hSb
              refine till_one (i := 2) (by kernel_rfl) rfl (fun K hK => ?_)
              simp only [List.getElem_toArray, List.getElem_cons_zero, List.getElem_cons_succ]
              rw [if_pos (by rfl)]
              go_simp
              refine hK.out _ _ (.inr CB) (fun hSb => ?_)
              clear hK K
              try simp only [List.getElem_toArray, List.getElem_cons_zero, List.getElem_cons_succ, Act.put, List.setIfInBounds_toArray, List.set_cons_zero, List.set_cons_succ]
              clear hS
              refine till_one (i := 9) (by kernel_rfl) rfl (fun K hK => ?_)
              simp only [List.getElem_toArray, List.getElem_cons_zero, List.getElem_cons_succ]
              rw [if_pos (by rfl)]
              go_simp
              refine hK.out _ _ (.inl (by kernel_rfl)) (fun hS => ?_)
              clear hK K
              try simp only [List.getElem_toArray, List.getElem_cons_zero, List.getElem_cons_succ, Act.put, List.setIfInBounds_toArray, List.set_cons_zero, List.set_cons_succ]
              clear hSb
              refine till_done (by kernel_rfl) ?_ _
              clear hS
              clear uk CB CR BE
              go_wp2
              refine bodyPost_ret (results_tmp3 rfl _ _ _) rfl ?_
              exact ⟨rfl, B1.out⟩
      · have ix : (128 : Int) ≤ (x : Int) := by omega
        have HM2 : Hid (∀ i, i < k + 1 → 128 ≤ l'.getD i 0) := fun i hi => by
          by_cases h : i = k
          · subst h; rw [Hx.out]; omega
          · exact HM.out i (by omega)
        clear HM hx1 hkl
        go_wp2
        go_round
        case rel => exact ⟨k + 1, t + 1, by go_num, by omega, by omega, by show _ = _; have := Ht.out; omega, HM2.out⟩
        case measure => simp [intOf]; omega
    · have T := hR.out
      rw [nat_stop hk9 (by rw [hLn.out]; have := Ht.out; omega) HM.out (by rw [hLn.out]; have := Ht.out; omega)] at T
      simp only [Prod.mk.injEq] at T
      obtain ⟨rfl, rfl, rfl⟩ := T
      have BR : Hid (Below w.heap.size w w) := Below.refl _ _
      have it2 : (t : Int) < (n : Int) → ¬ ((t : Int) < (p : Int) + 9) := by have := Ht.out; omega
      clear HM hR
      by_cases h1 : (t : Int) < (n : Int)
      · have h2 := it2 h1
        clear it2 hlt
        go_wp2
        refine bodyPost_ret (results_tmp3 rfl _ _ _) rfl ?_
        exact ⟨rfl, BR.out⟩
      · clear it2 hlt
        go_wp2
        refine bodyPost_ret (results_tmp3 rfl _ _ _) rfl ?_
        exact ⟨rfl, BR.out⟩
end Go.Proofs.YtoegfckafnlknaaDoor
