/- The document's Parse: for all targets. -/
import Derived.Test.YtalagagnolhppaaDoorUn
import Derived.Test.YtalagagnolhppaaDoorUk
namespace Go.Proofs.YtalagagnolhppaaDoor
open Go.ChangeShapes Go.WideShapes Go.ChangeAt Go.RowKit
set_option maxRecDepth 20000
set_option linter.unusedVariables false
set_option linter.unusedSimpArgs false
structure Pq (w W : World) (g2 g8 : Nat) (p : ByteArray) (a : Option Addr) (n c : Nat) (fs : List Fl) : Prop where
  z : Bx w W g2 25 #[.string { data := #[] }, .slice none 0 0]
  b : Bx w W g8 25 #[.string p, .slice a n c]
  r : Rw W w.heap.size 39 EF a n c fs
  ne2 : g8 ≠ g2
section
variable {w W W' : World} {g2 g8 : Nat} {p : ByteArray} {a : Option Addr} {n c : Nat} {fs : List Fl}
theorem Pq.below (h : Pq w W g2 g8 p a n c fs) (hb : Below W.heap.size W W') : Pq w W' g2 g8 p a n c fs := ⟨h.z.below hb, h.b.below hb, h.r.below hb, h.ne2⟩
theorem Pq.cs (h : Pq w W g2 g8 p a n c fs) : W.cell? ⟨g8, 0, none⟩ = some (.string p) ∧ W.cell? ⟨g8, 1, none⟩ = some (.slice a n c) ∧ W.frozen? ⟨g8, 1, none⟩ = false := by
  refine ⟨?_, ?_, ?_⟩ <;> simp [World.cell?, World.frozen?, h.b.row]
theorem Pq.not (h : Pq w W g2 g8 p a n c fs) {g : Nat} {A : Array Value} {ty : TypeId} (hb : Bx w W g ty A) (ht : ty ≠ 39) : some g ≠ blkOf a := fun e => by
  obtain ⟨cur, h1, _⟩ := h.r.blk e.symm
  rw [hb.row] at h1
  simp only [Option.some.injEq, Obj.cells.injEq] at h1
  exact ht h1.2.1
theorem Pq.app (h : Pq w W g2 g8 p a n c fs) (f : Fl) (hn : n ≤ 4294967296) :
    ∃ a' c' W3, (Builtin.append_ #[23, 23] 23 #[.slice a n c, .slice (some ⟨W.heap.size, 0, none⟩) 1 1]).run Tryd.prog (W.alloc (.cells #[.string f.1, .string f.2] 39)) = .ok (.slice a' (n + 1) c') W3 ∧
      Pq w (W3.setCell ⟨g8, 1, none⟩ (.slice a' (n + 1) c')) g2 g8 p a' (n + 1) c' (fs ++ [f]) ∧ W3.cell? ⟨g8, 1, none⟩ = some (.slice a n c) ∧ W3.frozen? ⟨g8, 1, none⟩ = false := by
  have h2 := h.below (alloc1 W (.cells #[.string f.1, .string f.2] 39))
  have hp : (W.alloc (.cells #[.string f.1, .string f.2] 39)).heap[W.heap.size]? = some (.cells (EF.e f).toArray 39 (0, 0)) := heap_alloc_new W (.cells #[.string f.1, .string f.2] 39)
  obtain ⟨W2, hW2⟩ : ∃ W2, W.alloc (.cells #[.string f.1, .string f.2] 39) = W2 := ⟨_, rfl⟩
  rw [hW2] at h2 hp ⊢
  obtain ⟨a', c', W3, hrun, hown, hgr, hnew⟩ := app_one (t := 23) (e := 39) (z := 2) Tryd.underlying23 info39 rfl (by decide) h2.r.row hp rfl (EF.one f) (by omega) (by simp only [maxLen]; omega) h2.b.bel.size
  have hr : ∀ q, blkOf a = some q → w.heap.size ≤ q := fun q e => (h2.r.lt e).1
  have k8 := h2.b.grown hgr hr (h2.not h2.b (by decide))
  have k2 := h2.z.grown hgr hr (h2.not h2.z (by decide))
  have r3 : Rw W3 w.heap.size 39 EF a' (n + 1) c' (fs ++ [f]) := ⟨by rw [EF.fl_app, EF.fl_one]; exact hown, by decide⟩
  refine ⟨a', c', W3, hrun, ⟨k2.setC k8.ge h.ne2.symm _ _, ⟨?_, ?_, k8.ge⟩, ?_, h.ne2⟩, ?_, ?_⟩
  · rw [set_blk k8.row]
    rfl
  · exact k8.bel.trans ⟨rfl, rfl, rfl, by simp [World.setCell], fun q hq => Below.heap_setCell _ _ _ _ (show q ≠ g8 by have := k8.ge; omega)⟩
  · refine r3.keep1 (fun q e => Below.heap_setCell _ _ _ _ ?_)
    rintro rfl
    obtain ⟨cur, e1, _⟩ := r3.blk e
    rw [k8.row] at e1
    cases e1
  · simp [World.cell?, k8.row]
  · simp [World.frozen?, k8.row]
end
def REnd (w w' : World) : Option (ByteArray × List Fl) → Ending → Prop
  | none, e => e = .returned (.tuple #[.agg #[.string { data := #[] }, .slice none 0 0], .bool false])
  | some f, e => ∃ a n c, e = .returned (.tuple #[.agg #[.string f.1, .slice a n c], .bool true]) ∧ Rw w' w.heap.size 39 EF a n c f.2
theorem pfx_iff (t : ByteArray) : Lib.hasPrefix t.data.toList [47] = decide (0 < t.size ∧ sb t 0 = 47) := by
  have e := Lib.size_eq t
  unfold sb Lib.hasPrefix
  match h : t.data.toList with
  | [] => rw [h] at e; simp at e; simp [e, List.isPrefixOf]
  | x :: r =>
    rw [h] at e
    have h0 : 0 < t.size := by rw [e]; simp
    simp only [List.isPrefixOf, Bool.and_true, List.getD_cons_zero, h0, true_and]
    by_cases hx : x = 47
    · subst hx; rfl
    · rw [decide_eq_false (p := x.toNat = 47) (fun e => hx (UInt8.toNat_inj.1 e))]
      exact beq_eq_false_iff_ne.2 (fun e => hx e.symm)
set_option maxHeartbeats 8000000 in
theorem refparseU_n (t : ByteArray) (hs : t.size ≤ 4294967296) {w : World} : Calls Tryd.prog 10 #[.string t] w fun e w' => REnd w w' (prsU t) e ∧ Hid (Below w.heap.size w w') := by
  obtain ⟨g2, G2⟩ : ∃ q, Hid (w.heap.size = q) := ⟨_, rfl⟩
  obtain ⟨w0, H0⟩ : ∃ x, Hid (w.alloc (.cells #[.string { data := #[] }, .slice none 0 0] 25) = x) := ⟨_, rfl⟩
  have K0 : Hid (Bx w w0 g2 25 #[.string { data := #[] }, .slice none 0 0]) := by rw [← H0.out, ← G2.out]; exact Bx.new w w 25 _ (Below.refl _ _)
  obtain ⟨bp, HBP⟩ : ∃ q, Hid (Lib.hasPrefix t.data.toList [47] = q) := ⟨_, rfl⟩
  have BP : Hid (decide (0 < t.size ∧ sb t 0 = 47) = bp) := by rw [← pfx_iff]; exact HBP.out
  have C1 : Hid (∀ w, Calls Tryd.prog 25 #[.string t, .int .u8 63] w fun e w' => e = .returned (.tuple #[.string (ctA 63 t), .string (ctB 63 t)]) ∧ Hid (Below w.heap.size w w')) := fun w => refcut_n t 63 (by omega) w
  have za := ctA_size 63 t
  have zb := ctB_size 63 t
  have UE : Hid (prsU t = if bp then match dcS (ctA 63 t) with | none => none | some p => match prL (pcs (ctB 63 t)) with | none => none | some fs => some (p, fs) else none) := (by unfold prsU; rw [HBP.out]; rfl : prsU t = _)
  obtain ⟨pa, HPA⟩ : ∃ q, Hid (ctA 63 t = q) := ⟨_, rfl⟩
  obtain ⟨qu, HQU⟩ : ∃ q, Hid (ctB 63 t = q) := ⟨_, rfl⟩
  rw [HPA.out] at C1 za UE
  rw [HQU.out] at C1 zb UE
  obtain ⟨p, po, PE, PO⟩ := dec_any (dcS pa)
  go_enter Tryd.func10, Tryd.ntmps10
  go_upto_region 3 with (first
    | (go_at_call 25; rw [H0.out]; refine (C1.out _).mono ?_; rintro e w1 ⟨rfl, B1⟩)
    | (go_at_call 19; refine (refdecode_n pa (by omega) _).mono ?_; rintro e w2 ⟨h2, B2⟩; obtain rfl := PE.out e h2; clear h2))
  rw [show w.heap.size = g2 from G2.out]
  have K2 : Hid (Bx w w2 g2 25 #[.string { data := #[] }, .slice none 0 0]) := (K0.out.below B1.out).below B2.out
  clear C1 H0
  cases po with
  | false =>
    have EV : Hid (prsU t = none) := by
      rcases PO.out with ⟨h, _⟩ | ⟨_, h, _⟩
      · cases h
      · exact (by rw [UE.out, h]; cases bp <;> rfl : prsU t = none)
    obtain ⟨w9, H9⟩ : ∃ w9, Hid (w2.setRow g2 #[.string { data := #[] }, .slice none 0 0] = w9) := ⟨_, rfl⟩
    have K9 : Hid (Bx w w9 g2 25 #[.string { data := #[] }, .slice none 0 0]) := by rw [← H9.out]; exact K2.out.set _
    go_wp2_with (refine wpList_store_row (by rfl) 25 (.tmp 2) (.tmp 39) (by rfl) g2 #[.string { data := #[] }, .slice none 0 0] (by rfl) (by rfl) 25 _ K2.out.row (sz25 _ _) (by rfl) (one25 _ _ _ _) ?_; refine (show _ = w9 from H9.out) ▸ ?_)
    try simp only [Exit.inBlock, Exit.then]
    refine bodyPost_ret (res_row2 (by rfl) (by rfl) K9.out.row und25 (sz25 _ _)) rfl ?_
    rw [EV.out]
    exact ⟨rfl, K9.out.bel⟩
  | true =>
    have HD : Hid (dcS pa = some p) := by
      rcases PO.out with ⟨_, h⟩ | ⟨h, _⟩
      · exact h
      · cases h
    by_cases t0 : t.size = 0
    · have EV : Hid (prsU t = none) := by
        have e : bp = false := by rw [← BP.out]; exact decide_eq_false (by omega)
        exact (by rw [UE.out, e]; rfl : prsU t = none)
      have i0 : ((t.size : Int) == 0) = true := beq_iff_eq.2 (by omega)
      clear t0
      obtain ⟨w9, H9⟩ : ∃ w9, Hid (w2.setRow g2 #[.string { data := #[] }, .slice none 0 0] = w9) := ⟨_, rfl⟩
      have K9 : Hid (Bx w w9 g2 25 #[.string { data := #[] }, .slice none 0 0]) := by rw [← H9.out]; exact K2.out.set _
      go_wp2_with (refine wpList_store_row (by rfl) 25 (.tmp 2) (.tmp 39) (by rfl) g2 #[.string { data := #[] }, .slice none 0 0] (by rfl) (by rfl) 25 _ K2.out.row (sz25 _ _) (by rfl) (one25 _ _ _ _) ?_; refine (show _ = w9 from H9.out) ▸ ?_)
      try simp only [Exit.inBlock, Exit.then]
      refine bodyPost_ret (res_row2 (by rfl) (by rfl) K9.out.row und25 (sz25 _ _)) rfl ?_
      rw [EV.out]
      exact ⟨rfl, K9.out.bel⟩
    · have i0 : ((t.size : Int) == 0) = false := beq_eq_false_iff_ne.2 (by omega)
      have X0 := fun W => sb_ix t 0 0 rfl (by omega) W
      have BQ : Hid (bp = decide (sb t 0 = 47)) := (by
        rw [← BP.out]
        congr 1
        exact propext ⟨fun h => h.2, fun h => ⟨by omega, h⟩⟩ : bp = decide (sb t 0 = 47))
      obtain ⟨b, Hb⟩ : ∃ q, Hid (sb t 0 = q) := ⟨_, rfl⟩
      rw [Hb.out] at X0 BQ
      by_cases b47 : b = 47
      · have UV : Hid (prsU t = match prL (pcs qu) with | none => none | some fs => some (p, fs)) := (by rw [UE.out, BQ.out, decide_eq_true b47, HD.out]; rfl : prsU t = _)
        subst b47
        clear t0
        go_upto_region 6 with (fail)
        obtain ⟨g8, G8⟩ : ∃ q, Hid (w2.heap.size = q) := ⟨_, rfl⟩
        obtain ⟨w4, H4⟩ : ∃ x, Hid (w2.alloc (.cells #[.string p, .slice none 0 0] 25) = x) := ⟨_, rfl⟩
        rw [H4.out, G8.out]
        have Q4 : Hid (Pq w w4 g2 g8 p none 0 0 []) := by
          rw [← H4.out, ← G8.out]
          refine ⟨K2.out.below (alloc1 _ _), Bx.new w w2 25 _ K2.out.bel, Rw.nil _ _ _ _ (by decide), ?_⟩
          have := K2.out.lt
          omega
        have QL : Hid ((pcs qu).length ≤ 4294967296) := Nat.le_trans (pcs_len qu) (by omega)
        clear H4 X0 UE BQ BP HBP HD PE PO
        go_wp2
        go_loopw [5] (fun tq wr => ∃ (q : ByteArray) (pre : List ByteArray) (a : Option Addr) (n c : Nat) (fs : List Fl), tq = .string q ∧ q.size ≤ qu.size ∧ Hid (pcs qu = pre ++ pcs q) ∧ Hid (prL pre = some fs) ∧ Hid (n = pre.length) ∧ Hid (Pq w wr g2 g8 p a n c fs)) (fun tq _ => strY tq)
        case atStart => exact ⟨qu, [], none, 0, 0, [], rfl, Nat.le_refl _, rfl, rfl, rfl, Q4.out⟩
        case round =>
          clear Q4
          obtain ⟨q, pre, a, n, c, fs, rfl, hz, HP, HL, HN, HQ⟩ := hrel
          by_cases r0 : q.size = 0
          · have q0 := no_str r0
            have EV : Hid (prsU t = some (p, fs)) := by
              have e : pcs qu = pre := by rw [HP.out, pcs_nil r0, List.append_nil]
              exact (by rw [UV.out, e, HL.out] : prsU t = some (p, fs))
            obtain ⟨k0, k1, k2⟩ := HQ.out.cs
            obtain ⟨w9, H9⟩ : ∃ w9, Hid (wr.setRow g2 #[.string p, .slice a n c] = w9) := ⟨_, rfl⟩
            have K9 : Hid (Bx w w9 g2 25 #[.string p, .slice a n c]) := by rw [← H9.out]; exact HQ.out.z.set _
            have R9 : Hid (Rw w9 w.heap.size 39 EF a n c fs) := by
              rw [← H9.out]
              refine HQ.out.r.keep1 (fun z e => setRow_other _ _ _ _ ?_)
              rintro rfl
              exact HQ.out.not HQ.out.z (by decide) e.symm
            clear r0 hz
            go_wp2_with (refine wpList_store_row (by rfl) 25 (.tmp 2) (.tmp 82) (by rfl) g2 #[.string p, .slice a n c] (by rfl) (by rfl) 25 _ HQ.out.z.row (sz25 _ _) (by rfl) (one25 _ _ _ _) ?_; refine (show _ = w9 from H9.out) ▸ ?_)
            try simp only [Exit.inBlock, Exit.then]
            refine bodyPost_ret (res_row2 (by rfl) (by rfl) K9.out.row und25 (sz25 _ _)) rfl ?_
            rw [EV.out]
            exact ⟨⟨a, n, c, rfl, R9.out⟩, K9.out.bel⟩
          · have q0 := is_str r0
            have q1 := is_strE r0
            have C2 : Hid (∀ w, Calls Tryd.prog 25 #[.string q, .int .u8 38] w fun e w' => e = .returned (.tuple #[.string (ctA 38 q), .string (ctB 38 q)]) ∧ Hid (Below w.heap.size w w')) := fun w => refcut_n q 38 (by omega) w
            have MS := ctB_lt 38 (s := q) (by omega)
            have zp := ctA_size 38 q
            by_cases p0 : (ctA 38 q).size = 0
            · have HX : Hid (pcs qu = pre ++ pcs (ctB 38 q)) := (by rw [HP.out, pcs_skip r0 p0] : pcs qu = pre ++ pcs (ctB 38 q))
              have e0 := no_str p0
              obtain ⟨y, Hy⟩ : ∃ x, Hid (ctA 38 q = x) := ⟨_, rfl⟩
              obtain ⟨r, Hr⟩ : ∃ x, Hid (ctB 38 q = x) := ⟨_, rfl⟩
              rw [Hy.out] at C2 e0
              rw [Hr.out] at C2 HX MS
              clear r0 p0
              go_wp2_with (go_at_call 25; refine (C2.out _).mono ?_; rintro e w5 ⟨rfl, B5⟩)
              go_roundw
              case rel => exact ⟨r, pre, a, n, c, fs, rfl, by omega, HX.out, HL.out, HN.out, HQ.out.below B5.out⟩
              case measure => exact MS
            · have HX : Hid (pcs qu = pre ++ (ctA 38 q :: pcs (ctB 38 q))) := (by rw [HP.out, pcs_more r0 p0] : pcs qu = pre ++ (ctA 38 q :: pcs (ctB 38 q)))
              have e0 := is_str p0
              have e1 := is_strE p0
              obtain ⟨y, Hy⟩ : ∃ x, Hid (ctA 38 q = x) := ⟨_, rfl⟩
              obtain ⟨r, Hr⟩ : ∃ x, Hid (ctB 38 q = x) := ⟨_, rfl⟩
              rw [Hy.out] at C2 HX e0 e1 zp
              rw [Hr.out] at C2 HX MS
              have C3 : Hid (∀ w, Calls Tryd.prog 25 #[.string y, .int .u8 61] w fun e w' => e = .returned (.tuple #[.string (ctA 61 y), .string (ctB 61 y)]) ∧ Hid (Below w.heap.size w w')) := fun w => refcut_n y 61 (by omega) w
              have ya := ctA_size 61 y
              have yb := ctB_size 61 y
              have PR : Hid (pairS y = match dcS (ctA 61 y), dcS (ctB 61 y) with | some a, some b => some (a, b) | _, _ => none) := rfl
              obtain ⟨k, Hk⟩ : ∃ x, Hid (ctA 61 y = x) := ⟨_, rfl⟩
              obtain ⟨v, Hv⟩ : ∃ x, Hid (ctB 61 y = x) := ⟨_, rfl⟩
              rw [Hk.out] at C3 ya PR
              rw [Hv.out] at C3 yb PR
              obtain ⟨k', ko, KE, KO⟩ := dec_any (dcS k)
              obtain ⟨v', vo, VE, VO⟩ := dec_any (dcS v)
              have nz : n ≤ 4294967296 := by have h1 := QL.out; have h2 := HX.out; rw [h2, List.length_append] at h1; have := HN.out; omega
              clear r0 p0
              go_upto_region 11 with (first
                | (go_at_call 25; refine (C2.out _).mono ?_; rintro e w5 ⟨rfl, B5⟩
                   clear C2)
                | (go_at_call 25; refine (C3.out _).mono ?_; rintro e w6 ⟨rfl, B6⟩))
              go_upto_region 12 with (go_at_call 19; refine (refdecode_n k (by omega) _).mono ?_; rintro e w7 ⟨h7, B7⟩; obtain rfl := KE.out e h7; clear h7)
              go_upto_region 13 with (go_at_call 19; refine (refdecode_n v (by omega) _).mono ?_; rintro e w8 ⟨h8, B8⟩; obtain rfl := VE.out e h8; clear h8)
              have Q8 : Hid (Pq w w8 g2 g8 p a n c fs) := (((HQ.out.below B5.out).below B6.out).below B7.out).below B8.out
              cases ko with
              | false =>
                have EV : Hid (prsU t = none) := by
                  have e : pairS y = none := by
                    rcases KO.out with ⟨h, _⟩ | ⟨_, h, _⟩
                    · cases h
                    · rw [PR.out, h]
                  have e2 : prL (pcs qu) = none := by rw [HX.out]; exact prL_bad e
                  exact (by rw [UV.out, e2] : prsU t = none)
                have KZ : Hid (Bx w w8 g2 25 #[.string { data := #[] }, .slice none 0 0]) := Q8.out.z
                obtain ⟨w9, H9⟩ : ∃ w9, Hid (w8.setRow g2 #[.string { data := #[] }, .slice none 0 0] = w9) := ⟨_, rfl⟩
                have K9 : Hid (Bx w w9 g2 25 #[.string { data := #[] }, .slice none 0 0]) := by rw [← H9.out]; exact KZ.out.set _
                go_wp2_with (refine wpList_store_row (by rfl) 25 (.tmp 2) (.tmp 73) (by rfl) g2 #[.string { data := #[] }, .slice none 0 0] (by rfl) (by rfl) 25 _ KZ.out.row (sz25 _ _) (by rfl) (one25 _ _ _ _) ?_; refine (show _ = w9 from H9.out) ▸ ?_)
                try simp only [Exit.inBlock, Exit.then]
                refine bodyPost_ret (res_row2 (by rfl) (by rfl) K9.out.row und25 (sz25 _ _)) rfl ?_
                rw [EV.out]
                exact ⟨rfl, K9.out.bel⟩
              | true =>
                cases vo with
                | false =>
                  have EV : Hid (prsU t = none) := by
                    have e : pairS y = none := by
                      rcases VO.out with ⟨h, _⟩ | ⟨_, h, _⟩
                      · cases h
                      · rw [PR.out, h]; cases dcS k <;> rfl
                    have e2 : prL (pcs qu) = none := by rw [HX.out]; exact prL_bad e
                    exact (by rw [UV.out, e2] : prsU t = none)
                  have KZ : Hid (Bx w w8 g2 25 #[.string { data := #[] }, .slice none 0 0]) := Q8.out.z
                  obtain ⟨w9, H9⟩ : ∃ w9, Hid (w8.setRow g2 #[.string { data := #[] }, .slice none 0 0] = w9) := ⟨_, rfl⟩
                  have K9 : Hid (Bx w w9 g2 25 #[.string { data := #[] }, .slice none 0 0]) := by rw [← H9.out]; exact KZ.out.set _
                  go_wp2_with (refine wpList_store_row (by rfl) 25 (.tmp 2) (.tmp 73) (by rfl) g2 #[.string { data := #[] }, .slice none 0 0] (by rfl) (by rfl) 25 _ KZ.out.row (sz25 _ _) (by rfl) (one25 _ _ _ _) ?_; refine (show _ = w9 from H9.out) ▸ ?_)
                  try simp only [Exit.inBlock, Exit.then]
                  refine bodyPost_ret (res_row2 (by rfl) (by rfl) K9.out.row und25 (sz25 _ _)) rfl ?_
                  rw [EV.out]
                  exact ⟨rfl, K9.out.bel⟩
                | true =>
                  have PY : Hid (pairS y = some (k', v')) := by
                    rcases KO.out with ⟨_, h⟩ | ⟨h, _⟩
                    · rcases VO.out with ⟨_, h2⟩ | ⟨h2, _⟩
                      · exact (by rw [PR.out, h, h2] : pairS y = some (k', v'))
                      · cases h2
                    · cases h
                  obtain ⟨a', c', W3, hrun, hpq, z1, z2⟩ := Q8.out.app (k', v') nz
                  have RUN : Hid ((Builtin.append_ #[23, 23] 23 #[.slice a n c, .slice (some ⟨w8.heap.size, 0, none⟩) 1 1]).run Tryd.prog (w8.alloc (.cells #[.string k', .string v'] 39)) = .ok (.slice a' (n + 1) c') W3) := hrun
                  have QN : Hid (Pq w (W3.setCell ⟨g8, 1, none⟩ (.slice a' (n + 1) c')) g2 g8 p a' (n + 1) c' (fs ++ [(k', v')])) := hpq
                  obtain ⟨k0, k1, k2⟩ := Q8.out.cs
                  clear hrun hpq
                  go_wp2_with (at_builtin; refine wpList_app (by rfl) (.tmp 75) (.tmp 79) (by rfl) (by rfl) (by rfl) (by rfl) RUN.out ?_)
                  go_roundw
                  case rel => exact ⟨r, pre ++ [y], a', n + 1, c', fs ++ [(k', v')], rfl, by omega, by rw [HX.out, List.append_assoc]; rfl, prL_snoc HL.out PY.out, by rw [List.length_append, HN.out]; rfl, QN.out⟩
                  case measure => exact MS
      · have EV : Hid (prsU t = none) := by
          exact (by rw [UE.out, BQ.out, decide_eq_false b47]; rfl : prsU t = none)
        have n47 : ((b : Int) == 47) = false := beq_eq_false_iff_ne.2 (by omega)
        clear t0 b47
        obtain ⟨w9, H9⟩ : ∃ w9, Hid (w2.setRow g2 #[.string { data := #[] }, .slice none 0 0] = w9) := ⟨_, rfl⟩
        have K9 : Hid (Bx w w9 g2 25 #[.string { data := #[] }, .slice none 0 0]) := by rw [← H9.out]; exact K2.out.set _
        go_wp2_with (refine wpList_store_row (by rfl) 25 (.tmp 2) (.tmp 39) (by rfl) g2 #[.string { data := #[] }, .slice none 0 0] (by rfl) (by rfl) 25 _ K2.out.row (sz25 _ _) (by rfl) (one25 _ _ _ _) ?_; refine (show _ = w9 from H9.out) ▸ ?_)
        try simp only [Exit.inBlock, Exit.then]
        refine bodyPost_ret (res_row2 (by rfl) (by rfl) K9.out.row und25 (sz25 _ _)) rfl ?_
        rw [EV.out]
        exact ⟨rfl, K9.out.bel⟩
end Go.Proofs.YtalagagnolhppaaDoor
