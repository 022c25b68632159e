/- bodyOf of package frame, walked. -/
import Derived.Test.YtmkknklkdgkbaaaDoorGd
namespace Go.Proofs.YtmkknklkdgkbaaaDoor
open Go.ChangeShapes Go.WideShapes Go.ChangeAt Go.RowKit Go.Shelf
set_option maxRecDepth 20000
set_option linter.unusedVariables false
set_option linter.unusedSimpArgs false
attribute [local go_sem] Oper.semAt_some
theorem below_arr (w : World) (k : IntKind) (t : TypeId) (z : List Nat) (c : Array Value) : Below w.heap.size w ((w.alloc (.cells (cs k z) t)).setRow w.heap.size c) :=
  (Oth.setRow (g := w.heap.size) (w := w.alloc (.cells (cs k z) t)) c).below ((Below.refl _ w).alloc (Nat.le_refl _) _) (Nat.le_refl _)
theorem arr_sln {w : World} {t : TypeId} {g n : Nat} {l : List Nat} (h : Arr .u8 t w g l) (hn : n = l.length) (h1 : ∀ x ∈ l, x < 256) (h2 : n ≤ 140737488352256) : Sln w (some ⟨g, 0, none⟩) n l :=
  ⟨hn, h1, by omega, .inr ⟨g, 0, rfl, h.lt, fun i hi => by rw [Nat.zero_add]; exact h.cell hi⟩⟩
theorem bd_app {w U : World} {L : List Nat} {N R X k : Nat} {a : Option Addr} {n c : Nat} {l : List Nat} (h : Bd w L N R X k U) (hS : Sln U a n l) (hc : a = none → c = 0) (hroom : k + n ≤ N) (hw : w.heap.size ≤ R) (hRX : R < X) (hR : 19 < R) (C : Nat → Prop) (hCR : C R) (hCX : C X) (m : Nat) (bx : Option Nat) :
    ∃ U3, Hid ((Builtin.append_ #[26, 26] 26 #[.slice (some ⟨R, 0, none⟩) k N, .slice a n c]).run Tryd.prog U = .ok (.slice (some ⟨R, 0, none⟩) (k + n) N) U3) ∧ U3.cell? ⟨X, 0, none⟩ = some (.slice (some ⟨R, 0, none⟩) k N) ∧ U3.frozen? ⟨X, 0, none⟩ = false ∧
      Bd w (L ++ l) N R X (k + n) (U3.setCell ⟨X, 0, none⟩ (.slice (some ⟨R, 0, none⟩) (k + n) N)) ∧ KeepB C m bx U (U3.setCell ⟨X, 0, none⟩ (.slice (some ⟨R, 0, none⟩) (k + n) N)) := by
  obtain ⟨U3, hrun, own3, gr3⟩ := app_fits h.own hS hc hroom
  have b3 : Boxed U3 X 26 (.slice (some ⟨R, 0, none⟩) k N) := (gr3.block X h.box.lt (fun e => by cases e; omega)).trans h.box
  refine ⟨U3, hrun, b3.cell, b3.frozen, ⟨?_, by rw [List.length_append, ← h.len, ← hS.len], b3.set _, ?_, ?_⟩, ?_⟩
  · rw [List.map_append]
    obtain ⟨h5, h6⟩ := own3
    refine ⟨h5, h6.imp id ?_⟩
    rintro ⟨g, cap, cur, e1, e2, e3, e4⟩
    cases e1
    exact ⟨_, _, _, rfl, e2, (Below.heap_setCell U3 ⟨X, 0, none⟩ _ R (by show R ≠ X; omega)).trans e3, e4⟩
  · have b4 : Below R U (U3.setCell ⟨X, 0, none⟩ (.slice (some ⟨R, 0, none⟩) (k + n) N)) := ((Below.refl R U).grown gr3 (by have := h.box.lt; omega) (fun j e => by cases e; exact Nat.le_refl _)).setCell (by show R ≤ X; omega) _
    exact h.kst.below b4 hR
  · exact (h.bel.grown gr3 (by have := h.box.lt; omega) (fun j e => by cases e; exact hw)).setCell (by show w.heap.size ≤ X; omega) _
  · exact (KeepB.of_grown m bx gr3 hCR).trans (KeepB.of_set m bx U3 _ hCX)
set_option maxHeartbeats 2000000 in
theorem bodyOf_n {w : World} {a : Option Addr} {n c : Nat} {l : List Nat} (hS : Hid (Sln w a n l)) (hc : Hid (a = none → c = 0)) (hn : n ≤ 1024) (hK : Hid (Kst w)) (h0 : Hid (19 < w.heap.size)) :
    Calls Tryd.prog 27 #[.slice a n c] w fun e w' => ∃ g M N, e = .returned (.slice (some ⟨g, 0, none⟩) M N) ∧ Hid (Own w' w.heap.size (some ⟨g, 0, none⟩) M N (bodyL l) ∧ M = n + 32 * blks n ∧ Below w.heap.size w w') := by
  refine (callsIn_wide (n := 20)).1 ?_
  refine callsIn_of_wp_marks Tryd.func27 rfl trivial ?_ rfl
  simp only [Tryd.ntmps27, List.size_toArray, List.length_cons, List.length_nil, Nat.reduceAdd, Nat.reduceSub, Array.replicate_succ, Array.replicate_zero, List.push_toArray, List.append_toArray, List.nil_append, List.cons_append]
  obtain ⟨N, HN⟩ : ∃ N, Hid (n + (n + 31) / 32 * 32 = N) := ⟨_, rfl⟩
  have EM := make_cap N (by have := HN.out; omega)
  obtain ⟨R, HR⟩ : ∃ R, Hid (w.heap.size = R) := ⟨_, rfl⟩
  obtain ⟨W1, HW1⟩ : ∃ W1, Hid ((w.alloc (.cells (madeCells #[.int .u8 0] N) 5)).alloc (.cells #[.slice (some ⟨w.heap.size, 0, none⟩) 0 N] 26) = W1) := ⟨_, rfl⟩
  have bw : Below w.heap.size w W1 := by rw [← HW1.out]; exact ((Below.refl _ w).alloc (Nat.le_refl _) _).alloc (by simp) _
  have S1 : Hid (Sln W1 a n l) := hS.out.below bw
  have D1 : Hid (Bd w [] N R (R + 1) 0 W1 ∧ W1.heap.size = R + 2) := by
    rw [← HW1.out, ← HR.out]
    refine ⟨⟨?_, rfl, ?_, ?_, ?_⟩, by simp⟩
    · have h1 := World.ownsRow_made (base := w.heap.size) (e := 5) (size := 1) w (madeCells #[.int .u8 0] N) N (Nat.le_refl _) (by unfold maxLen; have := HN.out; omega) (by simp [madeCells])
      exact h1.alloc _
    · have h1 := Boxed.new (w.alloc (.cells (madeCells #[.int .u8 0] N) 5)) 26 (.slice (some ⟨w.heap.size, 0, none⟩) 0 N)
      rw [World.size_alloc] at h1
      exact h1
    · rw [HW1.out]; exact hK.out.below bw h0.out
    · rw [HW1.out]; exact bw
  clear bw
  gi_wp2_with (first
    | (refine ⟨trivial, ?_⟩; gi_at_call 34; refine (callsIn_wide.2 (bodySize_n n (by omega) _)).mono ?_; rintro e w0 ⟨rfl, h00⟩; rw [h00, HN.out]; clear h00)
    | (refine ⟨trivial, ?_⟩; gi_at_call 22; rw [HW1.out]; refine (callsIn_wide.2 (blocks_n S1 hc)).mono ?_; rintro e V ⟨K, ak, ck, rfl, HV⟩))
  have bV := HV.out.2.2.2.2
  have D2 : Hid (Bd w [] N R (R + 1) 0 V) := D1.out.1.keep bV (by have := D1.out.2; omega) (by have := D1.out.2; omega) (by have := D1.out.2; have := h0.out; have := HR.out; omega) (by have := D1.out.2; have := HR.out; omega)
  have sV : Hid (R + 2 ≤ V.heap.size) := by have h1 := bV.size; have h2 := D1.out.2; show _ ≤ _; omega
  have KV : Hid (R + 2 ≤ K) := by have h1 := HV.out.2.2.1; have h2 := D1.out.2; show _ ≤ _; omega
  have hmo : Tryd.prog.follows .mixedOrders = true := by kernel_rfl
  refine rangeB (C := fun b => b = R ∨ b = R + 1) rfl (by omega) (gf := 42) (lb := #[.pointer (some ⟨K, 0, none⟩)]) rfl trivial (enters_of Tryd.func42 (by kernel_rfl) rfl)
    (blocks_seq 19 (by omega) K n ck W1.heap.size ak l _ V HV.out.1 HV.out.2.1 (by omega) HV.out.2.1.cap ?c1 ?c2 ?c3) (Below.refl _ _) (fun _ => rfl) ?hC ?hbx ?hGd
    (fun pre U => ∃ k, Bd w (bodyK l pre.length) N R (R + 1) k U)
    (fun c pre U => False) ?hI ?hIx ⟨0, D2.out⟩
    (fun x => { tmps := #[.slice a n c, undef, .slice none 0 0, .pointer (some ⟨w.heap.size + 1, 0, none⟩), undef, .slice x.a x.e x.c, undef, .slice a n c, .int .i64 (n : Int), .int .i64 (N : Int), .slice (some ⟨w.heap.size, 0, none⟩) 0 N, .slice a n c, .func (.func 42) #[] #[.pointer (some ⟨K, 0, none⟩)], .int .i64 (x.num : Int), .slice x.a x.e x.c, undef, undef, undef, undef, undef, undef, undef, undef, undef], defers := [] }) ?assign ?body ?done ?stop
  case c1 => have := KV.out; intro h; omega
  case c2 => intro q hq h; have h1 := (HV.out.2.1.ge q hq).1; have h2 := D1.out.2; omega
  case c3 => intro b h; have := sV.out; omega
  case hC => intro b h; have := sV.out; omega
  case hbx => exact fun pre x A b h1 h2 => (h1.2.2.2.ge b h2).1
  case hGd =>
    rintro pre x A k o' hk ⟨h1, h2, h3, h4⟩
    exact ⟨h1, h2, h3, h4.block (fun q hq => World.putObj_heap_other (by have := (h4.ge q hq).1; omega))⟩
  case hI =>
    rintro pre A B ⟨k, h⟩ hb
    have h1 := sV.out
    have h2 := h0.out
    have h3 := HR.out
    exact ⟨k, h.keep hb (by omega) (by omega) (by omega) (by omega)⟩
  case hIx => exact fun c pre A B h _ => h
  case assign =>
    intro l' x U K' hK
    unfold bencs
    gi_wp2
    exact hK
  case body =>
    rintro l' pre x U hU ⟨k, hB⟩ ⟨hx1, hx2, hx3, hx4⟩
    have e32 : x.e ≤ 32 := hx3
    have kk : Hid (k = (bodyK l pre.length).length ∧ x.e = (pc l pre.length).length ∧ k + x.e + 32 ≤ N) := by
      have h1 := hB.len
      have h2 := hx4.len
      rw [hx2] at h2
      have h3 : 32 * pre.length < n := by rw [← hx2]; exact x.h
      have h4 : l.length = n := hS.out.len.symm
      have h5 := bodyK_len l pre.length (by omega)
      have h6 := pc_len l pre.length
      have h7 := HN.out
      exact ⟨h1, h2, by omega⟩
    have S2 : Hid (Sln U x.a x.e (pc l pre.length)) := by rw [← hx2]; exact hx4.sln (by omega)
    have Z2 : Hid (x.a = none → x.c = 0) := hx4.cap0
    have cc : x.e ≤ x.c := hx4.cap
    have K2 : Hid (Kst U) := hB.kst
    have n19 : Hid (19 < U.heap.size) := by have h1 := sV.out; have h2 := h0.out; have h3 := HR.out; show _ < _; omega
    obtain ⟨P, HP⟩ : ∃ P, Hid (pc l pre.length = P) := ⟨_, rfl⟩
    obtain ⟨L, HL⟩ : ∃ L, Hid (bodyK l pre.length = L) := ⟨_, rfl⟩
    rw [HP.out] at S2
    rw [HL.out] at hB
    have HB : Hid (Bd w L N R (R + 1) k U) := hB
    have X1 : Hid (x.j = pre.length) := hx2
    obtain ⟨xa, xe, xc, HXX⟩ : ∃ xa xe xc, Hid (x.a = xa ∧ x.e = xe ∧ x.c = xc) := ⟨_, _, _, rfl, rfl, rfl⟩
    have HO : Hid (Own U (V.heap.size + 2) x.a x.e x.c (pc l x.j)) := hx4
    clear hB hx1 hx2 hx3 hx4
    simp only [HXX.out.1, HXX.out.2.1, HXX.out.2.2] at S2 Z2 cc e32 HO kk ⊢
    rw [HP.out, HL.out] at kk
    clear D1 S1 D2 HV bV HW1 EM
    rw [HR.out]
    have hR19 : 19 < R := by have h2 := h0.out; have h3 := HR.out; omega
    have hwR : w.heap.size ≤ R := Nat.le_of_eq HR.out
    have HU : Hid (R + 2 ≤ U.heap.size) := by have h1 := sV.out; show _ ≤ _; omega
    have R19 : Hid (19 < R ∧ w.heap.size ≤ R) := ⟨hR19, hwR⟩
    clear hR19 hwR
    gi_wp2_with (first
      | (refine ⟨trivial, ?_⟩; gi_at_call 50; refine (CallsIn.inRound l' (callsIn_wide.2 (shsum_n S2 cc K2 n19))).mono ?_; rintro e U1 ⟨d, rfl, H1⟩
         have A1 : Hid (Arr .u8 61 (U1.alloc (.cells (cs .u8 Zb32) 61)) U1.heap.size Zb32) := Arr.new _ _ _ _
         have L1 : Hid (d.length = 32 ∧ (∀ y ∈ d, y < 256) ∧ d = Gs.sum P) := by rw [H1.out.1]; exact ⟨sum_len _, sum_bytes _, rfl⟩
         obtain ⟨U2, HU2⟩ : ∃ U2, Hid ((U1.alloc (.cells (cs .u8 Zb32) 61)).setRow U1.heap.size (cs .u8 d) = U2) := ⟨_, rfl⟩
         have AR2 : Hid (Arr .u8 61 U2 U1.heap.size d) := by rw [← HU2.out]; exact A1.out.setRow d
         have b2 : Below U.heap.size U U2 := by rw [← HU2.out]; exact H1.out.2.trans ((below_arr U1 _ _ _ _).mono H1.out.2.size)
         have Bd2 : Bd w L N R (R + 1) k U2 := HB.out.keep b2 (by have := HU.out; omega) (by have := HU.out; omega) n19.out (by have := HU.out; have := R19.out; omega)
         have cX2 := Bd2.box.cell
         obtain ⟨U3, AP, c3, f3, bd4, k4⟩ := bd_app Bd2 (S2.out.below b2) Z2.out (by have := kk.out; omega) R19.out.2 (by omega) R19.out.1 (fun b => b = R ∨ b = R + 1) (.inl rfl) (.inr rfl) V.heap.size (blkOf xa)
         have K4 : Hid (KeepB (fun b => b = R ∨ b = R + 1) V.heap.size (blkOf xa) U (U3.setCell ⟨R + 1, 0, none⟩ (.slice (some ⟨R, 0, none⟩) (k + xe) N))) := (KeepB.of_below _ _ _ b2).trans k4
         have B4 : Hid (Bd w (L ++ P) N R (R + 1) (k + xe) (U3.setCell ⟨R + 1, 0, none⟩ (.slice (some ⟨R, 0, none⟩) (k + xe) N))) := bd4
         have AR4 : Hid (Arr .u8 61 (U3.setCell ⟨R + 1, 0, none⟩ (.slice (some ⟨R, 0, none⟩) (k + xe) N)) U1.heap.size d) := k4.same _ _ AR2.out (by have := H1.out.2.size; have := HU.out; omega) (by
           intro h
           have h1 := (HO.out.ge U1.heap.size h).2
           have h2 := H1.out.2.size
           omega) (.inl rfl)
         clear b2 Bd2 bd4 k4)
      | (refine wpListIn_st (t := 61) (l := Zb32) (l2 := d) (by rfl) (by rfl) 61 (.tmp 6) (.tmp 16) (by rfl) (by rfl) (by rfl) A1 (by rw [L1.out.1]; exact sz25) (by rw [L1.out.1]; rfl) ?_; refine (show _ = U2 from HU2.out) ▸ ?_)
      | (gi_at_builtin; refine wpListIn_app (by rfl) (.tmp 17) (.tmp 18) (by rfl) (by rfl) (by rfl) (by rfl) AP ?_))
    obtain ⟨U4, HU4⟩ : ∃ U4, Hid (U3.setCell ⟨R + 1, 0, none⟩ (.slice (some ⟨R, 0, none⟩) (k + xe) N) = U4) := ⟨_, rfl⟩
    rw [HU4.out] at K4 B4 AR4
    refine (show _ = U4 from HU4.out) ▸ ?_
    clear cX2 c3 f3 AP AR2 A1 HU2
    refine wpIn_region_any hmo ?_
    change wpAnyIn _ _ _ _ _ _ _ _ _ (World.drew U4)
    have bd5 : Bd w (L ++ P) N R (R + 1) (k + xe) U4.drew := B4.out.keep ((Below.refl U4.heap.size U4).drew) (by have := K4.out.size; have := HU.out; omega) (by have := K4.out.size; have := HU.out; omega) (by have := K4.out.size; have := n19.out; omega) (by have := K4.out.size; have := HU.out; have := R19.out; omega)
    have AR5 : Arr .u8 61 U4.drew U1.heap.size d := AR4.out
    obtain ⟨U5, AP, c5, f5, bd6, k6⟩ := bd_app (c := 32) bd5 (arr_sln AR5 L1.out.1.symm L1.out.2.1 (by omega)) (by simp) (by have := kk.out; omega) R19.out.2 (by omega) R19.out.1 (fun b => b = R ∨ b = R + 1) (.inl rfl) (.inr rfl) V.heap.size (blkOf xa)
    have cX5 := bd5.box.cell
    have F6 : Hid (postB (fun b => b = R ∨ b = R + 1) V.heap.size (blkOf xa) (fun pre U => ∃ k, Bd w (bodyK l pre.length) N R (R + 1) k U) (fun _ _ _ => False) (pre ++ [x]) U .normal ⟨#[], []⟩ (U5.setCell ⟨R + 1, 0, none⟩ (.slice (some ⟨R, 0, none⟩) (k + xe + 32) N))) := by
      have bdr : Below U4.heap.size U4 U4.drew := (Below.refl U4.heap.size U4).drew
      refine ⟨K4.out.trans ((KeepB.of_below _ _ _ bdr).trans k6), k + xe + 32, ?_⟩
      rw [show bodyK l (pre ++ [x]).length = L ++ P ++ d by rw [List.length_append]; show bodyK l (pre.length + 1) = _; rw [bodyK, HL.out, HP.out, L1.out.2.2, List.append_assoc]]
      exact bd6
    clear bd5 bd6 k6 AR5 K4 B4 AR4
    refine wpAnyIn_ready (rs := [0, 1]) (by kernel_rfl) (by simp) ?_
    refine AllReadyIn.cons rfl (fun K' hK' => ?_) (AllReadyIn.cons rfl (fun K' hK' => ?_) AllReadyIn.nil)
    · go_simp
      refine hK' _ _ ?_; clear hK' K'
      refine wpAnyIn_ready (rs := [1]) (by kernel_rfl) (by simp) (AllReadyIn.cons rfl (fun K' hK' => ?_) AllReadyIn.nil)
      go_simp
      refine hK' _ _ ?_; clear hK' K'
      refine wpAnyIn_ready (rs := [2]) (by kernel_rfl) (by simp) (AllReadyIn.cons rfl (fun K' hK' => ?_) AllReadyIn.nil)
      rw [if_pos (by rfl)]
      refine opIn_app (.tmp 20) (.tmp 21) (by rfl) (by rfl) (by rfl) (by rfl) AP ?_
      refine hK' _ _ ?_; clear hK' K'
      refine wpAnyIn_ready (rs := [3]) (by kernel_rfl) (by simp) (AllReadyIn.cons rfl (fun K' hK' => ?_) AllReadyIn.nil)
      go_simp
      refine hK' _ _ ?_; clear hK' K'
      refine wpAnyIn_done (by kernel_rfl) ?_ _
      gi_wp2
      exact F6.out
    · go_simp
      refine hK' _ _ ?_; clear hK' K'
      refine wpAnyIn_ready (rs := [0]) (by kernel_rfl) (by simp) (AllReadyIn.cons rfl (fun K' hK' => ?_) AllReadyIn.nil)
      go_simp
      refine hK' _ _ ?_; clear hK' K'
      refine wpAnyIn_ready (rs := [2]) (by kernel_rfl) (by simp) (AllReadyIn.cons rfl (fun K' hK' => ?_) AllReadyIn.nil)
      rw [if_pos (by rfl)]
      refine opIn_app (.tmp 20) (.tmp 21) (by rfl) (by rfl) (by rfl) (by rfl) AP ?_
      refine hK' _ _ ?_; clear hK' K'
      refine wpAnyIn_ready (rs := [3]) (by kernel_rfl) (by simp) (AllReadyIn.cons rfl (fun K' hK' => ?_) AllReadyIn.nil)
      go_simp
      refine hK' _ _ ?_; clear hK' K'
      refine wpAnyIn_done (by kernel_rfl) ?_ _
      gi_wp2
      exact F6.out
  case done =>
    rintro D xs U hD ⟨k, q1, q2⟩ ⟨kk, hB⟩ hK
    have lx : xs.length = blks n := by
      have h1 := congrArg List.length q2
      rw [List.length_map, cks_all (by omega)] at h1
      unfold blks
      omega
    rw [lx, show bodyK l (blks n) = bodyL l by unfold bodyL; rw [hS.out.len]] at hB
    have cX : U.cell? ⟨w.heap.size + 1, 0, none⟩ = some (.slice (some ⟨R, 0, none⟩) kk N) := by rw [HR.out]; exact hB.box.cell
    have FIN : Hid (Own (U.putObj D (.deferred none)) w.heap.size (some ⟨R, 0, none⟩) kk N (bodyL l) ∧ kk = n + 32 * blks n ∧ Below w.heap.size w (U.putObj D (.deferred none))) := by
      have lD : D < U.heap.size := (Array.getElem?_eq_some_iff.1 hK).1
      have b1 := put_below (.deferred none) hD lD
      have h1 := sV.out
      have h3 := HR.out
      refine ⟨?_, ?_, hB.bel.trans (b1.mono (by omega))⟩
      · have o1 : Own U R (some ⟨R, 0, none⟩) kk N (bodyL l) := ⟨hB.len, hB.own, bodyK_bytes hS.out.lt _⟩
        rw [h3]
        exact o1.block (fun q hq => by cases hq; exact b1.block R (by omega))
      · rw [hB.len, bodyL_len, ← hS.out.len]
    clear hB lx q2 D1 S1 D2 HV bV HW1 EM
    gi_wp2
    refine ⟨by simp, .inl ⟨_, _, rfl, run_takeDeferred hK, ?_⟩⟩
    exact ⟨_, results_tmp rfl _ _ _, _, kk, N, rfl, FIN.out⟩
  case stop => exact fun D c pre U _ _ h _ => h.elim
end Go.Proofs.YtmkknklkdgkbaaaDoor
