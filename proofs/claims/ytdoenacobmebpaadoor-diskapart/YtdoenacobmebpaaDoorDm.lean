/- DiskApart: what is done to other files changes f not; lists rise. -/
import Derived.Test.YtdoenacobmebpaaDoorDl
import Derived.Test.YtdoenacobmebpaaDoorVo
namespace Go.Proofs.YtdoenacobmebpaaDoor
open Go.ChangeShapes Go.WideShapes Go.ChangeAt Go.RowKit Go.Shelf
set_option maxRecDepth 20000
set_option linter.unusedVariables false
set_option linter.unusedSimpArgs false
attribute [local go_sem] Oper.semAt_some
def mk (D : Nat) : Deferred := { target := .collected D, args := #[] }
/- all but some blocks is as it was -/
structure Pk (Ds : List Nat) (W W' : World) : Prop where
  os : W'.os = W.os
  tape : W'.tape = W.tape
  output : W'.output = W.output
  size : W'.heap.size = W.heap.size
  block : ∀ b, b ∉ Ds → W'.heap[b]? = W.heap[b]?
theorem leaves_marks {F : Fence} {n : Nat} {P : Program} {fn : Func} {tmps : Array Value} {R : Ending → World → Prop} : ∀ (Ds : List Nat) (W : World), Ds.Nodup → (∀ D ∈ Ds, W.heap[D]? = some (.deferred (some []))) → (∀ W', Pk Ds W W' → LeavesInM F n P fn tmps R [] .returning W') → LeavesInM F n P fn tmps R (Ds.map mk) .returning W
  | [], W, _, _, h => h W ⟨rfl, rfl, rfl, rfl, fun _ _ => rfl⟩
  | D :: Ds, W, hnd, hd, h => by
    have h1 := hd D (List.mem_cons_self ..)
    have h2 := List.nodup_cons.1 hnd
    refine ⟨by simp, .inl ⟨D, _, rfl, run_takeDeferred h1, ?_⟩⟩
    refine leaves_marks Ds (W.putObj D (.deferred none)) h2.2 (fun D' hD' => ?_) (fun W' hW' => ?_)
    · have : D' ≠ D := fun e => h2.1 (by rw [← e]; exact hD')
      exact (World.putObj_heap_other (by omega)).trans (hd D' (List.mem_cons_of_mem _ hD'))
    · refine h W' ⟨hW'.os, hW'.tape, hW'.output, by rw [hW'.size]; simp, fun b hb => ?_⟩
      have hb1 : b ≠ D := fun e => hb (by rw [e]; exact List.mem_cons_self ..)
      exact (hW'.block b (fun e => hb (List.mem_cons_of_mem _ e))).trans (World.putObj_heap_other (by omega))
/- what the law's loop holds -/
structure Sl (w wr : World) (d m : Nat) (Ds : List Nat) : Prop where
  sa : Sa w wr d m
  res : Boxed wr w.heap.size 4 (.bool false)
  nd : Ds.Nodup
  ds : ∀ D ∈ Ds, d < D ∧ m < D ∧ wr.heap[D]? = some (.deferred (some []))
  sd : w.heap.size < d ∧ w.heap.size < m
section
variable {w wr w2 : World} {d m : Nat} {Ds : List Nat}
theorem Sl.next (h : Sl w wr d m Ds) (hs : Sa w w2 d m) (hc : ChD wr w2 d m) : Sl w w2 d m Ds :=
  ⟨hs, Boxed.blk h.res (hc.block _ h.res.lt (by have := h.sd; omega) (by have := h.sd; omega)), h.nd, fun D hD => by
    obtain ⟨h1, h2, h3⟩ := h.ds D hD
    exact ⟨h1, h2, (hc.block D (Array.getElem?_eq_some_iff.1 h3).1 (by omega) (by omega)).trans h3⟩, h.sd⟩
theorem Sl.below (h : Sl w wr d m Ds) (hb : Below wr.heap.size wr w2) : Sl w w2 d m Ds := h.next (h.sa.below hb) (ChD.of_below hb)
/- a mark more -/
theorem Sl.mark {P0 U : World} {D : Nat} (h : Sl w P0 d m Ds) (hb : Below P0.heap.size P0 U) (hD : P0.heap.size < D) (hU : U.heap[D]? = some (.deferred (some []))) : Sl w U d m (D :: Ds) := by
  have h1 := h.below hb
  have hlt := h.sa.lt
  refine ⟨h1.sa, h1.res, List.nodup_cons.2 ⟨fun hm => ?_, h.nd⟩, fun D' hD' => ?_, h.sd⟩
  · have h2 := (h.ds D hm).2.2
    have h3 := (Array.getElem?_eq_some_iff.1 h2).1
    omega
  · rcases List.mem_cons.1 hD' with rfl | h2
    · exact ⟨by omega, by omega, hU⟩
    · exact h1.ds D' h2
end
theorem list_p {w P0 : World} {d m : Nat} (h : Hid (Sa w P0 d m)) :
    Calls Tryd.prog 20 #[.pointer (some ⟨d, 0, none⟩)] ((P0.alloc (.cells #[.string ⟨#[]⟩] 9)).alloc (.cells #[.bool false] 4)) fun e V => ∃ K a k c ks, e = .returned (.func (.func 51) #[] #[.pointer (some ⟨K, 0, none⟩)]) ∧
      Hid (V.cell? ⟨K, 0, none⟩ = some (.slice a k c) ∧ Kn V (P0.heap.size + 2) a k ks ∧ k ≤ 512 ∧ Nms ks ∧ Below P0.heap.size P0 V ∧ Boxed V P0.heap.size 9 (.string e0) ∧ Boxed V (P0.heap.size + 1) 4 (.bool false)) := by
  obtain ⟨D, fu, h1, h2⟩ := h.out.dv
  have b2 := alloc2 P0 (.cells #[.string ⟨#[]⟩] 9) (.cells #[.bool false] 4)
  have hs : ((P0.alloc (.cells #[.string ⟨#[]⟩] 9)).alloc (.cells #[.bool false] 4)).heap.size = P0.heap.size + 2 := by simp
  refine (list_n (show Hid (Drv _ d m D fu 0) from h1.below b2)).mono ?_
  rintro e V ⟨K, a, k, c, ks, rfl, H⟩
  obtain ⟨k1, k2, k3, ⟨ss, k4, k5⟩, k6⟩ := H.out
  rw [hs] at k1
  refine ⟨K, a, k, c, ks, rfl, k2, k1, ?_, nms_of h1 h2 k4 k5, b2.trans (k6.mono (by rw [hs]; omega)), ?_, ?_⟩
  · have h3 := congrArg List.length k5
    have h4 := k4.length_eq
    have h5 := h1.size
    obtain ⟨es, rfl⟩ := h1.isMap
    rw [Maps.size_eq] at h5
    simp [strKeys] at h3 h4
    have := k1.len
    omega
  · have h3 : Boxed ((P0.alloc (.cells #[.string ⟨#[]⟩] 9)).alloc (.cells #[.bool false] 4)) P0.heap.size 9 (.string e0) := (Boxed.new P0 9 _).alloc _
    exact Boxed.blk h3 (k6.block _ h3.lt)
  · have h3 := Boxed.new (P0.alloc (.cells #[.string ⟨#[]⟩] 9)) 4 (.bool false)
    rw [World.size_alloc] at h3
    exact Boxed.blk h3 (k6.block _ h3.lt)
theorem str_ne {s : ByteArray} (h : ¬ s = nF) : (s.toList == (⟨#[102]⟩ : ByteArray).toList) = false ∧ (s.toList == [102]) = false := by
  have n0 : ¬ (s.data.toList = [102]) := fun e => h (by
    have h5 : s.data = #[102] := Array.ext' e
    cases s with
    | mk dd =>
      simp only at h5
      rw [h5])
  rw [ByteArray.toList_eq, ByteArray.toList_eq]
  exact ⟨by simpa using n0, by simpa using n0⟩
def tmF (w : World) (a : Option Addr) (n c d i : Nat) (f : Nat → Value) : Array Value := #[.slice a n c, f 1, .pointer (some ⟨w.heap.size, 0, none⟩), .pointer (some ⟨d, 0, none⟩), f 4, f 5, f 6, f 7, f 8, f 9, f 10, f 11, f 12, f 13, f 14, f 15, f 16, f 17, f 18, f 19, f 20, f 21, f 22, f 23, f 24, f 25, f 26, .slice a n c, .int .i64 (n : Int), .int .i64 (i : Int), f 30, f 31, f 32, f 33, f 34, f 35, f 36, f 37, f 38, f 39, f 40, f 41, f 42, f 43, f 44, f 45, f 46, f 47, f 48, f 49, f 50, f 51, f 52, f 53, f 54, f 55, f 56, f 57, f 58, f 59, f 60, f 61, f 62, f 63, f 64, f 65, f 66, f 67, f 68, f 69, f 70, f 71, f 72, f 73, f 74, f 75, f 76, f 77, f 78, f 79, f 80, f 81, f 82, f 83, f 84, f 85, f 86, f 87, f 88, f 89, f 90, f 91, f 92, f 93, f 94, f 95, f 96, f 97, f 98, f 99, f 100, f 101, f 102, f 103, f 104, f 105, f 106, f 107, f 108, f 109, f 110]
def Ivv (w : World) (a : Option Addr) (n c d m : Nat) : Act → World → Prop := fun a1 wr => ∃ (i : Nat) (Ds : List Nat) (f : Nat → Value), a1 = ⟨tmF w a n c d i f, Ds.map mk⟩ ∧ i ≤ n ∧ Hid (Sl w wr d m Ds)
theorem ivv_mk {w wr : World} {a : Option Addr} {n c d m : Nat} {t : Array Value} {ds : List Deferred} (i : Nat) (Ds : List Nat) (ht : t = tmF w a n c d i (fun j => t.getD j undef)) (hd : ds = Ds.map mk) (hi : i ≤ n) (hs : Hid (Sl w wr d m Ds)) : Ivv w a n c d m ⟨t, ds⟩ wr := by
  refine ⟨i, Ds, fun j => t.getD j undef, ?_, hi, hs⟩
  rw [← ht, hd]
set_option maxHeartbeats 8000000 in
theorem apart_n {w : World} {E : Nat → Addr} {a : Option Addr} {n c : Nat} {L : List Opt} (hO : Hid (Ops w a n L)) (hn : n ≤ 140737488351232) (hE : Hid (Er w E)) :
    Calls Tryd.prog 6 #[.slice a n c] w fun e w' => e = .returned (.bool true) ∧ Hid (Below w.heap.size w w') := by
  have b0 : Below w.heap.size w (w.alloc (.cells #[.bool false] 4)) := alloc1 w _
  have E0 : Hid (Er (w.alloc (.cells #[.bool false] 4)) E) := hE.out.below b0
  have X0 : Hid (Boxed (w.alloc (.cells #[.bool false] 4)) w.heap.size 4 (.bool false) ∧ Below w.heap.size w (w.alloc (.cells #[.bool false] 4))) := ⟨Boxed.new w 4 _, b0⟩
  clear b0
  refine (callsIn_wide (n := 20)).1 ?_
  refine callsIn_of_wp_marks Tryd.func6 rfl trivial ?_ rfl
  simp only [Tryd.ntmps6, List.size_toArray, List.length_cons, List.length_nil, Nat.reduceAdd, Nat.reduceSub, Array.replicate_succ, Array.replicate_zero, List.push_toArray, List.append_toArray, List.nil_append, List.cons_append]
  have nf : Hid (nm ⟨#[102]⟩ = true) := nm_f
  gi_wp2_with (first
    | (refine ⟨trivial, ?_⟩; gi_at_call 7; refine (callsIn_wide.2 (alive_n E0)).mono ?_; rintro e w1 ⟨rfl, H1⟩)
    | (refine ⟨trivial, ?_⟩; gi_at_call 8; refine (callsIn_wide.2 (new_v _)).mono ?_; rintro e w2 ⟨d, m, rfl, H2⟩
       have b2 : Below (w.alloc (.cells #[.bool false] 4)).heap.size (w.alloc (.cells #[.bool false] 4)) w2 := H1.out.trans (H2.out.2.2.2.mono H1.out.size)
       have D1 : Hid (Dv (w2.alloc (.cells #[.int .u8 1, .int .u8 2] 5)) d m (fun _ => none) 0) := H2.out.1.below (alloc1 _ _)
       have S1 : Hid (Sln (w2.alloc (.cells #[.int .u8 1, .int .u8 2] 5)) (some ⟨w2.heap.size, 0, none⟩) 2 [1, 2]) := two_sln w2
       have k1 : Hid (0 < 512) := by show _ < _; omega
       have B1 : Hid (w.heap.size < d ∧ w.heap.size < m ∧ Below w.heap.size w (w2.alloc (.cells #[.int .u8 1, .int .u8 2] 5)) ∧ Boxed (w2.alloc (.cells #[.int .u8 1, .int .u8 2] 5)) w.heap.size 4 (.bool false)) := by
         have s1 := H1.out.size
         rw [World.size_alloc] at s1
         have hw := X0.out.2.trans (b2.mono (by simp))
         refine ⟨by have := H2.out.2.1; omega, by have := H2.out.2.2.1; omega, hw.trans ((alloc1 w2 _).mono hw.size), ?_⟩
         have h5 := Boxed.blk X0.out.1 (b2.block _ (by simp))
         exact h5.alloc _
       clear H1 H2 b2)
    | (refine ⟨trivial, ?_⟩; gi_at_call 13; refine (callsIn_wide.2 (write_v D1 k1 ⟨#[102]⟩ S1 nf)).mono ?_; rintro e w3 ⟨rfl, H3⟩
       have D3 : Hid (Dv w3 d m (upd (fun _ => none) ⟨#[102]⟩ (some ⟨spell [1, 2], ⟨#[]⟩, false⟩)) 1) := H3.out.1
       have V3 : Hid (upd (fun _ => none) ⟨#[102]⟩ (some ⟨spell [1, 2], ⟨#[]⟩, false⟩) ⟨#[102]⟩ = some ⟨spell [1, 2], ⟨#[]⟩, false⟩) := upd_same _ _ _
       have C3 : Hid (ChD (w2.alloc (.cells #[.int .u8 1, .int .u8 2] 5)) w3 d m) := H3.out.2
       clear H3 D1 S1)
    | (refine ⟨trivial, ?_⟩; gi_at_call 14; refine (callsIn_wide.2 (sync_v D3 ⟨#[102]⟩ ⟨spell [1, 2], ⟨#[]⟩, false⟩ nf V3)).mono ?_; rintro e w4 ⟨rfl, H4⟩
       have L4 : Hid (Sl w w4 d m []) := by
         obtain ⟨D, h1, h2, h3⟩ := H4.out.1
         have cc := C3.out.trans H4.out.2
         refine ⟨⟨⟨D, false, h1, ?_⟩, B1.out.2.2.1.trans (cc.below (by have := B1.out.1; omega) (by have := B1.out.2.1; omega) B1.out.2.2.1.size), by have := B1.out.1; omega, by have := B1.out.2.1; omega⟩, ?_, List.nodup_nil, (fun D hD => by cases hD), ⟨B1.out.1, B1.out.2.1⟩⟩
         · rw [h2]; exact upd_same _ _ _
         · exact Boxed.blk B1.out.2.2.2 (cc.block _ B1.out.2.2.2.lt (by have := B1.out.1; omega) (by have := B1.out.2.1; omega))
       clear H4 D3 V3 C3))
  refine wpIn_loop (Ivv w a n c d m) (fun a1 _ => n - (intOf (a1.tmps.getD 29 undef)).toNat) ?start ?round
  case start => exact ivv_mk 0 [] rfl rfl (by omega) L4
  case round =>
    clear L4 B1 X0 E0
    rintro a1 wr ⟨i, Ds, f, rfl, hi, HS⟩
    simp only [tmF]
    by_cases hlt : i < n
    · obtain ⟨b, o, rfl, hb, hrow⟩ := hO.out.row.resolve_left (by omega)
      obtain ⟨a', n', c', hop⟩ := hrow i hlt
      have BL : Below w.heap.size w wr := HS.out.sa.bel
      obtain ⟨y, Hy⟩ : ∃ y, Hid (L.getD i o0 = y) := ⟨_, rfl⟩
      rw [Hy.out] at hop
      obtain ⟨kd, wh, nu, nam, too, bs⟩ := y
      have OP := hop.below BL
      have c0 : wr.cell? ⟨b, o + i * 6, none⟩ = some (.int .i64 kd) := OP.c0
      have c1 : wr.cell? ⟨b, o + i * 6 + 1, none⟩ = some (.int .i64 wh) := OP.c1
      have c2 : wr.cell? ⟨b, o + i * 6 + 2, none⟩ = some (.int .i64 nu) := OP.c2
      have c3 : wr.cell? ⟨b, o + i * 6 + 3, none⟩ = some (.string nam) := OP.c3
      have c4 : wr.cell? ⟨b, o + i * 6 + 4, none⟩ = some (.string too) := OP.c4
      have c5 : wr.cell? ⟨b, o + i * 6 + 5, none⟩ = some (.slice a' n' c') := OP.c5
      have SX : ∀ ob, Hid (Sln (wr.alloc ob) a' n' bs) := fun ob => hop.sl.below (BL.trans ((alloc1 wr ob).mono BL.size))
      have nz : nam.size ≤ 9223372036854775807 := hop.w3
      have tz : too.size ≤ 9223372036854775807 := hop.w4
      have i2 : (i : Int) < (n : Int) := by omega
      have ii : ((i : Int) + 1) = ((i + 1 : Nat) : Int) := by omega
      have QX : ∀ ob, Hid (Sa w (wr.alloc ob) d m) := fun ob => HS.out.sa.below (alloc1 wr ob)
      have LX : ∀ ob, Hid (Sl w (wr.alloc ob) d m Ds) := fun ob => HS.out.below (alloc1 wr ob)
      clear hop OP hrow BL hb HS
      by_cases hnam : nam = nF
      · subst hnam
        clear ii
        gi_wp2
        have ii : ((i : Int) + 1) = ((i + 1 : Nat) : Int) := by omega
        rw [ii]
        exact ⟨ivv_mk (i + 1) Ds rfl rfl (by omega) (LX _), by simp [intOf]; omega⟩
      · have hnn : Hid (nam ≠ nF) := hnam
        obtain ⟨m1, m2⟩ := str_ne hnam
        clear hnam
        by_cases htoo : too = nF
        · subst htoo
          clear ii
          gi_wp2
          have ii : ((i : Int) + 1) = ((i + 1 : Nat) : Int) := by omega
          rw [ii]
          exact ⟨ivv_mk (i + 1) Ds rfl rfl (by omega) (LX _), by simp [intOf]; omega⟩
        · have htn : Hid (too ≠ nF) := htoo
          obtain ⟨m3, m4⟩ := str_ne htoo
          clear htoo
          by_cases k1 : kd = 1
          · subst k1
            gi_wp2_with (first
              | (refine ⟨trivial, ?_⟩; gi_at_call 13; refine (callsIn_wide.2 (an_w hE (QX _) nam nz hnn (SX _))).mono ?_; rintro e w3 ⟨r, rfl, H3, C3⟩; have L3 : Hid (Sl w w3 d m Ds) := (LX _).out.next H3 C3; clear H3 C3)
              | (refine ⟨trivial, ?_⟩; gi_at_call 14; refine (callsIn_wide.2 (an_s hE (QX _) nam nz hnn)).mono ?_; rintro e w3 ⟨r, rfl, H3, C3⟩; have L3 : Hid (Sl w w3 d m Ds) := (LX _).out.next H3 C3; clear H3 C3)
              | (refine ⟨trivial, ?_⟩; gi_at_call 17; refine (callsIn_wide.2 (an_r hE (QX _) nam nz hnn too tz htn)).mono ?_; rintro e w3 ⟨r, rfl, H3, C3⟩; have L3 : Hid (Sl w w3 d m Ds) := (LX _).out.next H3 C3; clear H3 C3)
              | (refine ⟨trivial, ?_⟩; gi_at_call 15; refine (callsIn_wide.2 (an_d hE (QX _) nam nz hnn)).mono ?_; rintro e w3 ⟨r, rfl, H3, C3⟩; have L3 : Hid (Sl w w3 d m Ds) := (LX _).out.next H3 C3; clear H3 C3)
              | (refine ⟨trivial, ?_⟩; gi_at_call 11; refine (callsIn_wide.2 (an_c (QX _))).mono ?_; rintro e w3 ⟨r, rfl, H3, C3⟩; have L3 : Hid (Sl w w3 d m Ds) := (LX _).out.next H3 C3; clear H3 C3)
              | (refine ⟨trivial, ?_⟩; gi_at_call 18; refine (callsIn_wide.2 (an_f (QX _) _)).mono ?_; rintro e w3 ⟨r, rfl, H3, C3⟩; have L3 : Hid (Sl w w3 d m Ds) := (LX _).out.next H3 C3; clear H3 C3)
              | (refine ⟨trivial, ?_⟩; gi_at_call 16; refine (callsIn_wide.2 (sa_read (show Hid (Sa w w3 d m) from L3.out.sa))).mono ?_; rintro e w5 ⟨g, k', cz, rfl, H5⟩
                 have L5 : Hid (Sl w w5 d m Ds) := L3.out.below H5.out.2
                 have S5 : Hid (Sln (w5.alloc (.cells #[.int .u8 1, .int .u8 2] 5)) (some ⟨g, 0, none⟩) k' [1, 2]) := H5.out.1.below (alloc1 _ _)
                 have T5 : Hid (Sln (w5.alloc (.cells #[.int .u8 1, .int .u8 2] 5)) (some ⟨w5.heap.size, 0, none⟩) 2 [1, 2]) := two_sln w5
                 obtain ⟨P0, HP0⟩ : ∃ P0, Hid (w5.alloc (.cells #[.int .u8 1, .int .u8 2] 5) = P0) := ⟨_, rfl⟩
                 have LP : Hid (Sl w P0 d m Ds) := by rw [← HP0.out]; exact L5.out.below (alloc1 _ _)
                 clear H5 L5)
              | (refine ⟨trivial, ?_⟩; gi_at_call 16; refine (callsIn_wide.2 (sa_read (QX _))).mono ?_; rintro e w5 ⟨g, k', cz, rfl, H5⟩
                 have L5 : Hid (Sl w w5 d m Ds) := (LX _).out.below H5.out.2
                 have S5 : Hid (Sln (w5.alloc (.cells #[.int .u8 1, .int .u8 2] 5)) (some ⟨g, 0, none⟩) k' [1, 2]) := H5.out.1.below (alloc1 _ _)
                 have T5 : Hid (Sln (w5.alloc (.cells #[.int .u8 1, .int .u8 2] 5)) (some ⟨w5.heap.size, 0, none⟩) 2 [1, 2]) := two_sln w5
                 obtain ⟨P0, HP0⟩ : ∃ P0, Hid (w5.alloc (.cells #[.int .u8 1, .int .u8 2] 5) = P0) := ⟨_, rfl⟩
                 have LP : Hid (Sl w P0 d m Ds) := by rw [← HP0.out]; exact L5.out.below (alloc1 _ _)
                 clear H5 L5)
              | (refine ⟨trivial, ?_⟩; gi_at_call 19; refine (callsIn_wide.2 (same_bytes S5 T5)).mono ?_; rintro e w0 ⟨rfl, h00⟩; rw [h00, HP0.out]; clear h00)
              | (refine ⟨trivial, ?_⟩; gi_at_call 20; refine (callsIn_wide.2 (list_p (show Hid (Sa w P0 d m) from LP.out.sa))).mono ?_; rintro e V ⟨K, a9, k9, c9, ks, rfl, HV⟩))
            refine pass6 (P0 := P0) (show Hid _ from HV.out.1) (show Hid _ from HV.out.2.1) (show Hid _ from HV.out.2.2.1) (show Hid _ from HV.out.2.2.2.1) (show Hid _ from HV.out.2.2.2.2) (fun D U H => ?_)
            have x9 := H.out.2.2.1.cell
            have NX : Hid (Sl w U d m (D :: Ds)) := LP.out.mark H.out.2.1 H.out.1 H.out.2.2.2
            clear ii
            gi_wp2
            have ii : ((i : Int) + 1) = ((i + 1 : Nat) : Int) := by omega
            rw [ii]
            exact ⟨ivv_mk (i + 1) (D :: Ds) rfl rfl (by omega) NX, by simp [intOf]; omega⟩
          · by_cases k2 : kd = 2
            · subst k2
              gi_wp2_with (first
                | (refine ⟨trivial, ?_⟩; gi_at_call 13; refine (callsIn_wide.2 (an_w hE (QX _) nam nz hnn (SX _))).mono ?_; rintro e w3 ⟨r, rfl, H3, C3⟩; have L3 : Hid (Sl w w3 d m Ds) := (LX _).out.next H3 C3; clear H3 C3)
                | (refine ⟨trivial, ?_⟩; gi_at_call 14; refine (callsIn_wide.2 (an_s hE (QX _) nam nz hnn)).mono ?_; rintro e w3 ⟨r, rfl, H3, C3⟩; have L3 : Hid (Sl w w3 d m Ds) := (LX _).out.next H3 C3; clear H3 C3)
                | (refine ⟨trivial, ?_⟩; gi_at_call 17; refine (callsIn_wide.2 (an_r hE (QX _) nam nz hnn too tz htn)).mono ?_; rintro e w3 ⟨r, rfl, H3, C3⟩; have L3 : Hid (Sl w w3 d m Ds) := (LX _).out.next H3 C3; clear H3 C3)
                | (refine ⟨trivial, ?_⟩; gi_at_call 15; refine (callsIn_wide.2 (an_d hE (QX _) nam nz hnn)).mono ?_; rintro e w3 ⟨r, rfl, H3, C3⟩; have L3 : Hid (Sl w w3 d m Ds) := (LX _).out.next H3 C3; clear H3 C3)
                | (refine ⟨trivial, ?_⟩; gi_at_call 11; refine (callsIn_wide.2 (an_c (QX _))).mono ?_; rintro e w3 ⟨r, rfl, H3, C3⟩; have L3 : Hid (Sl w w3 d m Ds) := (LX _).out.next H3 C3; clear H3 C3)
                | (refine ⟨trivial, ?_⟩; gi_at_call 18; refine (callsIn_wide.2 (an_f (QX _) _)).mono ?_; rintro e w3 ⟨r, rfl, H3, C3⟩; have L3 : Hid (Sl w w3 d m Ds) := (LX _).out.next H3 C3; clear H3 C3)
                | (refine ⟨trivial, ?_⟩; gi_at_call 16; refine (callsIn_wide.2 (sa_read (show Hid (Sa w w3 d m) from L3.out.sa))).mono ?_; rintro e w5 ⟨g, k', cz, rfl, H5⟩
                   have L5 : Hid (Sl w w5 d m Ds) := L3.out.below H5.out.2
                   have S5 : Hid (Sln (w5.alloc (.cells #[.int .u8 1, .int .u8 2] 5)) (some ⟨g, 0, none⟩) k' [1, 2]) := H5.out.1.below (alloc1 _ _)
                   have T5 : Hid (Sln (w5.alloc (.cells #[.int .u8 1, .int .u8 2] 5)) (some ⟨w5.heap.size, 0, none⟩) 2 [1, 2]) := two_sln w5
                   obtain ⟨P0, HP0⟩ : ∃ P0, Hid (w5.alloc (.cells #[.int .u8 1, .int .u8 2] 5) = P0) := ⟨_, rfl⟩
                   have LP : Hid (Sl w P0 d m Ds) := by rw [← HP0.out]; exact L5.out.below (alloc1 _ _)
                   clear H5 L5)
                | (refine ⟨trivial, ?_⟩; gi_at_call 16; refine (callsIn_wide.2 (sa_read (QX _))).mono ?_; rintro e w5 ⟨g, k', cz, rfl, H5⟩
                   have L5 : Hid (Sl w w5 d m Ds) := (LX _).out.below H5.out.2
                   have S5 : Hid (Sln (w5.alloc (.cells #[.int .u8 1, .int .u8 2] 5)) (some ⟨g, 0, none⟩) k' [1, 2]) := H5.out.1.below (alloc1 _ _)
                   have T5 : Hid (Sln (w5.alloc (.cells #[.int .u8 1, .int .u8 2] 5)) (some ⟨w5.heap.size, 0, none⟩) 2 [1, 2]) := two_sln w5
                   obtain ⟨P0, HP0⟩ : ∃ P0, Hid (w5.alloc (.cells #[.int .u8 1, .int .u8 2] 5) = P0) := ⟨_, rfl⟩
                   have LP : Hid (Sl w P0 d m Ds) := by rw [← HP0.out]; exact L5.out.below (alloc1 _ _)
                   clear H5 L5)
                | (refine ⟨trivial, ?_⟩; gi_at_call 19; refine (callsIn_wide.2 (same_bytes S5 T5)).mono ?_; rintro e w0 ⟨rfl, h00⟩; rw [h00, HP0.out]; clear h00)
                | (refine ⟨trivial, ?_⟩; gi_at_call 20; refine (callsIn_wide.2 (list_p (show Hid (Sa w P0 d m) from LP.out.sa))).mono ?_; rintro e V ⟨K, a9, k9, c9, ks, rfl, HV⟩))
              refine pass6 (P0 := P0) (show Hid _ from HV.out.1) (show Hid _ from HV.out.2.1) (show Hid _ from HV.out.2.2.1) (show Hid _ from HV.out.2.2.2.1) (show Hid _ from HV.out.2.2.2.2) (fun D U H => ?_)
              have x9 := H.out.2.2.1.cell
              have NX : Hid (Sl w U d m (D :: Ds)) := LP.out.mark H.out.2.1 H.out.1 H.out.2.2.2
              clear ii
              gi_wp2
              have ii : ((i : Int) + 1) = ((i + 1 : Nat) : Int) := by omega
              rw [ii]
              exact ⟨ivv_mk (i + 1) (D :: Ds) rfl rfl (by omega) NX, by simp [intOf]; omega⟩
            · by_cases k3 : kd = 3
              · subst k3
                gi_wp2_with (first
                  | (refine ⟨trivial, ?_⟩; gi_at_call 13; refine (callsIn_wide.2 (an_w hE (QX _) nam nz hnn (SX _))).mono ?_; rintro e w3 ⟨r, rfl, H3, C3⟩; have L3 : Hid (Sl w w3 d m Ds) := (LX _).out.next H3 C3; clear H3 C3)
                  | (refine ⟨trivial, ?_⟩; gi_at_call 14; refine (callsIn_wide.2 (an_s hE (QX _) nam nz hnn)).mono ?_; rintro e w3 ⟨r, rfl, H3, C3⟩; have L3 : Hid (Sl w w3 d m Ds) := (LX _).out.next H3 C3; clear H3 C3)
                  | (refine ⟨trivial, ?_⟩; gi_at_call 17; refine (callsIn_wide.2 (an_r hE (QX _) nam nz hnn too tz htn)).mono ?_; rintro e w3 ⟨r, rfl, H3, C3⟩; have L3 : Hid (Sl w w3 d m Ds) := (LX _).out.next H3 C3; clear H3 C3)
                  | (refine ⟨trivial, ?_⟩; gi_at_call 15; refine (callsIn_wide.2 (an_d hE (QX _) nam nz hnn)).mono ?_; rintro e w3 ⟨r, rfl, H3, C3⟩; have L3 : Hid (Sl w w3 d m Ds) := (LX _).out.next H3 C3; clear H3 C3)
                  | (refine ⟨trivial, ?_⟩; gi_at_call 11; refine (callsIn_wide.2 (an_c (QX _))).mono ?_; rintro e w3 ⟨r, rfl, H3, C3⟩; have L3 : Hid (Sl w w3 d m Ds) := (LX _).out.next H3 C3; clear H3 C3)
                  | (refine ⟨trivial, ?_⟩; gi_at_call 18; refine (callsIn_wide.2 (an_f (QX _) _)).mono ?_; rintro e w3 ⟨r, rfl, H3, C3⟩; have L3 : Hid (Sl w w3 d m Ds) := (LX _).out.next H3 C3; clear H3 C3)
                  | (refine ⟨trivial, ?_⟩; gi_at_call 16; refine (callsIn_wide.2 (sa_read (show Hid (Sa w w3 d m) from L3.out.sa))).mono ?_; rintro e w5 ⟨g, k', cz, rfl, H5⟩
                     have L5 : Hid (Sl w w5 d m Ds) := L3.out.below H5.out.2
                     have S5 : Hid (Sln (w5.alloc (.cells #[.int .u8 1, .int .u8 2] 5)) (some ⟨g, 0, none⟩) k' [1, 2]) := H5.out.1.below (alloc1 _ _)
                     have T5 : Hid (Sln (w5.alloc (.cells #[.int .u8 1, .int .u8 2] 5)) (some ⟨w5.heap.size, 0, none⟩) 2 [1, 2]) := two_sln w5
                     obtain ⟨P0, HP0⟩ : ∃ P0, Hid (w5.alloc (.cells #[.int .u8 1, .int .u8 2] 5) = P0) := ⟨_, rfl⟩
                     have LP : Hid (Sl w P0 d m Ds) := by rw [← HP0.out]; exact L5.out.below (alloc1 _ _)
                     clear H5 L5)
                  | (refine ⟨trivial, ?_⟩; gi_at_call 16; refine (callsIn_wide.2 (sa_read (QX _))).mono ?_; rintro e w5 ⟨g, k', cz, rfl, H5⟩
                     have L5 : Hid (Sl w w5 d m Ds) := (LX _).out.below H5.out.2
                     have S5 : Hid (Sln (w5.alloc (.cells #[.int .u8 1, .int .u8 2] 5)) (some ⟨g, 0, none⟩) k' [1, 2]) := H5.out.1.below (alloc1 _ _)
                     have T5 : Hid (Sln (w5.alloc (.cells #[.int .u8 1, .int .u8 2] 5)) (some ⟨w5.heap.size, 0, none⟩) 2 [1, 2]) := two_sln w5
                     obtain ⟨P0, HP0⟩ : ∃ P0, Hid (w5.alloc (.cells #[.int .u8 1, .int .u8 2] 5) = P0) := ⟨_, rfl⟩
                     have LP : Hid (Sl w P0 d m Ds) := by rw [← HP0.out]; exact L5.out.below (alloc1 _ _)
                     clear H5 L5)
                  | (refine ⟨trivial, ?_⟩; gi_at_call 19; refine (callsIn_wide.2 (same_bytes S5 T5)).mono ?_; rintro e w0 ⟨rfl, h00⟩; rw [h00, HP0.out]; clear h00)
                  | (refine ⟨trivial, ?_⟩; gi_at_call 20; refine (callsIn_wide.2 (list_p (show Hid (Sa w P0 d m) from LP.out.sa))).mono ?_; rintro e V ⟨K, a9, k9, c9, ks, rfl, HV⟩))
                refine pass6 (P0 := P0) (show Hid _ from HV.out.1) (show Hid _ from HV.out.2.1) (show Hid _ from HV.out.2.2.1) (show Hid _ from HV.out.2.2.2.1) (show Hid _ from HV.out.2.2.2.2) (fun D U H => ?_)
                have x9 := H.out.2.2.1.cell
                have NX : Hid (Sl w U d m (D :: Ds)) := LP.out.mark H.out.2.1 H.out.1 H.out.2.2.2
                clear ii
                gi_wp2
                have ii : ((i : Int) + 1) = ((i + 1 : Nat) : Int) := by omega
                rw [ii]
                exact ⟨ivv_mk (i + 1) (D :: Ds) rfl rfl (by omega) NX, by simp [intOf]; omega⟩
              · by_cases k4 : kd = 4
                · subst k4
                  gi_wp2_with (first
                    | (refine ⟨trivial, ?_⟩; gi_at_call 13; refine (callsIn_wide.2 (an_w hE (QX _) nam nz hnn (SX _))).mono ?_; rintro e w3 ⟨r, rfl, H3, C3⟩; have L3 : Hid (Sl w w3 d m Ds) := (LX _).out.next H3 C3; clear H3 C3)
                    | (refine ⟨trivial, ?_⟩; gi_at_call 14; refine (callsIn_wide.2 (an_s hE (QX _) nam nz hnn)).mono ?_; rintro e w3 ⟨r, rfl, H3, C3⟩; have L3 : Hid (Sl w w3 d m Ds) := (LX _).out.next H3 C3; clear H3 C3)
                    | (refine ⟨trivial, ?_⟩; gi_at_call 17; refine (callsIn_wide.2 (an_r hE (QX _) nam nz hnn too tz htn)).mono ?_; rintro e w3 ⟨r, rfl, H3, C3⟩; have L3 : Hid (Sl w w3 d m Ds) := (LX _).out.next H3 C3; clear H3 C3)
                    | (refine ⟨trivial, ?_⟩; gi_at_call 15; refine (callsIn_wide.2 (an_d hE (QX _) nam nz hnn)).mono ?_; rintro e w3 ⟨r, rfl, H3, C3⟩; have L3 : Hid (Sl w w3 d m Ds) := (LX _).out.next H3 C3; clear H3 C3)
                    | (refine ⟨trivial, ?_⟩; gi_at_call 11; refine (callsIn_wide.2 (an_c (QX _))).mono ?_; rintro e w3 ⟨r, rfl, H3, C3⟩; have L3 : Hid (Sl w w3 d m Ds) := (LX _).out.next H3 C3; clear H3 C3)
                    | (refine ⟨trivial, ?_⟩; gi_at_call 18; refine (callsIn_wide.2 (an_f (QX _) _)).mono ?_; rintro e w3 ⟨r, rfl, H3, C3⟩; have L3 : Hid (Sl w w3 d m Ds) := (LX _).out.next H3 C3; clear H3 C3)
                    | (refine ⟨trivial, ?_⟩; gi_at_call 16; refine (callsIn_wide.2 (sa_read (show Hid (Sa w w3 d m) from L3.out.sa))).mono ?_; rintro e w5 ⟨g, k', cz, rfl, H5⟩
                       have L5 : Hid (Sl w w5 d m Ds) := L3.out.below H5.out.2
                       have S5 : Hid (Sln (w5.alloc (.cells #[.int .u8 1, .int .u8 2] 5)) (some ⟨g, 0, none⟩) k' [1, 2]) := H5.out.1.below (alloc1 _ _)
                       have T5 : Hid (Sln (w5.alloc (.cells #[.int .u8 1, .int .u8 2] 5)) (some ⟨w5.heap.size, 0, none⟩) 2 [1, 2]) := two_sln w5
                       obtain ⟨P0, HP0⟩ : ∃ P0, Hid (w5.alloc (.cells #[.int .u8 1, .int .u8 2] 5) = P0) := ⟨_, rfl⟩
                       have LP : Hid (Sl w P0 d m Ds) := by rw [← HP0.out]; exact L5.out.below (alloc1 _ _)
                       clear H5 L5)
                    | (refine ⟨trivial, ?_⟩; gi_at_call 16; refine (callsIn_wide.2 (sa_read (QX _))).mono ?_; rintro e w5 ⟨g, k', cz, rfl, H5⟩
                       have L5 : Hid (Sl w w5 d m Ds) := (LX _).out.below H5.out.2
                       have S5 : Hid (Sln (w5.alloc (.cells #[.int .u8 1, .int .u8 2] 5)) (some ⟨g, 0, none⟩) k' [1, 2]) := H5.out.1.below (alloc1 _ _)
                       have T5 : Hid (Sln (w5.alloc (.cells #[.int .u8 1, .int .u8 2] 5)) (some ⟨w5.heap.size, 0, none⟩) 2 [1, 2]) := two_sln w5
                       obtain ⟨P0, HP0⟩ : ∃ P0, Hid (w5.alloc (.cells #[.int .u8 1, .int .u8 2] 5) = P0) := ⟨_, rfl⟩
                       have LP : Hid (Sl w P0 d m Ds) := by rw [← HP0.out]; exact L5.out.below (alloc1 _ _)
                       clear H5 L5)
                    | (refine ⟨trivial, ?_⟩; gi_at_call 19; refine (callsIn_wide.2 (same_bytes S5 T5)).mono ?_; rintro e w0 ⟨rfl, h00⟩; rw [h00, HP0.out]; clear h00)
                    | (refine ⟨trivial, ?_⟩; gi_at_call 20; refine (callsIn_wide.2 (list_p (show Hid (Sa w P0 d m) from LP.out.sa))).mono ?_; rintro e V ⟨K, a9, k9, c9, ks, rfl, HV⟩))
                  refine pass6 (P0 := P0) (show Hid _ from HV.out.1) (show Hid _ from HV.out.2.1) (show Hid _ from HV.out.2.2.1) (show Hid _ from HV.out.2.2.2.1) (show Hid _ from HV.out.2.2.2.2) (fun D U H => ?_)
                  have x9 := H.out.2.2.1.cell
                  have NX : Hid (Sl w U d m (D :: Ds)) := LP.out.mark H.out.2.1 H.out.1 H.out.2.2.2
                  clear ii
                  gi_wp2
                  have ii : ((i : Int) + 1) = ((i + 1 : Nat) : Int) := by omega
                  rw [ii]
                  exact ⟨ivv_mk (i + 1) (D :: Ds) rfl rfl (by omega) NX, by simp [intOf]; omega⟩
                · by_cases k7 : kd = 7
                  · subst k7
                    gi_wp2_with (first
                      | (refine ⟨trivial, ?_⟩; gi_at_call 13; refine (callsIn_wide.2 (an_w hE (QX _) nam nz hnn (SX _))).mono ?_; rintro e w3 ⟨r, rfl, H3, C3⟩; have L3 : Hid (Sl w w3 d m Ds) := (LX _).out.next H3 C3; clear H3 C3)
                      | (refine ⟨trivial, ?_⟩; gi_at_call 14; refine (callsIn_wide.2 (an_s hE (QX _) nam nz hnn)).mono ?_; rintro e w3 ⟨r, rfl, H3, C3⟩; have L3 : Hid (Sl w w3 d m Ds) := (LX _).out.next H3 C3; clear H3 C3)
                      | (refine ⟨trivial, ?_⟩; gi_at_call 17; refine (callsIn_wide.2 (an_r hE (QX _) nam nz hnn too tz htn)).mono ?_; rintro e w3 ⟨r, rfl, H3, C3⟩; have L3 : Hid (Sl w w3 d m Ds) := (LX _).out.next H3 C3; clear H3 C3)
                      | (refine ⟨trivial, ?_⟩; gi_at_call 15; refine (callsIn_wide.2 (an_d hE (QX _) nam nz hnn)).mono ?_; rintro e w3 ⟨r, rfl, H3, C3⟩; have L3 : Hid (Sl w w3 d m Ds) := (LX _).out.next H3 C3; clear H3 C3)
                      | (refine ⟨trivial, ?_⟩; gi_at_call 11; refine (callsIn_wide.2 (an_c (QX _))).mono ?_; rintro e w3 ⟨r, rfl, H3, C3⟩; have L3 : Hid (Sl w w3 d m Ds) := (LX _).out.next H3 C3; clear H3 C3)
                      | (refine ⟨trivial, ?_⟩; gi_at_call 18; refine (callsIn_wide.2 (an_f (QX _) _)).mono ?_; rintro e w3 ⟨r, rfl, H3, C3⟩; have L3 : Hid (Sl w w3 d m Ds) := (LX _).out.next H3 C3; clear H3 C3)
                      | (refine ⟨trivial, ?_⟩; gi_at_call 16; refine (callsIn_wide.2 (sa_read (show Hid (Sa w w3 d m) from L3.out.sa))).mono ?_; rintro e w5 ⟨g, k', cz, rfl, H5⟩
                         have L5 : Hid (Sl w w5 d m Ds) := L3.out.below H5.out.2
                         have S5 : Hid (Sln (w5.alloc (.cells #[.int .u8 1, .int .u8 2] 5)) (some ⟨g, 0, none⟩) k' [1, 2]) := H5.out.1.below (alloc1 _ _)
                         have T5 : Hid (Sln (w5.alloc (.cells #[.int .u8 1, .int .u8 2] 5)) (some ⟨w5.heap.size, 0, none⟩) 2 [1, 2]) := two_sln w5
                         obtain ⟨P0, HP0⟩ : ∃ P0, Hid (w5.alloc (.cells #[.int .u8 1, .int .u8 2] 5) = P0) := ⟨_, rfl⟩
                         have LP : Hid (Sl w P0 d m Ds) := by rw [← HP0.out]; exact L5.out.below (alloc1 _ _)
                         clear H5 L5)
                      | (refine ⟨trivial, ?_⟩; gi_at_call 16; refine (callsIn_wide.2 (sa_read (QX _))).mono ?_; rintro e w5 ⟨g, k', cz, rfl, H5⟩
                         have L5 : Hid (Sl w w5 d m Ds) := (LX _).out.below H5.out.2
                         have S5 : Hid (Sln (w5.alloc (.cells #[.int .u8 1, .int .u8 2] 5)) (some ⟨g, 0, none⟩) k' [1, 2]) := H5.out.1.below (alloc1 _ _)
                         have T5 : Hid (Sln (w5.alloc (.cells #[.int .u8 1, .int .u8 2] 5)) (some ⟨w5.heap.size, 0, none⟩) 2 [1, 2]) := two_sln w5
                         obtain ⟨P0, HP0⟩ : ∃ P0, Hid (w5.alloc (.cells #[.int .u8 1, .int .u8 2] 5) = P0) := ⟨_, rfl⟩
                         have LP : Hid (Sl w P0 d m Ds) := by rw [← HP0.out]; exact L5.out.below (alloc1 _ _)
                         clear H5 L5)
                      | (refine ⟨trivial, ?_⟩; gi_at_call 19; refine (callsIn_wide.2 (same_bytes S5 T5)).mono ?_; rintro e w0 ⟨rfl, h00⟩; rw [h00, HP0.out]; clear h00)
                      | (refine ⟨trivial, ?_⟩; gi_at_call 20; refine (callsIn_wide.2 (list_p (show Hid (Sa w P0 d m) from LP.out.sa))).mono ?_; rintro e V ⟨K, a9, k9, c9, ks, rfl, HV⟩))
                    refine pass6 (P0 := P0) (show Hid _ from HV.out.1) (show Hid _ from HV.out.2.1) (show Hid _ from HV.out.2.2.1) (show Hid _ from HV.out.2.2.2.1) (show Hid _ from HV.out.2.2.2.2) (fun D U H => ?_)
                    have x9 := H.out.2.2.1.cell
                    have NX : Hid (Sl w U d m (D :: Ds)) := LP.out.mark H.out.2.1 H.out.1 H.out.2.2.2
                    clear ii
                    gi_wp2
                    have ii : ((i : Int) + 1) = ((i + 1 : Nat) : Int) := by omega
                    rw [ii]
                    exact ⟨ivv_mk (i + 1) (D :: Ds) rfl rfl (by omega) NX, by simp [intOf]; omega⟩
                  · by_cases k10 : kd = 10
                    · subst k10
                      gi_wp2_with (first
                        | (refine ⟨trivial, ?_⟩; gi_at_call 13; refine (callsIn_wide.2 (an_w hE (QX _) nam nz hnn (SX _))).mono ?_; rintro e w3 ⟨r, rfl, H3, C3⟩; have L3 : Hid (Sl w w3 d m Ds) := (LX _).out.next H3 C3; clear H3 C3)
                        | (refine ⟨trivial, ?_⟩; gi_at_call 14; refine (callsIn_wide.2 (an_s hE (QX _) nam nz hnn)).mono ?_; rintro e w3 ⟨r, rfl, H3, C3⟩; have L3 : Hid (Sl w w3 d m Ds) := (LX _).out.next H3 C3; clear H3 C3)
                        | (refine ⟨trivial, ?_⟩; gi_at_call 17; refine (callsIn_wide.2 (an_r hE (QX _) nam nz hnn too tz htn)).mono ?_; rintro e w3 ⟨r, rfl, H3, C3⟩; have L3 : Hid (Sl w w3 d m Ds) := (LX _).out.next H3 C3; clear H3 C3)
                        | (refine ⟨trivial, ?_⟩; gi_at_call 15; refine (callsIn_wide.2 (an_d hE (QX _) nam nz hnn)).mono ?_; rintro e w3 ⟨r, rfl, H3, C3⟩; have L3 : Hid (Sl w w3 d m Ds) := (LX _).out.next H3 C3; clear H3 C3)
                        | (refine ⟨trivial, ?_⟩; gi_at_call 11; refine (callsIn_wide.2 (an_c (QX _))).mono ?_; rintro e w3 ⟨r, rfl, H3, C3⟩; have L3 : Hid (Sl w w3 d m Ds) := (LX _).out.next H3 C3; clear H3 C3)
                        | (refine ⟨trivial, ?_⟩; gi_at_call 18; refine (callsIn_wide.2 (an_f (QX _) _)).mono ?_; rintro e w3 ⟨r, rfl, H3, C3⟩; have L3 : Hid (Sl w w3 d m Ds) := (LX _).out.next H3 C3; clear H3 C3)
                        | (refine ⟨trivial, ?_⟩; gi_at_call 16; refine (callsIn_wide.2 (sa_read (show Hid (Sa w w3 d m) from L3.out.sa))).mono ?_; rintro e w5 ⟨g, k', cz, rfl, H5⟩
                           have L5 : Hid (Sl w w5 d m Ds) := L3.out.below H5.out.2
                           have S5 : Hid (Sln (w5.alloc (.cells #[.int .u8 1, .int .u8 2] 5)) (some ⟨g, 0, none⟩) k' [1, 2]) := H5.out.1.below (alloc1 _ _)
                           have T5 : Hid (Sln (w5.alloc (.cells #[.int .u8 1, .int .u8 2] 5)) (some ⟨w5.heap.size, 0, none⟩) 2 [1, 2]) := two_sln w5
                           obtain ⟨P0, HP0⟩ : ∃ P0, Hid (w5.alloc (.cells #[.int .u8 1, .int .u8 2] 5) = P0) := ⟨_, rfl⟩
                           have LP : Hid (Sl w P0 d m Ds) := by rw [← HP0.out]; exact L5.out.below (alloc1 _ _)
                           clear H5 L5)
                        | (refine ⟨trivial, ?_⟩; gi_at_call 16; refine (callsIn_wide.2 (sa_read (QX _))).mono ?_; rintro e w5 ⟨g, k', cz, rfl, H5⟩
                           have L5 : Hid (Sl w w5 d m Ds) := (LX _).out.below H5.out.2
                           have S5 : Hid (Sln (w5.alloc (.cells #[.int .u8 1, .int .u8 2] 5)) (some ⟨g, 0, none⟩) k' [1, 2]) := H5.out.1.below (alloc1 _ _)
                           have T5 : Hid (Sln (w5.alloc (.cells #[.int .u8 1, .int .u8 2] 5)) (some ⟨w5.heap.size, 0, none⟩) 2 [1, 2]) := two_sln w5
                           obtain ⟨P0, HP0⟩ : ∃ P0, Hid (w5.alloc (.cells #[.int .u8 1, .int .u8 2] 5) = P0) := ⟨_, rfl⟩
                           have LP : Hid (Sl w P0 d m Ds) := by rw [← HP0.out]; exact L5.out.below (alloc1 _ _)
                           clear H5 L5)
                        | (refine ⟨trivial, ?_⟩; gi_at_call 19; refine (callsIn_wide.2 (same_bytes S5 T5)).mono ?_; rintro e w0 ⟨rfl, h00⟩; rw [h00, HP0.out]; clear h00)
                        | (refine ⟨trivial, ?_⟩; gi_at_call 20; refine (callsIn_wide.2 (list_p (show Hid (Sa w P0 d m) from LP.out.sa))).mono ?_; rintro e V ⟨K, a9, k9, c9, ks, rfl, HV⟩))
                      refine pass6 (P0 := P0) (show Hid _ from HV.out.1) (show Hid _ from HV.out.2.1) (show Hid _ from HV.out.2.2.1) (show Hid _ from HV.out.2.2.2.1) (show Hid _ from HV.out.2.2.2.2) (fun D U H => ?_)
                      have x9 := H.out.2.2.1.cell
                      have NX : Hid (Sl w U d m (D :: Ds)) := LP.out.mark H.out.2.1 H.out.1 H.out.2.2.2
                      clear ii
                      gi_wp2
                      have ii : ((i : Int) + 1) = ((i + 1 : Nat) : Int) := by omega
                      rw [ii]
                      exact ⟨ivv_mk (i + 1) (D :: Ds) rfl rfl (by omega) NX, by simp [intOf]; omega⟩
                    · gi_wp2_with (first
                        | (refine ⟨trivial, ?_⟩; gi_at_call 13; refine (callsIn_wide.2 (an_w hE (QX _) nam nz hnn (SX _))).mono ?_; rintro e w3 ⟨r, rfl, H3, C3⟩; have L3 : Hid (Sl w w3 d m Ds) := (LX _).out.next H3 C3; clear H3 C3)
                        | (refine ⟨trivial, ?_⟩; gi_at_call 14; refine (callsIn_wide.2 (an_s hE (QX _) nam nz hnn)).mono ?_; rintro e w3 ⟨r, rfl, H3, C3⟩; have L3 : Hid (Sl w w3 d m Ds) := (LX _).out.next H3 C3; clear H3 C3)
                        | (refine ⟨trivial, ?_⟩; gi_at_call 17; refine (callsIn_wide.2 (an_r hE (QX _) nam nz hnn too tz htn)).mono ?_; rintro e w3 ⟨r, rfl, H3, C3⟩; have L3 : Hid (Sl w w3 d m Ds) := (LX _).out.next H3 C3; clear H3 C3)
                        | (refine ⟨trivial, ?_⟩; gi_at_call 15; refine (callsIn_wide.2 (an_d hE (QX _) nam nz hnn)).mono ?_; rintro e w3 ⟨r, rfl, H3, C3⟩; have L3 : Hid (Sl w w3 d m Ds) := (LX _).out.next H3 C3; clear H3 C3)
                        | (refine ⟨trivial, ?_⟩; gi_at_call 11; refine (callsIn_wide.2 (an_c (QX _))).mono ?_; rintro e w3 ⟨r, rfl, H3, C3⟩; have L3 : Hid (Sl w w3 d m Ds) := (LX _).out.next H3 C3; clear H3 C3)
                        | (refine ⟨trivial, ?_⟩; gi_at_call 18; refine (callsIn_wide.2 (an_f (QX _) _)).mono ?_; rintro e w3 ⟨r, rfl, H3, C3⟩; have L3 : Hid (Sl w w3 d m Ds) := (LX _).out.next H3 C3; clear H3 C3)
                        | (refine ⟨trivial, ?_⟩; gi_at_call 16; refine (callsIn_wide.2 (sa_read (show Hid (Sa w w3 d m) from L3.out.sa))).mono ?_; rintro e w5 ⟨g, k', cz, rfl, H5⟩
                           have L5 : Hid (Sl w w5 d m Ds) := L3.out.below H5.out.2
                           have S5 : Hid (Sln (w5.alloc (.cells #[.int .u8 1, .int .u8 2] 5)) (some ⟨g, 0, none⟩) k' [1, 2]) := H5.out.1.below (alloc1 _ _)
                           have T5 : Hid (Sln (w5.alloc (.cells #[.int .u8 1, .int .u8 2] 5)) (some ⟨w5.heap.size, 0, none⟩) 2 [1, 2]) := two_sln w5
                           obtain ⟨P0, HP0⟩ : ∃ P0, Hid (w5.alloc (.cells #[.int .u8 1, .int .u8 2] 5) = P0) := ⟨_, rfl⟩
                           have LP : Hid (Sl w P0 d m Ds) := by rw [← HP0.out]; exact L5.out.below (alloc1 _ _)
                           clear H5 L5)
                        | (refine ⟨trivial, ?_⟩; gi_at_call 16; refine (callsIn_wide.2 (sa_read (QX _))).mono ?_; rintro e w5 ⟨g, k', cz, rfl, H5⟩
                           have L5 : Hid (Sl w w5 d m Ds) := (LX _).out.below H5.out.2
                           have S5 : Hid (Sln (w5.alloc (.cells #[.int .u8 1, .int .u8 2] 5)) (some ⟨g, 0, none⟩) k' [1, 2]) := H5.out.1.below (alloc1 _ _)
                           have T5 : Hid (Sln (w5.alloc (.cells #[.int .u8 1, .int .u8 2] 5)) (some ⟨w5.heap.size, 0, none⟩) 2 [1, 2]) := two_sln w5
                           obtain ⟨P0, HP0⟩ : ∃ P0, Hid (w5.alloc (.cells #[.int .u8 1, .int .u8 2] 5) = P0) := ⟨_, rfl⟩
                           have LP : Hid (Sl w P0 d m Ds) := by rw [← HP0.out]; exact L5.out.below (alloc1 _ _)
                           clear H5 L5)
                        | (refine ⟨trivial, ?_⟩; gi_at_call 19; refine (callsIn_wide.2 (same_bytes S5 T5)).mono ?_; rintro e w0 ⟨rfl, h00⟩; rw [h00, HP0.out]; clear h00)
                        | (refine ⟨trivial, ?_⟩; gi_at_call 20; refine (callsIn_wide.2 (list_p (show Hid (Sa w P0 d m) from LP.out.sa))).mono ?_; rintro e V ⟨K, a9, k9, c9, ks, rfl, HV⟩))
                      refine pass6 (P0 := P0) (show Hid _ from HV.out.1) (show Hid _ from HV.out.2.1) (show Hid _ from HV.out.2.2.1) (show Hid _ from HV.out.2.2.2.1) (show Hid _ from HV.out.2.2.2.2) (fun D U H => ?_)
                      have x9 := H.out.2.2.1.cell
                      have NX : Hid (Sl w U d m (D :: Ds)) := LP.out.mark H.out.2.1 H.out.1 H.out.2.2.2
                      clear ii
                      gi_wp2
                      have ii : ((i : Int) + 1) = ((i + 1 : Nat) : Int) := by omega
                      rw [ii]
                      exact ⟨ivv_mk (i + 1) (D :: Ds) rfl rfl (by omega) NX, by simp [intOf]; omega⟩
    · have hin : ¬ ((i : Int) < (n : Int)) := by omega
      have c2 := HS.out.res.cell
      have f2 := HS.out.res.frozen
      obtain ⟨W5, HW5⟩ : ∃ W5, Hid (wr.setCell ⟨w.heap.size, 0, none⟩ (.bool true) = W5) := ⟨_, rfl⟩
      gi_wp2
      rw [HW5.out]
      have bR : Boxed W5 w.heap.size 4 (.bool true) := by rw [← HW5.out]; exact HS.out.res.set _
      have oth : ∀ b, b ≠ w.heap.size → W5.heap[b]? = wr.heap[b]? := fun b h1 => by rw [← HW5.out]; exact Below.heap_setCell wr ⟨w.heap.size, 0, none⟩ _ b h1
      have bel5 : Below w.heap.size w W5 := by rw [← HW5.out]; exact HS.out.sa.bel.setCell (by show w.heap.size ≤ w.heap.size; omega) _
      have sd := HS.out.sd
      refine leaves_marks Ds W5 HS.out.nd (fun D hD => ?_) (fun W' hW' => ?_)
      · obtain ⟨h1, h2, h3⟩ := HS.out.ds D hD
        exact (oth D (by omega)).trans h3
      · have nx : ∀ b, b ≤ w.heap.size → b ∉ Ds := fun b hb hm => by have := (HS.out.ds b hm).1; omega
        have e9 : W'.cell? ⟨w.heap.size, 0, none⟩ = some (.bool true) := (Boxed.blk bR (hW'.block _ (nx _ (Nat.le_refl _)))).cell
        have FIN : Hid (Below w.heap.size w W') := ⟨hW'.os.trans bel5.os, hW'.tape.trans bel5.tape, hW'.output.trans bel5.output, by rw [hW'.size]; exact bel5.size, fun b hb => (hW'.block b (nx b (by omega))).trans (bel5.block b hb)⟩
        exact ⟨.bool true, by simp [results, Tryd.results6, go_sem, e9], rfl, FIN.out⟩
end Go.Proofs.YtdoenacobmebpaaDoor
